/-
  ChainOk in the program.
-/
import Derived.Test.YtdndanbalmoklaaChainLib
import Derived.Test.YtdndanbalmoklaaMoOkI
namespace Go.Proofs.Ytdndanbalmoklaa
set_option maxRecDepth 100000
open Go.RowKit

set_option maxHeartbeats 400000 in
theorem badMoI (m : Mo) (b : Bool) (h : m.ok = b) (w : World) : Calls Try.prog 77 #[.agg #[.int .i64 m.kind, .int .i64 m.frm.base.k, .int .i64 m.frm.base.a, .int .i64 m.frm.base.b, .int .i64 m.frm.base.c, .int .i64 m.frm.base.d, .int .i64 m.frm.len, .int .i64 m.to.base.k, .int .i64 m.to.base.a, .int .i64 m.to.base.b, .int .i64 m.to.base.c, .int .i64 m.to.base.d, .int .i64 m.to.len, .int .i64 m.proto, .int .i64 m.lo, .int .i64 m.hi, .int .i64 m.n]] w fun e w' => e = .returned (.bool (!b)) ∧ Below w.heap.size w w' := by
  have H := Lib.hid h
  clear h
  have q0 := Lib.hid (K.new w (.cells #[.int .i64 m.kind, .int .i64 m.frm.base.k, .int .i64 m.frm.base.a, .int .i64 m.frm.base.b, .int .i64 m.frm.base.c, .int .i64 m.frm.base.d, .int .i64 m.frm.len, .int .i64 m.to.base.k, .int .i64 m.to.base.a, .int .i64 m.to.base.b, .int .i64 m.to.base.c, .int .i64 m.to.base.d, .int .i64 m.to.len, .int .i64 m.proto, .int .i64 m.lo, .int .i64 m.hi, .int .i64 m.n] 33))
  go_enter Try.func77, Try.ntmps77
  go_wp2_with (with_reducible refine loadMo rfl _ rfl w.heap.size rfl q0.out ?_)
  refine Calls.mono (moOkIB m b H.out _) ?_
  rintro e w1 ⟨rfl, b1⟩
  have B1 := Lib.hid (bthen (Joins.below_alloc1 w _) b1)
  clear b1
  go_wp2
  go_ret
  exact ⟨rfl, B1.out⟩

set_option maxHeartbeats 1000000 in
theorem indexBadI (A : Option Addr) (n c : Nat) (rs : List Mo) (w : World) (hx : RV w w.heap.size A (fl Mo.cells rs)) (hl : rs.length = n) (hn : n ≤ 1048576) :
    Calls Try.prog 131 #[.slice A n c, .func (.func 77) #[] #[]] w fun e w' => ∃ r : Int, e = .returned (.int .i64 r) ∧ decide (0 ≤ r) = !rs.all Mo.ok ∧ Below w.heap.size w w' := by
  have HX := Lib.hid hx
  have HL := Lib.hid hl
  clear hx hl
  go_enter Try.func131, Try.ntmps131
  go_wp2
  go_loopw [8] (fun i wr => ∃ k : Nat, k ≤ n ∧ i = .int .i64 k ∧ Hid ((rs.take k).all Mo.ok = true) ∧ Hid (Below w.heap.size w wr)) (fun i _ => n - (intOf i).toNat)
  case atStart => exact ⟨0, Nat.zero_le _, rfl, Lib.hid (by simp), Lib.hid (Below.refl _ _)⟩
  case round =>
    obtain ⟨k, hk, rfl, hg, hb⟩ := hrel
    by_cases hlt : k < n
    · have hk1 : k < rs.length := by rw [HL.out]; exact hlt
      obtain ⟨g, o, rfl, hgl, hc0⟩ := HX.out.flat Mo.cells_length (by omega) hk1
      have hc := Lib.hid (show wr.rangeAt g (o + k * 17) rs[k].cells from fun j u hu => (hb.out.cell (p := ⟨g, o + k * 17 + j, none⟩) hgl).trans (hc0 j u hu))
      have HNo := Lib.hid (all_ok_bad hk1)
      have HS := Lib.hid (all_ok_succ hk1)
      clear hc0 hgl
      generalize rs[k] = y at *
      cases hok : y.ok with
      | false =>
        have HOK := Lib.hid hok
        clear hok
        go_wp2_with (with_reducible refine loadAtMo rfl _ rfl g (o + k * 17) rfl y hc.out ?_)
        refine Calls.mono (badMoI y false HOK.out _) ?_
        rintro e w2 ⟨rfl, b2⟩
        have B2 := Lib.hid (bthen hb.out b2)
        clear b2
        go_wp2
        first | go_ret | go_ret3
        exact ⟨(k : Int), rfl, by rw [HNo.out HOK.out, decide_eq_true (by omega)]; rfl, B2.out⟩
      | true =>
        have HOK := Lib.hid hok
        clear hok
        go_wp2_with (with_reducible refine loadAtMo rfl _ rfl g (o + k * 17) rfl y hc.out ?_)
        refine Calls.mono (badMoI y true HOK.out _) ?_
        rintro e w2 ⟨rfl, b2⟩
        have B2 := Lib.hid (bthen hb.out b2)
        clear b2
        go_wp2
        go_roundw
        case rel => exact ⟨k + 1, by omega, by go_num, Lib.hid (by rw [HS.out, hg.out, HOK.out]; rfl), B2⟩
        case measure => simp [intOf]; omega
    · obtain rfl : k = n := by omega
      have HE := Lib.hid (show rs.all Mo.ok = true by rw [← hg.out, List.take_of_length_le (by rw [HL.out]; exact Nat.le_refl _)])
      go_wp2
      go_ret
      exact ⟨-1, rfl, by rw [HE.out]; rfl, hb.out⟩

set_option maxHeartbeats 400000 in
theorem hasBadI (A : Option Addr) (n c : Nat) (rs : List Mo) (b : Bool) (hb : rs.all Mo.ok = b) (w : World) (hx : RV w w.heap.size A (fl Mo.cells rs)) (hl : rs.length = n) (hn : n ≤ 1048576) :
    Calls Try.prog 78 #[.slice A n c, .func (.func 77) #[] #[]] w fun e w' => e = .returned (.bool (!b)) ∧ Below w.heap.size w w' := by
  have HX := Lib.hid hx
  have HL := Lib.hid hl
  have HB := Lib.hid hb
  clear hx hl hb
  go_enter Try.func78, Try.ntmps78
  go_wp2_with fail
  refine Calls.mono (indexBadI A n c rs _ HX.out HL.out hn) ?_
  rintro e w1 ⟨r, rfl, hr, b1⟩
  rw [HB.out] at hr
  have HR := Lib.hid hr
  clear hr
  go_wp2
  all_goals (go_ret; exact ⟨ret_bool (by rw [← HR.out]), b1⟩)

set_option maxHeartbeats 400000 in
theorem chainOkI (A : Option Addr) (n c : Nat) (rs : List Mo) (w : World) (hx : RV w w.heap.size A (fl Mo.cells rs)) (hl : rs.length = n) (hn : n ≤ 1048576) :
    Calls Try.prog 21 #[.slice A n c] w fun e w' => e = .returned (.bool (chainOk rs)) ∧ Below w.heap.size w w' := by
  by_cases h8 : (8 : Int) < n
  · have HR := Lib.hid (chainOk_long (rs := rs) (by omega))
    clear hx hl
    go_enter Try.func21, Try.ntmps21
    go_wp2
    go_ret
    exact ⟨ret_bool HR.out.symm, by go_grown⟩
  · obtain ⟨b, hb⟩ : ∃ b, rs.all Mo.ok = b := ⟨_, rfl⟩
    have HR := Lib.hid ((chainOk_short (rs := rs) (by omega)).trans hb)
    have HB := Lib.hid hb
    have HX := Lib.hid hx
    have HL := Lib.hid hl
    clear hx hl hb
    go_enter Try.func21, Try.ntmps21
    go_wp2_with fail
    refine Calls.mono (hasBadI A n c rs b HB.out _ HX.out HL.out hn) ?_
    rintro e w1 ⟨rfl, b1⟩
    have B1 := Lib.hid b1
    clear b1
    go_wp2
    go_ret
    exact ⟨ret_bool (by rw [HR.out]), B1.out⟩
end Go.Proofs.Ytdndanbalmoklaa
