/-
  Shadowed in the program.
-/
import Derived.Test.YtdndanbalmoklaaShadLib
import Derived.Test.YtdndanbalmoklaaRuCovI
import Derived.Test.YtdndanbalmoklaaRulesI
import Derived.Test.YtdndanbalmoklaaRuRow
namespace Go.Proofs.Ytdndanbalmoklaa
set_option maxRecDepth 100000
open Go.RowKit

set_option maxHeartbeats 400000 in
theorem rulesI_B (A : Option Addr) (n c : Nat) (rs : List Ru) (b : Bool) (h : rulesOk rs = b) (w : World) (hx : RV w w.heap.size A (rcells rs)) (hl : rs.length = n) (hn : n ≤ 1048576) : Calls Try.prog 100 #[.slice A n c] w fun e w' => e = .returned (.bool b) ∧ Below w.heap.size w w' := h ▸ rulesOkI A n c rs w hx hl hn
set_option maxHeartbeats 400000 in
theorem coversFI (r s : Ru) (b : Bool) (h : r.covers s = b) (g : Nat) (w : World) (hg : w.heap[g]? = some (.cells #[.int .i64 s.prio, .int .i64 s.src.base.k, .int .i64 s.src.base.a, .int .i64 s.src.base.b, .int .i64 s.src.base.c, .int .i64 s.src.base.d, .int .i64 s.src.len, .int .i64 s.dst.base.k, .int .i64 s.dst.base.a, .int .i64 s.dst.base.b, .int .i64 s.dst.base.c, .int .i64 s.dst.base.d, .int .i64 s.dst.len, .int .i64 s.proto, .int .i64 s.slo, .int .i64 s.shi, .int .i64 s.dlo, .int .i64 s.dhi, .int .i64 s.tenant, .int .i64 s.weight, .int .i64 s.chain] 53 (0, 0))) : Calls Try.prog 101 #[.agg #[.int .i64 r.prio, .int .i64 r.src.base.k, .int .i64 r.src.base.a, .int .i64 r.src.base.b, .int .i64 r.src.base.c, .int .i64 r.src.base.d, .int .i64 r.src.len, .int .i64 r.dst.base.k, .int .i64 r.dst.base.a, .int .i64 r.dst.base.b, .int .i64 r.dst.base.c, .int .i64 r.dst.base.d, .int .i64 r.dst.len, .int .i64 r.proto, .int .i64 r.slo, .int .i64 r.shi, .int .i64 r.dlo, .int .i64 r.dhi, .int .i64 r.tenant, .int .i64 r.weight, .int .i64 r.chain], .pointer (some ⟨g, 0, none⟩)] w fun e w' => e = .returned (.bool b) ∧ Below w.heap.size w w' := by
  have H := Lib.hid h
  have q := Lib.hid (K.old hg (.cells #[.int .i64 r.prio, .int .i64 r.src.base.k, .int .i64 r.src.base.a, .int .i64 r.src.base.b, .int .i64 r.src.base.c, .int .i64 r.src.base.d, .int .i64 r.src.len, .int .i64 r.dst.base.k, .int .i64 r.dst.base.a, .int .i64 r.dst.base.b, .int .i64 r.dst.base.c, .int .i64 r.dst.base.d, .int .i64 r.dst.len, .int .i64 r.proto, .int .i64 r.slo, .int .i64 r.shi, .int .i64 r.dlo, .int .i64 r.dhi, .int .i64 r.tenant, .int .i64 r.weight, .int .i64 r.chain] 53))
  have q0 := Lib.hid (K.new w (.cells #[.int .i64 r.prio, .int .i64 r.src.base.k, .int .i64 r.src.base.a, .int .i64 r.src.base.b, .int .i64 r.src.base.c, .int .i64 r.src.base.d, .int .i64 r.src.len, .int .i64 r.dst.base.k, .int .i64 r.dst.base.a, .int .i64 r.dst.base.b, .int .i64 r.dst.base.c, .int .i64 r.dst.base.d, .int .i64 r.dst.len, .int .i64 r.proto, .int .i64 r.slo, .int .i64 r.shi, .int .i64 r.dlo, .int .i64 r.dhi, .int .i64 r.tenant, .int .i64 r.weight, .int .i64 r.chain] 53))
  clear h hg
  go_enter Try.func101, Try.ntmps101
  go_wp2_with (first | (with_reducible refine loadR rfl _ rfl w.heap.size rfl q0.out ?_) | (with_reducible refine loadR rfl _ rfl g rfl q.out ?_))
  refine Calls.mono (ruleCovIB r s b H.out _) ?_
  rintro e w1 ⟨rfl, b1⟩
  have B1 := Lib.hid (bthen (Joins.below_alloc1 w _) b1)
  clear b1
  go_wp2
  go_ret
  exact ⟨rfl, B1.out⟩

set_option maxHeartbeats 1000000 in
theorem indexCovI (A : Option Addr) (n c : Nat) (rs : List Ru) (s : Ru) (g0 : Nat) (w : World) (hx : RV w w.heap.size A (rcells rs)) (hl : rs.length = n) (hn : n ≤ 1048576) (hg : w.heap[g0]? = some (.cells #[.int .i64 s.prio, .int .i64 s.src.base.k, .int .i64 s.src.base.a, .int .i64 s.src.base.b, .int .i64 s.src.base.c, .int .i64 s.src.base.d, .int .i64 s.src.len, .int .i64 s.dst.base.k, .int .i64 s.dst.base.a, .int .i64 s.dst.base.b, .int .i64 s.dst.base.c, .int .i64 s.dst.base.d, .int .i64 s.dst.len, .int .i64 s.proto, .int .i64 s.slo, .int .i64 s.shi, .int .i64 s.dlo, .int .i64 s.dhi, .int .i64 s.tenant, .int .i64 s.weight, .int .i64 s.chain] 53 (0, 0))) :
    Calls Try.prog 148 #[.slice A n c, .func (.func 101) #[] #[.pointer (some ⟨g0, 0, none⟩)]] w fun e w' => ∃ r : Int, e = .returned (.int .i64 r) ∧ decide (0 ≤ r) = rs.any (fun r => r.covers s) ∧ Below w.heap.size w w' := by
  have HX := Lib.hid hx
  have HL := Lib.hid hl
  have HG := Lib.hid hg
  clear hx hl hg
  go_enter Try.func148, Try.ntmps148
  go_wp2
  go_loopw [8] (fun i wr => ∃ k : Nat, k ≤ n ∧ i = .int .i64 k ∧ Hid ((rs.take k).any (fun r => r.covers s) = false) ∧ Hid (Below w.heap.size w wr)) (fun i _ => n - (intOf i).toNat)
  case atStart => exact ⟨0, Nat.zero_le _, rfl, Lib.hid (by simp), Lib.hid (Below.refl _ _)⟩
  case round =>
    obtain ⟨k, hk, rfl, ha, hb⟩ := hrel
    by_cases hlt : k < n
    · have hk1 : k < rs.length := by rw [HL.out]; exact hlt
      obtain ⟨g, o, rfl, hgl, hc0⟩ := HX.out.rule hk1
      have hc := Lib.hid (show wr.rangeAt g (o + k * 21) rs[k].cells from fun j u hu => (hb.out.cell (p := ⟨g, o + k * 21 + j, none⟩) hgl).trans (hc0 j u hu))
      have HS := Lib.hid (any_succ (s := s) hk1)
      have HY := Lib.hid (any_hit (s := s) hk1)
      have q := Lib.hid (K.below hb.out HG.out)
      clear hc0 hgl
      generalize rs[k] = y at *
      cases hcv : y.covers s with
      | true =>
        have HC := Lib.hid hcv
        clear hcv
        go_wp2_with (with_reducible refine loadAtR rfl _ rfl g (o + k * 21) rfl y hc.out ?_)
        refine Calls.mono (coversFI y s true HC.out g0 _ q.out) ?_
        rintro e w2 ⟨rfl, b2⟩
        have B2 := Lib.hid (bthen hb.out b2)
        clear b2
        go_wp2
        first | go_ret | go_ret3
        exact ⟨(k : Int), rfl, by rw [HY.out HC.out, decide_eq_true (by omega)], B2.out⟩
      | false =>
        have HC := Lib.hid hcv
        clear hcv
        go_wp2_with (with_reducible refine loadAtR rfl _ rfl g (o + k * 21) rfl y hc.out ?_)
        refine Calls.mono (coversFI y s false HC.out g0 _ q.out) ?_
        rintro e w2 ⟨rfl, b2⟩
        have B2 := Lib.hid (bthen hb.out b2)
        clear b2
        go_wp2
        go_roundw
        case rel => exact ⟨k + 1, by omega, by go_num, Lib.hid (by rw [HS.out, ha.out, HC.out]; rfl), B2⟩
        case measure => simp [intOf]; omega
    · obtain rfl : k = n := by omega
      have HE := Lib.hid (show rs.any (fun r => r.covers s) = false by rw [← ha.out, List.take_of_length_le (by rw [HL.out]; exact Nat.le_refl _)])
      go_wp2
      go_ret
      exact ⟨-1, rfl, by rw [HE.out]; rfl, hb.out⟩

set_option maxHeartbeats 400000 in
theorem hasCovI (A : Option Addr) (n c : Nat) (rs : List Ru) (s : Ru) (g0 : Nat) (b : Bool) (hb : rs.any (fun r => r.covers s) = b) (w : World) (hx : RV w w.heap.size A (rcells rs)) (hl : rs.length = n) (hn : n ≤ 1048576) (hg : w.heap[g0]? = some (.cells #[.int .i64 s.prio, .int .i64 s.src.base.k, .int .i64 s.src.base.a, .int .i64 s.src.base.b, .int .i64 s.src.base.c, .int .i64 s.src.base.d, .int .i64 s.src.len, .int .i64 s.dst.base.k, .int .i64 s.dst.base.a, .int .i64 s.dst.base.b, .int .i64 s.dst.base.c, .int .i64 s.dst.base.d, .int .i64 s.dst.len, .int .i64 s.proto, .int .i64 s.slo, .int .i64 s.shi, .int .i64 s.dlo, .int .i64 s.dhi, .int .i64 s.tenant, .int .i64 s.weight, .int .i64 s.chain] 53 (0, 0))) :
    Calls Try.prog 103 #[.slice A n c, .func (.func 101) #[] #[.pointer (some ⟨g0, 0, none⟩)]] w fun e w' => e = .returned (.bool b) ∧ Below w.heap.size w w' := by
  have HX := Lib.hid hx
  have HL := Lib.hid hl
  have HB := Lib.hid hb
  have HG := Lib.hid hg
  clear hx hl hb hg
  go_enter Try.func103, Try.ntmps103
  go_wp2_with fail
  refine Calls.mono (indexCovI A n c rs s g0 _ HX.out HL.out hn HG.out) ?_
  rintro e w1 ⟨r, rfl, hr, b1⟩
  rw [HB.out] at hr
  have HR := Lib.hid hr
  clear hr
  go_wp2
  all_goals (go_ret; exact ⟨ret_bool (by rw [← HR.out]), b1⟩)

theorem cut_frontR (A : Option Addr) (n c m : Nat) (h : m ≤ c) (w : World) : (Instr.sliceAt 61 (.slice A n c) none (some (.int .i64 (m : Int))) none).run Try.prog w = .ok (.slice A m c) w := by
  obtain ⟨i0, hi0, hz0, hz1, hz2⟩ := info_parts info_ruleP
  rw [run_sliceAt_slice w _ _ _ _ _ (by kernel_rfl), run_slice_h w _ _ _ _ (by kernel_rfl) .i64 (m : Int) (by omega) (by omega)]
  have e : Try.prog.elem 61 = 53 := by kernel_rfl
  have hA : A.map (fun x => x.add 0) = A := by
    cases A with
    | none => rfl
    | some a =>
      obtain ⟨g, o, s⟩ := a
      cases s <;> simp [Addr.add]
  simp [e, sizeOf, typeInfo, hi0, sliced]
  exact fun _ => hA

set_option maxHeartbeats 2000000 in
theorem shadowedI (A : Option Addr) (n c : Nat) (rs : List Ru) (w : World) (hx : RV w w.heap.size A (rcells rs)) (hl : rs.length = n) (hn : n ≤ 1048576) (hc : n ≤ c) :
    Calls Try.prog 40 #[.slice A n c] w fun e w' => ∃ D m d, e = .returned (.slice D m d) ∧ w'.ownsRow w.heap.size 3 1 (.slice D m d) m (intsOf (shadowed rs)) ∧ Below w.heap.size w w' := by
  cases hok : rulesOk rs with
  | false =>
    have HR := Lib.hid (rulesI_B A n c rs false hok)
    have HS := Lib.hid (shadowed_no hok)
    have HX := Lib.hid hx
    have HL := Lib.hid hl
    clear hok hx hl
    go_enter Try.func40, Try.ntmps40
    go_wp2_with fail
    refine Calls.mono (HR.out _ HX.out HL.out hn) ?_
    rintro e w1 ⟨rfl, b1⟩
    go_wp2
    go_ret
    exact ⟨none, 0, 0, rfl, by rw [HS.out]; exact ⟨rfl, .inl ⟨rfl, rfl⟩⟩, b1⟩
  | true =>
    have HR := Lib.hid (rulesI_B A n c rs true hok)
    have HS := Lib.hid (shadowed_yes hok)
    have h32 := rulesOk_len hok
    rw [hl] at h32
    have HX := Lib.hid hx
    have HL := Lib.hid hl
    clear hok hx hl
    go_enter Try.func40, Try.ntmps40
    go_wp2_with fail
    refine Calls.mono (HR.out _ HX.out HL.out hn) ?_
    rintro e w1 ⟨rfl, b1⟩
    have B1 := Lib.hid b1
    have O1 : Hid (w1.ownsRow w.heap.size 3 1 (.slice none 0 0) 0 (intsOf (darkTo rs 0))) := Lib.hid ⟨rfl, .inl ⟨rfl, rfl⟩⟩
    clear b1
    go_wp2
    go_loopw [3, 12] (fun d i wr => ∃ (k m : Nat), k ≤ n ∧ m ≤ k ∧ i = .int .i64 k ∧ Hid (wr.ownsRow w.heap.size 3 1 d m (intsOf (darkTo rs k))) ∧ Hid (Below w.heap.size w wr)) (fun _ i _ => n - (intOf i).toNat)
    case atStart => exact ⟨0, 0, Nat.zero_le _, Nat.zero_le _, rfl, O1, B1⟩
    case round =>
      obtain ⟨k, m, hk, hmk, rfl, ho, hb⟩ := hrel
      clear O1 B1
      by_cases hlt : k < n
      · have hk1 : k < rs.length := by rw [HL.out]; exact hlt
        have RX := Lib.hid ((HX.out.rtake k))
        have LT := Lib.hid (show (rs.take k).length = k by simp; omega)
        obtain ⟨g, o, rfl, hgl, hc0⟩ := HX.out.rule hk1
        have hcc := Lib.hid (show wr.rangeAt g (o + k * 21) rs[k].cells from fun j u hu => (hb.out.cell (p := ⟨g, o + k * 21 + j, none⟩) hgl).trans (hc0 j u hu))
        have HD := Lib.hid (darkTo_succ rs k)
        have HA := Lib.hid (darkAt_at hk1)
        clear hc0 hgl
        generalize rs[k] = y at *
        obtain ⟨b, hbb⟩ : ∃ b, (rs.take k).any (fun r => r.covers y) = b := ⟨_, rfl⟩
        have HB := Lib.hid hbb
        rw [hbb] at HA
        clear hbb
        have q0 := Lib.hid (K.new wr (.cells #[.int .i64 y.prio, .int .i64 y.src.base.k, .int .i64 y.src.base.a, .int .i64 y.src.base.b, .int .i64 y.src.base.c, .int .i64 y.src.base.d, .int .i64 y.src.len, .int .i64 y.dst.base.k, .int .i64 y.dst.base.a, .int .i64 y.dst.base.b, .int .i64 y.dst.base.c, .int .i64 y.dst.base.d, .int .i64 y.dst.len, .int .i64 y.proto, .int .i64 y.slo, .int .i64 y.shi, .int .i64 y.dlo, .int .i64 y.dhi, .int .i64 y.tenant, .int .i64 y.weight, .int .i64 y.chain] 53))
        have B2 := Lib.hid (bthen hb.out (Joins.below_alloc1 wr (.cells #[.int .i64 y.prio, .int .i64 y.src.base.k, .int .i64 y.src.base.a, .int .i64 y.src.base.b, .int .i64 y.src.base.c, .int .i64 y.src.base.d, .int .i64 y.src.len, .int .i64 y.dst.base.k, .int .i64 y.dst.base.a, .int .i64 y.dst.base.b, .int .i64 y.dst.base.c, .int .i64 y.dst.base.d, .int .i64 y.dst.len, .int .i64 y.proto, .int .i64 y.slo, .int .i64 y.shi, .int .i64 y.dlo, .int .i64 y.dhi, .int .i64 y.tenant, .int .i64 y.weight, .int .i64 y.chain] 53)))
        have R2 := Lib.hid ((RX.out.below (by exact B2.out)).more B2.out.size)
        have cf := cut_frontR (some ⟨g, o, none⟩) n c k (by omega)
        cases b with
        | false =>
          go_wp2_with (first | (with_reducible refine loadAtR rfl _ rfl g (o + k * 21) rfl y hcc.out ?_) | (with_reducible refine storeNewRu rfl _ _ rfl rfl rfl ?_))
          refine Calls.mono (hasCovI (some ⟨g, o, none⟩) k c (rs.take k) y wr.heap.size false HB.out _ R2.out LT.out (by omega) q0.out) ?_
          rintro e w2 ⟨rfl, b2⟩
          have O3 := Lib.hid (own_below (own_below ho.out (Joins.below_alloc1 wr (.cells #[.int .i64 y.prio, .int .i64 y.src.base.k, .int .i64 y.src.base.a, .int .i64 y.src.base.b, .int .i64 y.src.base.c, .int .i64 y.src.base.d, .int .i64 y.src.len, .int .i64 y.dst.base.k, .int .i64 y.dst.base.a, .int .i64 y.dst.base.b, .int .i64 y.dst.base.c, .int .i64 y.dst.base.d, .int .i64 y.dst.len, .int .i64 y.proto, .int .i64 y.slo, .int .i64 y.shi, .int .i64 y.dlo, .int .i64 y.dhi, .int .i64 y.tenant, .int .i64 y.weight, .int .i64 y.chain] 53))) b2)
          have B3 := Lib.hid (bthen B2.out b2)
          clear b2 q0 R2 B2
          go_wp2
          go_roundw
          case rel => exact ⟨k + 1, m, by omega, by omega, by go_num, Lib.hid (by rw [HD.out, HA.out]; simpa using O3.out), B3⟩
          case measure => simp [intOf]; omega
        | true =>
          go_wp2_with (first | (with_reducible refine loadAtR rfl _ rfl g (o + k * 21) rfl y hcc.out ?_) | (with_reducible refine storeNewRu rfl _ _ rfl rfl rfl ?_))
          refine Calls.mono (hasCovI (some ⟨g, o, none⟩) k c (rs.take k) y wr.heap.size true HB.out _ R2.out LT.out (by omega) q0.out) ?_
          rintro e w2 ⟨rfl, b2⟩
          have O3 := Lib.hid (own_below (own_below ho.out (Joins.below_alloc1 wr (.cells #[.int .i64 y.prio, .int .i64 y.src.base.k, .int .i64 y.src.base.a, .int .i64 y.src.base.b, .int .i64 y.src.base.c, .int .i64 y.src.base.d, .int .i64 y.src.len, .int .i64 y.dst.base.k, .int .i64 y.dst.base.a, .int .i64 y.dst.base.b, .int .i64 y.dst.base.c, .int .i64 y.dst.base.d, .int .i64 y.dst.len, .int .i64 y.proto, .int .i64 y.slo, .int .i64 y.shi, .int .i64 y.dlo, .int .i64 y.dhi, .int .i64 y.tenant, .int .i64 y.weight, .int .i64 y.chain] 53))) b2)
          have B3 := Lib.hid (bthen B2.out b2)
          clear b2 q0 R2 B2
          have O4 := Lib.hid (own_below O3.out (Joins.below_alloc1 w2 (.cells #[.int .i64 (k : Int)] 3)))
          have B4 := Lib.hid (bthen B3.out (Joins.below_alloc1 w2 (.cells #[.int .i64 (k : Int)] 3)))
          have Z3 : w.heap.size ≤ w2.heap.size := B3.out.size
          have lo := O4.out.lt
          have rv := Lib.hid (RV.new w2 3 (intsOf [(k : Int)]))
          go_wp2_with (at_builtin; (refine wpList_append_i rfl (.tmp 23) (.tmp 25) rfl w.heap.size u3 m (darkTo rs k) rfl O4.out _ (some ⟨w2.heap.size, 0, none⟩) 1 1 [(k : Int)] rfl rfl rv.out (by omega) (by simp; omega) ?_; intro v3 w4 hown3 hg3 _))
          have O5 := Lib.hid hown3
          have B5 := Lib.hid (bgrown B4.out hg3 (fun q hq => (lo q hq).1))
          clear hown3 hg3
          go_wp2
          go_roundw
          case rel => exact ⟨k + 1, m + 1, by omega, by omega, by go_num, Lib.hid (by rw [HD.out, HA.out]; simpa using O5.out), B5⟩
          case measure => simp [intOf]; omega
      · obtain rfl : k = n := by omega
        obtain ⟨D, d', rfl⟩ := own_form ho.out
        have OE := Lib.hid (show wr.ownsRow w.heap.size 3 1 (.slice D m d') m (intsOf (shadowed rs)) by rw [HS.out, HL.out]; exact ho.out)
        clear ho
        go_wp2
        go_ret
        exact ⟨D, m, d', rfl, OE.out, hb.out⟩
end Go.Proofs.Ytdndanbalmoklaa
