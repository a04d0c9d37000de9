/-
  RulesOk in the program.
-/
import Derived.Test.YtdndanbalmoklaaRuRow
import Derived.Test.YtdndanbalmoklaaRuleOkI
namespace Go.Proofs.Ytdndanbalmoklaa
set_option maxRecDepth 100000
open Go.RowKit


set_option maxHeartbeats 1000000 in
theorem rulesOkI (A : Option Addr) (n c : Nat) (rs : List Ru) (w : World) (hx : RV w w.heap.size A (rcells rs)) (hl : rs.length = n) (hn : n ≤ 1048576) :
    Calls Try.prog 100 #[.slice A n c] w fun e w' => e = .returned (.bool (rulesOk rs)) ∧ Below w.heap.size w w' := by
  by_cases h32 : (32 : Int) < n
  · have HR := Lib.hid (rulesOk_long (rs := rs) (by omega))
    clear hx hl
    go_enter Try.func100, Try.ntmps100
    go_wp2
    go_ret
    exact ⟨ret_bool HR.out.symm, by go_grown⟩
  · have HX := Lib.hid hx
    have HL := Lib.hid hl
    have h33 : n ≤ 32 := by omega
    clear hx hl
    go_enter Try.func100, Try.ntmps100
    go_wp2
    go_loopw [3, 11] (fun l i wr => ∃ k : Nat, k ≤ n ∧ i = .int .i64 k ∧ l = .int .i64 (lastP rs k) ∧ Hid (goodN rs k = true) ∧ Hid (Below w.heap.size w wr)) (fun _ i _ => n - (intOf i).toNat)
    case atStart => exact ⟨0, Nat.zero_le _, rfl, rfl, Lib.hid rfl, Lib.hid (Below.refl _ _)⟩
    case round =>
      obtain ⟨k, hk, rfl, rfl, hg, hb⟩ := hrel
      by_cases hlt : k < n
      · have hk1 : k < rs.length := by rw [HL.out]; exact hlt
        obtain ⟨g, o, rfl, hgl, hc0⟩ := HX.out.rule hk1
        have hc := Lib.hid (show wr.rangeAt g (o + k * 21) rs[k].cells from fun j u hu => (hb.out.cell (p := ⟨g, o + k * 21 + j, none⟩) hgl).trans (hc0 j u hu))
        have HNo := Lib.hid (rulesOk_bad hk1)
        have HS := Lib.hid (goodN_succ hk1)
        have HP := Lib.hid (lastP_succ hk1)
        clear hc0 hgl
        generalize rs[k] = y at *
        generalize lastP rs k = l at *
        have q0 := Lib.hid (K.new wr (.cells #[.int .i64 y.prio, .int .i64 y.src.base.k, .int .i64 y.src.base.a, .int .i64 y.src.base.b, .int .i64 y.src.base.c, .int .i64 y.src.base.d, .int .i64 y.src.len, .int .i64 y.dst.base.k, .int .i64 y.dst.base.a, .int .i64 y.dst.base.b, .int .i64 y.dst.base.c, .int .i64 y.dst.base.d, .int .i64 y.dst.len, .int .i64 y.proto, .int .i64 y.slo, .int .i64 y.shi, .int .i64 y.dlo, .int .i64 y.dhi, .int .i64 y.tenant, .int .i64 y.weight, .int .i64 y.chain] 53))
        cases hok : y.ok with
        | false =>
          have HOK := Lib.hid hok
          clear hok
          go_wp2_with (first | (with_reducible refine loadAtR rfl _ rfl g (o + k * 21) rfl y hc.out ?_) | (with_reducible refine storeNewRu rfl _ _ rfl rfl rfl ?_) | (with_reducible refine loadR rfl _ rfl wr.heap.size rfl q0.out ?_))
          refine Calls.mono (ruleOkIB y false HOK.out _) ?_
          rintro e w2 ⟨rfl, b2⟩
          have B2 := Lib.hid (bthen (bthen hb.out (Joins.below_alloc1 wr _)) b2)
          clear b2
          go_wp2
          first | go_ret | go_ret3
          exact ⟨ret_bool (HNo.out (by rw [HOK.out]; rfl)).symm, B2.out⟩
        | true =>
          have HOK := Lib.hid hok
          clear hok
          go_wp2_with (first | (with_reducible refine loadAtR rfl _ rfl g (o + k * 21) rfl y hc.out ?_) | (with_reducible refine storeNewRu rfl _ _ rfl rfl rfl ?_) | (with_reducible refine loadR rfl _ rfl wr.heap.size rfl q0.out ?_))
          refine Calls.mono (ruleOkIB y true HOK.out _) ?_
          rintro e w2 ⟨rfl, b2⟩
          have B2 := Lib.hid (bthen (bthen hb.out (Joins.below_alloc1 wr _)) b2)
          have q2 := Lib.hid (K.below b2 q0.out)
          have c0 := K.cell q2.out 0 _ rfl
          clear b2
          by_cases hp : y.prio ≤ l
          · go_wp2
            first | go_ret | go_ret3
            exact ⟨ret_bool (HNo.out (by rw [HOK.out, decide_eq_false (by omega)]; rfl)).symm, B2.out⟩
          · go_wp2
            go_roundw
            case rel => exact ⟨k + 1, by omega, by go_num, by rw [HP.out], Lib.hid (by rw [HS.out, hg.out, HOK.out, decide_eq_true (by omega)]; rfl), B2⟩
            case measure => simp [intOf]; omega
      · obtain rfl : k = n := by omega
        have HE := Lib.hid (rulesOk_all (rs := rs) (by rw [HL.out]; omega) (by rw [HL.out]; exact hg.out))
        go_wp2
        go_ret
        exact ⟨ret_bool HE.out.symm, hb.out⟩
end Go.Proofs.Ytdndanbalmoklaa
