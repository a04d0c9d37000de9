/-
  For every frame the law FnExactEtherOk returns true: impl.EtherOk answers what the model spec.EtherOk answers and leaves the frame as it was. No condition; the argument reads afterwards as before.
-/
import Derived.Test.YtaemonjiejgciaaEthOk
import Derived.Test.YtaemonjiejgciaaInEth
import Derived.Test.YtaemonjiejgciaaRows
import Derived.ShutString
namespace Go.Proofs.Ytaemonjiejgciaa
open Go.RowKit

set_option maxHeartbeats 1000000 in
theorem lawEtherOk_big {w : World} (x : Eh) (A : Option Addr) (n c : Nat) (h : (1048576 : Int) < n) (hm : n ≤ maxLen) : Calls Try.prog 3 #[.agg #[.int .i64 x.d, .int .i64 x.s, .int .i64 x.t, .int .i64 x.k, .slice A n c]] w fun e w' => e = .returned (.bool true) ∧ Below w.heap.size w w' := by
  have H := Lib.hid h
  clear h
  go_enter Try.func3, Try.ntmps3
  go_wp2_with fail
  refine (szE_no x A n c _ _ H.out (by omega) hm).mono ?_
  rintro e w1 ⟨rfl, b1⟩
  go_wp2
  go_ret
  exact ⟨rfl, bthen (Joins.below_alloc1 w _) b1⟩

set_option maxRecDepth 100000 in
set_option maxHeartbeats 1000000 in
theorem lawEtherOk_small {w : World} (x : Eh) (A : Option Addr) (n c : Nat) (bs : List UInt8) (hr : RB w w.heap.size A bs) (hl : bs.length = n) (hn : n ≤ 1048576) : Calls Try.prog 3 #[.agg #[.int .i64 x.d, .int .i64 x.s, .int .i64 x.t, .int .i64 x.k, .slice A n c]] w fun e w' => e = .returned (.bool true) ∧ Below w.heap.size w w' := by
  have HL := Lib.hid hl
  have R0 := Lib.hid hr
  clear hl hr
  go_enter Try.func3, Try.ntmps3
  go_wp2_with fail
  refine (szE_yes x A n c _ _ (by omega) (by omega)).mono ?_
  rintro e w1 ⟨rfl, b1⟩
  have q1 := Lib.hid (K.newB b1)
  have B1 := Lib.hid (bthen (Joins.below_alloc1 w _) b1)
  clear b1
  obtain ⟨⟨c0, c1, c2, c3, c4⟩, -⟩ := K.row5 q1.out
  go_wp2_with fail
  refine (toEthC x A n c bs _ ((R0.out.below B1.out).more B1.out.size) HL.out hn).mono ?_
  rintro e w2 ⟨D2, d2, rfl, o2, b2⟩
  have q2 := Lib.hid (K.below b2 q1.out)
  have B2 := Lib.hid (bthen B1.out b2)
  clear c0 c1 c2 c3 c4 o2
  go_wp2_with fail
  refine (specEtherOk x D2 n d2 _ hn).mono ?_
  rintro e w3 ⟨rfl, b3⟩
  have q3 := Lib.hid (K.below b3 q2.out)
  have B3 := Lib.hid (bthen B2.out b3)
  clear b2 b3
  obtain ⟨⟨c0, c1, c2, c3, c4⟩, -⟩ := K.row5 q3.out
  go_wp2_with fail
  refine (toEthC x A n c bs _ ((R0.out.below B3.out).more B3.out.size) HL.out hn).mono ?_
  rintro e w4 ⟨D4, t4, rfl, o4, b4⟩
  have q4 := Lib.hid (K.below b4 q3.out)
  have B4 := Lib.hid (bthen B3.out b4)
  clear c0 c1 c2 c3 c4 b4
  go_wp2_with fail
  refine (implEtherOk x D4 n t4 _).mono ?_
  rintro e w5 ⟨rfl, b5⟩
  have r5 := Lib.hid (K.newB b5)
  have q5 := Lib.hid (K.below b5 (K.old q4.out _))
  have O5 := Lib.hid (own_below (o4.alloc (.cells #[.int .i64 x.d, .int .i64 x.s, .int .i64 x.t, .int .i64 x.k, .slice D4 n t4] 27)) b5)
  have B5 := Lib.hid (bthen (bthen B4.out (Joins.below_alloc1 w4 _)) b5)
  clear o4 b5
  obtain ⟨⟨c0, c1, c2, c3, c4⟩, -⟩ := K.row5 q5.out
  obtain ⟨⟨d0, d1, d2, d3, d4⟩, -⟩ := K.row5 r5.out
  go_wp2_with fail
  go_region_law (first | (go_simp; go_at_call 10; refine (toEthC x A n c bs w5.drew (show RB w5.drew w5.drew.heap.size A bs from (R0.out.below B5.out).more B5.out.size) HL.out hn).mono ?_; rintro e w6 ⟨D6, t6, rfl, o6, b6⟩; have e0 := K.cellOn (K.undrew b6) d0; have e1 := K.cellOn (K.undrew b6) d1; have e2 := K.cellOn (K.undrew b6) d2; have e3 := K.cellOn (K.undrew b6) d3; have e4 := K.cellOn (K.undrew b6) d4) | (go_simp; go_at_call 12; refine (eqEthC x D4 D6 n _ _ bs _ (RB.of_own (own_below O5.out (K.undrew b6))) (RB.of_own o6) HL.out hn).mono ?_; rintro e w7 ⟨rfl, b7⟩))
  all_goals
    have B7 := Lib.hid (bthen (bthen B5.out (K.undrew b6)) b7)
    clear c0 c1 c2 c3 c4 d0 d1 d2 d3 d4 b6 b7
    go_wp2
    go_ret
    exact ⟨rfl, B7.out⟩

theorem lawEtherOk {w : World} (x : Eh) (A : Option Addr) (n c : Nat) (bs : List UInt8) (h : In w A n c bs) : Calls Try.prog 3 #[.agg #[.int .i64 x.d, .int .i64 x.s, .int .i64 x.t, .int .i64 x.k, .slice A n c]] w fun e w' => e = .returned (.bool true) ∧ Below w.heap.size w w' := by
  by_cases hb : n ≤ 1048576
  · exact lawEtherOk_small x A n c bs h.rb h.len hb
  · exact lawEtherOk_big x A n c (by omega) (Nat.le_trans h.cap h.big)

namespace fnExactEtherOk
open Go.ChangeShapes Go.WideShapes Go.ChangeAt Go.RowKit
open Go.ChangeMaps (open_string shut_string)
theorem own : ownKnob Try.prog.godebug = none := by kernel_rfl
theorem laidOut : laidOutB Try.prog = true := by kernel_rfl

set_option maxRecDepth 100000 in
theorem lifted (os : Os) (started : os.Started) (H : Type) (enc : TypeId × Value → H) :
    ReturnsInHanded {} Try.checked os 3 .any (Rows.fnExactEtherOkSpec.pre6 enc Try.prog Try.f3 Rows.fnExactEtherOkRow.domain false) (Rows.fnExactEtherOkSpec.post enc Try.prog Try.f3 false true false false) := by
  refine returnsInHanded_of_change (C := Try.checked) own started (by kernel_rfl) Try.func3
    (ChangeSpec.witness6 (enc := enc) (C := Try.checked) false ⟨#[], #[.agg #[.int .i64 0, .int .i64 0, .int .i64 0, .int .i64 0, .slice none 0 0]], []⟩ 8 (by kernel_rfl) (by kernel_rfl) (by kernel_rfl) (by kernel_rfl)) ?_
  intro W base args ds gs before hval0 hW _ _
  have hval : ∀ (j : Nat) t v, Try.f3.params[j]? = some t → args[j]? = some v → Value.okWide Try.prog W .any base t v := hval0
  have hW' := hW
  obtain ⟨p, q, hA0, hV, rfl, _, _⟩ := hW
  have hA : DataW.TrodAll enc Try.prog W 0 (fun _ => true) true Try.f3.params.toList args.toList ds p := hA0
  rw [Try.params3] at hA hval
  obtain ⟨v0, vs0, d0, ds0, p0, q0, hargs, rfl, rfl, h0, r0⟩ := trodAll_cons hA
  obtain ⟨rfl, rfl, rfl⟩ := trodAll_nil r0
  obtain rfl : args = #[v0] := by cases args; simp_all
  obtain ⟨rfl, rfl⟩ := trodVars_none hV
  have k0 := h0
  have lt0 : ∀ x ∈ p0, x.block < W.heap.size := by obtain ⟨m, hm⟩ := k0; exact DataW.trod_lt m _ _ _ hm
  obtain ⟨a0, A0, n0, c0, b0, rfl, w0⟩ := eth_in (hval 0 24 v0 rfl rfl) h0
  clear hA0 hval0
  refine (lawEtherOk a0 A0 n0 c0 b0 w0).mono fun e W' ⟨he, bel⟩ => ?_
  subst he
  exact ⟨_, rfl, _, _, _, [], _, [], hW', trodAll_mk1 (shut_bool Try.underlying4 _), (trodAll_cons_mk (Below.trod laidOut (by kernel_rfl) (of_decide_eq_true (by kernel_rfl)) k0 bel lt0) trodAll_mk0), rfl, bel.frame _, fun h => by cases h⟩

theorem proved : Rows.FnExactEtherOkSaid :=
  OpenClaim.holds_of_wide 3 Try.f3 rfl rfl rfl rfl rfl rfl rfl ⟨rfl, rfl, rfl, rfl, rfl⟩ rfl rfl rfl rfl rfl (by kernel_rfl) Try.func3 (by kernel_rfl)
    (of_decide_eq_true (by kernel_rfl)) (by unfold Func.isWrapper; rw [if_neg (of_decide_eq_false (by kernel_rfl))]; exact ⟨rfl, rfl⟩)
    (fun os started H enc _ => lifted os started H enc)
#print axioms proved
end fnExactEtherOk
end Go.Proofs.Ytaemonjiejgciaa
