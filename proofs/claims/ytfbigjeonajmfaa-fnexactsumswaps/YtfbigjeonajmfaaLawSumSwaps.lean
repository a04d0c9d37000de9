/-
  For every integer and every two slices of integers the law FnExactSumSwaps returns true: impl.SumSwaps answers what the model spec.SumSwaps answers and writes nothing into its arguments. No condition; the arguments read afterwards as before.
-/
import Derived.Test.YtfbigjeonajmfaaSumSwaps
import Derived.Test.YtfbigjeonajmfaaRows
import Derived.ShutString
namespace Go.Proofs.Ytfbigjeonajmfaa
open Go.RowKit

set_option maxHeartbeats 1000000 in
theorem lawSumSwaps {w : World} (a0 : Int) (_ : (Lit.int .i64 a0).wf = true) (A : Option Addr) (n c : Nat) (xs : List Int) (hin : InI w A n c xs) (D : Option Addr) (m d : Nat) (ys : List Int) (hin2 : InI w D m d ys) :
    Calls Try.prog 11 #[.int .i64 a0, .slice A n c, .slice D m d] w fun e w' => e = .returned (.bool true) ∧ Below w.heap.size w w' := by
  obtain ⟨rfl, hcap, hbig, hx, _⟩ := hin
  obtain ⟨rfl, hcap2, hbig2, hy, _⟩ := hin2
  unfold maxLen at hbig hbig2
  by_cases hn : xs.length ≤ 1048576
  · by_cases hm : ys.length ≤ 1048576
    · go_enter Try.func11, Try.ntmps11
      go_wp2_with fail
      refine (toI A c xs w hx hn).mono ?_
      rintro e w1 ⟨rfl, o1, b1⟩
      go_wp2_with fail
      refine (toI D d ys w1 (hy.on b1) hm).mono ?_
      rintro e w2 ⟨rfl, o2, b2⟩
      go_wp2_with fail
      refine (specSwaps a0 _ _ _ _ _ _ xs ys w2 (RV.of_own (own_below o1 b2)) (RV.of_own o2) rfl rfl hn hm).mono ?_
      rintro e w3 ⟨rfl, b3⟩
      have b13 := bthen (bthen b1 b2) b3
      clear o1 o2 b1 b2 b3
      go_wp2_with fail
      refine (toI A c xs w3 (hx.on b13) hn).mono ?_
      rintro e w4 ⟨rfl, o4, b4⟩
      have b14 := bthen b13 b4
      go_wp2_with fail
      refine (toI D d ys w4 (hy.on b14) hm).mono ?_
      rintro e w5 ⟨rfl, o5, b5⟩
      go_wp2_with fail
      refine (implSwaps a0 _ _ _ _ _ _ xs ys w5 (RV.of_own (own_below o4 b5)) (RV.of_own o5) rfl rfl hn hm).mono ?_
      rintro e w6 ⟨rfl, b6⟩
      have o46 := own_below (own_below o4 b5) b6
      have o56 := own_below o5 b6
      have b16 := bthen (bthen b14 b5) b6
      clear o4 o5 b4 b5 b6 b13 b14
      go_wp2_with fail
      refine (toI A c xs w6 (hx.on b16) hn).mono ?_
      rintro e w7 ⟨rfl, o7, b7⟩
      go_wp2_with fail
      refine (eqI _ _ _ _ xs w7 (RV.of_own (own_below o46 b7)) (RV.of_own o7) hn).mono ?_
      rintro e w8 ⟨rfl, b8⟩
      have o58 := own_below (own_below o56 b7) b8
      have b18 := bthen (bthen b16 b7) b8
      clear o46 o56 o7 b7 b8 b16
      go_wp2_with fail
      refine (toI D d ys w8 (hy.on b18) hm).mono ?_
      rintro e w9 ⟨rfl, o9, b9⟩
      go_wp2_with fail
      refine (eqI _ _ _ _ ys w9 (RV.of_own (own_below o58 b9)) (RV.of_own o9) hm).mono ?_
      rintro e w10 ⟨rfl, b10⟩
      go_wp2
      go_ret
      exact ⟨rfl, bthen (bthen b18 b9) b10⟩
    · go_enter Try.func11, Try.ntmps11
      go_wp2
      go_ret
      exact ⟨rfl, Below.refl _ _⟩
  · go_enter Try.func11, Try.ntmps11
    go_wp2
    go_ret
    exact ⟨rfl, Below.refl _ _⟩

namespace fnExactSumSwaps
open Go.ChangeShapes Go.WideShapes Go.ChangeAt Go.RowKit
open Go.ChangeMaps (open_string shut_string)
theorem own : ownKnob Try.prog.godebug = none := by kernel_rfl
theorem laidOut : laidOutB Try.prog = true := by kernel_rfl

set_option maxRecDepth 100000 in
theorem lifted (os : Os) (started : os.Started) (H : Type) (enc : TypeId × Value → H) :
    ReturnsInHanded {} Try.checked os 11 .any (Rows.fnExactSumSwapsSpec.pre6 enc Try.prog Try.f11 Rows.fnExactSumSwapsRow.domain false) (Rows.fnExactSumSwapsSpec.post enc Try.prog Try.f11 false true false false) := by
  refine returnsInHanded_of_change (C := Try.checked) own started (by kernel_rfl) Try.func11
    (ChangeSpec.witness6 (enc := enc) (C := Try.checked) false ⟨#[], #[.int .i64 0, .slice none 0 0, .slice none 0 0], []⟩ 8 (by kernel_rfl) (by kernel_rfl) (by kernel_rfl) (by kernel_rfl)) ?_
  intro W base args ds gs before hval0 hW _ _
  have hval : ∀ (j : Nat) t v, Try.f11.params[j]? = some t → args[j]? = some v → Value.okWide Try.prog W .any base t v := hval0
  have hW' := hW
  obtain ⟨p, q, hA0, hV, rfl, _, _⟩ := hW
  have hA : DataW.TrodAll enc Try.prog W 0 (fun _ => true) true Try.f11.params.toList args.toList ds p := hA0
  rw [Try.params11] at hA hval
  obtain ⟨v0, vs0, d0, ds0, p0, q0, hargs, rfl, rfl, h0, r0⟩ := trodAll_cons hA
  obtain ⟨v1, vs1, d1, ds1, p1, q1, rfl, rfl, rfl, h1, r1⟩ := trodAll_cons r0
  obtain ⟨v2, vs2, d2, ds2, p2, q2, rfl, rfl, rfl, h2, r2⟩ := trodAll_cons r1
  obtain ⟨rfl, rfl, rfl⟩ := trodAll_nil r2
  obtain rfl : args = #[v0, v1, v2] := by cases args; simp_all
  obtain ⟨rfl, rfl⟩ := trodVars_none hV
  obtain ⟨a0, rfl, rfl, rfl, w0⟩ := open_int Try.underlying3 (hval 0 3 v0 rfl rfl) h0
  obtain ⟨a1, n1, c1, rfl⟩ := okWide_slice Try.underlying31 (hval 1 31 v1 rfl rfl)
  have k1 := h1
  have lt1 : ∀ x ∈ p1, x.block < W.heap.size := by obtain ⟨m, hm⟩ := k1; exact DataW.trod_lt m _ _ _ hm
  obtain ⟨b1, w1⟩ := ints_in h1
  obtain ⟨a2, n2, c2, rfl⟩ := okWide_slice Try.underlying31 (hval 2 31 v2 rfl rfl)
  have k2 := h2
  have lt2 : ∀ x ∈ p2, x.block < W.heap.size := by obtain ⟨m, hm⟩ := k2; exact DataW.trod_lt m _ _ _ hm
  obtain ⟨b2, w2⟩ := ints_in h2
  clear hA0 hval0
  refine (lawSumSwaps a0 w0 a1 n1 c1 b1 w1 a2 n2 c2 b2 w2).mono fun e W' ⟨he, bel⟩ => ?_
  subst he
  exact ⟨_, rfl, _, _, _, [], _, [], hW', trodAll_mk1 (shut_bool Try.underlying4 _), (trodAll_cons_mk (shut_int Try.underlying3 w0) (trodAll_cons_mk (Below.trod laidOut (by kernel_rfl) (of_decide_eq_true (by kernel_rfl)) k1 bel lt1) (trodAll_cons_mk (Below.trod laidOut (by kernel_rfl) (of_decide_eq_true (by kernel_rfl)) k2 bel lt2) trodAll_mk0))), rfl, bel.frame _, fun h => by cases h⟩

theorem proved : Rows.FnExactSumSwapsSaid :=
  OpenClaim.holds_of_wide 11 Try.f11 rfl rfl rfl rfl rfl rfl rfl ⟨rfl, rfl, rfl, rfl, rfl⟩ rfl rfl rfl rfl rfl (by kernel_rfl) Try.func11 (by kernel_rfl)
    (of_decide_eq_true (by kernel_rfl)) (by unfold Func.isWrapper; rw [if_neg (of_decide_eq_false (by kernel_rfl))]; exact ⟨rfl, rfl⟩)
    (fun os started H enc _ => lifted os started H enc)
#print axioms proved
end fnExactSumSwaps
end Go.Proofs.Ytfbigjeonajmfaa
