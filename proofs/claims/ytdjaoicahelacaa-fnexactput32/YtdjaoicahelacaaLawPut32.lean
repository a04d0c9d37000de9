/-
  For every integer the law FnExactPut32 returns true: impl.Put32 answers what the model spec.Put32 answers, and its answer owns its memory. No condition; the argument reads afterwards as before.
-/
import Derived.Test.YtdjaoicahelacaaPut
import Derived.Test.YtdjaoicahelacaaRows
import Derived.ProofKit
import Derived.OpenShut
import Derived.ShutString
namespace Go.Proofs.Ytdjaoicahelacaa
open Go.RowKit

set_option maxHeartbeats 1000000 in
theorem lawPut32 {w : World} (a0 : Int) (_ : (Lit.int .i64 a0).wf = true) :
    Calls Try.prog 8 #[.int .i64 a0] w fun e w' => e = .returned (.bool true) ∧ Below w.heap.size w w' := by
  go_enter Try.func8, Try.ntmps8
  go_wp2_with fail
  refine (specPut32 _ _).mono ?_
  rintro e w1 ⟨A, c, rfl, o1, b1⟩
  go_wp2_with fail
  refine (implPut32 _ _).mono ?_
  rintro e w2 ⟨rfl, o2, b2⟩
  have l1 := o1.lt
  have l2 := o2.lt
  have o1 := own_below o1 b2
  go_wp2_with fail
  refine (eqBn _ _ 4 4 _ (put32 a0) _ (RB.of_own o2) (RB.of_own o1) rfl (by omega)).mono ?_
  rintro e w3 ⟨rfl, b3⟩
  have o1 := own_below o1 b3
  have o2 := own_below o2 b3
  go_wp2_with fail
  refine (markBn _ 4 4 _ _ _ _ o2 (by omega) (by omega) (by omega)).mono ?_
  rintro e w4 ⟨rfl, o4, g4⟩
  have o1 := own_grown o1 g4 (apart_of l1 l2)
  go_wp2_with fail
  refine (heldBn _ 4 4 _ _ (RB.of_own o4) (by omega) (by omega) (by omega)).mono ?_
  rintro e w4' ⟨rfl, rfl⟩
  go_wp2_with fail
  refine (implPut32 _ _).mono ?_
  rintro e w5 ⟨rfl, o5, b5⟩
  have o1 := own_below o1 b5
  have o4 := own_below o4 b5
  go_wp2_with fail
  refine (eqBn _ _ 4 4 _ (put32 a0) _ (RB.of_own o5) (RB.of_own o1) rfl (by omega)).mono ?_
  rintro e w6 ⟨rfl, b6⟩
  have o4 := own_below o4 b6
  go_wp2_with fail
  refine (heldBn _ 4 4 _ _ (RB.of_own o4) (by omega) (by omega) (by omega)).mono ?_
  rintro e w6' ⟨rfl, rfl⟩
  go_wp2
  go_ret
  exact ⟨rfl, bthen (bthen (bgrown (bthen (bthen b1 b2) b3) g4 (fun k h => Nat.le_trans b1.size (l2 k h).1)) b5) b6⟩

namespace fnExactPut32
open Go.ChangeShapes Go.WideShapes Go.ChangeAt Go.RowKit
open Go.ChangeMaps (open_string shut_string)
theorem own : ownKnob Try.prog.godebug = none := by kernel_rfl

set_option maxRecDepth 100000 in
theorem lifted (os : Os) (started : os.Started) (H : Type) (enc : TypeId × Value → H) :
    ReturnsInHanded {} Try.checked os 8 .any (Rows.fnExactPut32Spec.pre6 enc Try.prog Try.f8 Rows.fnExactPut32Row.domain false) (Rows.fnExactPut32Spec.post enc Try.prog Try.f8 false true false false) := by
  refine returnsInHanded_of_change (C := Try.checked) own started (by kernel_rfl) Try.func8
    (ChangeSpec.witness6 (enc := enc) (C := Try.checked) false ⟨#[], #[.int .i64 0], []⟩ 8 (by kernel_rfl) (by kernel_rfl) (by kernel_rfl) (by kernel_rfl)) ?_
  intro W base args ds gs before hval0 hW _ _
  have hval : ∀ (j : Nat) t v, Try.f8.params[j]? = some t → args[j]? = some v → Value.okWide Try.prog W .any base t v := hval0
  have hW' := hW
  obtain ⟨p, q, hA0, hV, rfl, _, _⟩ := hW
  have hA : DataW.TrodAll enc Try.prog W 0 (fun _ => true) true Try.f8.params.toList args.toList ds p := hA0
  rw [Try.params8] at hA hval
  obtain ⟨v0, vs0, d0, ds0, p0, q0, hargs, rfl, rfl, h0, r0⟩ := trodAll_cons hA
  obtain ⟨rfl, rfl, rfl⟩ := trodAll_nil r0
  obtain rfl : args = #[v0] := by cases args; simp_all
  obtain ⟨rfl, rfl⟩ := trodVars_none hV
  obtain ⟨a0, rfl, rfl, rfl, w0⟩ := open_int Try.underlying3 (hval 0 3 v0 rfl rfl) h0
  clear hA0 hval0
  refine (lawPut32 a0 w0).mono fun e W' ⟨he, bel⟩ => ?_
  subst he
  exact ⟨_, rfl, _, _, _, [], _, [], hW', trodAll_mk1 (shut_bool Try.underlying4 _), (trodAll_cons_mk (shut_int Try.underlying3 w0) trodAll_mk0), rfl, bel.frame _, fun h => by cases h⟩

theorem proved : Rows.FnExactPut32Said :=
  OpenClaim.holds_of_wide 8 Try.f8 rfl rfl rfl rfl rfl rfl rfl ⟨rfl, rfl, rfl, rfl, rfl⟩ rfl rfl rfl rfl rfl (by kernel_rfl) Try.func8 (by kernel_rfl)
    (of_decide_eq_true (by kernel_rfl)) (by unfold Func.isWrapper; rw [if_neg (of_decide_eq_false (by kernel_rfl))]; exact ⟨rfl, rfl⟩)
    (fun os started H enc _ => lifted os started H enc)
#print axioms proved
end fnExactPut32
end Go.Proofs.Ytdjaoicahelacaa
