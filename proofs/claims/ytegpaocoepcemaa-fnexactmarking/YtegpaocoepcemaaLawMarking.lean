/-
  For every integer the law FnExactMarking returns true: impl.Marking answers what the model spec.Marking answers. No condition.
-/
import Derived.Test.YtegpaocoepcemaaBe
import Derived.Test.YtegpaocoepcemaaRows
import Derived.ProofKit
import Derived.OpenShut
import Derived.ShutString
namespace Go.Proofs.Ytegpaocoepcemaa
open Go.RowKit

def markEcn (t : Int) : Int := if 0 ≤ t ∧ t ≤ 255 then t % 4 else -1
def markDscp (t : Int) : Int := if 0 ≤ t ∧ t ≤ 255 then t / 4 else -1
theorem mark_in {t : Int} (h : 0 ≤ t ∧ t ≤ 255) : markDscp t = t / 4 ∧ markEcn t = t % 4 := by simp [markDscp, markEcn, h]
theorem mark_out {t : Int} (h : ¬ (0 ≤ t ∧ t ≤ 255)) : markDscp t = -1 ∧ markEcn t = -1 := by simp [markDscp, markEcn, h]
theorem ret_two {a b c d : Int} (h1 : a = c) (h2 : b = d) : Ending.returned (.tuple #[.int .i64 a, .int .i64 b]) = .returned (.tuple #[.int .i64 c, .int .i64 d]) := by rw [h1, h2]

set_option maxHeartbeats 400000 in
theorem implMarking (t : Int) (w : World) :
    Calls Try.prog 12 #[.int .i64 t] w fun e w' => e = .returned (.tuple #[.int .i64 (markDscp t), .int .i64 (markEcn t)]) ∧ w = w' := by
  by_cases h : 0 ≤ t ∧ t ≤ 255
  · have H := Lib.hid (mark_in h)
    obtain ⟨h1, h2⟩ := h
    go_enter Try.func12, Try.ntmps12
    go_wp2_with (go_at_call 41; refine (within_yes _ _ _ _ h1 h2).mono ?_; rintro e w' ⟨rfl, rfl⟩)
    go_ret2
    exact ⟨ret_two H.out.1.symm H.out.2.symm, rfl⟩
  · have H := Lib.hid (mark_out h)
    have h3 := Lib.hid (show t < 0 ∨ 255 < t by omega)
    clear h
    go_enter Try.func12, Try.ntmps12
    go_wp2_with (go_at_call 41; refine (within_no _ _ _ _ h3.out).mono ?_; rintro e w' ⟨rfl, rfl⟩)
    go_ret2
    exact ⟨ret_two H.out.1.symm H.out.2.symm, rfl⟩

set_option maxHeartbeats 400000 in
theorem specMarking (t : Int) (w : World) :
    Calls Try.prog 11 #[.int .i64 t] w fun e w' => e = .returned (.tuple #[.int .i64 (markDscp t), .int .i64 (markEcn t)]) ∧ w = w' := by
  by_cases h : 0 ≤ t ∧ t ≤ 255
  · have H := Lib.hid (mark_in h)
    obtain ⟨h1, h2⟩ := h
    go_enter Try.func11, Try.ntmps11
    go_wp2_with (go_at_call 40; go_in)
    go_ret2
    exact ⟨ret_two H.out.1.symm H.out.2.symm, rfl⟩
  · have H := Lib.hid (mark_out h)
    by_cases h1 : t < 0
    · clear h
      go_enter Try.func11, Try.ntmps11
      go_wp2_with (go_at_call 40; go_in)
      go_ret2
      exact ⟨ret_two H.out.1.symm H.out.2.symm, rfl⟩
    · have h2 : 255 < t := by omega
      have h3 : 0 ≤ t := by omega
      clear h h1
      go_enter Try.func11, Try.ntmps11
      go_wp2_with (go_at_call 40; go_in)
      all_goals first
        | (rename_i h9; exfalso; simp at h9; omega)
        | (go_ret2; exact ⟨ret_two H.out.1.symm H.out.2.symm, rfl⟩)

set_option maxHeartbeats 1000000 in
theorem lawMarking {w : World} (t : Int) (_ : (Lit.int .i64 t).wf = true) : Calls Try.prog 3 #[.int .i64 t] w fun e w' => e = .returned (.bool true) ∧ Below w.heap.size w w' := by
  go_enter Try.func3, Try.ntmps3
  go_wp2_with (first | (go_at_call 11; refine (specMarking _ _).mono ?_; rintro e w' ⟨rfl, rfl⟩) | (go_at_call 12; refine (implMarking _ _).mono ?_; rintro e w' ⟨rfl, rfl⟩))
  go_ret
  exact ⟨rfl, Below.refl _ _⟩

namespace fnExactMarking
open Go.ChangeShapes Go.WideShapes Go.ChangeAt Go.RowKit
open Go.ChangeMaps (open_string shut_string)
theorem own : ownKnob Try.prog.godebug = none := by kernel_rfl

set_option maxRecDepth 100000 in
theorem lifted (os : Os) (started : os.Started) (H : Type) (enc : TypeId × Value → H) :
    ReturnsInHanded {} Try.checked os 3 .any (Rows.fnExactMarkingSpec.pre6 enc Try.prog Try.f3 Rows.fnExactMarkingRow.domain false) (Rows.fnExactMarkingSpec.post enc Try.prog Try.f3 false true false false) := by
  refine returnsInHanded_of_change (C := Try.checked) own started (by kernel_rfl) Try.func3
    (ChangeSpec.witness6 (enc := enc) (C := Try.checked) false ⟨#[], #[.int .i64 0], []⟩ 8 (by kernel_rfl) (by kernel_rfl) (by kernel_rfl) (by kernel_rfl)) ?_
  intro W base args ds gs before hval0 hW _ _
  have hval : ∀ (j : Nat) t v, Try.f3.params[j]? = some t → args[j]? = some v → Value.okWide Try.prog W .any base t v := hval0
  have hW' := hW
  obtain ⟨p, q, hA0, hV, rfl, _, _⟩ := hW
  have hA : DataW.TrodAll enc Try.prog W 0 (fun _ => true) true Try.f3.params.toList args.toList ds p := hA0
  rw [Try.params3] at hA hval
  obtain ⟨v0, vs0, d0, ds0, p0, q0, hargs, rfl, rfl, h0, r0⟩ := trodAll_cons hA
  obtain ⟨rfl, rfl, rfl⟩ := trodAll_nil r0
  obtain rfl : args = #[v0] := by cases args; simp_all
  obtain ⟨rfl, rfl⟩ := trodVars_none hV
  obtain ⟨a0, rfl, rfl, rfl, w0⟩ := open_int Try.underlying3 (hval 0 3 v0 rfl rfl) h0
  clear hA0 hval0
  refine (lawMarking a0 w0).mono fun e W' ⟨he, bel⟩ => ?_
  subst he
  exact ⟨_, rfl, _, _, _, [], _, [], hW', trodAll_mk1 (shut_bool Try.underlying4 _), (trodAll_cons_mk (shut_int Try.underlying3 w0) trodAll_mk0), rfl, bel.frame _, fun h => by cases h⟩

theorem proved : Rows.FnExactMarkingSaid :=
  OpenClaim.holds_of_wide 3 Try.f3 rfl rfl rfl rfl rfl rfl rfl ⟨rfl, rfl, rfl, rfl, rfl⟩ rfl rfl rfl rfl rfl (by kernel_rfl) Try.func3 (by kernel_rfl)
    (of_decide_eq_true (by kernel_rfl)) (by unfold Func.isWrapper; rw [if_neg (of_decide_eq_false (by kernel_rfl))]; exact ⟨rfl, rfl⟩)
    (fun os started H enc _ => lifted os started H enc)
#print axioms proved
end fnExactMarking
end Go.Proofs.Ytegpaocoepcemaa
