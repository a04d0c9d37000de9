/-
  For every string the law FnExactHexRead returns true: impl.HexRead answers what the model spec.HexRead answers, and its answer owns its memory. No condition; the argument reads afterwards as before.
-/
import Derived.Test.YtdjaoicahelacaaHexSpec
import Derived.Test.YtdjaoicahelacaaInBytes
import Derived.Test.YtdjaoicahelacaaRows
import Derived.ShutString
namespace Go.Proofs.Ytdjaoicahelacaa
open Go.RowKit

theorem hexR_len (l : List UInt8) : (hexR l).length ≤ 4000 := by
  unfold hexR
  split
  · rename_i h
    simp only [okHex, Bool.and_eq_true, decide_eq_true_eq] at h
    rw [hexBytes_length]
    omega
  · simp

set_option maxRecDepth 100000 in
set_option maxHeartbeats 2000000 in
theorem lawHexRead {w : World} (s : ByteArray) (hs : s.size ≤ maxLen) :
    Calls Try.prog 12 #[.string s] w fun e w' => e = .returned (.bool true) ∧ Below w.heap.size w w' := by
  unfold maxLen at hs
  by_cases hn : s.size ≤ 1048576
  · have hlen := hexR_len s.data.toList
    go_enter Try.func12, Try.ntmps12
    go_wp2_with fail
    refine (specHexRead s w hn).mono ?_
    rintro e w1 ⟨A1, c1, rfl, o1, b1⟩
    go_wp2_with fail
    refine (implHexRead s w1 hn).mono ?_
    rintro e w2 ⟨A2, c2, rfl, o2, b2⟩
    have l1 := Lib.hid o1.lt
    have l2 := Lib.hid o2.lt
    have o1 := own_below o1 b2
    go_wp2_with fail
    refine (eqBn _ _ _ _ _ (hexR s.data.toList) _ (RB.of_own o2) (RB.of_own o1) rfl (by omega)).mono ?_
    rintro e w3 ⟨rfl, b3⟩
    have o1 := own_below o1 b3
    have o2 := own_below o2 b3
    go_wp2_with fail
    refine (markBn _ _ _ _ _ _ _ o2 (by omega) (by omega) (by omega)).mono ?_
    rintro e w4 ⟨rfl, o4, g4⟩
    have o1 := own_grown o1 g4 (apart_of l1.out l2.out)
    go_wp2_with fail
    refine (heldBn _ _ _ _ _ (RB.of_own o4) (by omega) (by omega) (by omega)).mono ?_
    rintro e w4' ⟨rfl, rfl⟩
    go_wp2_with fail
    refine (implHexRead s w4 hn).mono ?_
    rintro e w5 ⟨A5, c5, rfl, o5, b5⟩
    have o1 := own_below o1 b5
    have o4 := own_below o4 b5
    go_wp2_with fail
    refine (eqBn _ _ _ _ _ (hexR s.data.toList) _ (RB.of_own o5) (RB.of_own o1) rfl (by omega)).mono ?_
    rintro e w6 ⟨rfl, b6⟩
    have o4 := own_below o4 b6
    go_wp2_with fail
    refine (heldBn _ _ _ _ _ (RB.of_own o4) (by omega) (by omega) (by omega)).mono ?_
    rintro e w6' ⟨rfl, rfl⟩
    go_wp2
    go_ret
    exact ⟨rfl, bthen (bthen (bgrown (bthen (bthen b1 b2) b3) g4 (fun k h => Nat.le_trans b1.size (l2.out k h).1)) b5) b6⟩
  · go_enter Try.func12, Try.ntmps12
    go_wp2
    go_ret
    exact ⟨rfl, Below.refl _ _⟩

namespace fnExactHexRead
open Go.ChangeShapes Go.WideShapes Go.ChangeAt Go.RowKit
open Go.ChangeMaps (open_string shut_string)
theorem own : ownKnob Try.prog.godebug = none := by kernel_rfl

set_option maxRecDepth 100000 in
theorem lifted (os : Os) (started : os.Started) (H : Type) (enc : TypeId × Value → H) :
    ReturnsInHanded {} Try.checked os 12 .any (Rows.fnExactHexReadSpec.pre6 enc Try.prog Try.f12 Rows.fnExactHexReadRow.domain false) (Rows.fnExactHexReadSpec.post enc Try.prog Try.f12 false true false false) := by
  refine returnsInHanded_of_change (C := Try.checked) own started (by kernel_rfl) Try.func12
    (ChangeSpec.witness6 (enc := enc) (C := Try.checked) false ⟨#[], #[.string ByteArray.empty], []⟩ 8 (by kernel_rfl) (by kernel_rfl) (by kernel_rfl) (by kernel_rfl)) ?_
  intro W base args ds gs before hval0 hW _ _
  have hval : ∀ (j : Nat) t v, Try.f12.params[j]? = some t → args[j]? = some v → Value.okWide Try.prog W .any base t v := hval0
  have hW' := hW
  obtain ⟨p, q, hA0, hV, rfl, _, _⟩ := hW
  have hA : DataW.TrodAll enc Try.prog W 0 (fun _ => true) true Try.f12.params.toList args.toList ds p := hA0
  rw [Try.params12] at hA hval
  obtain ⟨v0, vs0, d0, ds0, p0, q0, hargs, rfl, rfl, h0, r0⟩ := trodAll_cons hA
  obtain ⟨rfl, rfl, rfl⟩ := trodAll_nil r0
  obtain rfl : args = #[v0] := by cases args; simp_all
  obtain ⟨rfl, rfl⟩ := trodVars_none hV
  obtain ⟨a0, rfl, rfl, rfl, w0⟩ := open_string Try.underlying9 (hval 0 9 v0 rfl rfl) h0
  clear hA0 hval0
  refine (lawHexRead a0 w0).mono fun e W' ⟨he, bel⟩ => ?_
  subst he
  exact ⟨_, rfl, _, _, _, [], _, [], hW', trodAll_mk1 (shut_bool Try.underlying4 _), (trodAll_cons_mk (shut_string Try.underlying9 w0) trodAll_mk0), rfl, bel.frame _, fun h => by cases h⟩

theorem proved : Rows.FnExactHexReadSaid :=
  OpenClaim.holds_of_wide 12 Try.f12 rfl rfl rfl rfl rfl rfl rfl ⟨rfl, rfl, rfl, rfl, rfl⟩ rfl rfl rfl rfl rfl (by kernel_rfl) Try.func12 (by kernel_rfl)
    (of_decide_eq_true (by kernel_rfl)) (by unfold Func.isWrapper; rw [if_neg (of_decide_eq_false (by kernel_rfl))]; exact ⟨rfl, rfl⟩)
    (fun os started H enc _ => lifted os started H enc)
#print axioms proved
end fnExactHexRead
end Go.Proofs.Ytdjaoicahelacaa
