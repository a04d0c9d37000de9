/-
  For every slice of bytes and every integer the law FnExactBe16 returns true: impl.Be16 answers what the model spec.Be16 answers and writes nothing into its argument. No condition; the arguments read afterwards as before.
-/
import Derived.Test.YtdjaoicahelacaaBe
import Derived.Test.YtdjaoicahelacaaInBytes
import Derived.Test.YtdjaoicahelacaaRows
import Derived.ShutString
namespace Go.Proofs.Ytdjaoicahelacaa
open Go.RowKit

set_option maxHeartbeats 1000000 in
theorem lawBe16 {w : World} (A : Option Addr) (n c : Nat) (bs : List UInt8) (hin : In w A n c bs) (a1 : Int) (_ : (Lit.int .i64 a1).wf = true) :
    Calls Try.prog 5 #[.slice A n c, .int .i64 a1] w fun e w' => e = .returned (.bool true) ∧ Below w.heap.size w w' := by
  obtain ⟨rfl, hcap, hbig, hrb⟩ := hin
  unfold maxLen at hbig
  by_cases hn : bs.length ≤ 1048576
  · by_cases hk : 0 ≤ a1 ∧ a1 ≤ (bs.length : Int) - 2
    · obtain ⟨k, rfl⟩ : ∃ k : Nat, a1 = k := ⟨a1.toNat, by omega⟩
      obtain ⟨k1, k2⟩ := hk
      go_enter Try.func5, Try.ntmps5
      go_wp2_with fail
      refine (toB A c bs w hrb hn).mono ?_
      rintro e w1 ⟨rfl, o1, b1⟩
      go_wp2_with fail
      refine (specBe16 _ _ _ bs k _ (RB.of_own o1) rfl hn (by omega)).mono ?_
      rintro e w2 ⟨rfl, b2⟩
      have b12 := bthen b1 b2
      go_wp2_with fail
      refine (toB A c bs w2 ((hrb.below b12).more b12.size) hn).mono ?_
      rintro e w3 ⟨rfl, o3, b3⟩
      go_wp2_with fail
      refine (implBe16 _ _ _ bs k _ (RB.of_own o3) rfl hn (Nat.le_refl _) (by omega)).mono ?_
      rintro e w3' ⟨rfl, rfl⟩
      have b13 := bthen b12 b3
      go_wp2_with fail
      refine (toB A c bs w3 ((hrb.below b13).more b13.size) hn).mono ?_
      rintro e w4 ⟨rfl, o4, b4⟩
      go_wp2_with fail
      refine (eqBn _ _ _ _ _ bs _ (RB.of_own (own_below o3 b4)) (RB.of_own o4) rfl hn).mono ?_
      rintro e w5 ⟨rfl, b5⟩
      go_wp2
      go_ret
      exact ⟨rfl, bthen (bthen b13 b4) b5⟩
    · have hno := Lib.hid (show a1 < 0 ∨ (bs.length : Int) - 2 < a1 by omega)
      clear hk
      go_enter Try.func5, Try.ntmps5
      go_wp2_with fail
      refine (toB A c bs w hrb hn).mono ?_
      rintro e w1 ⟨rfl, o1, b1⟩
      go_wp2_with fail
      refine (specBe16_no _ _ _ _ _ hn hno.out).mono ?_
      rintro e w1' ⟨rfl, rfl⟩
      go_wp2_with fail
      refine (toB A c bs w1 ((hrb.below b1).more b1.size) hn).mono ?_
      rintro e w3 ⟨rfl, o3, b3⟩
      go_wp2_with fail
      refine (implBe16_no _ _ _ bs _ _ rfl hn hno.out).mono ?_
      rintro e w3' ⟨rfl, rfl⟩
      have b13 := bthen b1 b3
      go_wp2_with fail
      refine (toB A c bs w3 ((hrb.below b13).more b13.size) hn).mono ?_
      rintro e w4 ⟨rfl, o4, b4⟩
      go_wp2_with fail
      refine (eqBn _ _ _ _ _ bs _ (RB.of_own (own_below o3 b4)) (RB.of_own o4) rfl hn).mono ?_
      rintro e w5 ⟨rfl, b5⟩
      go_wp2
      go_ret
      exact ⟨rfl, bthen (bthen b13 b4) b5⟩
  · go_enter Try.func5, Try.ntmps5
    go_wp2
    go_ret
    exact ⟨rfl, Below.refl _ _⟩

namespace fnExactBe16
open Go.ChangeShapes Go.WideShapes Go.ChangeAt Go.RowKit
open Go.ChangeMaps (open_string shut_string)
theorem own : ownKnob Try.prog.godebug = none := by kernel_rfl
theorem laidOut : laidOutB Try.prog = true := by kernel_rfl

set_option maxRecDepth 100000 in
theorem lifted (os : Os) (started : os.Started) (H : Type) (enc : TypeId × Value → H) :
    ReturnsInHanded {} Try.checked os 5 .any (Rows.fnExactBe16Spec.pre6 enc Try.prog Try.f5 Rows.fnExactBe16Row.domain false) (Rows.fnExactBe16Spec.post enc Try.prog Try.f5 false true false false) := by
  refine returnsInHanded_of_change (C := Try.checked) own started (by kernel_rfl) Try.func5
    (ChangeSpec.witness6 (enc := enc) (C := Try.checked) false ⟨#[], #[.slice none 0 0, .int .i64 0], []⟩ 8 (by kernel_rfl) (by kernel_rfl) (by kernel_rfl) (by kernel_rfl)) ?_
  intro W base args ds gs before hval0 hW _ _
  have hval : ∀ (j : Nat) t v, Try.f5.params[j]? = some t → args[j]? = some v → Value.okWide Try.prog W .any base t v := hval0
  have hW' := hW
  obtain ⟨p, q, hA0, hV, rfl, _, _⟩ := hW
  have hA : DataW.TrodAll enc Try.prog W 0 (fun _ => true) true Try.f5.params.toList args.toList ds p := hA0
  rw [Try.params5] at hA hval
  obtain ⟨v0, vs0, d0, ds0, p0, q0, hargs, rfl, rfl, h0, r0⟩ := trodAll_cons hA
  obtain ⟨v1, vs1, d1, ds1, p1, q1, rfl, rfl, rfl, h1, r1⟩ := trodAll_cons r0
  obtain ⟨rfl, rfl, rfl⟩ := trodAll_nil r1
  obtain rfl : args = #[v0, v1] := by cases args; simp_all
  obtain ⟨rfl, rfl⟩ := trodVars_none hV
  obtain ⟨a0, n0, c0, rfl⟩ := okWide_slice Try.underlying22 (hval 0 22 v0 rfl rfl)
  have k0 := h0
  have lt0 : ∀ x ∈ p0, x.block < W.heap.size := by obtain ⟨m, hm⟩ := k0; exact DataW.trod_lt m _ _ _ hm
  obtain ⟨b0, w0⟩ := bytes_in h0
  obtain ⟨a1, rfl, rfl, rfl, w1⟩ := open_int Try.underlying3 (hval 1 3 v1 rfl rfl) h1
  clear hA0 hval0
  refine (lawBe16 a0 n0 c0 b0 w0 a1 w1).mono fun e W' ⟨he, bel⟩ => ?_
  subst he
  exact ⟨_, rfl, _, _, _, [], _, [], hW', trodAll_mk1 (shut_bool Try.underlying4 _), (trodAll_cons_mk (Below.trod laidOut (by kernel_rfl) (of_decide_eq_true (by kernel_rfl)) k0 bel lt0) (trodAll_cons_mk (shut_int Try.underlying3 w1) trodAll_mk0)), rfl, bel.frame _, fun h => by cases h⟩

theorem proved : Rows.FnExactBe16Said :=
  OpenClaim.holds_of_wide 5 Try.f5 rfl rfl rfl rfl rfl rfl rfl ⟨rfl, rfl, rfl, rfl, rfl⟩ rfl rfl rfl rfl rfl (by kernel_rfl) Try.func5 (by kernel_rfl)
    (of_decide_eq_true (by kernel_rfl)) (by unfold Func.isWrapper; rw [if_neg (of_decide_eq_false (by kernel_rfl))]; exact ⟨rfl, rfl⟩)
    (fun os started H enc _ => lifted os started H enc)
#print axioms proved
end fnExactBe16
end Go.Proofs.Ytdjaoicahelacaa
