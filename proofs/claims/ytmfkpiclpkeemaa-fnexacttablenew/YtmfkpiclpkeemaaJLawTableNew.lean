/-
  For every seed and size the law FnExactTableNew returns true: impl.TableNew answers what the model spec.TableNew answers, in memory of its own. No condition.
-/
import Derived.Test.YtmfkpiclpkeemaaGH
import Derived.Test.YtmfkpiclpkeemaaRows
import Derived.ShutString
namespace Go.Proofs.Ytmfkpiclpkeemaa
set_option maxRecDepth 100000
open Go.RowKit

theorem tabNew_short (s n : Int) : (tabNew s n).cells.length ≤ 64 := by
  unfold tabNew
  split
  · rename_i h
    simp only [Bool.and_eq_true] at h
    rw [List.length_replicate]
    exact (size_pos h.2).2
  · decide

set_option maxHeartbeats 4000000 in
theorem lawTableNew {w : World} (s : Int) (_ : (Lit.int .i64 s).wf = true) (n : Int) (_ : (Lit.int .i64 n).wf = true) : Calls Try.prog 5 #[.int .i64 s, .int .i64 n] w fun e w' => e = .returned (.bool true) ∧ Below w.heap.size w w' := by
  obtain ⟨⟨sd, xs⟩, hT⟩ : ∃ T, tabNew s n = T := ⟨_, rfl⟩
  have hx32 : xs.length ≤ 1048576 := by have := tabNew_short s n; rw [hT] at this; simp only at this; omega
  have SC := Lib.hid (show ∀ v : World, Calls Try.prog 22 #[.int .i64 s, .int .i64 n] v fun e w' => ∃ u, e = .returned u ∧ TOwn v.heap.size ⟨sd, xs⟩ w' u ∧ Below v.heap.size v w' from fun v => hT ▸ tabNewS s n v)
  have IC := Lib.hid (show ∀ v : World, Calls Try.prog 23 #[.int .i64 s, .int .i64 n] v fun e w' => ∃ u, e = .returned u ∧ TOwn v.heap.size ⟨sd, xs⟩ w' u ∧ Below v.heap.size v w' from fun v => hT ▸ tabNewI s n v)
  clear hT
  have B0 := Lib.hid (Below.refl w.heap.size w)
  go_enter Try.func5, Try.ntmps5
  go_wp2_with fail
  refine Calls.mono (SC.out _) ?_
  rintro e w1 ⟨v1, rfl, ⟨A1, n1, c1, rfl, o1⟩, b1⟩
  obtain rfl := own_len o1
  have B1 := Lib.hid (bthen B0.out b1)
  clear B0
  have W1 := Lib.hid o1
  have LW := Lib.hid o1.lt
  clear o1 b1
  have AL := Lib.hid (Joins.below_alloc1 w1 (.cells #[.int .i64 sd, .slice A1 xs.length c1] 40))
  have B2 := Lib.hid (bthen B1.out AL.out)
  have W2 := Lib.hid (own_below W1.out AL.out)
  clear AL B1 W1
  have ww2 := Lib.hid (K.new w1 (.cells #[.int .i64 sd, .slice A1 xs.length c1] 40))
  go_wp2_with fail
  refine Calls.mono (IC.out _) ?_
  rintro e w2 ⟨v2, rfl, ⟨A2, n2, c2, rfl, o2⟩, b2⟩
  obtain rfl := own_len o2
  have ZG := Lib.hid B2.out.size
  have B3 := Lib.hid (bthen B2.out b2)
  have W3 := Lib.hid (own_below W2.out b2)
  have ww3 := Lib.hid (K.below b2 ww2.out)
  clear B2 W2 ww2
  have G3 := Lib.hid o2
  have LG := Lib.hid o2.lt
  clear o2 b2
  have AL := Lib.hid (Joins.below_alloc1 w2 (.cells #[.int .i64 sd, .slice A2 xs.length c2] 40))
  have B4 := Lib.hid (bthen B3.out AL.out)
  have W4 := Lib.hid (own_below W3.out AL.out)
  have ww4 := Lib.hid (K.old ww3.out (.cells #[.int .i64 sd, .slice A2 xs.length c2] 40))
  have G4 := Lib.hid (own_below G3.out AL.out)
  clear AL B3 W3 ww3 G3
  have gg4 := Lib.hid (K.new w2 (.cells #[.int .i64 sd, .slice A2 xs.length c2] 40))
  go_wp2_with (first | (with_reducible refine loadTb rfl _ rfl (w2.heap.size) rfl gg4.out ?_) | (with_reducible refine loadTb rfl _ rfl (w1.heap.size) rfl ww4.out ?_))
  refine Calls.mono (eqTabC sd A2 A1 xs.length c2 c1 xs _ (RV.of_own G4.out) (RV.of_own W4.out) rfl hx32) ?_
  rintro e w3 ⟨rfl, b3⟩
  have B5 := Lib.hid (bthen B4.out b3)
  have W5 := Lib.hid (own_below W4.out b3)
  have ww5 := Lib.hid (K.below b3 ww4.out)
  have G5 := Lib.hid (own_below G4.out b3)
  have gg5 := Lib.hid (K.below b3 gg4.out)
  clear B4 W4 ww4 G4 gg4
  clear b3
  go_wp2_with (with_reducible refine loadTb rfl _ rfl (w2.heap.size) rfl gg5.out ?_)
  refine Calls.mono (markTabC sd A2 xs.length c2 _ _ 1 _ G5.out hx32 (by omega) (by omega)) ?_
  rintro e w4 ⟨rfl, o4, gr⟩
  have B6 := Lib.hid (bgrown B5.out gr (fun q hq => by have h2 := LG.out q hq; have h3 := ZG.out; first | omega | (simp at *; omega)))
  have W6 := Lib.hid (own_grown W5.out gr (fun q hq e => by have h1 := LW.out q hq; have h2 := LG.out q e; first | omega | (simp at *; omega)))
  have ww6 := Lib.hid (K.kept gr ww5.out (fun q hq => own_neT G5.out ww5.out (by decide) q hq))
  have G6 := Lib.hid o4
  have gg6 := Lib.hid (K.kept gr gg5.out (fun q hq => own_neT G5.out gg5.out (by decide) q hq))
  clear gr B5 W5 ww5 G5 gg5
  clear o4
  go_wp2_with (with_reducible refine loadTb rfl _ rfl (w2.heap.size) rfl gg6.out ?_)
  refine Calls.mono (heldTabC sd A2 xs.length c2 1 _ (RV.of_own G6.out) hx32 (by omega) (by omega)) ?_
  rintro e w5 ⟨rfl, b5⟩
  have B7 := Lib.hid (bthen B6.out b5)
  have W7 := Lib.hid (own_below W6.out b5)
  have ww7 := Lib.hid (K.below b5 ww6.out)
  have G7 := Lib.hid (own_below G6.out b5)
  have gg7 := Lib.hid (K.below b5 gg6.out)
  clear B6 W6 ww6 G6 gg6
  clear b5
  have hkc : ¬ (1 + (xs.length : Int) * 16 < 0) := by omega
  go_wp2_with fail
  refine Calls.mono (IC.out _) ?_
  rintro e w6 ⟨v6, rfl, ⟨A6, n6, c6, rfl, o6⟩, b6⟩
  obtain rfl := own_len o6
  have B8 := Lib.hid (bthen B7.out b6)
  have W8 := Lib.hid (own_below W7.out b6)
  have ww8 := Lib.hid (K.below b6 ww7.out)
  have G8 := Lib.hid (own_below G7.out b6)
  have gg8 := Lib.hid (K.below b6 gg7.out)
  clear B7 W7 ww7 G7 gg7
  have H8 := Lib.hid o6
  clear o6 b6
  have AL := Lib.hid (Joins.below_alloc1 w6 (.cells #[.int .i64 sd, .slice A6 xs.length c6] 40))
  have B9 := Lib.hid (bthen B8.out AL.out)
  have W9 := Lib.hid (own_below W8.out AL.out)
  have ww9 := Lib.hid (K.old ww8.out (.cells #[.int .i64 sd, .slice A6 xs.length c6] 40))
  have G9 := Lib.hid (own_below G8.out AL.out)
  have gg9 := Lib.hid (K.old gg8.out (.cells #[.int .i64 sd, .slice A6 xs.length c6] 40))
  have H9 := Lib.hid (own_below H8.out AL.out)
  clear AL B8 W8 ww8 G8 gg8 H8
  have hh9 := Lib.hid (K.new w6 (.cells #[.int .i64 sd, .slice A6 xs.length c6] 40))
  go_wp2_with (first | (with_reducible refine loadTb rfl _ rfl (w6.heap.size) rfl hh9.out ?_) | (with_reducible refine loadTb rfl _ rfl (w1.heap.size) rfl ww9.out ?_))
  refine Calls.mono (eqTabC sd A6 A1 xs.length c6 c1 xs _ (RV.of_own H9.out) (RV.of_own W9.out) rfl hx32) ?_
  rintro e w7 ⟨rfl, b7⟩
  have B10 := Lib.hid (bthen B9.out b7)
  have W10 := Lib.hid (own_below W9.out b7)
  have ww10 := Lib.hid (K.below b7 ww9.out)
  have G10 := Lib.hid (own_below G9.out b7)
  have gg10 := Lib.hid (K.below b7 gg9.out)
  have H10 := Lib.hid (own_below H9.out b7)
  have hh10 := Lib.hid (K.below b7 hh9.out)
  clear B9 W9 ww9 G9 gg9 H9 hh9
  clear b7
  go_wp2_with (with_reducible refine loadTb rfl _ rfl (w2.heap.size) rfl gg10.out ?_)
  refine Calls.mono (heldTabC sd A2 xs.length c2 1 _ (RV.of_own G10.out) hx32 (by omega) (by omega)) ?_
  rintro e w8 ⟨rfl, b8⟩
  have B11 := Lib.hid (bthen B10.out b8)
  have W11 := Lib.hid (own_below W10.out b8)
  have ww11 := Lib.hid (K.below b8 ww10.out)
  have G11 := Lib.hid (own_below G10.out b8)
  have gg11 := Lib.hid (K.below b8 gg10.out)
  have H11 := Lib.hid (own_below H10.out b8)
  have hh11 := Lib.hid (K.below b8 hh10.out)
  clear B10 W10 ww10 G10 gg10 H10 hh10
  clear b8
  go_wp2
  go_ret
  exact ⟨rfl, B11.out⟩

namespace fnExactTableNew
open Go.ChangeShapes Go.WideShapes Go.ChangeAt Go.RowKit
open Go.ChangeMaps (open_string shut_string)
theorem own : ownKnob Try.prog.godebug = none := by kernel_rfl

set_option maxRecDepth 100000 in
theorem lifted (os : Os) (started : os.Started) (H : Type) (enc : TypeId × Value → H) :
    ReturnsInHanded {} Try.checked os 5 .any (Rows.fnExactTableNewSpec.pre6 enc Try.prog Try.f5 Rows.fnExactTableNewRow.domain false) (Rows.fnExactTableNewSpec.post enc Try.prog Try.f5 false true false false) := by
  refine returnsInHanded_of_change (C := Try.checked) own started (by kernel_rfl) Try.func5
    (ChangeSpec.witness6 (enc := enc) (C := Try.checked) false ⟨#[], #[.int .i64 0, .int .i64 0], []⟩ 8 (by kernel_rfl) (by kernel_rfl) (by kernel_rfl) (by kernel_rfl)) ?_
  intro W base args ds gs before hval0 hW _ _
  have hval : ∀ (j : Nat) t v, Try.f5.params[j]? = some t → args[j]? = some v → Value.okWide Try.prog W .any base t v := hval0
  have hW' := hW
  obtain ⟨p, q, hA0, hV, rfl, _, _⟩ := hW
  have hA : DataW.TrodAll enc Try.prog W 0 (fun _ => true) true Try.f5.params.toList args.toList ds p := hA0
  rw [Try.params5] at hA hval
  obtain ⟨v0, vs0, d0, ds0, p0, q0, hargs, rfl, rfl, h0, r0⟩ := trodAll_cons hA
  obtain ⟨v1, vs1, d1, ds1, p1, q1, rfl, rfl, rfl, h1, r1⟩ := trodAll_cons r0
  obtain ⟨rfl, rfl, rfl⟩ := trodAll_nil r1
  obtain rfl : args = #[v0, v1] := by cases args; simp_all
  obtain ⟨rfl, rfl⟩ := trodVars_none hV
  obtain ⟨a0, rfl, rfl, rfl, w0⟩ := open_int Try.underlying3 (hval 0 3 v0 rfl rfl) h0
  obtain ⟨a1, rfl, rfl, rfl, w1⟩ := open_int Try.underlying3 (hval 1 3 v1 rfl rfl) h1
  clear hA0 hval0
  refine (lawTableNew a0 w0 a1 w1).mono fun e W' ⟨he, bel⟩ => ?_
  subst he
  exact ⟨_, rfl, _, _, _, [], _, [], hW', trodAll_mk1 (shut_bool Try.underlying4 _), (trodAll_cons_mk (shut_int Try.underlying3 w0) (trodAll_cons_mk (shut_int Try.underlying3 w1) trodAll_mk0)), rfl, bel.frame _, fun h => by cases h⟩

theorem proved : Rows.FnExactTableNewSaid :=
  OpenClaim.holds_of_wide 5 Try.f5 rfl rfl rfl rfl rfl rfl rfl ⟨rfl, rfl, rfl, rfl, rfl⟩ rfl rfl rfl rfl rfl (by kernel_rfl) Try.func5 (by kernel_rfl)
    (of_decide_eq_true (by kernel_rfl)) (by unfold Func.isWrapper; rw [if_neg (of_decide_eq_false (by kernel_rfl))]; exact ⟨rfl, rfl⟩)
    (fun os started H enc _ => lifted os started H enc)
#print axioms proved
end fnExactTableNew
end Go.Proofs.Ytmfkpiclpkeemaa
