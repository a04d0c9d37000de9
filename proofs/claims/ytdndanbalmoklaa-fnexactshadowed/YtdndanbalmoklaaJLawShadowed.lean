/-
  For every list of rules the law FnExactShadowed returns true: impl.Shadowed answers what the model spec.Shadowed answers, leaves the list as it was and keeps nothing of it; its answer owns its memory, behind another call too. No condition; the argument reads afterwards as before.
-/
import Derived.Test.YtdndanbalmoklaaShadI
import Derived.Test.YtdndanbalmoklaaKvA
import Derived.Test.YtdndanbalmoklaaKvC
import Derived.Test.YtdndanbalmoklaaRuMark
import Derived.Test.YtdndanbalmoklaaI1Mark
import Derived.Test.YtdndanbalmoklaaInts
import Derived.Test.YtdndanbalmoklaaInRules
import Derived.Test.YtdndanbalmoklaaRows
import Derived.ShutString
namespace Go.Proofs.Ytdndanbalmoklaa
set_option maxRecDepth 100000
open Go.RowKit

set_option maxHeartbeats 4000000 in
theorem lawShadowed {w : World} (A : Option Addr) (n c : Nat) (rs : List Ru) (h : RIn w A n c rs) : Calls Try.prog 11 #[.slice A n c] w fun e w' => e = .returned (.bool true) ∧ Below w.heap.size w w' := by
  have HL := Lib.hid h.len
  have R0 := Lib.hid h.row
  have hc := h.cap
  have hm := h.big
  obtain ⟨xs, hxs⟩ : ∃ xs, shadowed rs = xs := ⟨_, rfl⟩
  have hx32 : xs.length ≤ 1048576 := by rw [← hxs]; exact Nat.le_trans (shadowed_short rs) (by omega)
  have SC := Lib.hid (show ∀ (A : Option Addr) (n c : Nat) (v : World), RV v v.heap.size A (rcells rs) → rs.length = n → n ≤ 1048576 → Calls Try.prog 41 #[.slice A n c] v fun e w' => ∃ D m d, e = .returned (.slice D m d) ∧ w'.ownsRow v.heap.size 3 1 (.slice D m d) m (intsOf xs) ∧ Below v.heap.size v w' from fun A n c v h1 h2 h3 => hxs ▸ shadowedS A n c rs v h1 h2 h3)
  have IC := Lib.hid (show ∀ (A : Option Addr) (n c : Nat) (v : World), RV v v.heap.size A (rcells rs) → rs.length = n → n ≤ 1048576 → n ≤ c → Calls Try.prog 40 #[.slice A n c] v fun e w' => ∃ D m d, e = .returned (.slice D m d) ∧ w'.ownsRow v.heap.size 3 1 (.slice D m d) m (intsOf xs) ∧ Below v.heap.size v w' from fun A n c v h1 h2 h3 h4 => hxs ▸ shadowedI A n c rs v h1 h2 h3 h4)
  clear h hxs
  go_enter Try.func11, Try.ntmps11
  go_wp2_with fail
  refine Calls.mono (szRuleS_C A n c 1048576 _ (by omega) (by omega) (Nat.le_trans hc hm)) ?_
  rintro e w1 ⟨r, rfl, hr, rfl⟩
  by_cases h0 : r < 0
  · clear hr
    go_wp2
    go_ret
    exact ⟨rfl, by go_grown⟩
  have hn : n ≤ 1048576 := by omega
  have hr0 : 0 ≤ r := by omega
  clear hr h0
  go_wp2_with fail
  refine Calls.mono (toRuleS_C A n c rs _ R0.out HL.out hn) ?_
  rintro e w2 ⟨g2, rfl, o2, b2⟩
  have B2 := Lib.hid b2
  have X2 := Lib.hid (RV.of_own o2)
  clear o2 b2
  go_wp2_with fail
  refine Calls.mono (SC.out _ n n _ X2.out HL.out hn) ?_
  rintro e w3 ⟨D3, m3, d3, rfl, o3, b3⟩
  obtain rfl : m3 = xs.length := by have := o3.1; rw [intsOf_length] at this; omega
  have B3 := Lib.hid (bthen B2.out b3)
  have W3 := Lib.hid o3
  have LW := Lib.hid o3.lt
  clear o3 b3 X2 B2
  go_wp2_with fail
  refine Calls.mono (toRuleS_C A n c rs _ (R0.out.on B3.out) HL.out hn) ?_
  rintro e w4 ⟨g4, rfl, o4, b4⟩
  have W4 := Lib.hid (own_below W3.out b4)
  have X4 := Lib.hid o4
  have LX := Lib.hid (o4.lt g4 rfl)
  have ZX := Lib.hid B3.out.size
  have B4 := Lib.hid (bthen B3.out b4)
  clear o4 b4 W3 B3
  go_wp2_with fail
  refine Calls.mono (IC.out _ n n _ (RV.of_own X4.out) HL.out hn (Nat.le_refl _)) ?_
  rintro e w5 ⟨D5, m5, d5, rfl, o5, b5⟩
  obtain rfl : m5 = xs.length := by have := o5.1; rw [intsOf_length] at this; omega
  have G5 := Lib.hid o5
  have LG := Lib.hid o5.lt
  have ZG := Lib.hid B4.out.size
  have W5 := Lib.hid (own_below W4.out b5)
  have X5 := Lib.hid (own_below X4.out b5)
  have B5 := Lib.hid (bthen B4.out b5)
  clear o5 b5 W4 X4 B4
  go_wp2_with fail
  refine Calls.mono (eqI _ _ _ _ xs _ (RV.of_own G5.out) (RV.of_own W5.out) hx32) ?_
  rintro e w6 ⟨rfl, b6⟩
  have G6 := Lib.hid (own_below G5.out b6)
  have W6 := Lib.hid (own_below W5.out b6)
  have X6 := Lib.hid (own_below X5.out b6)
  have B6 := Lib.hid (bthen B5.out b6)
  clear b6 G5 W5 X5 B5
  go_wp2_with fail
  refine Calls.mono (toRuleS_C A n c rs _ (R0.out.on B6.out) HL.out hn) ?_
  rintro e w7 ⟨g7, rfl, o7, b7⟩
  have Y7 := Lib.hid (RV.of_own o7)
  have G7 := Lib.hid (own_below G6.out b7)
  have W7 := Lib.hid (own_below W6.out b7)
  have X7 := Lib.hid (own_below X6.out b7)
  have B7 := Lib.hid (bthen B6.out b7)
  clear o7 b7 G6 W6 X6 B6
  go_wp2_with fail
  refine Calls.mono (eqRuleS_C _ _ n n n rs _ (RV.of_own X7.out) Y7.out HL.out hn) ?_
  rintro e w8 ⟨rfl, b8⟩
  have G8 := Lib.hid (own_below G7.out b8)
  have W8 := Lib.hid (own_below W7.out b8)
  have X8 := Lib.hid (own_below X7.out b8)
  have B8 := Lib.hid (bthen B7.out b8)
  clear b8 G7 W7 X7 B7 Y7
  go_wp2_with fail
  refine Calls.mono (markRuleS_C 1 _ X8.out (by omega) (by omega) hn) ?_
  rintro e w9 ⟨rfl, _, gr⟩
  have G9 := Lib.hid (own_grown G8.out gr (fun q hq e => by have e2 := Option.some.inj e; have h1 := LG.out q hq; have h2 := LX.out; omega))
  have W9 := Lib.hid (own_grown W8.out gr (fun q hq e => by have e2 := Option.some.inj e; have h1 := LW.out q hq; have h2 := LX.out; omega))
  have B9 := Lib.hid (bgrown B8.out gr (fun q hq => by have e2 := Option.some.inj hq; have h2 := LX.out; have h3 := ZX.out; omega))
  clear gr G8 W8 X8 B8
  have hk9 : ¬ (1 + (n : Int) * 21 < 0) := by omega
  go_wp2_with fail
  refine Calls.mono (eqI _ _ _ _ xs _ (RV.of_own G9.out) (RV.of_own W9.out) hx32) ?_
  rintro e wa ⟨rfl, ba⟩
  have Ga := Lib.hid (own_below G9.out ba)
  have Wa := Lib.hid (own_below W9.out ba)
  have Ba := Lib.hid (bthen B9.out ba)
  clear ba G9 W9 B9 hk9
  go_wp2_with fail
  refine Calls.mono (markIntS_any 1 _ Ga.out (by omega) (by omega) hx32) ?_
  rintro e wb ⟨rfl, ob, gr⟩
  have Gb := Lib.hid ob
  have Wb := Lib.hid (own_grown Wa.out gr (fun q hq e => by have h1 := LW.out q hq; have h2 := LG.out q e; have h3 := LX.out; omega))
  have Bb := Lib.hid (bgrown Ba.out gr (fun q hq => by have h2 := LG.out q hq; have h3 := ZG.out; omega))
  clear gr ob Ga Wa Ba
  go_wp2_with fail
  refine Calls.mono (heldIntS_C _ _ _ 1 _ (RV.of_own Gb.out) (by omega) (by omega) hx32) ?_
  rintro e wc ⟨rfl, rfl⟩
  have hkc : ¬ (1 + (xs.length : Int) * 1 < 0) := by omega
  go_wp2_with fail
  refine Calls.mono (toRuleS_C A n c rs _ (R0.out.on Bb.out) HL.out hn) ?_
  rintro e wd ⟨gd, rfl, od, bd⟩
  have Yd := Lib.hid (RV.of_own od)
  have Gd := Lib.hid (own_below Gb.out bd)
  have Wd := Lib.hid (own_below Wb.out bd)
  have Bd := Lib.hid (bthen Bb.out bd)
  clear od bd Gb Wb Bb
  go_wp2_with fail
  refine Calls.mono (IC.out _ n n _ Yd.out HL.out hn (Nat.le_refl _)) ?_
  rintro e we ⟨De, me, de, rfl, oe, be⟩
  obtain rfl : me = xs.length := by have := oe.1; rw [intsOf_length] at this; omega
  have He := Lib.hid (RV.of_own oe)
  have Ge := Lib.hid (own_below Gd.out be)
  have We := Lib.hid (own_below Wd.out be)
  have Be := Lib.hid (bthen Bd.out be)
  clear oe be Gd Wd Bd Yd
  go_wp2_with fail
  refine Calls.mono (eqI _ _ _ _ xs _ He.out (RV.of_own We.out) hx32) ?_
  rintro e wf ⟨rfl, bf⟩
  have Gf := Lib.hid (own_below Ge.out bf)
  have Bf := Lib.hid (bthen Be.out bf)
  clear bf Ge We Be He
  go_wp2_with fail
  refine Calls.mono (heldIntS_C _ _ _ 1 _ (RV.of_own Gf.out) (by omega) (by omega) hx32) ?_
  rintro e wg ⟨rfl, rfl⟩
  go_wp2
  go_ret
  exact ⟨rfl, Bf.out⟩

namespace fnExactShadowed
open Go.ChangeShapes Go.WideShapes Go.ChangeAt Go.RowKit
open Go.ChangeMaps (open_string shut_string)
theorem own : ownKnob Try.prog.godebug = none := by kernel_rfl
theorem laidOut : laidOutB Try.prog = true := by kernel_rfl

set_option maxRecDepth 100000 in
theorem lifted (os : Os) (started : os.Started) (H : Type) (enc : TypeId × Value → H) :
    ReturnsInHanded {} Try.checked os 11 .any (Rows.fnExactShadowedSpec.pre6 enc Try.prog Try.f11 Rows.fnExactShadowedRow.domain false) (Rows.fnExactShadowedSpec.post enc Try.prog Try.f11 false true false false) := by
  refine returnsInHanded_of_change (C := Try.checked) own started (by kernel_rfl) Try.func11
    (ChangeSpec.witness6 (enc := enc) (C := Try.checked) false ⟨#[], #[.slice none 0 0], []⟩ 8 (by kernel_rfl) (by kernel_rfl) (by kernel_rfl) (by kernel_rfl)) ?_
  intro W base args ds gs before hval0 hW _ _
  have hval : ∀ (j : Nat) t v, Try.f11.params[j]? = some t → args[j]? = some v → Value.okWide Try.prog W .any base t v := hval0
  have hW' := hW
  obtain ⟨p, q, hA0, hV, rfl, _, _⟩ := hW
  have hA : DataW.TrodAll enc Try.prog W 0 (fun _ => true) true Try.f11.params.toList args.toList ds p := hA0
  rw [Try.params11] at hA hval
  obtain ⟨v0, vs0, d0, ds0, p0, q0, hargs, rfl, rfl, h0, r0⟩ := trodAll_cons hA
  obtain ⟨rfl, rfl, rfl⟩ := trodAll_nil r0
  obtain rfl : args = #[v0] := by cases args; simp_all
  obtain ⟨rfl, rfl⟩ := trodVars_none hV
  obtain ⟨a0, n0, c0, rfl⟩ := okWide_slice Try.underlying75 (hval 0 75 v0 rfl rfl)
  have k0 := h0
  have lt0 : ∀ x ∈ p0, x.block < W.heap.size := by obtain ⟨m, hm⟩ := k0; exact DataW.trod_lt m _ _ _ hm
  obtain ⟨b0, w0⟩ := rules_in h0
  clear hA0 hval0
  refine (lawShadowed a0 n0 c0 b0 w0).mono fun e W' ⟨he, bel⟩ => ?_
  subst he
  exact ⟨_, rfl, _, _, _, [], _, [], hW', trodAll_mk1 (shut_bool Try.underlying4 _), (trodAll_cons_mk (Below.trod laidOut (by kernel_rfl) (of_decide_eq_true (by kernel_rfl)) k0 bel lt0) trodAll_mk0), rfl, bel.frame _, fun h => by cases h⟩

theorem proved : Rows.FnExactShadowedSaid :=
  OpenClaim.holds_of_wide 11 Try.f11 rfl rfl rfl rfl rfl rfl rfl ⟨rfl, rfl, rfl, rfl, rfl⟩ rfl rfl rfl rfl rfl (by kernel_rfl) Try.func11 (by kernel_rfl)
    (of_decide_eq_true (by kernel_rfl)) (by unfold Func.isWrapper; rw [if_neg (of_decide_eq_false (by kernel_rfl))]; exact ⟨rfl, rfl⟩)
    (fun os started H enc _ => lifted os started H enc)
#print axioms proved
end fnExactShadowed
end Go.Proofs.Ytdndanbalmoklaa
