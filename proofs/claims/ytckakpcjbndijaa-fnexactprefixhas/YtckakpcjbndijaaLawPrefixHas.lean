/-
  For every prefix and every address the law FnExactPrefixHas returns true: impl.PrefixHas answers what the model spec.PrefixHas answers. No condition; the arguments read afterwards as before.
-/
import Derived.Test.YtckakpcjbndijaaPfxHas
import Derived.Test.YtckakpcjbndijaaInAddr
import Derived.Test.YtckakpcjbndijaaRows
import Derived.ShutString
namespace Go.Proofs.Ytckakpcjbndijaa
open Go.RowKit

set_option maxHeartbeats 1000000 in
theorem lawPrefixHas {w : World} (p : Pf) (x : Ad) : Calls Try.prog 8 #[p.val, x.val] w fun e w' => e = .returned (.bool true) ∧ Below w.heap.size w w' := by
  unfold Pf.val Ad.val
  go_enter Try.func8, Try.ntmps8
  go_wp2_with fail
  obtain ⟨⟨c0, c1, c2, c3, c4, c5⟩, d0, d1, d2, d3, d4⟩ := pfad_box (w := w) (p := p) (x := x) (t := 40) (u := 23) (Below.refl _ _)
  have k0 := cell_regrown c0
  have k1 := cell_regrown c1
  have k2 := cell_regrown c2
  have k3 := cell_regrown c3
  have k4 := cell_regrown c4
  have k5 := cell_regrown c5
  have l0 := cell_regrown d0
  have l1 := cell_regrown d1
  have l2 := cell_regrown d2
  have l3 := cell_regrown d3
  have l4 := cell_regrown d4
  refine wp_region_quiet_below (by kernel_rfl) (by kernel_rfl) ?_
  repeat (go_big_quiet_step (first | (go_at_call 26; exact Calls.regrown_of (toPrefixC p _)) | (go_at_call 12; exact Calls.regrown_of (toAddrC x _)) | (go_at_call 28; exact Calls.regrown_of (specPrefixHas p x _))))
  refine wpQuiet_nil ?_
  intro w2 hw2
  obtain ⟨⟨dq, osq⟩, hw2⟩ := hw2
  have B2 := below_regrown ((w.alloc (.cells #[.int .i64 p.base.k, .int .i64 p.base.a, .int .i64 p.base.b, .int .i64 p.base.c, .int .i64 p.base.d, .int .i64 p.len] 40)).alloc (.cells #[.int .i64 x.k, .int .i64 x.a, .int .i64 x.b, .int .i64 x.c, .int .i64 x.d] 23)) dq osq
  rw [← hw2] at B2
  clear hw2
  clear c0 c1 c2 c3 c4 c5 k0 k1 k2 k3 k4 k5 d0 d1 d2 d3 d4 l0 l1 l2 l3 l4
  obtain ⟨⟨c0, c1, c2, c3, c4, c5⟩, d0, d1, d2, d3, d4⟩ := pfad_box B2
  have k0 := cell_regrown c0
  have k1 := cell_regrown c1
  have k2 := cell_regrown c2
  have k3 := cell_regrown c3
  have k4 := cell_regrown c4
  have k5 := cell_regrown c5
  have l0 := cell_regrown d0
  have l1 := cell_regrown d1
  have l2 := cell_regrown d2
  have l3 := cell_regrown d3
  have l4 := cell_regrown d4
  go_wp2_with fail
  refine wp_region_quiet_below (by kernel_rfl) (by kernel_rfl) ?_
  repeat (go_big_quiet_step (first | (go_at_call 26; exact Calls.regrown_of (toPrefixC p _)) | (go_at_call 12; exact Calls.regrown_of (toAddrC x _)) | (go_at_call 29; exact Calls.regrown_of (implPrefixHas p x _))))
  refine wpQuiet_nil ?_
  intro w3 hw3
  obtain ⟨⟨dr, osr⟩, hw3⟩ := hw3
  have B3 := below_regrown w2 dr osr
  rw [← hw3] at B3
  clear hw3
  clear c0 c1 c2 c3 c4 c5 k0 k1 k2 k3 k4 k5 d0 d1 d2 d3 d4 l0 l1 l2 l3 l4
  go_wp2
  go_ret
  exact ⟨rfl, bthen (Joins.below_alloc2 w _ _) (bthen B2 B3)⟩

namespace fnExactPrefixHas
open Go.ChangeShapes Go.WideShapes Go.ChangeAt Go.RowKit
open Go.ChangeMaps (open_string shut_string)
theorem own : ownKnob Try.prog.godebug = none := by kernel_rfl
theorem laidOut : laidOutB Try.prog = true := by kernel_rfl

set_option maxRecDepth 100000 in
theorem lifted (os : Os) (started : os.Started) (H : Type) (enc : TypeId × Value → H) :
    ReturnsInHanded {} Try.checked os 8 .any (Rows.fnExactPrefixHasSpec.pre6 enc Try.prog Try.f8 Rows.fnExactPrefixHasRow.domain false) (Rows.fnExactPrefixHasSpec.post enc Try.prog Try.f8 false true false false) := by
  refine returnsInHanded_of_change (C := Try.checked) own started (by kernel_rfl) Try.func8
    (ChangeSpec.witness6 (enc := enc) (C := Try.checked) false ⟨#[], #[.agg #[.int .i64 0, .int .i64 0, .int .i64 0, .int .i64 0, .int .i64 0, .int .i64 0], .agg #[.int .i64 0, .int .i64 0, .int .i64 0, .int .i64 0, .int .i64 0]], []⟩ 8 (by kernel_rfl) (by kernel_rfl) (by kernel_rfl) (by kernel_rfl)) ?_
  intro W base args ds gs before hval0 hW _ _
  have hval : ∀ (j : Nat) t v, Try.f8.params[j]? = some t → args[j]? = some v → Value.okWide Try.prog W .any base t v := hval0
  have hW' := hW
  obtain ⟨p, q, hA0, hV, rfl, _, _⟩ := hW
  have hA : DataW.TrodAll enc Try.prog W 0 (fun _ => true) true Try.f8.params.toList args.toList ds p := hA0
  rw [Try.params8] at hA hval
  obtain ⟨v0, vs0, d0, ds0, p0, q0, hargs, rfl, rfl, h0, r0⟩ := trodAll_cons hA
  obtain ⟨v1, vs1, d1, ds1, p1, q1, rfl, rfl, rfl, h1, r1⟩ := trodAll_cons r0
  obtain ⟨rfl, rfl, rfl⟩ := trodAll_nil r1
  obtain rfl : args = #[v0, v1] := by cases args; simp_all
  obtain ⟨rfl, rfl⟩ := trodVars_none hV
  have k0 := h0
  have lt0 : ∀ x ∈ p0, x.block < W.heap.size := by obtain ⟨m, hm⟩ := k0; exact DataW.trod_lt m _ _ _ hm
  obtain ⟨a0, rfl⟩ := pfx_in (hval 0 40 v0 rfl rfl) h0
  have k1 := h1
  have lt1 : ∀ x ∈ p1, x.block < W.heap.size := by obtain ⟨m, hm⟩ := k1; exact DataW.trod_lt m _ _ _ hm
  obtain ⟨a1, rfl⟩ := addr_in (hval 1 23 v1 rfl rfl) h1
  clear hA0 hval0
  refine (lawPrefixHas a0 a1).mono fun e W' ⟨he, bel⟩ => ?_
  subst he
  exact ⟨_, rfl, _, _, _, [], _, [], hW', trodAll_mk1 (shut_bool Try.underlying4 _), (trodAll_cons_mk (Below.trod laidOut (by kernel_rfl) (of_decide_eq_true (by kernel_rfl)) k0 bel lt0) (trodAll_cons_mk (Below.trod laidOut (by kernel_rfl) (of_decide_eq_true (by kernel_rfl)) k1 bel lt1) trodAll_mk0)), rfl, bel.frame _, fun h => by cases h⟩

theorem proved : Rows.FnExactPrefixHasSaid :=
  OpenClaim.holds_of_wide 8 Try.f8 rfl rfl rfl rfl rfl rfl rfl ⟨rfl, rfl, rfl, rfl, rfl⟩ rfl rfl rfl rfl rfl (by kernel_rfl) Try.func8 (by kernel_rfl)
    (of_decide_eq_true (by kernel_rfl)) (by unfold Func.isWrapper; rw [if_neg (of_decide_eq_false (by kernel_rfl))]; exact ⟨rfl, rfl⟩)
    (fun os started H enc _ => lifted os started H enc)
#print axioms proved
end fnExactPrefixHas
end Go.Proofs.Ytckakpcjbndijaa
