/-
  For every seed and every flow key the law FnExactHashOf returns true: impl.HashOf answers what the model spec.HashOf answers. No condition; the arguments read afterwards as before.
-/
import Derived.Test.YtmfkpiclpkeemaaTbHashI
import Derived.Test.YtmfkpiclpkeemaaFkTo
import Derived.Test.YtmfkpiclpkeemaaInFk
import Derived.Test.YtmfkpiclpkeemaaRows
import Derived.ShutString
namespace Go.Proofs.Ytmfkpiclpkeemaa
set_option maxRecDepth 100000
open Go.RowKit

set_option maxHeartbeats 2000000 in
theorem lawHashOf {w : World} (s : Int) (_ : (Lit.int .i64 s).wf = true) (x : Fk) : Calls Try.prog 4 #[.int .i64 s, x.val] w fun e w' => e = .returned (.bool true) ∧ Below w.heap.size w w' := by
  unfold Fk.val
  obtain ⟨b, hb⟩ : ∃ b, hashOf s x = b := ⟨_, rfl⟩
  have HB := Lib.hid hb
  clear hb
  have q0 := Lib.hid (K.new w (.cells #[.int .i64 x.tenant, .int .i64 x.key.src.k, .int .i64 x.key.src.a, .int .i64 x.key.src.b, .int .i64 x.key.src.c, .int .i64 x.key.src.d, .int .i64 x.key.dst.k, .int .i64 x.key.dst.a, .int .i64 x.key.dst.b, .int .i64 x.key.dst.c, .int .i64 x.key.dst.d, .int .i64 x.key.proto, .int .i64 x.key.sport, .int .i64 x.key.dport] 27))
  go_enter Try.func4, Try.ntmps4
  go_wp2_with (with_reducible refine loadLFk rfl _ rfl w.heap.size rfl q0.out ?_)
  refine Calls.mono (toFlowKeyC x _) ?_
  rintro e w1 ⟨rfl, b1⟩
  go_wp2_with fail
  refine Calls.mono (hashSB s x b HB.out _) ?_
  rintro e w2 ⟨rfl, b2⟩
  have q2 := Lib.hid (K.below b2 (K.below b1 q0.out))
  have B2 := Lib.hid (bthen (Joins.below_alloc1 w _) (bthen b1 b2))
  clear b1 b2 q0
  go_wp2_with (with_reducible refine loadLFk rfl _ rfl w.heap.size rfl q2.out ?_)
  refine Calls.mono (toFlowKeyC x _) ?_
  rintro e w3 ⟨rfl, b3⟩
  go_wp2_with fail
  refine Calls.mono (hashIB s x b HB.out _) ?_
  rintro e w4 ⟨rfl, b4⟩
  have B4 := Lib.hid (bthen B2.out (bthen b3 b4))
  clear b3 b4 q2
  go_wp2
  · go_ret
    exact ⟨rfl, B4.out⟩

namespace fnExactHashOf
open Go.ChangeShapes Go.WideShapes Go.ChangeAt Go.RowKit
open Go.ChangeMaps (open_string shut_string)
theorem own : ownKnob Try.prog.godebug = none := by kernel_rfl
theorem laidOut : laidOutB Try.prog = true := by kernel_rfl

set_option maxRecDepth 100000 in
theorem lifted (os : Os) (started : os.Started) (H : Type) (enc : TypeId × Value → H) :
    ReturnsInHanded {} Try.checked os 4 .any (Rows.fnExactHashOfSpec.pre6 enc Try.prog Try.f4 Rows.fnExactHashOfRow.domain false) (Rows.fnExactHashOfSpec.post enc Try.prog Try.f4 false true false false) := by
  refine returnsInHanded_of_change (C := Try.checked) own started (by kernel_rfl) Try.func4
    (ChangeSpec.witness6 (enc := enc) (C := Try.checked) false ⟨#[], #[.int .i64 0, .agg #[.int .i64 0, .int .i64 0, .int .i64 0, .int .i64 0, .int .i64 0, .int .i64 0, .int .i64 0, .int .i64 0, .int .i64 0, .int .i64 0, .int .i64 0, .int .i64 0, .int .i64 0, .int .i64 0]], []⟩ 8 (by kernel_rfl) (by kernel_rfl) (by kernel_rfl) (by kernel_rfl)) ?_
  intro W base args ds gs before hval0 hW _ _
  have hval : ∀ (j : Nat) t v, Try.f4.params[j]? = some t → args[j]? = some v → Value.okWide Try.prog W .any base t v := hval0
  have hW' := hW
  obtain ⟨p, q, hA0, hV, rfl, _, _⟩ := hW
  have hA : DataW.TrodAll enc Try.prog W 0 (fun _ => true) true Try.f4.params.toList args.toList ds p := hA0
  rw [Try.params4] at hA hval
  obtain ⟨v0, vs0, d0, ds0, p0, q0, hargs, rfl, rfl, h0, r0⟩ := trodAll_cons hA
  obtain ⟨v1, vs1, d1, ds1, p1, q1, rfl, rfl, rfl, h1, r1⟩ := trodAll_cons r0
  obtain ⟨rfl, rfl, rfl⟩ := trodAll_nil r1
  obtain rfl : args = #[v0, v1] := by cases args; simp_all
  obtain ⟨rfl, rfl⟩ := trodVars_none hV
  obtain ⟨a0, rfl, rfl, rfl, w0⟩ := open_int Try.underlying3 (hval 0 3 v0 rfl rfl) h0
  have k1 := h1
  have lt1 : ∀ x ∈ p1, x.block < W.heap.size := by obtain ⟨m, hm⟩ := k1; exact DataW.trod_lt m _ _ _ hm
  obtain ⟨a1, rfl⟩ := fk_in (hval 1 27 v1 rfl rfl) h1
  clear hA0 hval0
  refine (lawHashOf a0 w0 a1).mono fun e W' ⟨he, bel⟩ => ?_
  subst he
  exact ⟨_, rfl, _, _, _, [], _, [], hW', trodAll_mk1 (shut_bool Try.underlying4 _), (trodAll_cons_mk (shut_int Try.underlying3 w0) (trodAll_cons_mk (Below.trod laidOut (by kernel_rfl) (of_decide_eq_true (by kernel_rfl)) k1 bel lt1) trodAll_mk0)), rfl, bel.frame _, fun h => by cases h⟩

theorem proved : Rows.FnExactHashOfSaid :=
  OpenClaim.holds_of_wide 4 Try.f4 rfl rfl rfl rfl rfl rfl rfl ⟨rfl, rfl, rfl, rfl, rfl⟩ rfl rfl rfl rfl rfl (by kernel_rfl) Try.func4 (by kernel_rfl)
    (of_decide_eq_true (by kernel_rfl)) (by unfold Func.isWrapper; rw [if_neg (of_decide_eq_false (by kernel_rfl))]; exact ⟨rfl, rfl⟩)
    (fun os started H enc _ => lifted os started H enc)
#print axioms proved
end fnExactHashOf
end Go.Proofs.Ytmfkpiclpkeemaa
