/-
  For every address the law FnExactAddrBytes returns true: impl.AddrBytes answers what the model spec.AddrBytes answers, and its answer owns its memory. No condition; the argument reads afterwards as before.
-/
import Derived.Test.YtckakpcjbndijaaAddrImpl
import Derived.Test.YtckakpcjbndijaaInAddr
import Derived.Test.YtckakpcjbndijaaRows
import Derived.ShutString
namespace Go.Proofs.Ytckakpcjbndijaa
open Go.RowKit

set_option maxHeartbeats 1000000 in
theorem lawAddrBytes {w : World} (x : Ad) : Calls Try.prog 4 #[x.val] w fun e w' => e = .returned (.bool true) ∧ Below w.heap.size w w' := by
  unfold Ad.val
  obtain ⟨bs, hbs⟩ : ∃ bs, x.bytes = bs := ⟨_, rfl⟩
  have hn0 : x.bytes.length ≤ 16 := by
    unfold Ad.bytes
    split
    · split
      · simp [put32]
      · rw [x.whole_length]; omega
    · simp
  obtain ⟨n, hnn⟩ : ∃ n, bs.length = n := ⟨_, rfl⟩
  have hn : n ≤ 16 := by rw [← hnn, ← hbs]; exact hn0
  clear hn0
  have HB := Lib.hid hbs
  have HN := Lib.hid hnn
  have so : ∀ v : World, Calls Try.prog 14 #[.agg #[.int .i64 x.k, .int .i64 x.a, .int .i64 x.b, .int .i64 x.c, .int .i64 x.d]] v fun e v' => ∃ A c, e = .returned (.slice A n c) ∧ v'.ownsRow v.heap.size 5 1 (.slice A n c) n (cellsOf bs) ∧ Below v.heap.size v v' := by
    intro v
    have h := specAddrBytes x v
    unfold BytesOut at h
    rwa [hbs, hnn] at h
  have io : ∀ v : World, Calls Try.prog 15 #[.agg #[.int .i64 x.k, .int .i64 x.a, .int .i64 x.b, .int .i64 x.c, .int .i64 x.d]] v fun e v' => ∃ A c, e = .returned (.slice A n c) ∧ v'.ownsRow v.heap.size 5 1 (.slice A n c) n (cellsOf bs) ∧ Below v.heap.size v v' := by
    intro v
    have h := implAddrBytes x v
    unfold BytesOut at h
    rwa [hbs, hnn] at h
  have SO := Lib.hid so
  have PO := Lib.hid io
  clear so io hbs hnn
  go_enter Try.func4, Try.ntmps4
  go_wp2_with fail
  refine (toAddrC x _).mono ?_
  rintro e w1 ⟨rfl, b1⟩
  go_wp2_with fail
  refine (SO.out _).mono ?_
  rintro e w2 ⟨A2, k2, rfl, o2, b2⟩
  have B2 := bthen b1 b2
  obtain ⟨c0, c1, c2, c3, c4⟩ := ad_box B2
  go_wp2_with fail
  refine (toAddrC x _).mono ?_
  rintro e w3 ⟨rfl, b3⟩
  go_wp2_with fail
  refine (PO.out _).mono ?_
  rintro e w4 ⟨A4, k4, rfl, o4, b4⟩
  clear c0 c1 c2 c3 c4
  have l2 := o2.lt
  have l4 := o4.lt
  have o2 := own_below (own_below o2 b3) b4
  have B4 := bthen (bthen B2 b3) b4
  go_wp2_with fail
  refine (eqBn _ _ n _ _ bs _ (RB.of_own o4) (RB.of_own o2) HN.out (by omega)).mono ?_
  rintro e w5 ⟨rfl, b5⟩
  have o2 := own_below o2 b5
  have o4 := own_below o4 b5
  have B5 := bthen B4 b5
  go_wp2_with fail
  refine (markBn _ n _ _ _ _ _ o4 (by omega) (by omega) (by omega)).mono ?_
  rintro e w6 ⟨rfl, o6, g6⟩
  have l24 : ∀ k, (Value.slice A4 n k4).ownBlock = some k → w2.heap.size ≤ k := fun k h => Nat.le_trans b3.size (l4 k h).1
  have o2 := own_grown o2 g6 (fun k h1 h2 => by have := (l2 k h1).2; have := l24 k h2; omega)
  have B6 := bgrown B5 g6 (fun k h => Nat.le_trans B2.size (l24 k h))
  go_wp2_with fail
  refine (heldBn _ n _ _ _ (RB.of_own o6) (by omega) (by omega) (by omega)).mono ?_
  rintro e w6' ⟨rfl, rfl⟩
  obtain ⟨c0, c1, c2, c3, c4⟩ := ad_box B6
  go_wp2_with fail
  refine (toAddrC x _).mono ?_
  rintro e w7 ⟨rfl, b7⟩
  go_wp2_with fail
  refine (PO.out _).mono ?_
  rintro e w8 ⟨A8, k8, rfl, o8, b8⟩
  clear c0 c1 c2 c3 c4
  have o2 := own_below (own_below o2 b7) b8
  have o6 := own_below (own_below o6 b7) b8
  go_wp2_with fail
  refine (eqBn _ _ n _ _ bs _ (RB.of_own o8) (RB.of_own o2) HN.out (by omega)).mono ?_
  rintro e w9 ⟨rfl, b9⟩
  have o6 := own_below o6 b9
  go_wp2_with fail
  refine (heldBn _ n _ _ _ (RB.of_own o6) (by omega) (by omega) (by omega)).mono ?_
  rintro e w9' ⟨rfl, rfl⟩
  go_wp2
  go_ret
  exact ⟨rfl, bthen (Joins.below_alloc1 w _) (bthen (bthen (bthen B6 b7) b8) b9)⟩

namespace fnExactAddrBytes
open Go.ChangeShapes Go.WideShapes Go.ChangeAt Go.RowKit
open Go.ChangeMaps (open_string shut_string)
theorem own : ownKnob Try.prog.godebug = none := by kernel_rfl
theorem laidOut : laidOutB Try.prog = true := by kernel_rfl

set_option maxRecDepth 100000 in
theorem lifted (os : Os) (started : os.Started) (H : Type) (enc : TypeId × Value → H) :
    ReturnsInHanded {} Try.checked os 4 .any (Rows.fnExactAddrBytesSpec.pre6 enc Try.prog Try.f4 Rows.fnExactAddrBytesRow.domain false) (Rows.fnExactAddrBytesSpec.post enc Try.prog Try.f4 false true false false) := by
  refine returnsInHanded_of_change (C := Try.checked) own started (by kernel_rfl) Try.func4
    (ChangeSpec.witness6 (enc := enc) (C := Try.checked) false ⟨#[], #[.agg #[.int .i64 0, .int .i64 0, .int .i64 0, .int .i64 0, .int .i64 0]], []⟩ 8 (by kernel_rfl) (by kernel_rfl) (by kernel_rfl) (by kernel_rfl)) ?_
  intro W base args ds gs before hval0 hW _ _
  have hval : ∀ (j : Nat) t v, Try.f4.params[j]? = some t → args[j]? = some v → Value.okWide Try.prog W .any base t v := hval0
  have hW' := hW
  obtain ⟨p, q, hA0, hV, rfl, _, _⟩ := hW
  have hA : DataW.TrodAll enc Try.prog W 0 (fun _ => true) true Try.f4.params.toList args.toList ds p := hA0
  rw [Try.params4] at hA hval
  obtain ⟨v0, vs0, d0, ds0, p0, q0, hargs, rfl, rfl, h0, r0⟩ := trodAll_cons hA
  obtain ⟨rfl, rfl, rfl⟩ := trodAll_nil r0
  obtain rfl : args = #[v0] := by cases args; simp_all
  obtain ⟨rfl, rfl⟩ := trodVars_none hV
  have k0 := h0
  have lt0 : ∀ x ∈ p0, x.block < W.heap.size := by obtain ⟨m, hm⟩ := k0; exact DataW.trod_lt m _ _ _ hm
  obtain ⟨a0, rfl⟩ := addr_in (hval 0 23 v0 rfl rfl) h0
  clear hA0 hval0
  refine (lawAddrBytes a0).mono fun e W' ⟨he, bel⟩ => ?_
  subst he
  exact ⟨_, rfl, _, _, _, [], _, [], hW', trodAll_mk1 (shut_bool Try.underlying4 _), (trodAll_cons_mk (Below.trod laidOut (by kernel_rfl) (of_decide_eq_true (by kernel_rfl)) k0 bel lt0) trodAll_mk0), rfl, bel.frame _, fun h => by cases h⟩

theorem proved : Rows.FnExactAddrBytesSaid :=
  OpenClaim.holds_of_wide 4 Try.f4 rfl rfl rfl rfl rfl rfl rfl ⟨rfl, rfl, rfl, rfl, rfl⟩ rfl rfl rfl rfl rfl (by kernel_rfl) Try.func4 (by kernel_rfl)
    (of_decide_eq_true (by kernel_rfl)) (by unfold Func.isWrapper; rw [if_neg (of_decide_eq_false (by kernel_rfl))]; exact ⟨rfl, rfl⟩)
    (fun os started H enc _ => lifted os started H enc)
#print axioms proved
end fnExactAddrBytes
end Go.Proofs.Ytckakpcjbndijaa
