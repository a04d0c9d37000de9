/-
  For every slice of bytes the law FnExactAddrOf returns true: impl.AddrOf answers what the model spec.AddrOf answers and writes nothing into its argument. No condition; the argument reads afterwards as before.
-/
import Derived.Test.YtckakpcjbndijaaAddrOf2
import Derived.Test.YtckakpcjbndijaaInBytes
import Derived.Test.YtckakpcjbndijaaRows
import Derived.ShutString
namespace Go.Proofs.Ytckakpcjbndijaa
open Go.RowKit

set_option maxHeartbeats 1000000 in
theorem lawAddrOf {w : World} (A : Option Addr) (n c : Nat) (bs : List UInt8) (hin : In w A n c bs) :
    Calls Try.prog 5 #[.slice A n c] w fun e w' => e = .returned (.bool true) ∧ Below w.heap.size w w' := by
  obtain ⟨rfl, hcap, hbig, hrb⟩ := hin
  unfold maxLen at hbig
  by_cases hn : bs.length ≤ 1048576
  · obtain ⟨y, hy⟩ : ∃ y, ofA bs = y := ⟨_, rfl⟩
    obtain ⟨ok, hok⟩ : ∃ ok, okA bs = ok := ⟨_, rfl⟩
    have so : ∀ (v : World) (D : Option Addr) (d : Nat), RB v v.heap.size D bs → Calls Try.prog 19 #[.slice D bs.length d] v fun e v' => e = .returned (.tuple #[.agg #[.int .i64 y.k, .int .i64 y.a, .int .i64 y.b, .int .i64 y.c, .int .i64 y.d], .bool ok]) ∧ Below v.heap.size v v' := by
      intro v D d hr
      have h := specAddrOf D bs.length d bs v hr rfl hn
      unfold OfOut at h
      rwa [hy, hok] at h
    have po : ∀ (v : World) (D : Option Addr) (d : Nat), RB v v.heap.size D bs → Calls Try.prog 21 #[.slice D bs.length d] v fun e v' => e = .returned (.tuple #[.agg #[.int .i64 y.k, .int .i64 y.a, .int .i64 y.b, .int .i64 y.c, .int .i64 y.d], .bool ok]) ∧ Below v.heap.size v v' := by
      intro v D d hr
      have h := implAddrOf D bs.length d bs v hr rfl hn
      unfold OfOut at h
      rwa [hy, hok] at h
    have SO := Lib.hid so
    have PO := Lib.hid po
    clear so po hy hok
    go_enter Try.func5, Try.ntmps5
    go_wp2_with fail
    refine (toB A c bs w hrb hn).mono ?_
    rintro e w1 ⟨rfl, o1, b1⟩
    go_wp2_with fail
    refine (SO.out _ _ _ (RB.of_own o1)).mono ?_
    rintro e w2 ⟨rfl, b2⟩
    have B2 := bthen b1 b2
    have H2 := Lib.hid (show ∀ o, RB (w2.alloc o) (w2.alloc o).heap.size A bs from fun o => (hrb.below (bthen B2 (Joins.below_alloc1 w2 o))).more (bthen B2 (Joins.below_alloc1 w2 o)).size)
    go_wp2_with fail
    refine (toB A c bs _ (H2.out _) hn).mono ?_
    rintro e w3 ⟨rfl, o3, b3⟩
    simp only [World.size_alloc] at o3
    go_wp2_with fail
    refine (PO.out _ _ _ (RB.of_own o3)).mono ?_
    rintro e w4 ⟨rfl, b4⟩
    have b34 := bthen b3 b4
    obtain ⟨c0, c1, c2, c3, c4⟩ := ad_box b34
    have hlt : w2.heap.size < w4.heap.size := by have := b34.size; simp at this; omega
    have B4 := bthen (bthen B2 (Joins.below_alloc1 w2 _)) b34
    have o4 := own_below o3 b4
    go_wp2_with fail
    refine (eqAddrC y _).mono ?_
    rintro e w5 ⟨rfl, b5⟩
    have B5 := bthen (bthen B4 (Joins.below_alloc1 w4 _)) b5
    have o5 := own_below (own_below o4 (Joins.below_alloc1 w4 _)) b5
    clear c0 c1 c2 c3 c4 b34
    go_wp2_with fail
    refine (toB A c bs _ ((hrb.below B5).more B5.size) hn).mono ?_
    rintro e w6 ⟨rfl, o6, b6⟩
    go_wp2_with fail
    refine (eqBn _ _ _ _ _ bs _ (RB.of_own (own_below o5 b6)) (RB.of_own o6) rfl hn).mono ?_
    rintro e w7 ⟨rfl, b7⟩
    go_wp2
    go_ret
    exact ⟨rfl, bthen (bthen B5 b6) b7⟩
  · go_enter Try.func5, Try.ntmps5
    go_wp2
    go_ret
    exact ⟨rfl, by go_grown⟩

namespace fnExactAddrOf
open Go.ChangeShapes Go.WideShapes Go.ChangeAt Go.RowKit
open Go.ChangeMaps (open_string shut_string)
theorem own : ownKnob Try.prog.godebug = none := by kernel_rfl
theorem laidOut : laidOutB Try.prog = true := by kernel_rfl

set_option maxRecDepth 100000 in
theorem lifted (os : Os) (started : os.Started) (H : Type) (enc : TypeId × Value → H) :
    ReturnsInHanded {} Try.checked os 5 .any (Rows.fnExactAddrOfSpec.pre6 enc Try.prog Try.f5 Rows.fnExactAddrOfRow.domain false) (Rows.fnExactAddrOfSpec.post enc Try.prog Try.f5 false true false false) := by
  refine returnsInHanded_of_change (C := Try.checked) own started (by kernel_rfl) Try.func5
    (ChangeSpec.witness6 (enc := enc) (C := Try.checked) false ⟨#[], #[.slice none 0 0], []⟩ 8 (by kernel_rfl) (by kernel_rfl) (by kernel_rfl) (by kernel_rfl)) ?_
  intro W base args ds gs before hval0 hW _ _
  have hval : ∀ (j : Nat) t v, Try.f5.params[j]? = some t → args[j]? = some v → Value.okWide Try.prog W .any base t v := hval0
  have hW' := hW
  obtain ⟨p, q, hA0, hV, rfl, _, _⟩ := hW
  have hA : DataW.TrodAll enc Try.prog W 0 (fun _ => true) true Try.f5.params.toList args.toList ds p := hA0
  rw [Try.params5] at hA hval
  obtain ⟨v0, vs0, d0, ds0, p0, q0, hargs, rfl, rfl, h0, r0⟩ := trodAll_cons hA
  obtain ⟨rfl, rfl, rfl⟩ := trodAll_nil r0
  obtain rfl : args = #[v0] := by cases args; simp_all
  obtain ⟨rfl, rfl⟩ := trodVars_none hV
  obtain ⟨a0, n0, c0, rfl⟩ := okWide_slice Try.underlying28 (hval 0 28 v0 rfl rfl)
  have k0 := h0
  have lt0 : ∀ x ∈ p0, x.block < W.heap.size := by obtain ⟨m, hm⟩ := k0; exact DataW.trod_lt m _ _ _ hm
  obtain ⟨b0, w0⟩ := bytes_in h0
  clear hA0 hval0
  refine (lawAddrOf a0 n0 c0 b0 w0).mono fun e W' ⟨he, bel⟩ => ?_
  subst he
  exact ⟨_, rfl, _, _, _, [], _, [], hW', trodAll_mk1 (shut_bool Try.underlying4 _), (trodAll_cons_mk (Below.trod laidOut (by kernel_rfl) (of_decide_eq_true (by kernel_rfl)) k0 bel lt0) trodAll_mk0), rfl, bel.frame _, fun h => by cases h⟩

theorem proved : Rows.FnExactAddrOfSaid :=
  OpenClaim.holds_of_wide 5 Try.f5 rfl rfl rfl rfl rfl rfl rfl ⟨rfl, rfl, rfl, rfl, rfl⟩ rfl rfl rfl rfl rfl (by kernel_rfl) Try.func5 (by kernel_rfl)
    (of_decide_eq_true (by kernel_rfl)) (by unfold Func.isWrapper; rw [if_neg (of_decide_eq_false (by kernel_rfl))]; exact ⟨rfl, rfl⟩)
    (fun os started H enc _ => lifted os started H enc)
#print axioms proved
end fnExactAddrOf
end Go.Proofs.Ytckakpcjbndijaa
