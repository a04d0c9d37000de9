/-
  The checksum of an upper layer is the same between the same two addresses in the other direction. The law FnUpperTurned holds at every code: no condition; the argument reads afterwards as before.
-/
import Derived.Test.YthogonpjkngpjaaRows
import Derived.Test.YthogonpjkngpjaaRb01
import Derived.Test.YthogonpjkngpjaaRb26
import Derived.Test.YthogonpjkngpjaaRb27
import Derived.Test.YthogonpjkngpjaaRb28
import Derived.ShutString
namespace Go.Proofs.Ythogonpjkngpjaa
set_option maxRecDepth 100000
open Go.RowKit

set_option maxHeartbeats 400000 in
theorem bigU (A : Option Addr) (n c : Nat) (b : Bool) (w : World) (h : decide ((1048576 : Int) < n) = b) : Calls Try.prog 24 #[.slice A n c] w fun e w' => e = .returned (.bool b) ∧ w = w' := by
  have H := Lib.hid h
  clear h
  go_enter Try.func24, Try.ntmps24
  go_wp2
  go_ret
  exact ⟨ret_bool H.out, rfl⟩

set_option maxHeartbeats 400000 in
theorem lawUT_big {w : World} (A : Option Addr) (n c : Nat) (h : 1048576 < n) : Calls Try.prog 6 #[.slice A n c] w fun e w' => e = .returned (.bool true) ∧ Below w.heap.size w w' := by
  have H := Lib.hid (show decide ((1048576 : Int) < n) = true by simp; omega)
  clear h
  go_enter Try.func6, Try.ntmps6
  go_wp2_with fail
  refine Calls.mono (bigU A n c true _ H.out) ?_
  rintro e w1 ⟨rfl, rfl⟩
  go_wp2
  go_ret
  exact ⟨rfl, Below.refl _ _⟩

set_option maxHeartbeats 4000000 in
theorem lawUT_small {w : World} (A : Option Addr) (n c : Nat) (bs : List UInt8) (hr : RB w w.heap.size A bs) (hl : bs.length = n) (hn : n ≤ 1048576) : Calls Try.prog 6 #[.slice A n c] w fun e w' => e = .returned (.bool true) ∧ Below w.heap.size w w' := by
  have H := Lib.hid (show decide ((1048576 : Int) < n) = false by simp; omega)
  have R0 := Lib.hid hr
  have HL := Lib.hid hl
  clear hr hl
  go_enter Try.func6, Try.ntmps6
  go_wp2_with fail
  refine Calls.mono (bigU A n c false _ H.out) ?_
  rintro e w1 ⟨rfl, rfl⟩
  go_wp2_with fail
  refine Calls.mono (drawUpSum A n c bs _ R0.out HL.out hn) ?_
  rintro e w2 ⟨x, os, ds, s, t, O, oc, D, d, hos, hds, rfl, oo, od, b2⟩
  obtain ⟨S, hS⟩ : ∃ S, x.sum os ds s t = S := ⟨_, rfl⟩
  have HS := Lib.hid hS
  have HT := Lib.hid (show x.sum os ds t s = S by rw [← Uh.sum_turn x os ds s t]; exact hS)
  clear hS
  obtain ⟨P, hP⟩ : ∃ m, os.length = m := ⟨_, rfl⟩
  obtain ⟨Q, hQ⟩ : ∃ m, ds.length = m := ⟨_, rfl⟩
  rw [hP] at oo hos ⊢
  rw [hQ] at od hds ⊢
  have HP := Lib.hid hP
  have HQ := Lib.hid hQ
  have q0 : Hid ((((w2.alloc (.cells #[.int .i64 x.kind, .int .i64 x.sport, .int .i64 x.dport, .int .i64 x.seq, .int .i64 x.ack, .int .i64 x.bits, .int .i64 x.window, .int .i64 x.urgent, .int .i64 x.ty, .int .i64 x.code, .int .i64 x.rest, .bool x.nosum, .slice O P oc, .slice D Q d] 36)).alloc (.cells #[.int .i64 s.k, .int .i64 s.a, .int .i64 s.b, .int .i64 s.c, .int .i64 s.d] 27)).alloc (.cells #[.int .i64 t.k, .int .i64 t.a, .int .i64 t.b, .int .i64 t.c, .int .i64 t.d] 27)).heap[w2.heap.size]? = some (.cells #[.int .i64 x.kind, .int .i64 x.sport, .int .i64 x.dport, .int .i64 x.seq, .int .i64 x.ack, .int .i64 x.bits, .int .i64 x.window, .int .i64 x.urgent, .int .i64 x.ty, .int .i64 x.code, .int .i64 x.rest, .bool x.nosum, .slice O P oc, .slice D Q d] 36)) := Lib.hid (by repeat (first | exact K.newAt (by first | rfl | (simp; done)) | refine K.oldAt (by first | (simp; done) | (simp; omega)) ?_))
  have q1 : Hid ((((w2.alloc (.cells #[.int .i64 x.kind, .int .i64 x.sport, .int .i64 x.dport, .int .i64 x.seq, .int .i64 x.ack, .int .i64 x.bits, .int .i64 x.window, .int .i64 x.urgent, .int .i64 x.ty, .int .i64 x.code, .int .i64 x.rest, .bool x.nosum, .slice O P oc, .slice D Q d] 36)).alloc (.cells #[.int .i64 s.k, .int .i64 s.a, .int .i64 s.b, .int .i64 s.c, .int .i64 s.d] 27)).alloc (.cells #[.int .i64 t.k, .int .i64 t.a, .int .i64 t.b, .int .i64 t.c, .int .i64 t.d] 27)).heap[w2.heap.size + 1]? = some (.cells #[.int .i64 s.k, .int .i64 s.a, .int .i64 s.b, .int .i64 s.c, .int .i64 s.d] 27)) := Lib.hid (by repeat (first | exact K.newAt (by first | rfl | (simp; done)) | refine K.oldAt (by first | (simp; done) | (simp; omega)) ?_))
  have q2 : Hid ((((w2.alloc (.cells #[.int .i64 x.kind, .int .i64 x.sport, .int .i64 x.dport, .int .i64 x.seq, .int .i64 x.ack, .int .i64 x.bits, .int .i64 x.window, .int .i64 x.urgent, .int .i64 x.ty, .int .i64 x.code, .int .i64 x.rest, .bool x.nosum, .slice O P oc, .slice D Q d] 36)).alloc (.cells #[.int .i64 s.k, .int .i64 s.a, .int .i64 s.b, .int .i64 s.c, .int .i64 s.d] 27)).alloc (.cells #[.int .i64 t.k, .int .i64 t.a, .int .i64 t.b, .int .i64 t.c, .int .i64 t.d] 27)).heap[w2.heap.size + 1 + 1]? = some (.cells #[.int .i64 t.k, .int .i64 t.a, .int .i64 t.b, .int .i64 t.c, .int .i64 t.d] 27)) := Lib.hid (K.newAt (by simp))
  have OO := Lib.hid (((oo.alloc (.cells #[.int .i64 x.kind, .int .i64 x.sport, .int .i64 x.dport, .int .i64 x.seq, .int .i64 x.ack, .int .i64 x.bits, .int .i64 x.window, .int .i64 x.urgent, .int .i64 x.ty, .int .i64 x.code, .int .i64 x.rest, .bool x.nosum, .slice O P oc, .slice D Q d] 36)).alloc (.cells #[.int .i64 s.k, .int .i64 s.a, .int .i64 s.b, .int .i64 s.c, .int .i64 s.d] 27)).alloc (.cells #[.int .i64 t.k, .int .i64 t.a, .int .i64 t.b, .int .i64 t.c, .int .i64 t.d] 27))
  have OD := Lib.hid (((od.alloc (.cells #[.int .i64 x.kind, .int .i64 x.sport, .int .i64 x.dport, .int .i64 x.seq, .int .i64 x.ack, .int .i64 x.bits, .int .i64 x.window, .int .i64 x.urgent, .int .i64 x.ty, .int .i64 x.code, .int .i64 x.rest, .bool x.nosum, .slice O P oc, .slice D Q d] 36)).alloc (.cells #[.int .i64 s.k, .int .i64 s.a, .int .i64 s.b, .int .i64 s.c, .int .i64 s.d] 27)).alloc (.cells #[.int .i64 t.k, .int .i64 t.a, .int .i64 t.b, .int .i64 t.c, .int .i64 t.d] 27))
  have B2 : Hid (Below w.heap.size w (((w2.alloc (.cells #[.int .i64 x.kind, .int .i64 x.sport, .int .i64 x.dport, .int .i64 x.seq, .int .i64 x.ack, .int .i64 x.bits, .int .i64 x.window, .int .i64 x.urgent, .int .i64 x.ty, .int .i64 x.code, .int .i64 x.rest, .bool x.nosum, .slice O P oc, .slice D Q d] 36)).alloc (.cells #[.int .i64 s.k, .int .i64 s.a, .int .i64 s.b, .int .i64 s.c, .int .i64 s.d] 27)).alloc (.cells #[.int .i64 t.k, .int .i64 t.a, .int .i64 t.b, .int .i64 t.c, .int .i64 t.d] 27))) := Lib.hid (bthen (bthen b2 (Joins.below_alloc2 w2 _ _)) (Joins.below_alloc1 _ _))
  clear oo od b2 hP hQ
  go_wp2_with (first | (with_reducible refine storeNewU rfl _ _ rfl rfl rfl ?_) | (with_reducible refine loadU rfl _ rfl w2.heap.size rfl q0.out ?_) | (with_reducible refine loadA rfl _ rfl (w2.heap.size + 1) rfl q1.out ?_) | (with_reducible refine loadA rfl _ rfl (w2.heap.size + 1 + 1) rfl q2.out ?_))
  refine Calls.mono (usS x s t O D P oc Q d os ds _ (RB.of_own OO.out) HP.out (RB.of_own OD.out) HQ.out (by omega) (by omega)) ?_
  rintro e w3 ⟨rfl, b3⟩
  rw [HS.out]
  have r0 := Lib.hid (K.below b3 q0.out)
  have r1 := Lib.hid (K.below b3 q1.out)
  have r2 := Lib.hid (K.below b3 q2.out)
  have OO3 := Lib.hid (own_below OO.out b3)
  have OD3 := Lib.hid (own_below OD.out b3)
  have B3 := Lib.hid (bthen B2.out b3)
  clear b3 q0 q1 q2 OO OD B2
  go_wp2_with (first | (with_reducible refine loadU rfl _ rfl w2.heap.size rfl r0.out ?_) | (with_reducible refine loadA rfl _ rfl (w2.heap.size + 1) rfl r1.out ?_) | (with_reducible refine loadA rfl _ rfl (w2.heap.size + 1 + 1) rfl r2.out ?_))
  refine Calls.mono (usI x t s O D P oc Q d os ds _ (RB.of_own OO3.out) HP.out (RB.of_own OD3.out) HQ.out (by omega) (by omega)) ?_
  rintro e w4 ⟨rfl, b4⟩
  rw [HT.out]
  have B4 := Lib.hid (bthen B3.out b4)
  have hSS : (S == S) = true := by simp
  clear b4 r0 r1 r2
  go_wp2
  go_ret
  exact ⟨rfl, B4.out⟩

theorem lawUpperTurned {w : World} (A : Option Addr) (n c : Nat) (bs : List UInt8) (h : In w A n c bs) : Calls Try.prog 6 #[.slice A n c] w fun e w' => e = .returned (.bool true) ∧ Below w.heap.size w w' := by
  by_cases hb : n ≤ 1048576
  · exact lawUT_small A n c bs h.rb h.len hb
  · exact lawUT_big A n c (by omega)

namespace fnUpperTurned
open Go.ChangeShapes Go.WideShapes Go.ChangeAt Go.RowKit
open Go.ChangeMaps (open_string shut_string)
theorem own : ownKnob Try.prog.godebug = none := by kernel_rfl
theorem laidOut : laidOutB Try.prog = true := by kernel_rfl

set_option maxRecDepth 100000 in
theorem lifted (os : Os) (started : os.Started) (H : Type) (enc : TypeId × Value → H) :
    ReturnsInHanded {} Try.checked os 6 .any (Rows.fnUpperTurnedSpec.pre6 enc Try.prog Try.f6 Rows.fnUpperTurnedRow.domain false) (Rows.fnUpperTurnedSpec.post enc Try.prog Try.f6 false true false false) := by
  refine returnsInHanded_of_change (C := Try.checked) own started (by kernel_rfl) Try.func6
    (ChangeSpec.witness6 (enc := enc) (C := Try.checked) false ⟨#[], #[.slice none 0 0], []⟩ 8 (by kernel_rfl) (by kernel_rfl) (by kernel_rfl) (by kernel_rfl)) ?_
  intro W base args ds gs before hval0 hW _ _
  have hval : ∀ (j : Nat) t v, Try.f6.params[j]? = some t → args[j]? = some v → Value.okWide Try.prog W .any base t v := hval0
  have hW' := hW
  obtain ⟨p, q, hA0, hV, rfl, _, _⟩ := hW
  have hA : DataW.TrodAll enc Try.prog W 0 (fun _ => true) true Try.f6.params.toList args.toList ds p := hA0
  rw [Try.params6] at hA hval
  obtain ⟨v0, vs0, d0, ds0, p0, q0, hargs, rfl, rfl, h0, r0⟩ := trodAll_cons hA
  obtain ⟨rfl, rfl, rfl⟩ := trodAll_nil r0
  obtain rfl : args = #[v0] := by cases args; simp_all
  obtain ⟨rfl, rfl⟩ := trodVars_none hV
  obtain ⟨a0, n0, c0, rfl⟩ := okWide_slice Try.underlying34 (hval 0 34 v0 rfl rfl)
  have k0 := h0
  have lt0 : ∀ x ∈ p0, x.block < W.heap.size := by obtain ⟨m, hm⟩ := k0; exact DataW.trod_lt m _ _ _ hm
  obtain ⟨b0, w0⟩ := bytes_in h0
  clear hA0 hval0
  refine (lawUpperTurned a0 n0 c0 b0 w0).mono fun e W' ⟨he, bel⟩ => ?_
  subst he
  exact ⟨_, rfl, _, _, _, [], _, [], hW', trodAll_mk1 (shut_bool Try.underlying4 _), (trodAll_cons_mk (Below.trod laidOut (by kernel_rfl) (of_decide_eq_true (by kernel_rfl)) k0 bel lt0) trodAll_mk0), rfl, bel.frame _, fun h => by cases h⟩

theorem proved : Rows.FnUpperTurnedSaid :=
  OpenClaim.holds_of_wide 6 Try.f6 rfl rfl rfl rfl rfl rfl rfl ⟨rfl, rfl, rfl, rfl, rfl⟩ rfl rfl rfl rfl rfl (by kernel_rfl) Try.func6 (by kernel_rfl)
    (of_decide_eq_true (by kernel_rfl)) (by unfold Func.isWrapper; rw [if_neg (of_decide_eq_false (by kernel_rfl))]; exact ⟨rfl, rfl⟩)
    (fun os started H enc _ => lifted os started H enc)
#print axioms proved
end fnUpperTurned
end Go.Proofs.Ythogonpjkngpjaa
