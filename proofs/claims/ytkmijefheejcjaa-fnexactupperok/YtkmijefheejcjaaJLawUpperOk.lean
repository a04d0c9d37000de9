/-
  UpperOk answers as its model. The law FnExactUpperOk holds at every upper layer and every integer: no condition; the argument reads afterwards as before.
-/
import Derived.Test.YtkmijefheejcjaaRows
import Derived.Test.YtkmijefheejcjaaKp02
import Derived.Test.YtkmijefheejcjaaKp04
import Derived.Test.YtkmijefheejcjaaKp15
import Derived.Test.YtkmijefheejcjaaKp26
import Derived.ShutString
namespace Go.Proofs.Ytkmijefheejcjaa
set_option maxRecDepth 100000
open Go.RowKit

set_option maxRecDepth 100000 in
set_option maxHeartbeats 1000000 in
theorem lawUpperOk_big1 {w : World} (kd : Int) (x : Uh) (A D : Option Addr) (n c m d : Nat) (h : 1048576 < n) (hn : n ≤ maxLen) : Calls Try.prog 8 #[.agg #[.int .i64 x.kind, .int .i64 x.sport, .int .i64 x.dport, .int .i64 x.seq, .int .i64 x.ack, .int .i64 x.bits, .int .i64 x.window, .int .i64 x.urgent, .int .i64 x.ty, .int .i64 x.code, .int .i64 x.rest, .bool x.nosum, .slice A n c, .slice D m d], .int .i64 kd] w fun e w' => e = .returned (.bool true) ∧ Below w.heap.size w w' := by
  have H := Lib.hid (show (1048576 : Int) < n by omega)
  have q0 := Lib.hid (K.new w (.cells #[.int .i64 x.kind, .int .i64 x.sport, .int .i64 x.dport, .int .i64 x.seq, .int .i64 x.ack, .int .i64 x.bits, .int .i64 x.window, .int .i64 x.urgent, .int .i64 x.ty, .int .i64 x.code, .int .i64 x.rest, .bool x.nosum, .slice A n c, .slice D m d] 52))
  clear h
  go_enter Try.func8, Try.ntmps8
  go_wp2_with (with_reducible refine loadLU rfl _ rfl w.heap.size rfl q0.out ?_)
  refine Calls.mono (szUp_no1 x A D n c m d _ _ H.out (by omega) hn) ?_
  rintro e w1 ⟨rfl, b1⟩
  go_wp2
  go_ret
  exact ⟨rfl, bthen (Joins.below_alloc1 w _) b1⟩

set_option maxRecDepth 100000 in
set_option maxHeartbeats 1000000 in
theorem lawUpperOk_big2 {w : World} (kd : Int) (x : Uh) (A D : Option Addr) (n c m d : Nat) (h1 : n ≤ 1048576) (h : 1048576 < n + m) (hm : m ≤ maxLen) : Calls Try.prog 8 #[.agg #[.int .i64 x.kind, .int .i64 x.sport, .int .i64 x.dport, .int .i64 x.seq, .int .i64 x.ack, .int .i64 x.bits, .int .i64 x.window, .int .i64 x.urgent, .int .i64 x.ty, .int .i64 x.code, .int .i64 x.rest, .bool x.nosum, .slice A n c, .slice D m d], .int .i64 kd] w fun e w' => e = .returned (.bool true) ∧ Below w.heap.size w w' := by
  have H := Lib.hid (show (1048576 : Int) < n + m by omega)
  have q0 := Lib.hid (K.new w (.cells #[.int .i64 x.kind, .int .i64 x.sport, .int .i64 x.dport, .int .i64 x.seq, .int .i64 x.ack, .int .i64 x.bits, .int .i64 x.window, .int .i64 x.urgent, .int .i64 x.ty, .int .i64 x.code, .int .i64 x.rest, .bool x.nosum, .slice A n c, .slice D m d] 52))
  clear h
  go_enter Try.func8, Try.ntmps8
  go_wp2_with (with_reducible refine loadLU rfl _ rfl w.heap.size rfl q0.out ?_)
  refine Calls.mono (szUp_no2 x A D n c m d _ _ (by omega) (by omega) H.out hm) ?_
  rintro e w1 ⟨rfl, b1⟩
  go_wp2
  go_ret
  exact ⟨rfl, bthen (Joins.below_alloc1 w _) b1⟩

set_option maxRecDepth 100000 in
set_option maxHeartbeats 4000000 in
theorem lawUpperOk_small {w : World} (kd : Int) (x : Uh) (A D : Option Addr) (n c m d : Nat) (os bs : List UInt8) (hr : RB w w.heap.size A os) (hl : os.length = n) (hs : RB w w.heap.size D bs) (hk : bs.length = m) (hn : n + m ≤ 1048576) : Calls Try.prog 8 #[.agg #[.int .i64 x.kind, .int .i64 x.sport, .int .i64 x.dport, .int .i64 x.seq, .int .i64 x.ack, .int .i64 x.bits, .int .i64 x.window, .int .i64 x.urgent, .int .i64 x.ty, .int .i64 x.code, .int .i64 x.rest, .bool x.nosum, .slice A n c, .slice D m d], .int .i64 kd] w fun e w' => e = .returned (.bool true) ∧ Below w.heap.size w w' := by
  have HL := Lib.hid hl
  have HK := Lib.hid hk
  have R0 := Lib.hid hr
  have S0 := Lib.hid hs
  have q0 := Lib.hid (K.new w (.cells #[.int .i64 x.kind, .int .i64 x.sport, .int .i64 x.dport, .int .i64 x.seq, .int .i64 x.ack, .int .i64 x.bits, .int .i64 x.window, .int .i64 x.urgent, .int .i64 x.ty, .int .i64 x.code, .int .i64 x.rest, .bool x.nosum, .slice A n c, .slice D m d] 52))
  clear hl hr hk hs
  go_enter Try.func8, Try.ntmps8
  go_wp2_with (with_reducible refine loadLU rfl _ rfl w.heap.size rfl q0.out ?_)
  refine Calls.mono (szUp_yes x A D n c m d _ _ (by omega) (by omega)) ?_
  rintro e w1 ⟨⟨r, rfl, hr0⟩, b1⟩
  have q1 := Lib.hid (K.below b1 q0.out)
  have B1 := Lib.hid (bthen (Joins.below_alloc1 w _) b1)
  clear b1
  go_wp2_with (with_reducible refine loadLU rfl _ rfl w.heap.size rfl q1.out ?_)
  refine Calls.mono (toUpC x A D n c m d os bs _ ((R0.out.below B1.out).more B1.out.size) HL.out (by omega) ((S0.out.below B1.out).more B1.out.size) HK.out (by omega)) ?_
  rintro e w2 ⟨A2, c2, D2, d2, rfl, o2, p2, a2, b2⟩
  have O2 := Lib.hid o2
  have P2 := Lib.hid p2
  have q2 := Lib.hid (K.below b2 q1.out)
  have B2 := Lib.hid (bthen B1.out b2)
  clear o2 p2 a2 b2 hr0
  go_wp2_with fail
  refine Calls.mono (specUpOk x A2 D2 n c2 m d2 kd _ (by omega) (by omega)) ?_
  rintro e w3 ⟨rfl, b3⟩
  have q3 := Lib.hid (K.below b3 q2.out)
  have B3 := Lib.hid (bthen B2.out b3)
  clear b3
  go_wp2_with (with_reducible refine loadLU rfl _ rfl w.heap.size rfl q3.out ?_)
  refine Calls.mono (toUpC x A D n c m d os bs _ ((R0.out.below B3.out).more B3.out.size) HL.out (by omega) ((S0.out.below B3.out).more B3.out.size) HK.out (by omega)) ?_
  rintro e w4 ⟨A4, c4, D4, d4, rfl, o4, p4, a4, b4⟩
  have q4 := Lib.hid (K.below b4 q3.out)
  have B4 := Lib.hid (bthen B3.out b4)
  have O4 := Lib.hid o4
  have P4 := Lib.hid p4
  clear o4 p4 a4 b4
  have y4 := Lib.hid (K.new w4 (.cells #[.int .i64 x.kind, .int .i64 x.sport, .int .i64 x.dport, .int .i64 x.seq, .int .i64 x.ack, .int .i64 x.bits, .int .i64 x.window, .int .i64 x.urgent, .int .i64 x.ty, .int .i64 x.code, .int .i64 x.rest, .bool x.nosum, .slice A4 n c4, .slice D4 m d4] 38))
  go_wp2_with (first | (with_reducible refine storeNewU rfl _ _ rfl rfl rfl ?_) | (with_reducible refine loadU rfl _ rfl w4.heap.size rfl y4.out ?_))
  refine Calls.mono (implUpOk x A4 D4 n c4 m d4 kd _ (by omega) (by omega)) ?_
  rintro e w5 ⟨rfl, b5⟩
  have r5 := Lib.hid (K.newB b5)
  have q5 := Lib.hid (K.below b5 (K.old q4.out _))
  have O5 := Lib.hid (own_below (O4.out.alloc (.cells #[.int .i64 x.kind, .int .i64 x.sport, .int .i64 x.dport, .int .i64 x.seq, .int .i64 x.ack, .int .i64 x.bits, .int .i64 x.window, .int .i64 x.urgent, .int .i64 x.ty, .int .i64 x.code, .int .i64 x.rest, .bool x.nosum, .slice A4 n c4, .slice D4 m d4] 38)) b5)
  have P5 := Lib.hid (own_below (P4.out.alloc (.cells #[.int .i64 x.kind, .int .i64 x.sport, .int .i64 x.dport, .int .i64 x.seq, .int .i64 x.ack, .int .i64 x.bits, .int .i64 x.window, .int .i64 x.urgent, .int .i64 x.ty, .int .i64 x.code, .int .i64 x.rest, .bool x.nosum, .slice A4 n c4, .slice D4 m d4] 38)) b5)
  have B5 := Lib.hid (bthen (bthen B4.out (Joins.below_alloc1 w4 _)) b5)
  clear b5
  go_wp2_with fail
  refine sameUpRegion 31 2 7 26 w.heap.size w4.heap.size _ _ _ _ _ _ _ _ rfl (by kernel_rfl) rfl (by omega) ⟨rfl, rfl⟩ ⟨rfl, rfl⟩ ⟨rfl, rfl⟩ ⟨rfl, rfl⟩ ⟨rfl, rfl⟩ (by kernel_rfl) (by kernel_rfl) (by kernel_rfl) (by kernel_rfl) rfl rfl x A D A4 D4 n c m d c4 d4 os bs q5.out r5.out ((R0.out.below B5.out).more B5.out.size) ((S0.out.below B5.out).more B5.out.size) (RB.of_own O5.out) (RB.of_own P5.out) HL.out HK.out (by omega) (by omega) ?_
  intro w7 u7 b7
  have B7 := Lib.hid (bthen B5.out b7)
  clear b7
  go_simp
  go_wp2
  go_ret
  exact ⟨rfl, B7.out⟩

theorem lawUpperOk {w : World} (x : Uh) (A : Option Addr) (n c : Nat) (os : List UInt8) (D : Option Addr) (m d : Nat) (bs : List UInt8) (h : In w A n c os) (k : In w D m d bs) (kd : Int) (_ : (Lit.int .i64 kd).wf = true) : Calls Try.prog 8 #[.agg #[.int .i64 x.kind, .int .i64 x.sport, .int .i64 x.dport, .int .i64 x.seq, .int .i64 x.ack, .int .i64 x.bits, .int .i64 x.window, .int .i64 x.urgent, .int .i64 x.ty, .int .i64 x.code, .int .i64 x.rest, .bool x.nosum, .slice A n c, .slice D m d], .int .i64 kd] w fun e w' => e = .returned (.bool true) ∧ Below w.heap.size w w' := by
  by_cases hb : n + m ≤ 1048576
  · exact lawUpperOk_small kd x A D n c m d os bs h.rb h.len k.rb k.len hb
  · by_cases hc : n ≤ 1048576
    · exact lawUpperOk_big2 kd x A D n c m d hc (by omega) (Nat.le_trans k.cap k.big)
    · exact lawUpperOk_big1 kd x A D n c m d (by omega) (Nat.le_trans h.cap h.big)

namespace fnExactUpperOk
open Go.ChangeShapes Go.WideShapes Go.ChangeAt Go.RowKit
open Go.ChangeMaps (open_string shut_string)
theorem own : ownKnob Try.prog.godebug = none := by kernel_rfl
theorem laidOut : laidOutB Try.prog = true := by kernel_rfl

set_option maxRecDepth 100000 in
theorem lifted (os : Os) (started : os.Started) (H : Type) (enc : TypeId × Value → H) :
    ReturnsInHanded {} Try.checked os 8 .any (Rows.fnExactUpperOkSpec.pre6 enc Try.prog Try.f8 Rows.fnExactUpperOkRow.domain false) (Rows.fnExactUpperOkSpec.post enc Try.prog Try.f8 false true false false) := by
  refine returnsInHanded_of_change (C := Try.checked) own started (by kernel_rfl) Try.func8
    (ChangeSpec.witness6 (enc := enc) (C := Try.checked) false ⟨#[], #[.agg #[.int .i64 0, .int .i64 0, .int .i64 0, .int .i64 0, .int .i64 0, .int .i64 0, .int .i64 0, .int .i64 0, .int .i64 0, .int .i64 0, .int .i64 0, .bool false, .slice none 0 0, .slice none 0 0], .int .i64 0], []⟩ 8 (by kernel_rfl) (by kernel_rfl) (by kernel_rfl) (by kernel_rfl)) ?_
  intro W base args ds gs before hval0 hW _ _
  have hval : ∀ (j : Nat) t v, Try.f8.params[j]? = some t → args[j]? = some v → Value.okWide Try.prog W .any base t v := hval0
  have hW' := hW
  obtain ⟨p, q, hA0, hV, rfl, _, _⟩ := hW
  have hA : DataW.TrodAll enc Try.prog W 0 (fun _ => true) true Try.f8.params.toList args.toList ds p := hA0
  rw [Try.params8] at hA hval
  obtain ⟨v0, vs0, d0, ds0, p0, q0, hargs, rfl, rfl, h0, r0⟩ := trodAll_cons hA
  obtain ⟨v1, vs1, d1, ds1, p1, q1, rfl, rfl, rfl, h1, r1⟩ := trodAll_cons r0
  obtain ⟨rfl, rfl, rfl⟩ := trodAll_nil r1
  obtain rfl : args = #[v0, v1] := by cases args; simp_all
  obtain ⟨rfl, rfl⟩ := trodVars_none hV
  have k0 := h0
  have lt0 : ∀ x ∈ p0, x.block < W.heap.size := by obtain ⟨m, hm⟩ := k0; exact DataW.trod_lt m _ _ _ hm
  obtain ⟨a0, A0, n0, c0, b0, D0, m0, e0, s0, rfl, w0, u0⟩ := up_in (hval 0 52 v0 rfl rfl) h0
  obtain ⟨a1, rfl, rfl, rfl, w1⟩ := open_int Try.underlying3 (hval 1 3 v1 rfl rfl) h1
  clear hA0 hval0
  refine (lawUpperOk a0 A0 n0 c0 b0 D0 m0 e0 s0 w0 u0 a1 w1).mono fun e W' ⟨he, bel⟩ => ?_
  subst he
  exact ⟨_, rfl, _, _, _, [], _, [], hW', trodAll_mk1 (shut_bool Try.underlying4 _), (trodAll_cons_mk (Below.trod laidOut (by kernel_rfl) (of_decide_eq_true (by kernel_rfl)) k0 bel lt0) (trodAll_cons_mk (shut_int Try.underlying3 w1) trodAll_mk0)), rfl, bel.frame _, fun h => by cases h⟩

theorem proved : Rows.FnExactUpperOkSaid :=
  OpenClaim.holds_of_wide 8 Try.f8 rfl rfl rfl rfl rfl rfl rfl ⟨rfl, rfl, rfl, rfl, rfl⟩ rfl rfl rfl rfl rfl (by kernel_rfl) Try.func8 (by kernel_rfl)
    (of_decide_eq_true (by kernel_rfl)) (by unfold Func.isWrapper; rw [if_neg (of_decide_eq_false (by kernel_rfl))]; exact ⟨rfl, rfl⟩)
    (fun os started H enc _ => lifted os started H enc)
#print axioms proved
end fnExactUpperOk
end Go.Proofs.Ytkmijefheejcjaa
