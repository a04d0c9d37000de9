/-
  ExtsSize answers as its model. The law FnExactExtsSize holds at every packet: no condition; the argument reads afterwards as before.
-/
import Derived.Test.YtegpaocoepcemaaRows
import Derived.Test.YtegpaocoepcemaaInSix
import Derived.Test.YtegpaocoepcemaaSixSz
import Derived.Test.YtegpaocoepcemaaSixSize
import Derived.ShutString
namespace Go.Proofs.Ytegpaocoepcemaa
set_option maxRecDepth 100000
open Go.RowKit

set_option maxHeartbeats 4000000 in
theorem lawExtsSize {w : World} (x : Sh) (A : Option Addr) (n c : Nat) (ys : List Ey) (D : Option Addr) (m d : Nat) (bs : List UInt8) (h : XIn w A n c ys) (k : In w D m d bs) : Calls Try.prog 4 #[.agg #[.int .i64 x.cls, .int .i64 x.label, .int .i64 x.hops, .int .i64 x.proto, .int .i64 x.src.k, .int .i64 x.src.a, .int .i64 x.src.b, .int .i64 x.src.c, .int .i64 x.src.d, .int .i64 x.dst.k, .int .i64 x.dst.a, .int .i64 x.dst.b, .int .i64 x.dst.c, .int .i64 x.dst.d, .slice A n c, .slice D m d]] w fun e w' => e = .returned (.bool true) ∧ Below w.heap.size w w' := by
  have HL := Lib.hid h.len
  have HK := Lib.hid k.len
  have R0 := Lib.hid h.xr
  have S0 := Lib.hid k.rb
  have HI := Lib.hid (fun o : Obj => (⟨h.len, h.cap, h.big, (h.row.below (Joins.below_alloc1 w o)).more (by simp), fun y hy => ⟨(h.body y hy).len, (h.body y hy).cap, (h.body y hy).big, ((h.body y hy).rb.below (Joins.below_alloc1 w o)).more (by simp)⟩⟩ : XIn (w.alloc o) A n c ys))
  have HJ := Lib.hid (fun o : Obj => (⟨k.len, k.cap, k.big, (k.rb.below (Joins.below_alloc1 w o)).more (by simp)⟩ : In (w.alloc o) D m d bs))
  have q0 := Lib.hid (K.new w (.cells #[.int .i64 x.cls, .int .i64 x.label, .int .i64 x.hops, .int .i64 x.proto, .int .i64 x.src.k, .int .i64 x.src.a, .int .i64 x.src.b, .int .i64 x.src.c, .int .i64 x.src.d, .int .i64 x.dst.k, .int .i64 x.dst.a, .int .i64 x.dst.b, .int .i64 x.dst.c, .int .i64 x.dst.d, .slice A n c, .slice D m d] 30))
  clear h k
  go_enter Try.func4, Try.ntmps4
  go_wp2_with (with_reducible refine loadLS rfl _ rfl w.heap.size rfl q0.out ?_)
  refine Calls.mono (szSixC x A D n c m d ys bs _ (HI.out _) (HJ.out _)) ?_
  rintro e w1 ⟨r, rfl, hr, b1⟩
  have q1 := Lib.hid (K.below b1 q0.out)
  have B1 := Lib.hid (bthen (Joins.below_alloc1 w _) b1)
  clear b1 HI HJ
  by_cases h0 : r < 0
  · clear hr
    go_wp2
    go_ret
    exact ⟨rfl, B1.out⟩
  have hr1 : n + bodies ys + m ≤ 1048576 := by omega
  have hr0 : 0 ≤ r := by omega
  have HB := Lib.hid (show bodies ys ≤ 1048576 by omega)
  clear hr h0
  go_wp2_with (with_reducible refine loadLS rfl _ rfl w.heap.size rfl q1.out ?_)
  refine Calls.mono (toSixC x A D n c m d ys bs _ (R0.out.on B1.out) HL.out (by omega) HB.out ((S0.out.below B1.out).more B1.out.size) HK.out (by omega)) ?_
  rintro e w2 ⟨A2, c2, zs2, D2, d2, rfl, o2, z2, p2, a2, b2⟩
  have O2 := Lib.hid o2
  have Z2 := Lib.hid z2
  have q2 := Lib.hid (K.below b2 q1.out)
  have B2 := Lib.hid (bthen B1.out b2)
  have L2 := Lib.hid (says_len z2 HL.out HB.out)
  clear o2 p2 a2 b2 hr0 z2
  go_wp2_with fail
  refine Calls.mono (sizeS x A2 D2 n c2 m d2 zs2 _ O2.out.xr L2.out.1 L2.out.2) ?_
  rintro e w3 ⟨rfl, b3⟩
  rw [Z2.out]
  have q3 := Lib.hid (K.below b3 q2.out)
  have B3 := Lib.hid (bthen B2.out b3)
  clear b3
  go_wp2_with (with_reducible refine loadLS rfl _ rfl w.heap.size rfl q3.out ?_)
  refine Calls.mono (toSixC x A D n c m d ys bs _ (R0.out.on B3.out) HL.out (by omega) HB.out ((S0.out.below B3.out).more B3.out.size) HK.out (by omega)) ?_
  rintro e w4 ⟨A4, c4, zs4, D4, d4, rfl, o4, z4, p4, a4, b4⟩
  have q4 := Lib.hid (K.below b4 q3.out)
  have B4 := Lib.hid (bthen B3.out b4)
  have O4 := Lib.hid o4
  have P4 := Lib.hid p4
  have Z4 := Lib.hid z4
  have L4 := Lib.hid (says_len z4 HL.out HB.out)
  clear o4 p4 a4 b4 z4
  have y4 := Lib.hid (K.new w4 (.cells #[.int .i64 x.cls, .int .i64 x.label, .int .i64 x.hops, .int .i64 x.proto, .int .i64 x.src.k, .int .i64 x.src.a, .int .i64 x.src.b, .int .i64 x.src.c, .int .i64 x.src.d, .int .i64 x.dst.k, .int .i64 x.dst.a, .int .i64 x.dst.b, .int .i64 x.dst.c, .int .i64 x.dst.d, .slice A4 n c4, .slice D4 m d4] 36))
  go_wp2_with (first | (with_reducible refine storeNewS rfl _ _ rfl rfl rfl ?_) | (with_reducible refine loadS rfl _ rfl w4.heap.size rfl y4.out ?_))
  have X4 := Lib.hid (O4.out.below (Joins.below_alloc1 w4 (.cells #[.int .i64 x.cls, .int .i64 x.label, .int .i64 x.hops, .int .i64 x.proto, .int .i64 x.src.k, .int .i64 x.src.a, .int .i64 x.src.b, .int .i64 x.src.c, .int .i64 x.src.d, .int .i64 x.dst.k, .int .i64 x.dst.a, .int .i64 x.dst.b, .int .i64 x.dst.c, .int .i64 x.dst.d, .slice A4 n c4, .slice D4 m d4] 36)))
  refine Calls.mono (sizeI x A4 D4 n c4 m d4 zs4 _ X4.out.xr L4.out.1 (by omega) L4.out.2) ?_
  rintro e w5 ⟨rfl, b5⟩
  rw [Z4.out]
  have r5 := Lib.hid (K.newB b5)
  have q5 := Lib.hid (K.below b5 (K.old q4.out _))
  have O5 := Lib.hid (X4.out.below b5)
  have P5 := Lib.hid (own_below (P4.out.alloc (.cells #[.int .i64 x.cls, .int .i64 x.label, .int .i64 x.hops, .int .i64 x.proto, .int .i64 x.src.k, .int .i64 x.src.a, .int .i64 x.src.b, .int .i64 x.src.c, .int .i64 x.src.d, .int .i64 x.dst.k, .int .i64 x.dst.a, .int .i64 x.dst.b, .int .i64 x.dst.c, .int .i64 x.dst.d, .slice A4 n c4, .slice D4 m d4] 36)) b5)
  have B5 := Lib.hid (bthen (bthen B4.out (Joins.below_alloc1 w4 _)) b5)
  clear b5
  go_wp2_with fail
  refine sameSixRegion 27 1 5 22 w.heap.size w4.heap.size _ _ _ _ _ _ _ _ rfl (by kernel_rfl) rfl (by omega) ⟨rfl, rfl⟩ ⟨rfl, rfl⟩ ⟨rfl, rfl⟩ ⟨rfl, rfl⟩ ⟨rfl, rfl⟩ (by kernel_rfl) (by kernel_rfl) (by kernel_rfl) (by kernel_rfl) rfl rfl x A D A4 D4 n c m d c4 d4 ys zs4 bs Z4.out q5.out r5.out (R0.out.on B5.out) ((S0.out.below B5.out).more B5.out.size) O5.out.xr (RB.of_own P5.out) HL.out HB.out L4.out.2 HK.out (by omega) (by omega) ?_
  intro w7 u b7
  have B7 := Lib.hid (bthen B5.out b7)
  clear b7
  go_simp
  go_wp2
  go_ret
  exact ⟨rfl, B7.out⟩

namespace fnExactExtsSize
open Go.ChangeShapes Go.WideShapes Go.ChangeAt Go.RowKit
open Go.ChangeMaps (open_string shut_string)
theorem own : ownKnob Try.prog.godebug = none := by kernel_rfl
theorem laidOut : laidOutB Try.prog = true := by kernel_rfl

set_option maxRecDepth 100000 in
theorem lifted (os : Os) (started : os.Started) (H : Type) (enc : TypeId × Value → H) :
    ReturnsInHanded {} Try.checked os 4 .any (Rows.fnExactExtsSizeSpec.pre6 enc Try.prog Try.f4 Rows.fnExactExtsSizeRow.domain false) (Rows.fnExactExtsSizeSpec.post enc Try.prog Try.f4 false true false false) := by
  refine returnsInHanded_of_change (C := Try.checked) own started (by kernel_rfl) Try.func4
    (ChangeSpec.witness6 (enc := enc) (C := Try.checked) false ⟨#[], #[.agg #[.int .i64 0, .int .i64 0, .int .i64 0, .int .i64 0, .int .i64 0, .int .i64 0, .int .i64 0, .int .i64 0, .int .i64 0, .int .i64 0, .int .i64 0, .int .i64 0, .int .i64 0, .int .i64 0, .slice none 0 0, .slice none 0 0]], []⟩ 8 (by kernel_rfl) (by kernel_rfl) (by kernel_rfl) (by kernel_rfl)) ?_
  intro W base args ds gs before hval0 hW _ _
  have hval : ∀ (j : Nat) t v, Try.f4.params[j]? = some t → args[j]? = some v → Value.okWide Try.prog W .any base t v := hval0
  have hW' := hW
  obtain ⟨p, q, hA0, hV, rfl, _, _⟩ := hW
  have hA : DataW.TrodAll enc Try.prog W 0 (fun _ => true) true Try.f4.params.toList args.toList ds p := hA0
  rw [Try.params4] at hA hval
  obtain ⟨v0, vs0, d0, ds0, p0, q0, hargs, rfl, rfl, h0, r0⟩ := trodAll_cons hA
  obtain ⟨rfl, rfl, rfl⟩ := trodAll_nil r0
  obtain rfl : args = #[v0] := by cases args; simp_all
  obtain ⟨rfl, rfl⟩ := trodVars_none hV
  have k0 := h0
  have lt0 : ∀ x ∈ p0, x.block < W.heap.size := by obtain ⟨m, hm⟩ := k0; exact DataW.trod_lt m _ _ _ hm
  obtain ⟨a0, A0, n0, c0, y0, D0, m0, e0, s0, rfl, w0, u0⟩ := six_in (hval 0 30 v0 rfl rfl) h0
  clear hA0 hval0
  refine (lawExtsSize a0 A0 n0 c0 y0 D0 m0 e0 s0 w0 u0).mono fun e W' ⟨he, bel⟩ => ?_
  subst he
  exact ⟨_, rfl, _, _, _, [], _, [], hW', trodAll_mk1 (shut_bool Try.underlying4 _), (trodAll_cons_mk (Below.trod laidOut (by kernel_rfl) (of_decide_eq_true (by kernel_rfl)) k0 bel lt0) trodAll_mk0), rfl, bel.frame _, fun h => by cases h⟩

theorem proved : Rows.FnExactExtsSizeSaid :=
  OpenClaim.holds_of_wide 4 Try.f4 rfl rfl rfl rfl rfl rfl rfl ⟨rfl, rfl, rfl, rfl, rfl⟩ rfl rfl rfl rfl rfl (by kernel_rfl) Try.func4 (by kernel_rfl)
    (of_decide_eq_true (by kernel_rfl)) (by unfold Func.isWrapper; rw [if_neg (of_decide_eq_false (by kernel_rfl))]; exact ⟨rfl, rfl⟩)
    (fun os started H enc _ => lifted os started H enc)
#print axioms proved
end fnExactExtsSize
end Go.Proofs.Ytegpaocoepcemaa
