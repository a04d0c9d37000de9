/-
  For every frame the law FnExactEtherBytes returns true: impl.EtherBytes answers what the model spec.EtherBytes answers, leaves the frame as it was, and its answer owns its memory. No condition; the argument reads afterwards as before.
-/
import Derived.Test.YtaemonjiejgciaaEthBytesI
import Derived.Test.YtaemonjiejgciaaInEth
import Derived.Test.YtaemonjiejgciaaRows
import Derived.ShutString
namespace Go.Proofs.Ytaemonjiejgciaa
open Go.RowKit

set_option maxHeartbeats 1000000 in
theorem lawEB_big {w : World} (x : Eh) (A : Option Addr) (n c : Nat) (h : (1048576 : Int) < n) (hm : n ≤ maxLen) : Calls Try.prog 5 #[.agg #[.int .i64 x.d, .int .i64 x.s, .int .i64 x.t, .int .i64 x.k, .slice A n c]] w fun e w' => e = .returned (.bool true) ∧ Below w.heap.size w w' := by
  have H := Lib.hid h
  clear h
  go_enter Try.func5, Try.ntmps5
  go_wp2_with fail
  refine (szE_no x A n c _ _ H.out (by omega) hm).mono ?_
  rintro e w1 ⟨rfl, b1⟩
  go_wp2
  go_ret
  exact ⟨rfl, bthen (Joins.below_alloc1 w _) b1⟩

set_option maxRecDepth 100000 in
set_option maxHeartbeats 4000000 in
theorem lawEB_small {w : World} (x : Eh) (A : Option Addr) (n c : Nat) (bs : List UInt8) (hr : RB w w.heap.size A bs) (hl : bs.length = n) (hn : n ≤ 1048576) : Calls Try.prog 5 #[.agg #[.int .i64 x.d, .int .i64 x.s, .int .i64 x.t, .int .i64 x.k, .slice A n c]] w fun e w' => e = .returned (.bool true) ∧ Below w.heap.size w w' := by
  obtain ⟨es, hes⟩ : ∃ es, x.bytes bs = es := ⟨_, rfl⟩
  have hm0 := x.bytes_length bs
  obtain ⟨m, hmm⟩ : ∃ m, es.length = m := ⟨_, rfl⟩
  have hm : m ≤ 1600 := by rw [← hmm, ← hes]; exact hm0
  clear hm0
  have so : ∀ (D : Option Addr) (d : Nat) (v : World), RB v v.heap.size D bs → Calls Try.prog 15 #[.agg #[.int .i64 x.d, .int .i64 x.s, .int .i64 x.t, .int .i64 x.k, .slice D n d]] v fun e v' => ∃ A c, e = .returned (.slice A m c) ∧ v'.ownsRow v.heap.size 5 1 (.slice A m c) m (cellsOf es) ∧ Below v.heap.size v v' := by
    intro D d v h
    have h := specEB x D n d bs v h hl hn
    unfold EBOut at h
    rwa [hes, hmm] at h
  have io : ∀ (D : Option Addr) (d : Nat) (v : World), RB v v.heap.size D bs → Calls Try.prog 16 #[.agg #[.int .i64 x.d, .int .i64 x.s, .int .i64 x.t, .int .i64 x.k, .slice D n d]] v fun e v' => ∃ A c, e = .returned (.slice A m c) ∧ v'.ownsRow v.heap.size 5 1 (.slice A m c) m (cellsOf es) ∧ Below v.heap.size v v' := by
    intro D d v h
    have h := implEB x D n d bs v h hl
    unfold EBOut at h
    rwa [hes, hmm] at h
  have SO := Lib.hid so
  have PO := Lib.hid io
  have HM := Lib.hid hmm
  have HL := Lib.hid hl
  have R0 := Lib.hid hr
  clear so io hes hmm hl hr
  go_enter Try.func5, Try.ntmps5
  go_wp2_with fail
  refine (szE_yes x A n c _ _ (by omega) (by omega)).mono ?_
  rintro e w1 ⟨rfl, b1⟩
  have q1 := Lib.hid (K.newB b1)
  have B1 := Lib.hid (bthen (Joins.below_alloc1 w _) b1)
  have hlt1 : w.heap.size < w1.heap.size := K.lt q1.out
  clear b1
  obtain ⟨⟨c0, c1, c2, c3, c4⟩, -⟩ := K.row5 q1.out
  go_wp2_with fail
  refine (toEthC x A n c bs _ ((R0.out.below B1.out).more B1.out.size) HL.out hn).mono ?_
  rintro e w2 ⟨D2, t2, rfl, o2, b2⟩
  have q2 := Lib.hid (K.below b2 q1.out)
  have B2 := Lib.hid (bthen B1.out b2)
  have lt2 : w.heap.size < w2.heap.size := Nat.lt_of_lt_of_le hlt1 b2.size
  clear c0 c1 c2 c3 c4 b2
  go_wp2_with fail
  refine (SO.out D2 t2 _ (RB.of_own o2)).mono ?_
  rintro e w3 ⟨S3, s3, rfl, o3, b3⟩
  have l3 := Lib.hid o3.lt
  have q3 := Lib.hid (K.below b3 q2.out)
  have B3 := Lib.hid (bthen B2.out b3)
  have z23 := b3.size
  clear b3 o2
  obtain ⟨⟨c0, c1, c2, c3, c4⟩, -⟩ := K.row5 q3.out
  go_wp2_with fail
  refine (toEthC x A n c bs _ ((R0.out.below B3.out).more B3.out.size) HL.out hn).mono ?_
  rintro e w4 ⟨D4, t4, rfl, o4, b4⟩
  have l4 := Lib.hid o4.lt
  have q4 := Lib.hid (K.below b4 q3.out)
  have B4 := Lib.hid (bthen B3.out b4)
  have z34 := b4.size
  have o3 := own_below o3 b4
  clear c0 c1 c2 c3 c4 b4
  go_wp2_with fail
  refine (PO.out D4 t4 _ (RB.of_own (o4.alloc _))).mono ?_
  rintro e w5 ⟨G5, g5, rfl, o5, b5⟩
  have l5 := Lib.hid (show ∀ k, (Value.slice G5 m g5).ownBlock = some k → w4.heap.size + 1 ≤ k ∧ k < w5.heap.size from fun k hk => by have := o5.lt k hk; simpa using this)
  have r5 := Lib.hid (K.newB b5)
  have q5 := Lib.hid (K.below b5 (K.old q4.out _))
  have o3 := own_below (o3.alloc (.cells #[.int .i64 x.d, .int .i64 x.s, .int .i64 x.t, .int .i64 x.k, .slice D4 n t4] 27)) b5
  have o4 := own_below (o4.alloc (.cells #[.int .i64 x.d, .int .i64 x.s, .int .i64 x.t, .int .i64 x.k, .slice D4 n t4] 27)) b5
  have B5 := Lib.hid (bthen (bthen B4.out (Joins.below_alloc1 w4 _)) b5)
  have z45 : w4.heap.size + 1 ≤ w5.heap.size := by have := b5.size; simpa using this
  clear b5
  go_wp2_with fail
  refine (eqBn _ _ m _ _ es _ (RB.of_own o5) (RB.of_own o3) HM.out (by omega)).mono ?_
  rintro e w6 ⟨rfl, b6⟩
  have r6 := Lib.hid (K.below b6 r5.out)
  have q6 := Lib.hid (K.below b6 q5.out)
  have o3 := own_below o3 b6
  have o4 := own_below o4 b6
  have o5 := own_below o5 b6
  have B6 := Lib.hid (bthen B5.out b6)
  have z56 := b6.size
  clear b6
  have R6 := Lib.hid (show RB w6.drew w6.drew.heap.size A bs from (R0.out.below B6.out).more B6.out.size)
  obtain ⟨⟨c0, c1, c2, c3, c4⟩, -⟩ := K.row5 q6.out
  obtain ⟨⟨d0, d1, d2, d3, d4⟩, -⟩ := K.row5 r6.out
  go_wp2_with fail
  go_region_held3 (fun w' => (w'.cell? ⟨w.heap.size, 0, none⟩ = some (.int .i64 x.d) ∧ w'.cell? ⟨w.heap.size, 1, none⟩ = some (.int .i64 x.s) ∧ w'.cell? ⟨w.heap.size, 2, none⟩ = some (.int .i64 x.t) ∧ w'.cell? ⟨w.heap.size, 3, none⟩ = some (.int .i64 x.k) ∧ w'.cell? ⟨w.heap.size, 4, none⟩ = some (.slice A n c)) ∧ (w'.cell? ⟨w4.heap.size, 0, none⟩ = some (.int .i64 x.d) ∧ w'.cell? ⟨w4.heap.size, 1, none⟩ = some (.int .i64 x.s) ∧ w'.cell? ⟨w4.heap.size, 2, none⟩ = some (.int .i64 x.t) ∧ w'.cell? ⟨w4.heap.size, 3, none⟩ = some (.int .i64 x.k) ∧ w'.cell? ⟨w4.heap.size, 4, none⟩ = some (.slice D4 n t4))) (first | exact ⟨⟨c0, c1, c2, c3, c4⟩, ⟨d0, d1, d2, d3, d4⟩⟩ | exact ⟨⟨K.cellOn b7 c0, K.cellOn b7 c1, K.cellOn b7 c2, K.cellOn b7 c3, K.cellOn b7 c4⟩, ⟨K.cellOn b7 d0, K.cellOn b7 d1, K.cellOn b7 d2, K.cellOn b7 d3, K.cellOn b7 d4⟩⟩ | exact ⟨⟨K.cellOn b8 (K.cellOn b7 c0), K.cellOn b8 (K.cellOn b7 c1), K.cellOn b8 (K.cellOn b7 c2), K.cellOn b8 (K.cellOn b7 c3), K.cellOn b8 (K.cellOn b7 c4)⟩, ⟨K.cellOn b8 (K.cellOn b7 d0), K.cellOn b8 (K.cellOn b7 d1), K.cellOn b8 (K.cellOn b7 d2), K.cellOn b8 (K.cellOn b7 d3), K.cellOn b8 (K.cellOn b7 d4)⟩⟩ | go_keep) (first | (go_at_call 10; refine (toEthC x A n c bs w6.drew R6.out HL.out hn).mono ?_; rintro e w7 ⟨D7, t7, rfl, o7, b7⟩) | (go_at_call 12; refine (eqEthC x D4 D7 n _ _ bs _ (RB.of_own (own_below o4 (K.undrew b7))) (RB.of_own o7) HL.out hn).mono ?_; rintro e w8 ⟨rfl, b8⟩))
  have b68 := bthen (K.undrew b7) b8
  have r8 := Lib.hid (K.below b68 r6.out)
  have q8 := Lib.hid (K.below b68 q6.out)
  have o3 := own_below o3 b68
  have o4 := own_below o4 b68
  have o5 := own_below o5 b68
  have B8 := Lib.hid (bthen B6.out b68)
  have z68 := b68.size
  clear b68 b7 b8 o7 c0 c1 c2 c3 c4 d0 d1 d2 d3 d4
  obtain ⟨⟨d0, d1, d2, d3, d4⟩, -⟩ := K.row5 r8.out
  go_wp2_with fail
  refine (markEthC x D4 n t4 _ bs 1 _ o4 hn (by omega) (by omega)).mono ?_
  rintro e w9 ⟨rfl, o4', g9⟩
  have o3 := own_grown o3 g9 (fun k h1 h2 => by have := l3.out k h1; have := l4.out k h2; omega)
  have o5 := own_grown o5 g9 (fun k h1 h2 => by have := l5.out k h1; have := l4.out k h2; omega)
  have q9 := Lib.hid (K.kept g9 q8.out (fun k hk => by have := l4.out k hk; omega))
  have B9 := Lib.hid (bgrown B8.out g9 (fun k hk => by have := l4.out k hk; omega))
  have z89 := g9.size
  clear g9 o4' o4 d0 d1 d2 d3 d4
  go_wp2_with fail
  refine (eqBn _ _ m _ _ es _ (RB.of_own o5) (RB.of_own o3) HM.out (by omega)).mono ?_
  rintro e w10 ⟨rfl, b10⟩
  have q10 := Lib.hid (K.below b10 q9.out)
  have o3 := own_below o3 b10
  have o5 := own_below o5 b10
  have B10 := Lib.hid (bthen B9.out b10)
  have z910 := b10.size
  clear b10
  go_wp2_with fail
  refine (markBn _ m _ _ _ 1 _ o5 (by omega) (by omega) (by omega)).mono ?_
  rintro e w11 ⟨rfl, o5', g11⟩
  have o3 := own_grown o3 g11 (fun k h1 h2 => by have := l3.out k h1; have := l5.out k h2; omega)
  have q11 := Lib.hid (K.kept g11 q10.out (fun k hk => by have := l5.out k hk; omega))
  have B11 := Lib.hid (bgrown B10.out g11 (fun k hk => by have := l5.out k hk; omega))
  clear g11 o5
  go_wp2_with fail
  refine (heldBn _ m _ 1 _ (RB.of_own o5') (by omega) (by omega) (by omega)).mono ?_
  rintro e w11' ⟨rfl, rfl⟩
  obtain ⟨⟨c0, c1, c2, c3, c4⟩, -⟩ := K.row5 q11.out
  go_wp2_with fail
  refine (toEthC x A n c bs _ ((R0.out.below B11.out).more B11.out.size) HL.out hn).mono ?_
  rintro e w12 ⟨D12, t12, rfl, o12, b12⟩
  have o3 := own_below o3 b12
  have o5 := own_below o5' b12
  have B12 := Lib.hid (bthen B11.out b12)
  clear b12 c0 c1 c2 c3 c4 o5'
  go_wp2_with fail
  refine (PO.out D12 t12 _ (RB.of_own o12)).mono ?_
  rintro e w13 ⟨G13, g13, rfl, o13, b13⟩
  have o3 := own_below o3 b13
  have o5 := own_below o5 b13
  have B13 := Lib.hid (bthen B12.out b13)
  clear b13 o12
  go_wp2_with fail
  refine (eqBn _ _ m _ _ es _ (RB.of_own o13) (RB.of_own o3) HM.out (by omega)).mono ?_
  rintro e w14 ⟨rfl, b14⟩
  have o5 := own_below o5 b14
  have B14 := Lib.hid (bthen B13.out b14)
  clear b14
  go_wp2_with fail
  refine (heldBn _ m _ 1 _ (RB.of_own o5) (by omega) (by omega) (by omega)).mono ?_
  rintro e w14' ⟨rfl, rfl⟩
  go_wp2
  go_ret
  exact ⟨rfl, B14.out⟩

theorem lawEtherBytes {w : World} (x : Eh) (A : Option Addr) (n c : Nat) (bs : List UInt8) (h : In w A n c bs) : Calls Try.prog 5 #[.agg #[.int .i64 x.d, .int .i64 x.s, .int .i64 x.t, .int .i64 x.k, .slice A n c]] w fun e w' => e = .returned (.bool true) ∧ Below w.heap.size w w' := by
  by_cases hb : n ≤ 1048576
  · exact lawEB_small x A n c bs h.rb h.len hb
  · exact lawEB_big x A n c (by omega) (Nat.le_trans h.cap h.big)

namespace fnExactEtherBytes
open Go.ChangeShapes Go.WideShapes Go.ChangeAt Go.RowKit
open Go.ChangeMaps (open_string shut_string)
theorem own : ownKnob Try.prog.godebug = none := by kernel_rfl
theorem laidOut : laidOutB Try.prog = true := by kernel_rfl

set_option maxRecDepth 100000 in
theorem lifted (os : Os) (started : os.Started) (H : Type) (enc : TypeId × Value → H) :
    ReturnsInHanded {} Try.checked os 5 .any (Rows.fnExactEtherBytesSpec.pre6 enc Try.prog Try.f5 Rows.fnExactEtherBytesRow.domain false) (Rows.fnExactEtherBytesSpec.post enc Try.prog Try.f5 false true false false) := by
  refine returnsInHanded_of_change (C := Try.checked) own started (by kernel_rfl) Try.func5
    (ChangeSpec.witness6 (enc := enc) (C := Try.checked) false ⟨#[], #[.agg #[.int .i64 0, .int .i64 0, .int .i64 0, .int .i64 0, .slice none 0 0]], []⟩ 8 (by kernel_rfl) (by kernel_rfl) (by kernel_rfl) (by kernel_rfl)) ?_
  intro W base args ds gs before hval0 hW _ _
  have hval : ∀ (j : Nat) t v, Try.f5.params[j]? = some t → args[j]? = some v → Value.okWide Try.prog W .any base t v := hval0
  have hW' := hW
  obtain ⟨p, q, hA0, hV, rfl, _, _⟩ := hW
  have hA : DataW.TrodAll enc Try.prog W 0 (fun _ => true) true Try.f5.params.toList args.toList ds p := hA0
  rw [Try.params5] at hA hval
  obtain ⟨v0, vs0, d0, ds0, p0, q0, hargs, rfl, rfl, h0, r0⟩ := trodAll_cons hA
  obtain ⟨rfl, rfl, rfl⟩ := trodAll_nil r0
  obtain rfl : args = #[v0] := by cases args; simp_all
  obtain ⟨rfl, rfl⟩ := trodVars_none hV
  have k0 := h0
  have lt0 : ∀ x ∈ p0, x.block < W.heap.size := by obtain ⟨m, hm⟩ := k0; exact DataW.trod_lt m _ _ _ hm
  obtain ⟨a0, A0, n0, c0, b0, rfl, w0⟩ := eth_in (hval 0 24 v0 rfl rfl) h0
  clear hA0 hval0
  refine (lawEtherBytes a0 A0 n0 c0 b0 w0).mono fun e W' ⟨he, bel⟩ => ?_
  subst he
  exact ⟨_, rfl, _, _, _, [], _, [], hW', trodAll_mk1 (shut_bool Try.underlying4 _), (trodAll_cons_mk (Below.trod laidOut (by kernel_rfl) (of_decide_eq_true (by kernel_rfl)) k0 bel lt0) trodAll_mk0), rfl, bel.frame _, fun h => by cases h⟩

theorem proved : Rows.FnExactEtherBytesSaid :=
  OpenClaim.holds_of_wide 5 Try.f5 rfl rfl rfl rfl rfl rfl rfl ⟨rfl, rfl, rfl, rfl, rfl⟩ rfl rfl rfl rfl rfl (by kernel_rfl) Try.func5 (by kernel_rfl)
    (of_decide_eq_true (by kernel_rfl)) (by unfold Func.isWrapper; rw [if_neg (of_decide_eq_false (by kernel_rfl))]; exact ⟨rfl, rfl⟩)
    (fun os started H enc _ => lifted os started H enc)
#print axioms proved
end fnExactEtherBytes
end Go.Proofs.Ytaemonjiejgciaa
