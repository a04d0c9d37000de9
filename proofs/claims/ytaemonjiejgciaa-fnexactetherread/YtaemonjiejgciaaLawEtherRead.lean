/-
  For all bytes the law FnExactEtherRead returns true: impl.EtherRead answers what the model spec.EtherRead answers, leaves the bytes as they were, and its answer owns its memory. No condition; the argument reads afterwards as before.
-/
import Derived.Test.YtaemonjiejgciaaEthReadI
import Derived.Test.YtaemonjiejgciaaEthReadS
import Derived.Test.YtaemonjiejgciaaRows
import Derived.ShutString
namespace Go.Proofs.Ytaemonjiejgciaa
open Go.RowKit

set_option maxHeartbeats 1000000 in
theorem lawER_big {w : World} (A : Option Addr) (n c : Nat) (h : (1048576 : Int) < n) : Calls Try.prog 6 #[.slice A n c] w fun e w' => e = .returned (.bool true) ∧ Below w.heap.size w w' := by
  go_enter Try.func6, Try.ntmps6
  go_wp2
  go_ret
  exact ⟨rfl, Below.refl _ _⟩

set_option maxRecDepth 100000 in
set_option maxHeartbeats 4000000 in
theorem lawER_small {w : World} (A : Option Addr) (n c : Nat) (bs : List UInt8) (hr : RB w w.heap.size A bs) (hl : bs.length = n) (hn : n ≤ 1048576) : Calls Try.prog 6 #[.slice A n c] w fun e w' => e = .returned (.bool true) ∧ Below w.heap.size w w' := by
  obtain ⟨x, hx⟩ : ∃ x, rdx bs = x := ⟨_, rfl⟩
  obtain ⟨es, hes⟩ : ∃ es, rdb bs = es := ⟨_, rfl⟩
  obtain ⟨q, hq⟩ : ∃ q, rdc bs = q := ⟨_, rfl⟩
  obtain ⟨m, hmm⟩ : ∃ m, es.length = m := ⟨_, rfl⟩
  have hm : m ≤ 1048576 := by
    rw [← hmm, ← hes, rdb]
    split
    · rw [List.length_drop]; omega
    · simp
  have so : ∀ (D : Option Addr) (d : Nat) (v : World), RB v v.heap.size D bs → n ≤ d → Calls Try.prog 21 #[.slice D n d] v fun e v' => ∃ A c, e = .returned (.tuple #[.agg #[.int .i64 x.d, .int .i64 x.s, .int .i64 x.t, .int .i64 x.k, .slice A m c], .int .i64 q]) ∧ v'.ownsRow v.heap.size 5 1 (.slice A m c) m (cellsOf es) ∧ Below v.heap.size v v' := by
    intro D d v h hd
    have h := specER D n d bs v h hl hn hd
    unfold EROut at h
    rwa [hx, hes, hq, hmm] at h
  have io : ∀ (D : Option Addr) (d : Nat) (v : World), RB v v.heap.size D bs → n ≤ d → Calls Try.prog 23 #[.slice D n d] v fun e v' => ∃ A c, e = .returned (.tuple #[.agg #[.int .i64 x.d, .int .i64 x.s, .int .i64 x.t, .int .i64 x.k, .slice A m c], .int .i64 q]) ∧ v'.ownsRow v.heap.size 5 1 (.slice A m c) m (cellsOf es) ∧ Below v.heap.size v v' := by
    intro D d v h hd
    have h := implER D n d bs v h hl hn hd
    unfold EROut at h
    rwa [hx, hes, hq, hmm] at h
  have SO := Lib.hid so
  have PO := Lib.hid io
  have HM := Lib.hid hmm
  have HL := Lib.hid hl
  have R0 := Lib.hid hr
  have hnI : ¬ (1048576 : Int) < (n : Int) := by omega
  clear so io hes hmm hx hq hl hr
  go_enter Try.func6, Try.ntmps6
  go_wp2_with fail
  refine (toBn A n c bs _ R0.out HL.out hn).mono ?_
  rintro e w1 ⟨D1, t1, rfl, o1, b1⟩
  have B1 := Lib.hid b1
  have z1 := b1.size
  clear b1
  go_wp2_with fail
  refine (SO.out D1 t1 _ (RB.of_own o1) (own_cap o1)).mono ?_
  rintro e w2 ⟨S2, s2, rfl, o2, b2⟩
  have l2 := Lib.hid o2.lt
  have B2 := Lib.hid (bthen B1.out b2)
  have z2 := b2.size
  have o2 := Lib.hid (o2.alloc (.cells #[.int .i64 x.d, .int .i64 x.s, .int .i64 x.t, .int .i64 x.k, .slice S2 m s2] 27))
  have R2 := Lib.hid (show RB (w2.alloc (.cells #[.int .i64 x.d, .int .i64 x.s, .int .i64 x.t, .int .i64 x.k, .slice S2 m s2] 27)) (w2.alloc (.cells #[.int .i64 x.d, .int .i64 x.s, .int .i64 x.t, .int .i64 x.k, .slice S2 m s2] 27)).heap.size A bs from (R0.out.below (bthen B2.out (Joins.below_alloc1 w2 _))).more (by simp; omega))
  clear b2 o1
  go_wp2_with fail
  refine (toBn A n c bs _ R2.out HL.out hn).mono ?_
  rintro e w3 ⟨X3, x3, rfl, o3, b3⟩
  have l3 := Lib.hid (show ∀ k, (Value.slice X3 n x3).ownBlock = some k → w2.heap.size + 1 ≤ k ∧ k < w3.heap.size from fun k hk => by have := o3.lt k hk; simpa using this)
  have p3 := Lib.hid (K.newB b3)
  have o2 := Lib.hid (own_below o2.out b3)
  have B3 := Lib.hid (bthen (bthen B2.out (Joins.below_alloc1 w2 _)) b3)
  have z3 : w2.heap.size + 1 ≤ w3.heap.size := by have := b3.size; simpa using this
  clear b3
  go_wp2_with fail
  refine (PO.out X3 x3 _ (RB.of_own o3) (own_cap o3)).mono ?_
  rintro e w4 ⟨G4, g4, rfl, o4, b4⟩
  have l4 := Lib.hid o4.lt
  have o2 := Lib.hid ((own_below o2.out b4).alloc (.cells #[.int .i64 x.d, .int .i64 x.s, .int .i64 x.t, .int .i64 x.k, .slice G4 m g4] 27))
  have o3 := Lib.hid ((own_below o3 b4).alloc (.cells #[.int .i64 x.d, .int .i64 x.s, .int .i64 x.t, .int .i64 x.k, .slice G4 m g4] 27))
  have o4 := Lib.hid (o4.alloc (.cells #[.int .i64 x.d, .int .i64 x.s, .int .i64 x.t, .int .i64 x.k, .slice G4 m g4] 27))
  have p4 := Lib.hid (K.old (K.below b4 p3.out) (.cells #[.int .i64 x.d, .int .i64 x.s, .int .i64 x.t, .int .i64 x.k, .slice G4 m g4] 27))
  have r4 := Lib.hid (K.new w4 (.cells #[.int .i64 x.d, .int .i64 x.s, .int .i64 x.t, .int .i64 x.k, .slice G4 m g4] 27))
  have B4 := Lib.hid (bthen (bthen B3.out b4) (Joins.below_alloc1 w4 (.cells #[.int .i64 x.d, .int .i64 x.s, .int .i64 x.t, .int .i64 x.k, .slice G4 m g4] 27)))
  have z4 := b4.size
  clear b4
  obtain ⟨⟨c0, c1, c2, c3, c4⟩, -⟩ := K.row5 p4.out
  obtain ⟨⟨d0, d1, d2, d3, d4⟩, -⟩ := K.row5 r4.out
  go_wp2_with fail
  refine (eqEthC x G4 S2 m _ _ es _ (RB.of_own o4.out) (RB.of_own o2.out) HM.out hm).mono ?_
  rintro e w5 ⟨rfl, b5⟩
  have o2 := Lib.hid (own_below o2.out b5)
  have o3 := Lib.hid (own_below o3.out b5)
  have o4 := Lib.hid (own_below o4.out b5)
  have p5 := Lib.hid (K.below b5 p4.out)
  have r5 := Lib.hid (K.below b5 r4.out)
  have B5 := Lib.hid (bthen B4.out b5)
  have z5 : w4.heap.size + 1 ≤ w5.heap.size := by have := b5.size; simpa using this
  clear b5 c0 c1 c2 c3 c4 d0 d1 d2 d3 d4
  go_wp2_with fail
  refine (toBn A n c bs _ ((R0.out.below B5.out).more B5.out.size) HL.out hn).mono ?_
  rintro e w6 ⟨X6, x6, rfl, o6, b6⟩
  have o2 := Lib.hid (own_below o2.out b6)
  have o3 := Lib.hid (own_below o3.out b6)
  have o4 := Lib.hid (own_below o4.out b6)
  have p6 := Lib.hid (K.below b6 p5.out)
  have r6 := Lib.hid (K.below b6 r5.out)
  have B6 := Lib.hid (bthen B5.out b6)
  have z6 := b6.size
  clear b6
  go_wp2_with fail
  refine (eqBn _ _ n _ _ bs _ (RB.of_own o3.out) (RB.of_own o6) HL.out hn).mono ?_
  rintro e w7 ⟨rfl, b7⟩
  have o2 := Lib.hid (own_below o2.out b7)
  have o3 := own_below o3.out b7
  have o4 := Lib.hid (own_below o4.out b7)
  have p7 := Lib.hid (K.below b7 p6.out)
  have r7 := Lib.hid (K.below b7 r6.out)
  have B7 := Lib.hid (bthen B6.out b7)
  have z7 := b7.size
  clear b7 o6
  go_wp2_with fail
  refine (markBn _ n _ _ _ 1 _ o3 hn (by omega) (by omega)).mono ?_
  rintro e w8 ⟨rfl, o3', g8⟩
  have o2 := Lib.hid (own_grown o2.out g8 (fun k h1 h2 => by have := l2.out k h1; have := l3.out k h2; omega))
  have o4 := Lib.hid (own_grown o4.out g8 (fun k h1 h2 => by have := l4.out k h1; have := l3.out k h2; omega))
  have p8 := Lib.hid (K.kept g8 p7.out (fun k hk => by have := l3.out k hk; omega))
  have r8 := Lib.hid (K.kept g8 r7.out (fun k hk => by have := l3.out k hk; omega))
  have B8 := Lib.hid (bgrown B7.out g8 (fun k hk => by have := l3.out k hk; omega))
  have z8 := g8.size
  clear g8 o3 o3'
  obtain ⟨⟨c0, c1, c2, c3, c4⟩, -⟩ := K.row5 p8.out
  obtain ⟨⟨d0, d1, d2, d3, d4⟩, -⟩ := K.row5 r8.out
  go_wp2_with fail
  refine (eqEthC x G4 S2 m _ _ es _ (RB.of_own o4.out) (RB.of_own o2.out) HM.out hm).mono ?_
  rintro e w9 ⟨rfl, b9⟩
  have o2 := Lib.hid (own_below o2.out b9)
  have o4 := own_below o4.out b9
  have p9 := Lib.hid (K.below b9 p8.out)
  have r9 := Lib.hid (K.below b9 r8.out)
  have B9 := Lib.hid (bthen B8.out b9)
  have z9 := b9.size
  clear b9 c0 c1 c2 c3 c4 d0 d1 d2 d3 d4
  obtain ⟨⟨d0, d1, d2, d3, d4⟩, -⟩ := K.row5 r9.out
  go_wp2_with fail
  refine (markEthC x G4 m _ _ es 1 _ o4 hm (by omega) (by omega)).mono ?_
  rintro e w10 ⟨rfl, o4', g10⟩
  have o2 := Lib.hid (own_grown o2.out g10 (fun k h1 h2 => by have := l2.out k h1; have := l4.out k h2; omega))
  have p10 := Lib.hid (K.kept g10 p9.out (fun k hk => by have := l4.out k hk; omega))
  have r10 := Lib.hid (K.kept g10 r9.out (fun k hk => by have := l4.out k hk; omega))
  have B10 := Lib.hid (bgrown B9.out g10 (fun k hk => by have := l4.out k hk; omega))
  have z10 := g10.size
  have o4 := Lib.hid o4'
  clear g10 o4' d0 d1 d2 d3 d4
  obtain ⟨⟨d0, d1, d2, d3, d4⟩, -⟩ := K.row5 r10.out
  go_wp2_with fail
  refine (heldEthC x G4 m _ 1 _ (RB.of_own o4.out) hm (by omega) (by omega)).mono ?_
  rintro e w11 ⟨rfl, b11⟩
  have o2 := Lib.hid (own_below o2.out b11)
  have o4 := Lib.hid (own_below o4.out b11)
  have p11 := Lib.hid (K.below b11 p10.out)
  have r11 := Lib.hid (K.below b11 r10.out)
  have B11 := Lib.hid (bthen B10.out b11)
  clear b11 d0 d1 d2 d3 d4
  go_wp2_with fail
  refine (toBn A n c bs _ ((R0.out.below B11.out).more B11.out.size) HL.out hn).mono ?_
  rintro e w12 ⟨X12, x12, rfl, o12, b12⟩
  have o2 := Lib.hid (own_below o2.out b12)
  have o4 := Lib.hid (own_below o4.out b12)
  have p12 := Lib.hid (K.below b12 p11.out)
  have r12 := Lib.hid (K.below b12 r11.out)
  have B12 := Lib.hid (bthen B11.out b12)
  clear b12
  go_wp2_with fail
  refine (PO.out X12 x12 _ (RB.of_own o12) (own_cap o12)).mono ?_
  rintro e w13 ⟨G13, g13, rfl, o13, b13⟩
  have o2 := Lib.hid ((own_below o2.out b13).alloc (.cells #[.int .i64 x.d, .int .i64 x.s, .int .i64 x.t, .int .i64 x.k, .slice G13 m g13] 27))
  have o4 := Lib.hid ((own_below o4.out b13).alloc (.cells #[.int .i64 x.d, .int .i64 x.s, .int .i64 x.t, .int .i64 x.k, .slice G13 m g13] 27))
  have o13 := Lib.hid (o13.alloc (.cells #[.int .i64 x.d, .int .i64 x.s, .int .i64 x.t, .int .i64 x.k, .slice G13 m g13] 27))
  have p13 := Lib.hid (K.old (K.below b13 p12.out) (.cells #[.int .i64 x.d, .int .i64 x.s, .int .i64 x.t, .int .i64 x.k, .slice G13 m g13] 27))
  have r13 := Lib.hid (K.old (K.below b13 r12.out) (.cells #[.int .i64 x.d, .int .i64 x.s, .int .i64 x.t, .int .i64 x.k, .slice G13 m g13] 27))
  have s13 := Lib.hid (K.new w13 (.cells #[.int .i64 x.d, .int .i64 x.s, .int .i64 x.t, .int .i64 x.k, .slice G13 m g13] 27))
  have B13 := Lib.hid (bthen (bthen B12.out b13) (Joins.below_alloc1 w13 (.cells #[.int .i64 x.d, .int .i64 x.s, .int .i64 x.t, .int .i64 x.k, .slice G13 m g13] 27)))
  clear b13 o12
  obtain ⟨⟨c0, c1, c2, c3, c4⟩, -⟩ := K.row5 p13.out
  obtain ⟨⟨d0, d1, d2, d3, d4⟩, -⟩ := K.row5 s13.out
  go_wp2_with fail
  refine (eqEthC x G13 S2 m _ _ es _ (RB.of_own o13.out) (RB.of_own o2.out) HM.out hm).mono ?_
  rintro e w14 ⟨rfl, b14⟩
  have o4 := Lib.hid (own_below o4.out b14)
  have r14 := Lib.hid (K.below b14 r13.out)
  have B14 := Lib.hid (bthen B13.out b14)
  clear b14 c0 c1 c2 c3 c4 d0 d1 d2 d3 d4
  obtain ⟨⟨d0, d1, d2, d3, d4⟩, -⟩ := K.row5 r14.out
  go_wp2_with fail
  refine (heldEthC x G4 m _ 1 _ (RB.of_own o4.out) hm (by omega) (by omega)).mono ?_
  rintro e w15 ⟨rfl, b15⟩
  have B15 := Lib.hid (bthen B14.out b15)
  clear b15 d0 d1 d2 d3 d4
  go_wp2
  go_ret
  exact ⟨rfl, B15.out⟩

theorem lawEtherRead {w : World} (A : Option Addr) (n c : Nat) (bs : List UInt8) (h : In w A n c bs) : Calls Try.prog 6 #[.slice A n c] w fun e w' => e = .returned (.bool true) ∧ Below w.heap.size w w' := by
  by_cases hb : n ≤ 1048576
  · exact lawER_small A n c bs h.rb h.len hb
  · exact lawER_big A n c (by omega)

namespace fnExactEtherRead
open Go.ChangeShapes Go.WideShapes Go.ChangeAt Go.RowKit
open Go.ChangeMaps (open_string shut_string)
theorem own : ownKnob Try.prog.godebug = none := by kernel_rfl
theorem laidOut : laidOutB Try.prog = true := by kernel_rfl

set_option maxRecDepth 100000 in
theorem lifted (os : Os) (started : os.Started) (H : Type) (enc : TypeId × Value → H) :
    ReturnsInHanded {} Try.checked os 6 .any (Rows.fnExactEtherReadSpec.pre6 enc Try.prog Try.f6 Rows.fnExactEtherReadRow.domain false) (Rows.fnExactEtherReadSpec.post enc Try.prog Try.f6 false true false false) := by
  refine returnsInHanded_of_change (C := Try.checked) own started (by kernel_rfl) Try.func6
    (ChangeSpec.witness6 (enc := enc) (C := Try.checked) false ⟨#[], #[.slice none 0 0], []⟩ 8 (by kernel_rfl) (by kernel_rfl) (by kernel_rfl) (by kernel_rfl)) ?_
  intro W base args ds gs before hval0 hW _ _
  have hval : ∀ (j : Nat) t v, Try.f6.params[j]? = some t → args[j]? = some v → Value.okWide Try.prog W .any base t v := hval0
  have hW' := hW
  obtain ⟨p, q, hA0, hV, rfl, _, _⟩ := hW
  have hA : DataW.TrodAll enc Try.prog W 0 (fun _ => true) true Try.f6.params.toList args.toList ds p := hA0
  rw [Try.params6] at hA hval
  obtain ⟨v0, vs0, d0, ds0, p0, q0, hargs, rfl, rfl, h0, r0⟩ := trodAll_cons hA
  obtain ⟨rfl, rfl, rfl⟩ := trodAll_nil r0
  obtain rfl : args = #[v0] := by cases args; simp_all
  obtain ⟨rfl, rfl⟩ := trodVars_none hV
  obtain ⟨a0, n0, c0, rfl⟩ := okWide_slice Try.underlying22 (hval 0 22 v0 rfl rfl)
  have k0 := h0
  have lt0 : ∀ x ∈ p0, x.block < W.heap.size := by obtain ⟨m, hm⟩ := k0; exact DataW.trod_lt m _ _ _ hm
  obtain ⟨b0, w0⟩ := bytes_in h0
  clear hA0 hval0
  refine (lawEtherRead a0 n0 c0 b0 w0).mono fun e W' ⟨he, bel⟩ => ?_
  subst he
  exact ⟨_, rfl, _, _, _, [], _, [], hW', trodAll_mk1 (shut_bool Try.underlying4 _), (trodAll_cons_mk (Below.trod laidOut (by kernel_rfl) (of_decide_eq_true (by kernel_rfl)) k0 bel lt0) trodAll_mk0), rfl, bel.frame _, fun h => by cases h⟩

theorem proved : Rows.FnExactEtherReadSaid :=
  OpenClaim.holds_of_wide 6 Try.f6 rfl rfl rfl rfl rfl rfl rfl ⟨rfl, rfl, rfl, rfl, rfl⟩ rfl rfl rfl rfl rfl (by kernel_rfl) Try.func6 (by kernel_rfl)
    (of_decide_eq_true (by kernel_rfl)) (by unfold Func.isWrapper; rw [if_neg (of_decide_eq_false (by kernel_rfl))]; exact ⟨rfl, rfl⟩)
    (fun os started H enc _ => lifted os started H enc)
#print axioms proved
end fnExactEtherRead
end Go.Proofs.Ytaemonjiejgciaa
