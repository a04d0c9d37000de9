/-
  The walk of the law FnExactSixRead, given what the model answers.
-/
import Derived.Test.YtkmijefheejcjaaKq14
import Derived.Test.YtkmijefheejcjaaKq15
import Derived.Test.YtkmijefheejcjaaKq18
namespace Go.Proofs.Ytkmijefheejcjaa
set_option maxRecDepth 100000
open Go.RowKit

theorem own_capX {w : World} {base n c : Nat} {e : TypeId} {A : Option Addr} {xs : List Value} (h : w.ownsRow base e 1 (.slice A n c) n xs) : n ≤ c := by
  rcases h.2 with ⟨h1, h2⟩ | ⟨g, cap, cur, hv, _, _, hc, _⟩
  · omega
  · injection hv with _ _ h3
    omega
theorem XO.grown {w w' : World} {base : Nat} {A : Option Addr} {n c : Nat} {zs : List Ey} {row : Option Nat} (h : XO w base A n c zs) (hg : w.grownBy w' row) (hr : ∀ k, row = some k → (Value.slice A n c).ownBlock ≠ some k ∧ ∀ z ∈ zs, z.body.ownBlock ≠ some k) : XO w' base A n c zs :=
  ⟨h.len, own_grown h.row hg (fun k hk e => (hr k e).1 hk), fun z hz => own_grown (h.own z hz) hg (fun k hk e => (hr k e).2 z hz hk), h.apart, h.off⟩
theorem XO.touch {w w' : World} {base : Nat} {A : Option Addr} {n c : Nat} {zs : List Ey} {S : Nat → Prop} (h : XO w base A n c zs) (ht : Touch S w w') (hr : ∀ k, S k → (Value.slice A n c).ownBlock ≠ some k ∧ ∀ z ∈ zs, z.body.ownBlock ≠ some k) : XO w' base A n c zs :=
  ⟨h.len, ht.own h.row (fun k hk e => (hr k e).1 hk), fun z hz => ht.own (h.own z hz) (fun k hk e => (hr k e).2 z hz hk), h.apart, h.off⟩
/-- The bodies of the extension headers lie in the packet. -/
theorem walkX_sum {bs : List UInt8} {e : Nat} : ∀ (f k kind : Nat) (acc acc' : List (Int × List UInt8)) (kind' k' : Nat), walkX bs e f k kind acc = some (acc', kind', k') → (acc'.map fun e => e.2.length).sum + k ≤ (acc.map fun e => e.2.length).sum + k'
  | 0, _, _, _, _, _, _, h => by simp [walkX] at h
  | f + 1, k, kind, acc, acc', kind', k', h => by
    cases hi : inner kind with
    | false =>
      rw [walkX_end hi] at h
      simp only [Option.some.injEq, Prod.mk.injEq] at h
      obtain ⟨rfl, rfl, rfl⟩ := h
      exact Nat.le_refl _
    | true =>
      cases hx : noExt bs e acc.length k kind with
      | true => rw [walkX_no hi hx] at h; cases h
      | false =>
        rw [walkX_go hi hx] at h
        have h1 := walkX_sum f _ _ _ _ _ _ h
        simp only [List.map_append, List.map_cons, List.map_nil, List.sum_append, List.sum_cons, List.sum_nil] at h1
        have h2 := List.length_take_le (8 * num bs (k + 1) 1 + 6) (bs.drop (k + 2))
        omega
theorem sr_bounds (bs : List UInt8) : (sre bs).length ≤ 3 ∧ ((sre bs).map fun e => e.2.length).sum + (srb bs).length ≤ 1500 ∧ (srr bs).length ≤ bs.length := by
  unfold sre srb srr
  cases hg : sGot bs with
  | none => simp
  | some r =>
    obtain ⟨acc, kind, k⟩ := r
    unfold sGot at hg
    split at hg
    · rename_i h0
      have hT : tot6 bs = 0 := by
        rw [src6_tot] at h0
        split at h0
        · rename_i h1; exact absurd h0 h1
        · rename_i h1; simpa using h1
      have hz := tot6_zero hT
      have h1 := walkX_some _ _ _ _ _ _ _ (by omega) (by simp) hg
      have h2 := walkX_sum _ _ _ _ _ _ _ hg
      have h3 := List.length_take_le (sEnd bs - k) (bs.drop k)
      simp only [List.map_nil, List.sum_nil] at h2
      refine ⟨h1.2.1, ?_, by simp⟩
      show (acc.map fun e => e.2.length).sum + ((bs.drop k).take (sEnd bs - k)).length ≤ 1500
      omega
    · cases hg
theorem loadSG {ops : Array Oper} {rest : List Oper} {o : Oper} {a : Act} {w : World} {Q : Exit → Act → World → Prop} (x : Operand) (ho : o.op = .load 28 x) (g : Nat) (hx : a.eval x = .pointer (some ⟨g, 0, none⟩)) (hw : Region.wanted o (yielded ops a.tmps) = true) {t : TypeId} {v0 v1 v2 v3 v4 v5 v6 v7 v8 v9 v10 v11 v12 v13 v14 v15 : Value}
    (hg : w.heap[g]? = some (.cells #[v0, v1, v2, v3, v4, v5, v6, v7, v8, v9, v10, v11, v12, v13, v14, v15] t (0, 0))) (h : wpList Try.prog ops Q rest (a.put o.dst (.agg #[v0, v1, v2, v3, v4, v5, v6, v7, v8, v9, v10, v11, v12, v13, v14, v15])) w) : wpList Try.prog ops Q (o :: rest) a w :=
  wpList_step fun _ hK => by rw [if_pos hw]; exact wp_load_row 28 x ho g hx t _ (0, 0) _ hg Try.underlying28 rfl info_six (hK _ _ h)

set_option maxHeartbeats 1000000 in
theorem lawSR_big {w : World} (A : Option Addr) (n c : Nat) (h : (1048576 : Int) < n) : Calls Try.prog 6 #[.slice A n c] w fun e w' => e = .returned (.bool true) ∧ Below w.heap.size w w' := by
  go_enter Try.func6, Try.ntmps6
  go_wp2
  go_ret
  exact ⟨rfl, Below.refl _ _⟩

theorem marked_body : ∀ (k : Nat) (ys : List Ey) (z : Ey), z ∈ markedE k ys → ∃ y ∈ ys, y.body.ownBlock = z.body.ownBlock := by
  intro k ys z hz
  obtain ⟨i, hi, rfl⟩ := List.getElem_of_mem hz
  have hl : i < ys.length := by rw [markedE_length] at hi; exact hi
  refine ⟨ys[i], List.getElem_mem hl, ?_⟩
  rw [markedE_take ys k i hl]
  simp only [Ey.body]
  cases ys[i].A <;> rfl
theorem marked_off {k j : Nat} {ys : List Ey} (h : ∀ z ∈ ys, z.body.ownBlock ≠ some j) : ∀ z ∈ markedE k ys, z.body.ownBlock ≠ some j := fun z hz e => by
  obtain ⟨y, hy, he⟩ := marked_body k ys z hz
  exact h y hy (he.trans e)
theorem held6 (x : Sh) (A D : Option Addr) (n c m d u : Nat) (ys : List Ey) (w : World) (hu : bodies ys = u) (h : XR w w.heap.size A (markedE 1 ys)) (hl : ys.length = n) (hr : RB w w.heap.size D (marks (1 + n + u) m)) (hn : n + u + m ≤ 1048576) :
    Calls Try.prog 35 #[.agg #[.int .i64 x.cls, .int .i64 x.label, .int .i64 x.hops, .int .i64 x.proto, .int .i64 x.src.k, .int .i64 x.src.a, .int .i64 x.src.b, .int .i64 x.src.c, .int .i64 x.src.d, .int .i64 x.dst.k, .int .i64 x.dst.a, .int .i64 x.dst.b, .int .i64 x.dst.c, .int .i64 x.dst.d, .slice A n c, .slice D m d], .int .i64 1] w fun e w' => e = .returned (.int .i64 ((1 + n + u + m : Nat) : Int)) ∧ Below w.heap.size w w' := by
  subst hu
  exact heldSixC x A D n c m d ys w h hl hr hn

set_option maxRecDepth 100000 in
set_option maxHeartbeats 8000000 in
theorem lawSR_small {w : World} (A : Option Addr) (n c : Nat) (bs : List UInt8) (hr : RB w w.heap.size A bs) (hl : bs.length = n) (hn : n ≤ 1048576) (hspec : ∀ (D : Option Addr) (d : Nat) (v : World), RB v v.heap.size D bs → n ≤ d → Calls Try.prog 29 #[.slice D n d] v (SROut bs v)) : Calls Try.prog 6 #[.slice A n c] w fun e w' => e = .returned (.bool true) ∧ Below w.heap.size w w' := by
  have hb := sr_bounds bs
  obtain ⟨x, hx⟩ : ∃ x, srx bs = x := ⟨_, rfl⟩
  obtain ⟨es, hos⟩ : ∃ es, sre bs = es := ⟨_, rfl⟩
  obtain ⟨ds, hds⟩ : ∃ ds, srb bs = ds := ⟨_, rfl⟩
  obtain ⟨rs, hrs⟩ : ∃ rs, srr bs = rs := ⟨_, rfl⟩
  obtain ⟨kq, hq⟩ : ∃ q, src6 bs = q := ⟨_, rfl⟩
  obtain ⟨P, hP⟩ : ∃ m, es.length = m := ⟨_, rfl⟩
  obtain ⟨Q, hQ⟩ : ∃ m, ds.length = m := ⟨_, rfl⟩
  obtain ⟨L, hL⟩ : ∃ m, rs.length = m := ⟨_, rfl⟩
  obtain ⟨U, hU⟩ : ∃ m, (es.map fun e => e.2.length).sum = m := ⟨_, rfl⟩
  rw [hos, hds, hrs, hP, hQ, hL, hU, hl] at hb
  obtain ⟨hbP, hbQ, hbL⟩ := hb
  have so : ∀ (D : Option Addr) (d : Nat) (v : World), RB v v.heap.size D bs → n ≤ d → Calls Try.prog 29 #[.slice D n d] v fun e v' => ∃ A c zs D d E g, e = .returned (.tuple #[.agg #[.int .i64 x.cls, .int .i64 x.label, .int .i64 x.hops, .int .i64 x.proto, .int .i64 x.src.k, .int .i64 x.src.a, .int .i64 x.src.b, .int .i64 x.src.c, .int .i64 x.src.d, .int .i64 x.dst.k, .int .i64 x.dst.a, .int .i64 x.dst.b, .int .i64 x.dst.c, .int .i64 x.dst.d, .slice A P c, .slice D Q d], .slice E L g, .int .i64 kq]) ∧ XO v' v.heap.size A P c zs ∧ zs.map Ey.says = es ∧ v'.ownsRow v.heap.size 5 1 (.slice D Q d) Q (cellsOf ds) ∧ v'.ownsRow v.heap.size 5 1 (.slice E L g) L (cellsOf rs) ∧ (∀ k, (Value.slice D Q d).ownBlock = some k → (Value.slice A P c).ownBlock ≠ some k ∧ ∀ z ∈ zs, z.body.ownBlock ≠ some k) ∧ (∀ k, (Value.slice E L g).ownBlock = some k → (Value.slice D Q d).ownBlock ≠ some k ∧ (Value.slice A P c).ownBlock ≠ some k ∧ ∀ z ∈ zs, z.body.ownBlock ≠ some k) ∧ Below v.heap.size v v' := by
    intro D d v h hd
    have h := hspec D d v h hd
    unfold SROut at h
    rwa [hx, hos, hds, hrs, hq, hP, hQ, hL] at h
  have io : ∀ (D : Option Addr) (d : Nat) (v : World), RB v v.heap.size D bs → n ≤ d → Calls Try.prog 19 #[.slice D n d] v fun e v' => ∃ A c zs D d E g, e = .returned (.tuple #[.agg #[.int .i64 x.cls, .int .i64 x.label, .int .i64 x.hops, .int .i64 x.proto, .int .i64 x.src.k, .int .i64 x.src.a, .int .i64 x.src.b, .int .i64 x.src.c, .int .i64 x.src.d, .int .i64 x.dst.k, .int .i64 x.dst.a, .int .i64 x.dst.b, .int .i64 x.dst.c, .int .i64 x.dst.d, .slice A P c, .slice D Q d], .slice E L g, .int .i64 kq]) ∧ XO v' v.heap.size A P c zs ∧ zs.map Ey.says = es ∧ v'.ownsRow v.heap.size 5 1 (.slice D Q d) Q (cellsOf ds) ∧ v'.ownsRow v.heap.size 5 1 (.slice E L g) L (cellsOf rs) ∧ (∀ k, (Value.slice D Q d).ownBlock = some k → (Value.slice A P c).ownBlock ≠ some k ∧ ∀ z ∈ zs, z.body.ownBlock ≠ some k) ∧ (∀ k, (Value.slice E L g).ownBlock = some k → (Value.slice D Q d).ownBlock ≠ some k ∧ (Value.slice A P c).ownBlock ≠ some k ∧ ∀ z ∈ zs, z.body.ownBlock ≠ some k) ∧ Below v.heap.size v v' := by
    intro D d v h hd
    have h := implSixRead D n d bs v h hl hn hd
    unfold SROut at h
    rwa [hx, hos, hds, hrs, hq, hP, hQ, hL] at h
  have BD := Lib.hid (show ∀ zs : List Ey, zs.map Ey.says = es → bodies zs = U from fun zs h => by rw [bodies_says, h]; exact hU)
  clear hspec hU
  have SO := Lib.hid so
  have PO := Lib.hid io
  have HP := Lib.hid hP
  have HQ := Lib.hid hQ
  have HR := Lib.hid hL
  have HL := Lib.hid hl
  have R0 := Lib.hid hr
  have hnI : ¬ (1048576 : Int) < (n : Int) := by omega
  clear so io hx hos hds hrs hq hP hQ hL hl hr
  go_enter Try.func6, Try.ntmps6
  go_wp2_with fail
  refine Calls.mono (toFn A n c bs _ R0.out HL.out hn) ?_
  rintro e w1 ⟨D1, t1, rfl, o1, b1⟩
  have B1 := Lib.hid b1
  have Z1 := Lib.hid b1.size
  clear b1
  go_wp2_with fail
  refine Calls.mono (SO.out D1 t1 _ (RB.of_own o1) (own_capX o1)) ?_
  rintro e w2 ⟨A2, c2, zs2, D2, d2, E2, g2, rfl, oA, hz2, oD, oE, -, -, b2⟩
  have HZ2 := Lib.hid hz2
  have LS := Lib.hid (And.intro oA.lt (And.intro oD.lt oE.lt))
  have SA2 := Lib.hid (oA.alloc (.cells #[.int .i64 x.cls, .int .i64 x.label, .int .i64 x.hops, .int .i64 x.proto, .int .i64 x.src.k, .int .i64 x.src.a, .int .i64 x.src.b, .int .i64 x.src.c, .int .i64 x.src.d, .int .i64 x.dst.k, .int .i64 x.dst.a, .int .i64 x.dst.b, .int .i64 x.dst.c, .int .i64 x.dst.d, .slice A2 P c2, .slice D2 Q d2] 28))
  have SD2 := Lib.hid (oD.alloc (.cells #[.int .i64 x.cls, .int .i64 x.label, .int .i64 x.hops, .int .i64 x.proto, .int .i64 x.src.k, .int .i64 x.src.a, .int .i64 x.src.b, .int .i64 x.src.c, .int .i64 x.src.d, .int .i64 x.dst.k, .int .i64 x.dst.a, .int .i64 x.dst.b, .int .i64 x.dst.c, .int .i64 x.dst.d, .slice A2 P c2, .slice D2 Q d2] 28))
  have SE2 := Lib.hid (oE.alloc (.cells #[.int .i64 x.cls, .int .i64 x.label, .int .i64 x.hops, .int .i64 x.proto, .int .i64 x.src.k, .int .i64 x.src.a, .int .i64 x.src.b, .int .i64 x.src.c, .int .i64 x.src.d, .int .i64 x.dst.k, .int .i64 x.dst.a, .int .i64 x.dst.b, .int .i64 x.dst.c, .int .i64 x.dst.d, .slice A2 P c2, .slice D2 Q d2] 28))
  have q2 := Lib.hid (K.new w2 (.cells #[.int .i64 x.cls, .int .i64 x.label, .int .i64 x.hops, .int .i64 x.proto, .int .i64 x.src.k, .int .i64 x.src.a, .int .i64 x.src.b, .int .i64 x.src.c, .int .i64 x.src.d, .int .i64 x.dst.k, .int .i64 x.dst.a, .int .i64 x.dst.b, .int .i64 x.dst.c, .int .i64 x.dst.d, .slice A2 P c2, .slice D2 Q d2] 28))
  have B2 := Lib.hid (bthen (bthen B1.out b2) (Joins.below_alloc1 w2 (.cells #[.int .i64 x.cls, .int .i64 x.label, .int .i64 x.hops, .int .i64 x.proto, .int .i64 x.src.k, .int .i64 x.src.a, .int .i64 x.src.b, .int .i64 x.src.c, .int .i64 x.src.d, .int .i64 x.dst.k, .int .i64 x.dst.a, .int .i64 x.dst.b, .int .i64 x.dst.c, .int .i64 x.dst.d, .slice A2 P c2, .slice D2 Q d2] 28)))
  have Z2 := Lib.hid (show w.heap.size ≤ w2.heap.size from Nat.le_trans Z1.out b2.size)
  clear oA oD oE b2 o1 hz2
  go_wp2_with (with_reducible refine storeNewS rfl _ _ rfl rfl rfl ?_)
  refine Calls.mono (toFn A n c bs _ ((R0.out.below B2.out).more B2.out.size) HL.out hn) ?_
  rintro e w3 ⟨X, xc, rfl, ox, b3⟩
  have X3 := Lib.hid (own_base ox (show w2.heap.size + 1 ≤ _ by simp))
  have LX := Lib.hid X3.out.lt
  have Z3 := Lib.hid (show w2.heap.size + 1 ≤ w3.heap.size by have := b3.size; simpa using this)
  have q3 := Lib.hid (K.below b3 q2.out)
  have SA3 := Lib.hid (SA2.out.below b3)
  have SD3 := Lib.hid (own_below SD2.out b3)
  have SE3 := Lib.hid (own_below SE2.out b3)
  have B3 := Lib.hid (bthen B2.out b3)
  clear q2 SA2 SD2 SE2 B2
  clear ox b3
  go_wp2_with fail
  refine Calls.mono (PO.out X xc _ (RB.of_own X3.out) (own_capX X3.out)) ?_
  rintro e w4 ⟨A4, c4, zs4, D4, d4, E4, g4, rfl, oA, hz4, oD, oE, h1, h2, b4⟩
  have HZ4 := Lib.hid hz4
  have hB4 := BD.out zs4 hz4
  obtain ⟨U4, hU4⟩ : ∃ m, bodies zs4 = m := ⟨_, rfl⟩
  have HU4 := Lib.hid hU4
  rw [hU4] at hB4
  subst hB4
  have HL4 := Lib.hid oA.len
  have LI := Lib.hid (And.intro oA.lt (And.intro oD.lt oE.lt))
  have AP := Lib.hid (And.intro h1 h2)
  have Z4 := Lib.hid b4.size
  have IA4 := Lib.hid (oA.alloc (.cells #[.int .i64 x.cls, .int .i64 x.label, .int .i64 x.hops, .int .i64 x.proto, .int .i64 x.src.k, .int .i64 x.src.a, .int .i64 x.src.b, .int .i64 x.src.c, .int .i64 x.src.d, .int .i64 x.dst.k, .int .i64 x.dst.a, .int .i64 x.dst.b, .int .i64 x.dst.c, .int .i64 x.dst.d, .slice A4 P c4, .slice D4 Q d4] 28))
  have ID4 := Lib.hid (oD.alloc (.cells #[.int .i64 x.cls, .int .i64 x.label, .int .i64 x.hops, .int .i64 x.proto, .int .i64 x.src.k, .int .i64 x.src.a, .int .i64 x.src.b, .int .i64 x.src.c, .int .i64 x.src.d, .int .i64 x.dst.k, .int .i64 x.dst.a, .int .i64 x.dst.b, .int .i64 x.dst.c, .int .i64 x.dst.d, .slice A4 P c4, .slice D4 Q d4] 28))
  have IE4 := Lib.hid (oE.alloc (.cells #[.int .i64 x.cls, .int .i64 x.label, .int .i64 x.hops, .int .i64 x.proto, .int .i64 x.src.k, .int .i64 x.src.a, .int .i64 x.src.b, .int .i64 x.src.c, .int .i64 x.src.d, .int .i64 x.dst.k, .int .i64 x.dst.a, .int .i64 x.dst.b, .int .i64 x.dst.c, .int .i64 x.dst.d, .slice A4 P c4, .slice D4 Q d4] 28))
  have r4 := Lib.hid (K.new w4 (.cells #[.int .i64 x.cls, .int .i64 x.label, .int .i64 x.hops, .int .i64 x.proto, .int .i64 x.src.k, .int .i64 x.src.a, .int .i64 x.src.b, .int .i64 x.src.c, .int .i64 x.src.d, .int .i64 x.dst.k, .int .i64 x.dst.a, .int .i64 x.dst.b, .int .i64 x.dst.c, .int .i64 x.dst.d, .slice A4 P c4, .slice D4 Q d4] 28))
  have b5 := bthen b4 (Joins.below_alloc1 w4 (.cells #[.int .i64 x.cls, .int .i64 x.label, .int .i64 x.hops, .int .i64 x.proto, .int .i64 x.src.k, .int .i64 x.src.a, .int .i64 x.src.b, .int .i64 x.src.c, .int .i64 x.src.d, .int .i64 x.dst.k, .int .i64 x.dst.a, .int .i64 x.dst.b, .int .i64 x.dst.c, .int .i64 x.dst.d, .slice A4 P c4, .slice D4 Q d4] 28))
  have q4 := Lib.hid (K.below b5 q3.out)
  have SA4 := Lib.hid (SA3.out.below b5)
  have SD4 := Lib.hid (own_below SD3.out b5)
  have SE4 := Lib.hid (own_below SE3.out b5)
  have X4 := Lib.hid (own_below X3.out b5)
  have B4 := Lib.hid (bthen B3.out b5)
  clear q3 SA3 SD3 SE3 X3 B3
  clear oA oD oE h1 h2 b4 b5 hz4 hU4
  go_wp2_with (first | (with_reducible refine storeNewS rfl _ _ rfl rfl rfl ?_) | (with_reducible refine loadS rfl _ rfl w4.heap.size rfl r4.out ?_) | (with_reducible refine loadS rfl _ rfl w2.heap.size rfl q4.out ?_))
  refine Calls.mono (eqSixC x A4 D4 A2 D2 P c4 Q d4 c2 d2 zs4 zs2 ds _ (HZ4.out.trans HZ2.out.symm) IA4.out.xr SA4.out.xr IA4.out.len (by omega) (by rw [HU4.out]; omega) (RB.of_own ID4.out) (RB.of_own SD4.out) HQ.out (by omega)) ?_
  rintro e w5 ⟨rfl, b5⟩
  have q5 := Lib.hid (K.below b5 q4.out)
  have r5 := Lib.hid (K.below b5 r4.out)
  have SA5 := Lib.hid (SA4.out.below b5)
  have SD5 := Lib.hid (own_below SD4.out b5)
  have SE5 := Lib.hid (own_below SE4.out b5)
  have IA5 := Lib.hid (IA4.out.below b5)
  have ID5 := Lib.hid (own_below ID4.out b5)
  have IE5 := Lib.hid (own_below IE4.out b5)
  have X5 := Lib.hid (own_below X4.out b5)
  have B5 := Lib.hid (bthen B4.out b5)
  clear q4 r4 SA4 SD4 SE4 IA4 ID4 IE4 X4 B4
  clear b5
  go_wp2_with fail
  refine Calls.mono (eqBn E4 E2 L g4 g2 rs _ (RB.of_own IE5.out) (RB.of_own SE5.out) HR.out (by omega)) ?_
  rintro e w6 ⟨rfl, b6⟩
  have q6 := Lib.hid (K.below b6 q5.out)
  have r6 := Lib.hid (K.below b6 r5.out)
  have SA6 := Lib.hid (SA5.out.below b6)
  have SD6 := Lib.hid (own_below SD5.out b6)
  have SE6 := Lib.hid (own_below SE5.out b6)
  have IA6 := Lib.hid (IA5.out.below b6)
  have ID6 := Lib.hid (own_below ID5.out b6)
  have IE6 := Lib.hid (own_below IE5.out b6)
  have X6 := Lib.hid (own_below X5.out b6)
  have B6 := Lib.hid (bthen B5.out b6)
  clear q5 r5 SA5 SD5 SE5 IA5 ID5 IE5 X5 B5
  clear b6
  go_wp2_with fail
  refine Calls.mono (toFn A n c bs _ ((R0.out.below B6.out).more B6.out.size) HL.out hn) ?_
  rintro e w7 ⟨X7, x7, rfl, o7, b7⟩
  have q7 := Lib.hid (K.below b7 q6.out)
  have r7 := Lib.hid (K.below b7 r6.out)
  have SA7 := Lib.hid (SA6.out.below b7)
  have SD7 := Lib.hid (own_below SD6.out b7)
  have SE7 := Lib.hid (own_below SE6.out b7)
  have IA7 := Lib.hid (IA6.out.below b7)
  have ID7 := Lib.hid (own_below ID6.out b7)
  have IE7 := Lib.hid (own_below IE6.out b7)
  have Xx7 := Lib.hid (own_below X6.out b7)
  have B7 := Lib.hid (bthen B6.out b7)
  clear q6 r6 SA6 SD6 SE6 IA6 ID6 IE6 X6 B6
  clear b7
  go_wp2_with fail
  refine Calls.mono (eqBn X X7 n xc x7 bs _ (RB.of_own Xx7.out) (RB.of_own o7) HL.out hn) ?_
  rintro e w8 ⟨rfl, b8⟩
  have q8 := Lib.hid (K.below b8 q7.out)
  have r8 := Lib.hid (K.below b8 r7.out)
  have SA8 := Lib.hid (SA7.out.below b8)
  have SD8 := Lib.hid (own_below SD7.out b8)
  have SE8 := Lib.hid (own_below SE7.out b8)
  have IA8 := Lib.hid (IA7.out.below b8)
  have ID8 := Lib.hid (own_below ID7.out b8)
  have IE8 := Lib.hid (own_below IE7.out b8)
  have X8 := Lib.hid (own_below Xx7.out b8)
  have B8 := Lib.hid (bthen B7.out b8)
  clear q7 r7 SA7 SD7 SE7 IA7 ID7 IE7 Xx7 B7
  clear b8 o7
  go_wp2_with fail
  refine Calls.mono (markBn X n xc _ bs 1 _ X8.out hn (by omega) (by omega)) ?_
  rintro e w9 ⟨rfl, -, g9⟩
  have apX : ∀ k, (Value.slice X n xc).ownBlock = some k → w2.heap.size + 1 ≤ k ∧ k < w3.heap.size := fun k hk => LX.out k hk
  have q9 := Lib.hid (K.kept g9 q8.out (fun k hk => by have := apX k hk; omega))
  have r9 := Lib.hid (K.kept g9 r8.out (fun k hk => by have := apX k hk; have := Z4.out; omega))
  have SA9 := Lib.hid (SA8.out.grown g9 (fun k h => ⟨fun e => by have := (LS.out.1.1 k e); have := apX k h; omega, fun z hz e => by have := (LS.out.1.2 z hz k e); have := apX k h; omega⟩))
  have SD9 := Lib.hid (own_grown SD8.out g9 (fun k h1 h2 => by have := LS.out.2.1 k h1; have := apX k h2; omega))
  have SE9 := Lib.hid (own_grown SE8.out g9 (fun k h1 h2 => by have := LS.out.2.2 k h1; have := apX k h2; omega))
  have IA9 := Lib.hid (IA8.out.grown g9 (fun k h => ⟨fun e => by have := (LI.out.1.1 k e); have := apX k h; omega, fun z hz e => by have := (LI.out.1.2 z hz k e); have := apX k h; omega⟩))
  have ID9 := Lib.hid (own_grown ID8.out g9 (fun k h1 h2 => by have := LI.out.2.1 k h1; have := apX k h2; omega))
  have IE9 := Lib.hid (own_grown IE8.out g9 (fun k h1 h2 => by have := LI.out.2.2 k h1; have := apX k h2; omega))
  have B9 := Lib.hid (bgrown B8.out g9 (fun k hk => by have := apX k hk; have := Z2.out; omega))
  clear g9 apX q8 r8 SA8 SD8 SE8 IA8 ID8 IE8 X8 B8
  go_wp2_with (first | (refine loadSG _ rfl w4.heap.size rfl (by rfl) r9.out ?_) | (refine loadSG _ rfl w2.heap.size rfl (by rfl) q9.out ?_))
  refine Calls.mono (eqSixC x A4 D4 A2 D2 P c4 Q d4 c2 d2 zs4 zs2 ds _ (HZ4.out.trans HZ2.out.symm) IA9.out.xr SA9.out.xr IA9.out.len (by omega) (by rw [HU4.out]; omega) (RB.of_own ID9.out) (RB.of_own SD9.out) HQ.out (by omega)) ?_
  rintro e w10 ⟨rfl, b10⟩
  have q10 := Lib.hid (K.below b10 q9.out)
  have r10 := Lib.hid (K.below b10 r9.out)
  have SA10 := Lib.hid (SA9.out.below b10)
  have SD10 := Lib.hid (own_below SD9.out b10)
  have SE10 := Lib.hid (own_below SE9.out b10)
  have IA10 := Lib.hid (IA9.out.below b10)
  have ID10 := Lib.hid (own_below ID9.out b10)
  have IE10 := Lib.hid (own_below IE9.out b10)
  have B10 := Lib.hid (bthen B9.out b10)
  clear q9 r9 SA9 SD9 SE9 IA9 ID9 IE9 B9
  clear b10
  go_wp2_with fail
  refine Calls.mono (eqBn E4 E2 L g4 g2 rs _ (RB.of_own IE10.out) (RB.of_own SE10.out) HR.out (by omega)) ?_
  rintro e w11 ⟨rfl, b11⟩
  have q11 := Lib.hid (K.below b11 q10.out)
  have r11 := Lib.hid (K.below b11 r10.out)
  have SA11 := Lib.hid (SA10.out.below b11)
  have SD11 := Lib.hid (own_below SD10.out b11)
  have SE11 := Lib.hid (own_below SE10.out b11)
  have IA11 := Lib.hid (IA10.out.below b11)
  have ID11 := Lib.hid (own_below ID10.out b11)
  have IE11 := Lib.hid (own_below IE10.out b11)
  have B11 := Lib.hid (bthen B10.out b11)
  clear q10 r10 SA10 SD10 SE10 IA10 ID10 IE10 B10
  clear b11
  go_wp2_with (first | (with_reducible refine storeNewS rfl _ _ rfl rfl rfl ?_) | (with_reducible refine loadS rfl _ rfl w4.heap.size rfl r11.out ?_) | (with_reducible refine loadS rfl _ rfl w2.heap.size rfl q11.out ?_))
  refine Calls.mono (markSixC x A4 D4 P c4 Q d4 w3.heap.size zs4 ds _ IA11.out ID11.out HQ.out AP.out.1 (by rw [HU4.out]; omega)) ?_
  rw [HU4.out]
  rintro e w12 ⟨rfl, ma, md, tt⟩
  have apA : ∀ k, sblocks A4 D4 P c4 Q d4 zs4 k → w3.heap.size ≤ k ∧ k < w4.heap.size := fun k hk => by
    rcases hk with (hk | ⟨z, hz, hk⟩) | hk
    · exact LI.out.1.1 k hk
    · exact LI.out.1.2 z hz k hk
    · exact LI.out.2.1 k hk
  have IA12 := Lib.hid ma
  have ID12 := Lib.hid md
  have q12 := Lib.hid (tt.kept q11.out (fun hk => by have := apA _ hk; have := Z3.out; omega))
  have r12 := Lib.hid (tt.kept r11.out (fun hk => by have := apA _ hk; omega))
  have SA12 := Lib.hid (SA11.out.touch tt (fun k h => ⟨fun e => by have := (LS.out.1.1 k e); have := apA k h; have := Z3.out; omega, fun z hz e => by have := (LS.out.1.2 z hz k e); have := apA k h; have := Z3.out; omega⟩))
  have SD12 := Lib.hid (tt.own SD11.out (fun k h1 h2 => by have := LS.out.2.1 k h1; have := apA k h2; have := Z3.out; omega))
  have SE12 := Lib.hid (tt.own SE11.out (fun k h1 h2 => by have := LS.out.2.2 k h1; have := apA k h2; have := Z3.out; omega))
  have IE12 := Lib.hid (tt.own IE11.out (fun k h1 h2 => by
    have h := AP.out.2 k h1
    rcases h2 with (hk | ⟨z, hz, hk⟩) | hk
    · exact h.2.1 hk
    · exact h.2.2 z hz hk
    · exact h.1 hk))
  have B12 := Lib.hid (tt.below B11.out (fun k hk => by have := apA k hk; have := Z3.out; have := Z2.out; omega))
  clear ma md tt apA q11 r11 SA11 SD11 SE11 IA11 ID11 IE11 B11
  go_wp2_with fail
  refine Calls.mono (markBn E4 L g4 w3.heap.size rs (1 + P + U4 + Q) _ IE12.out (by omega) (by omega) (by omega)) ?_
  rintro e w13 ⟨rfl, me, ge⟩
  have apE : ∀ k, (Value.slice E4 L g4).ownBlock = some k → w3.heap.size ≤ k ∧ k < w4.heap.size := fun k hk => LI.out.2.2 k hk
  have IE13 := Lib.hid me
  have q13 := Lib.hid (K.kept ge q12.out (fun k hk => by have := apE k hk; have := Z3.out; omega))
  have r13 := Lib.hid (K.kept ge r12.out (fun k hk => by have := apE k hk; omega))
  have SA13 := Lib.hid (SA12.out.grown ge (fun k h => ⟨fun e => by have := (LS.out.1.1 k e); have := apE k h; have := Z3.out; omega, fun z hz e => by have := (LS.out.1.2 z hz k e); have := apE k h; have := Z3.out; omega⟩))
  have SD13 := Lib.hid (own_grown SD12.out ge (fun k h1 h2 => by have := LS.out.2.1 k h1; have := apE k h2; have := Z3.out; omega))
  have SE13 := Lib.hid (own_grown SE12.out ge (fun k h1 h2 => by have := LS.out.2.2 k h1; have := apE k h2; have := Z3.out; omega))
  have IA13 := Lib.hid (IA12.out.grown ge (fun k h => ⟨(AP.out.2 k h).2.1, marked_off (AP.out.2 k h).2.2⟩))
  have ID13 := Lib.hid (own_grown ID12.out ge (fun k h1 h2 => (AP.out.2 k h2).1 h1))
  have B13 := Lib.hid (bgrown B12.out ge (fun k hk => by have := apE k hk; have := Z3.out; have := Z2.out; omega))
  clear me ge apE q12 r12 SA12 SD12 SE12 IA12 ID12 IE12 B12
  go_wp2_with (first | (with_reducible refine storeNewS rfl _ _ rfl rfl rfl ?_) | (with_reducible refine loadS rfl _ rfl w4.heap.size rfl r13.out ?_) | (with_reducible refine loadS rfl _ rfl w2.heap.size rfl q13.out ?_))
  refine Calls.mono (held6 x A4 D4 P c4 Q d4 U4 zs4 _ HU4.out IA13.out.xr HL4.out (RB.of_own ID13.out) (by omega)) ?_
  rintro e w14 ⟨rfl, b14⟩
  have q14 := Lib.hid (K.below b14 q13.out)
  have r14 := Lib.hid (K.below b14 r13.out)
  have SA14 := Lib.hid (SA13.out.below b14)
  have SD14 := Lib.hid (own_below SD13.out b14)
  have SE14 := Lib.hid (own_below SE13.out b14)
  have IA14 := Lib.hid (IA13.out.below b14)
  have ID14 := Lib.hid (own_below ID13.out b14)
  have IE14 := Lib.hid (own_below IE13.out b14)
  have B14 := Lib.hid (bthen B13.out b14)
  clear q13 r13 SA13 SD13 SE13 IA13 ID13 IE13 B13
  clear b14
  go_wp2_with fail
  refine Calls.mono (heldBn E4 L g4 (1 + P + U4 + Q) _ (RB.of_own IE14.out) (by omega) (by omega) (by omega)) ?_
  rintro e wz14 ⟨rfl, rfl⟩
  go_wp2_with fail
  refine Calls.mono (toFn A n c bs _ ((R0.out.below B14.out).more B14.out.size) HL.out hn) ?_
  rintro e w15 ⟨X15, x15, rfl, o15, b15⟩
  have q15 := Lib.hid (K.below b15 q14.out)
  have r15 := Lib.hid (K.below b15 r14.out)
  have SA15 := Lib.hid (SA14.out.below b15)
  have SD15 := Lib.hid (own_below SD14.out b15)
  have SE15 := Lib.hid (own_below SE14.out b15)
  have IA15 := Lib.hid (IA14.out.below b15)
  have ID15 := Lib.hid (own_below ID14.out b15)
  have IE15 := Lib.hid (own_below IE14.out b15)
  have B15 := Lib.hid (bthen B14.out b15)
  clear q14 r14 SA14 SD14 SE14 IA14 ID14 IE14 B14
  clear b15
  go_wp2_with fail
  refine Calls.mono (PO.out X15 x15 _ (RB.of_own o15) (own_capX o15)) ?_
  rintro e w16 ⟨A7, c7, zs7, D7, d7, E7, g7, rfl, oA, hz7, oD, oE, -, -, b16'⟩
  have HZ7 := Lib.hid hz7
  have HB7 := Lib.hid (BD.out zs7 hz7)
  have b16 := bthen b16' (Joins.below_alloc1 w16 (.cells #[.int .i64 x.cls, .int .i64 x.label, .int .i64 x.hops, .int .i64 x.proto, .int .i64 x.src.k, .int .i64 x.src.a, .int .i64 x.src.b, .int .i64 x.src.c, .int .i64 x.src.d, .int .i64 x.dst.k, .int .i64 x.dst.a, .int .i64 x.dst.b, .int .i64 x.dst.c, .int .i64 x.dst.d, .slice A7 P c7, .slice D7 Q d7] 28))
  have s16 := Lib.hid (K.new w16 (.cells #[.int .i64 x.cls, .int .i64 x.label, .int .i64 x.hops, .int .i64 x.proto, .int .i64 x.src.k, .int .i64 x.src.a, .int .i64 x.src.b, .int .i64 x.src.c, .int .i64 x.src.d, .int .i64 x.dst.k, .int .i64 x.dst.a, .int .i64 x.dst.b, .int .i64 x.dst.c, .int .i64 x.dst.d, .slice A7 P c7, .slice D7 Q d7] 28))
  have JA16 := Lib.hid (oA.alloc (.cells #[.int .i64 x.cls, .int .i64 x.label, .int .i64 x.hops, .int .i64 x.proto, .int .i64 x.src.k, .int .i64 x.src.a, .int .i64 x.src.b, .int .i64 x.src.c, .int .i64 x.src.d, .int .i64 x.dst.k, .int .i64 x.dst.a, .int .i64 x.dst.b, .int .i64 x.dst.c, .int .i64 x.dst.d, .slice A7 P c7, .slice D7 Q d7] 28))
  have JD16 := Lib.hid (oD.alloc (.cells #[.int .i64 x.cls, .int .i64 x.label, .int .i64 x.hops, .int .i64 x.proto, .int .i64 x.src.k, .int .i64 x.src.a, .int .i64 x.src.b, .int .i64 x.src.c, .int .i64 x.src.d, .int .i64 x.dst.k, .int .i64 x.dst.a, .int .i64 x.dst.b, .int .i64 x.dst.c, .int .i64 x.dst.d, .slice A7 P c7, .slice D7 Q d7] 28))
  have JE16 := Lib.hid (oE.alloc (.cells #[.int .i64 x.cls, .int .i64 x.label, .int .i64 x.hops, .int .i64 x.proto, .int .i64 x.src.k, .int .i64 x.src.a, .int .i64 x.src.b, .int .i64 x.src.c, .int .i64 x.src.d, .int .i64 x.dst.k, .int .i64 x.dst.a, .int .i64 x.dst.b, .int .i64 x.dst.c, .int .i64 x.dst.d, .slice A7 P c7, .slice D7 Q d7] 28))
  have q16 := Lib.hid (K.below b16 q15.out)
  have r16 := Lib.hid (K.below b16 r15.out)
  have SA16 := Lib.hid (SA15.out.below b16)
  have SD16 := Lib.hid (own_below SD15.out b16)
  have SE16 := Lib.hid (own_below SE15.out b16)
  have IA16 := Lib.hid (IA15.out.below b16)
  have ID16 := Lib.hid (own_below ID15.out b16)
  have IE16 := Lib.hid (own_below IE15.out b16)
  have B16 := Lib.hid (bthen B15.out b16)
  clear q15 r15 SA15 SD15 SE15 IA15 ID15 IE15 B15
  clear b16 b16' oA oD oE o15 hz7
  go_wp2_with (first | (with_reducible refine storeNewS rfl _ _ rfl rfl rfl ?_) | (with_reducible refine loadS rfl _ rfl w16.heap.size rfl s16.out ?_) | (with_reducible refine loadS rfl _ rfl w2.heap.size rfl q16.out ?_))
  refine Calls.mono (eqSixC x A7 D7 A2 D2 P c7 Q d7 c2 d2 zs7 zs2 ds _ (HZ7.out.trans HZ2.out.symm) JA16.out.xr SA16.out.xr JA16.out.len (by omega) (by rw [HB7.out]; omega) (RB.of_own JD16.out) (RB.of_own SD16.out) HQ.out (by omega)) ?_
  rintro e w17 ⟨rfl, b17⟩
  have q17 := Lib.hid (K.below b17 q16.out)
  have r17 := Lib.hid (K.below b17 r16.out)
  have SA17 := Lib.hid (SA16.out.below b17)
  have SD17 := Lib.hid (own_below SD16.out b17)
  have SE17 := Lib.hid (own_below SE16.out b17)
  have IA17 := Lib.hid (IA16.out.below b17)
  have ID17 := Lib.hid (own_below ID16.out b17)
  have IE17 := Lib.hid (own_below IE16.out b17)
  have B17 := Lib.hid (bthen B16.out b17)
  have JE17 := Lib.hid (own_below JE16.out b17)
  clear q16 r16 SA16 SD16 SE16 IA16 ID16 IE16 B16 JE16
  clear b17 s16 JA16 JD16
  go_wp2_with fail
  refine Calls.mono (eqBn E7 E2 L g7 g2 rs _ (RB.of_own JE17.out) (RB.of_own SE17.out) HR.out (by omega)) ?_
  rintro e w18 ⟨rfl, b18⟩
  have q18 := Lib.hid (K.below b18 q17.out)
  have r18 := Lib.hid (K.below b18 r17.out)
  have SA18 := Lib.hid (SA17.out.below b18)
  have SD18 := Lib.hid (own_below SD17.out b18)
  have SE18 := Lib.hid (own_below SE17.out b18)
  have IA18 := Lib.hid (IA17.out.below b18)
  have ID18 := Lib.hid (own_below ID17.out b18)
  have IE18 := Lib.hid (own_below IE17.out b18)
  have B18 := Lib.hid (bthen B17.out b18)
  clear q17 r17 SA17 SD17 SE17 IA17 ID17 IE17 B17
  clear b18 JE17
  go_wp2_with (first | (with_reducible refine storeNewS rfl _ _ rfl rfl rfl ?_) | (with_reducible refine loadS rfl _ rfl w4.heap.size rfl r18.out ?_) | (with_reducible refine loadS rfl _ rfl w2.heap.size rfl q18.out ?_))
  refine Calls.mono (held6 x A4 D4 P c4 Q d4 U4 zs4 _ HU4.out IA18.out.xr HL4.out (RB.of_own ID18.out) (by omega)) ?_
  rintro e w19 ⟨rfl, b19⟩
  have q19 := Lib.hid (K.below b19 q18.out)
  have r19 := Lib.hid (K.below b19 r18.out)
  have SA19 := Lib.hid (SA18.out.below b19)
  have SD19 := Lib.hid (own_below SD18.out b19)
  have SE19 := Lib.hid (own_below SE18.out b19)
  have IA19 := Lib.hid (IA18.out.below b19)
  have ID19 := Lib.hid (own_below ID18.out b19)
  have IE19 := Lib.hid (own_below IE18.out b19)
  have B19 := Lib.hid (bthen B18.out b19)
  clear q18 r18 SA18 SD18 SE18 IA18 ID18 IE18 B18
  clear b19
  go_wp2_with fail
  refine Calls.mono (heldBn E4 L g4 (1 + P + U4 + Q) _ (RB.of_own IE19.out) (by omega) (by omega) (by omega)) ?_
  rintro e wz19 ⟨rfl, rfl⟩
  go_wp2
  go_ret
  exact ⟨rfl, B19.out⟩
end Go.Proofs.Ytkmijefheejcjaa
