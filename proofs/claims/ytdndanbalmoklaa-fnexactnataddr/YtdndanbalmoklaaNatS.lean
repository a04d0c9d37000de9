/-
  NatAddr in the model.
-/
import Derived.Test.YtdndanbalmoklaaNatLib
import Derived.Test.YtdndanbalmoklaaMoOkS0
import Derived.Test.YtdndanbalmoklaaPfxHas
import Derived.Test.YtdndanbalmoklaaCut
import Derived.Test.YtdndanbalmoklaaCells19
import Derived.StillTailTactics
namespace Go.Proofs.Ytdndanbalmoklaa
set_option maxRecDepth 100000
open Go.RowKit

theorem hasMB (p : Pf) (y : Ad) (b : Bool) (h : p.has y = b) (w : World) : Calls Try.prog 80 #[.agg #[.int .i64 p.base.k, .int .i64 p.base.a, .int .i64 p.base.b, .int .i64 p.base.c, .int .i64 p.base.d, .int .i64 p.len], .agg #[.int .i64 y.k, .int .i64 y.a, .int .i64 y.b, .int .i64 y.c, .int .i64 y.d]] w fun e w' => e = .returned (.bool b) ∧ Below w.heap.size w w' := h ▸ specPrefixHas p y w
theorem bytesNL (x : Ad) (bs : List UInt8) (L : Nat) (h : x.bytes = bs) (hl : bs.length = L) (v : World) : Calls Try.prog 81 #[.agg #[.int .i64 x.k, .int .i64 x.a, .int .i64 x.b, .int .i64 x.c, .int .i64 x.d]] v fun e v' => ∃ A c, e = .returned (.slice A L c) ∧ v'.ownsRow v.heap.size 5 1 (.slice A L c) L (cellsOf bs) ∧ Below v.heap.size v v' := by
  have k := specAddrBytes x v
  unfold BytesOut at k
  rwa [h, hl] at k
theorem u8_sub (x c : UInt8) : IntKind.u8.wrap ((x.toNat : Int) - c.toNat) = ((x - c).toNat : Int) := by
  have hx := x.toNat_lt
  have hc := c.toNat_lt
  rw [UInt8.toNat_sub]
  simp [IntKind.wrap, IntKind.bits, IntKind.signed]
  omega
theorem u8_add (b d : UInt8) : IntKind.u8.wrap ((b.toNat : Int) + d.toNat) = ((b + d).toNat : Int) := by
  have hx := b.toNat_lt
  have hc := d.toNat_lt
  rw [UInt8.toNat_add]
  simp [IntKind.wrap, IntKind.bits, IntKind.signed]
theorem nfill_step {rs xs : List UInt8} {k : Nat} (h1 : k < rs.length) (h2 : k < xs.length) : (rs.take k ++ xs.drop k).set k rs[k] = rs.take (k + 1) ++ xs.drop (k + 1) := by
  rw [List.drop_eq_getElem_cons h2, take_snoc rs k h1, List.append_assoc, List.set_append_right _ _ (by simp; omega)]
  simp only [List.length_take, show k - min k rs.length = 0 by omega, List.set_cons_zero, List.singleton_append]
theorem nfill_get {rs xs : List UInt8} {k : Nat} (h1 : k ≤ rs.length) (h2 : k < xs.length) : (rs.take k ++ xs.drop k)[k]? = some xs[k] := by
  rw [List.getElem?_append_right (by simp; omega)]
  simp [show min k rs.length = k by omega, List.getElem?_eq_getElem h2]
theorem grown_setCellN (w : World) (g j : Nat) (v : Value) : w.grownBy (w.setCell ⟨g, j, none⟩ v) (some g) := ⟨rfl, rfl, rfl, by simp, fun k _ hk => heap_setCell_other w ⟨g, j, none⟩ k v (fun e => hk (by simp [e]))⟩
theorem own_cells8 {w : World} {base g L c : Nat} {bs : List UInt8} (h : w.ownsRow base 5 1 (.slice (some ⟨g, 0, none⟩) L c) L (cellsOf bs)) {k : Nat} {b : UInt8} (hb : bs[k]? = some b) : w.cell? ⟨g, k, none⟩ = some (.int .u8 (b.toNat : Int)) := by
  have hl := h.1
  have hk : k < bs.length := (List.getElem?_eq_some_iff.1 hb).1
  rw [h.cellAt k (by rw [← hl]; simpa [cellsOf] using hk)]
  simp [cellsOf, hb]

set_option maxHeartbeats 2000000 in
theorem natS_no1 (p q : Pf) (a : Ad) (h1 : twins p q = false) (w : World) : Calls Try.prog 23 #[.agg #[.int .i64 p.base.k, .int .i64 p.base.a, .int .i64 p.base.b, .int .i64 p.base.c, .int .i64 p.base.d, .int .i64 p.len], .agg #[.int .i64 q.base.k, .int .i64 q.base.a, .int .i64 q.base.b, .int .i64 q.base.c, .int .i64 q.base.d, .int .i64 q.len], .agg #[.int .i64 a.k, .int .i64 a.a, .int .i64 a.b, .int .i64 a.c, .int .i64 a.d]] w fun e w' => e = .returned (.agg #[.int .i64 0, .int .i64 0, .int .i64 0, .int .i64 0, .int .i64 0]) ∧ Below w.heap.size w w' := by
  have H1 := Lib.hid h1
  clear h1
  go_enter Try.func23, Try.ntmps23
  go_wp2_with fail
  refine Calls.mono (twinsSB p q false H1.out _) ?_
  rintro e w1 ⟨rfl, b1⟩
  have p1 := Lib.hid (K.on b1 (g := w.heap.size) (by first | (simp; done) | (simp; omega)) (o := .cells #[.int .i64 p.base.k, .int .i64 p.base.a, .int .i64 p.base.b, .int .i64 p.base.c, .int .i64 p.base.d, .int .i64 p.len] 31) (K.oldAt (by first | (simp; done) | (simp; omega)) (K.oldAt (by first | (simp; done) | (simp; omega)) (K.oldAt (by first | (simp; done) | (simp; omega)) (K.newAt rfl)))))
  have q1 := Lib.hid (K.on b1 (g := w.heap.size + 1) (by first | (simp; done) | (simp; omega)) (o := .cells #[.int .i64 q.base.k, .int .i64 q.base.a, .int .i64 q.base.b, .int .i64 q.base.c, .int .i64 q.base.d, .int .i64 q.len] 31) (K.oldAt (by first | (simp; done) | (simp; omega)) (K.oldAt (by first | (simp; done) | (simp; omega)) (K.newAt (by simp)))))
  have a1 := Lib.hid (K.on b1 (g := w.heap.size + 1 + 1) (by first | (simp; done) | (simp; omega)) (o := .cells #[.int .i64 a.k, .int .i64 a.a, .int .i64 a.b, .int .i64 a.c, .int .i64 a.d] 29) (K.oldAt (by first | (simp; done) | (simp; omega)) (K.newAt (by simp))))
  have u1 := Lib.hid (K.on b1 (g := w.heap.size + 1 + 1 + 1) (by first | (simp; done) | (simp; omega)) (o := .cells #[.int .i64 0, .int .i64 0, .int .i64 0, .int .i64 0, .int .i64 0] 29) (K.newAt (by simp)))
  have B1 := Lib.hid (show Below w.heap.size w w1 from bthen (by go_grown) b1)
  clear b1
  obtain ⟨⟨z0, z1, z2, z3, z4⟩, f0, f1, f2, f3, f4⟩ := row5 u1.out
  go_wp2
  (try simp only [Exit.inBlock, Exit.then])
  refine bodyPost_ret (v := .agg #[.int .i64 0, .int .i64 0, .int .i64 0, .int .i64 0, .int .i64 0]) ?_ rfl ⟨rfl, by have := B1.out; go_grown⟩
  refine res_cell Try.results23 _ _ _ (w.heap.size + 1 + 1 + 1) _ ?_ (run_loadVar_row _ _ 29 29 _ (0, 0) _ (set5 _ _ _ _ _ u1.out) Try.underlying29 rfl info_addr)
  rfl

set_option maxHeartbeats 2000000 in
theorem natS_no2 (p q : Pf) (a : Ad) (h1 : twins p q = true) (h2 : p.has a = false) (w : World) : Calls Try.prog 23 #[.agg #[.int .i64 p.base.k, .int .i64 p.base.a, .int .i64 p.base.b, .int .i64 p.base.c, .int .i64 p.base.d, .int .i64 p.len], .agg #[.int .i64 q.base.k, .int .i64 q.base.a, .int .i64 q.base.b, .int .i64 q.base.c, .int .i64 q.base.d, .int .i64 q.len], .agg #[.int .i64 a.k, .int .i64 a.a, .int .i64 a.b, .int .i64 a.c, .int .i64 a.d]] w fun e w' => e = .returned (.agg #[.int .i64 0, .int .i64 0, .int .i64 0, .int .i64 0, .int .i64 0]) ∧ Below w.heap.size w w' := by
  have H1 := Lib.hid h1
  have H2 := Lib.hid h2
  clear h1 h2
  go_enter Try.func23, Try.ntmps23
  go_wp2_with fail
  refine Calls.mono (twinsSB p q true H1.out _) ?_
  rintro e w1 ⟨rfl, b1⟩
  have p1 := Lib.hid (K.on b1 (g := w.heap.size) (by first | (simp; done) | (simp; omega)) (o := .cells #[.int .i64 p.base.k, .int .i64 p.base.a, .int .i64 p.base.b, .int .i64 p.base.c, .int .i64 p.base.d, .int .i64 p.len] 31) (K.oldAt (by first | (simp; done) | (simp; omega)) (K.oldAt (by first | (simp; done) | (simp; omega)) (K.oldAt (by first | (simp; done) | (simp; omega)) (K.newAt rfl)))))
  have q1 := Lib.hid (K.on b1 (g := w.heap.size + 1) (by first | (simp; done) | (simp; omega)) (o := .cells #[.int .i64 q.base.k, .int .i64 q.base.a, .int .i64 q.base.b, .int .i64 q.base.c, .int .i64 q.base.d, .int .i64 q.len] 31) (K.oldAt (by first | (simp; done) | (simp; omega)) (K.oldAt (by first | (simp; done) | (simp; omega)) (K.newAt (by simp)))))
  have a1 := Lib.hid (K.on b1 (g := w.heap.size + 1 + 1) (by first | (simp; done) | (simp; omega)) (o := .cells #[.int .i64 a.k, .int .i64 a.a, .int .i64 a.b, .int .i64 a.c, .int .i64 a.d] 29) (K.oldAt (by first | (simp; done) | (simp; omega)) (K.newAt (by simp))))
  have u1 := Lib.hid (K.on b1 (g := w.heap.size + 1 + 1 + 1) (by first | (simp; done) | (simp; omega)) (o := .cells #[.int .i64 0, .int .i64 0, .int .i64 0, .int .i64 0, .int .i64 0] 29) (K.newAt (by simp)))
  have B1 := Lib.hid (show Below w.heap.size w w1 from bthen (by go_grown) b1)
  clear b1
  have c0 := K.cell p1.out 0 _ rfl
  have c1 := K.cell p1.out 1 _ rfl
  have c2 := K.cell p1.out 2 _ rfl
  have c3 := K.cell p1.out 3 _ rfl
  have c4 := K.cell p1.out 4 _ rfl
  have c5 := K.cell p1.out 5 _ rfl
  have d0 := K.cell a1.out 0 _ rfl
  have d1 := K.cell a1.out 1 _ rfl
  have d2 := K.cell a1.out 2 _ rfl
  have d3 := K.cell a1.out 3 _ rfl
  have d4 := K.cell a1.out 4 _ rfl
  go_wp2_with fail
  refine Calls.mono (hasMB p a false H2.out _) ?_
  rintro e w2 ⟨rfl, b2⟩
  have p2 := Lib.hid (K.below b2 p1.out)
  have q2 := Lib.hid (K.below b2 q1.out)
  have a2 := Lib.hid (K.below b2 a1.out)
  have u2 := Lib.hid (K.below b2 u1.out)
  have B2 := Lib.hid (bthen B1.out b2)
  clear b2 p1 q1 a1 u1 B1
  clear c0 c1 c2 c3 c4 c5 d0 d1 d2 d3 d4
  obtain ⟨⟨z0, z1, z2, z3, z4⟩, f0, f1, f2, f3, f4⟩ := row5 u2.out
  go_wp2
  (try simp only [Exit.inBlock, Exit.then])
  refine bodyPost_ret (v := .agg #[.int .i64 0, .int .i64 0, .int .i64 0, .int .i64 0, .int .i64 0]) ?_ rfl ⟨rfl, by have := B2.out; go_grown⟩
  refine res_cell Try.results23 _ _ _ (w.heap.size + 1 + 1 + 1) _ ?_ (run_loadVar_row _ _ 29 29 _ (0, 0) _ (set5 _ _ _ _ _ u2.out) Try.underlying29 rfl info_addr)
  rfl

set_option maxHeartbeats 4000000 in
theorem natS_yes (p q : Pf) (a : Ad) (h1 : twins p q = true) (h2 : p.has a = true) (w : World) : Calls Try.prog 23 #[.agg #[.int .i64 p.base.k, .int .i64 p.base.a, .int .i64 p.base.b, .int .i64 p.base.c, .int .i64 p.base.d, .int .i64 p.len], .agg #[.int .i64 q.base.k, .int .i64 q.base.a, .int .i64 q.base.b, .int .i64 q.base.c, .int .i64 q.base.d, .int .i64 q.len], .agg #[.int .i64 a.k, .int .i64 a.a, .int .i64 a.b, .int .i64 a.c, .int .i64 a.d]] w fun e w' => e = .returned (.agg #[.int .i64 (natA p q a).k, .int .i64 (natA p q a).a, .int .i64 (natA p q a).b, .int .i64 (natA p q a).c, .int .i64 (natA p q a).d]) ∧ Below w.heap.size w w' := by
  obtain ⟨hN, hl1, hl2⟩ := nat_ofA h1 h2
  have ha := (has_parts h2 (twins_parts h1).2.2.1).1
  obtain ⟨xs, hxs⟩ : ∃ l, a.bytes = l := ⟨_, rfl⟩
  obtain ⟨cs, hcs⟩ : ∃ l, (a.cut p.len).bytes = l := ⟨_, rfl⟩
  obtain ⟨bs, hbs⟩ : ∃ l, q.base.bytes = l := ⟨_, rfl⟩
  obtain ⟨L, hL⟩ : ∃ L, xs.length = L := ⟨_, rfl⟩
  have hL16 : 0 < L ∧ L ≤ 16 := by have := bytes_len ha; rw [hxs, hL] at this; omega
  obtain ⟨hL0, hL16⟩ := hL16
  rw [hxs, hcs, hbs] at hN
  rw [hxs, hcs, hL] at hl1
  rw [hxs, hbs, hL] at hl2
  have S1 := Lib.hid (bytesNL a xs L hxs hL)
  have S2 := Lib.hid (bytesNL (a.cut p.len) cs L hcs hl1)
  have S3 := Lib.hid (bytesNL q.base bs L hbs hl2)
  obtain ⟨rs, hrs⟩ : ∃ l, natB xs cs bs = l := ⟨_, rfl⟩
  have hlr : rs.length = L := by rw [← hrs]; exact natB_length hL hl1 hl2
  have hg : ∀ k, k < L → ∃ x c b, xs[k]? = some x ∧ cs[k]? = some c ∧ bs[k]? = some b ∧ rs[k]? = some (b + (x - c)) := by
    intro k h
    refine ⟨_, _, _, List.getElem?_eq_getElem (by rw [hL]; exact h), List.getElem?_eq_getElem (by rw [hl1]; exact h), List.getElem?_eq_getElem (by rw [hl2]; exact h), ?_⟩
    subst hrs
    rw [List.getElem?_eq_getElem (by rw [hlr]; exact h), natB_get hL hl1 hl2 h]
  have HG := Lib.hid hg
  rw [hrs] at hN
  have HN := Lib.hid hN
  have LX := Lib.hid hL
  have LC := Lib.hid hl1
  have LB := Lib.hid hl2
  have LR := Lib.hid hlr
  have H1 := Lib.hid h1
  have H2 := Lib.hid h2
  clear h1 h2 hxs hcs hbs hL hl1 hl2 hlr hrs hN ha hg
  go_enter Try.func23, Try.ntmps23
  go_wp2_with fail
  refine Calls.mono (twinsSB p q true H1.out _) ?_
  rintro e w1 ⟨rfl, b1⟩
  have p1 := Lib.hid (K.on b1 (g := w.heap.size) (by first | (simp; done) | (simp; omega)) (o := .cells #[.int .i64 p.base.k, .int .i64 p.base.a, .int .i64 p.base.b, .int .i64 p.base.c, .int .i64 p.base.d, .int .i64 p.len] 31) (K.oldAt (by first | (simp; done) | (simp; omega)) (K.oldAt (by first | (simp; done) | (simp; omega)) (K.oldAt (by first | (simp; done) | (simp; omega)) (K.newAt rfl)))))
  have q1 := Lib.hid (K.on b1 (g := w.heap.size + 1) (by first | (simp; done) | (simp; omega)) (o := .cells #[.int .i64 q.base.k, .int .i64 q.base.a, .int .i64 q.base.b, .int .i64 q.base.c, .int .i64 q.base.d, .int .i64 q.len] 31) (K.oldAt (by first | (simp; done) | (simp; omega)) (K.oldAt (by first | (simp; done) | (simp; omega)) (K.newAt (by simp)))))
  have a1 := Lib.hid (K.on b1 (g := w.heap.size + 1 + 1) (by first | (simp; done) | (simp; omega)) (o := .cells #[.int .i64 a.k, .int .i64 a.a, .int .i64 a.b, .int .i64 a.c, .int .i64 a.d] 29) (K.oldAt (by first | (simp; done) | (simp; omega)) (K.newAt (by simp))))
  have u1 := Lib.hid (K.on b1 (g := w.heap.size + 1 + 1 + 1) (by first | (simp; done) | (simp; omega)) (o := .cells #[.int .i64 0, .int .i64 0, .int .i64 0, .int .i64 0, .int .i64 0] 29) (K.newAt (by simp)))
  have B1 := Lib.hid (show Below w.heap.size w w1 from bthen (by go_grown) b1)
  clear b1
  have c0 := K.cell p1.out 0 _ rfl
  have c1 := K.cell p1.out 1 _ rfl
  have c2 := K.cell p1.out 2 _ rfl
  have c3 := K.cell p1.out 3 _ rfl
  have c4 := K.cell p1.out 4 _ rfl
  have c5 := K.cell p1.out 5 _ rfl
  have d0 := K.cell a1.out 0 _ rfl
  have d1 := K.cell a1.out 1 _ rfl
  have d2 := K.cell a1.out 2 _ rfl
  have d3 := K.cell a1.out 3 _ rfl
  have d4 := K.cell a1.out 4 _ rfl
  go_wp2_with fail
  refine Calls.mono (hasMB p a true H2.out _) ?_
  rintro e w2 ⟨rfl, b2⟩
  have p2 := Lib.hid (K.below b2 p1.out)
  have q2 := Lib.hid (K.below b2 q1.out)
  have a2 := Lib.hid (K.below b2 a1.out)
  have u2 := Lib.hid (K.below b2 u1.out)
  have B2 := Lib.hid (bthen B1.out b2)
  clear b2 p1 q1 a1 u1 B1
  have W2 := Lib.hid (show w.heap.size + 1 + 1 + 1 < w2.heap.size from K.lt u2.out)
  clear c0 c1 c2 c3 c4 c5 d0 d1 d2 d3 d4
  have d0 := K.cell a2.out 0 _ rfl
  have d1 := K.cell a2.out 1 _ rfl
  have d2 := K.cell a2.out 2 _ rfl
  have d3 := K.cell a2.out 3 _ rfl
  have d4 := K.cell a2.out 4 _ rfl
  go_wp2_with fail
  refine Calls.mono (S1.out _) ?_
  rintro e w3 ⟨A1, c1, rfl, o3, b3⟩
  have O3 := Lib.hid o3
  have Z3 := Lib.hid (show w2.heap.size ≤ w3.heap.size from b3.size)
  have p3 := Lib.hid (K.below b3 p2.out)
  have q3 := Lib.hid (K.below b3 q2.out)
  have a3 := Lib.hid (K.below b3 a2.out)
  have u3 := Lib.hid (K.below b3 u2.out)
  have B3 := Lib.hid (bthen B2.out b3)
  clear b3 p2 q2 a2 u2 B2
  clear o3 d0 d1 d2 d3 d4
  have d0 := K.cell a3.out 0 _ rfl
  have d1 := K.cell a3.out 1 _ rfl
  have d2 := K.cell a3.out 2 _ rfl
  have d3 := K.cell a3.out 3 _ rfl
  have d4 := K.cell a3.out 4 _ rfl
  have k5 := K.cell p3.out 5 _ rfl
  go_wp2_with fail
  refine Calls.mono (specCut a p.len _) ?_
  rintro e w4 ⟨rfl, b4⟩
  have O4 := Lib.hid (own_below O3.out b4)
  have p4 := Lib.hid (K.below b4 p3.out)
  have q4 := Lib.hid (K.below b4 q3.out)
  have a4 := Lib.hid (K.below b4 a3.out)
  have u4 := Lib.hid (K.below b4 u3.out)
  have B4 := Lib.hid (bthen B3.out b4)
  clear b4 p3 q3 a3 u3 B3
  clear O3 d0 d1 d2 d3 d4 k5
  go_wp2_with fail
  refine Calls.mono (S2.out _) ?_
  rintro e w5 ⟨A2, c2, rfl, o5, b5⟩
  have O5 := Lib.hid (own_below O4.out b5)
  have P5 := Lib.hid o5
  have Z5 := Lib.hid (show w4.heap.size ≤ w5.heap.size from b5.size)
  have T4 := Lib.hid (O4.out.lt)
  have p5 := Lib.hid (K.below b5 p4.out)
  have q5 := Lib.hid (K.below b5 q4.out)
  have a5 := Lib.hid (K.below b5 a4.out)
  have u5 := Lib.hid (K.below b5 u4.out)
  have B5 := Lib.hid (bthen B4.out b5)
  clear b5 p4 q4 a4 u4 B4
  clear O4 o5
  have d0 := K.cell q5.out 0 _ rfl
  have d1 := K.cell q5.out 1 _ rfl
  have d2 := K.cell q5.out 2 _ rfl
  have d3 := K.cell q5.out 3 _ rfl
  have d4 := K.cell q5.out 4 _ rfl
  go_wp2_with fail
  refine Calls.mono (S3.out _) ?_
  rintro e w6 ⟨A3, c3, rfl, o6, b6⟩
  have O6 := Lib.hid (own_below O5.out b6)
  have P6 := Lib.hid (own_below P5.out b6)
  have Q6 := Lib.hid o6
  have T5 := Lib.hid (P5.out.lt)
  have p6 := Lib.hid (K.below b6 p5.out)
  have q6 := Lib.hid (K.below b6 q5.out)
  have a6 := Lib.hid (K.below b6 a5.out)
  have u6 := Lib.hid (K.below b6 u5.out)
  have B6 := Lib.hid (bthen B5.out b6)
  clear b6 p5 q5 a5 u5 B5
  clear O5 P5 o6 d0 d1 d2 d3 d4
  obtain ⟨g1, rfl⟩ : ∃ g, A1 = some ⟨g, 0, none⟩ := by
    rcases O6.out.2 with ⟨_, h⟩ | ⟨g, cap, cur, hv, _⟩
    · omega
    · injection hv with hA
      exact ⟨g, hA⟩
  obtain ⟨g2, rfl⟩ : ∃ g, A2 = some ⟨g, 0, none⟩ := by
    rcases P6.out.2 with ⟨_, h⟩ | ⟨g, cap, cur, hv, _⟩
    · omega
    · injection hv with hA
      exact ⟨g, hA⟩
  obtain ⟨g3, rfl⟩ : ∃ g, A3 = some ⟨g, 0, none⟩ := by
    rcases Q6.out.2 with ⟨_, h⟩ | ⟨g, cap, cur, hv, _⟩
    · omega
    · injection hv with hA
      exact ⟨g, hA⟩
  have G1 := T4.out g1 rfl
  have G2 := T5.out g2 rfl
  have G3 := Q6.out.lt g3 rfl
  have hL1 : L ≤ 1048576 := by omega
  have G12 : g1 < g2 := by have := P6.out.lt g2 rfl; omega
  have G13 : g1 < g3 := by have := Z5.out; omega
  have W1 := Lib.hid (show w.heap.size ≤ g1 ∧ w.heap.size + 1 + 1 + 1 < g1 by have := W2.out; omega)
  clear T4 T5 Z3 Z5 G1 G2 G3 W2
  go_wp2
  go_loopw [10] (fun i wr => ∃ k : Nat, k ≤ L ∧ i = .int .i64 k ∧ Hid (wr.ownsRow w2.heap.size 5 1 (.slice (some ⟨g1, 0, none⟩) L c1) L (cellsOf (rs.take k ++ xs.drop k))) ∧ Hid (wr.ownsRow w4.heap.size 5 1 (.slice (some ⟨g2, 0, none⟩) L c2) L (cellsOf cs)) ∧ Hid (wr.ownsRow w5.heap.size 5 1 (.slice (some ⟨g3, 0, none⟩) L c3) L (cellsOf bs)) ∧ Hid (wr.heap[w.heap.size + 1 + 1 + 1]? = some (.cells #[.int .i64 0, .int .i64 0, .int .i64 0, .int .i64 0, .int .i64 0] 29 (0, 0))) ∧ Hid (Below w.heap.size w wr)) (fun i _ => L - (intOf i).toNat)
  case atStart => exact ⟨0, Nat.zero_le _, rfl, Lib.hid (by simpa using O6.out), P6, Q6, u6, B6⟩
  case round =>
    obtain ⟨k, hk, rfl, R1, R2, R3, u7, B7⟩ := hrel
    clear O6 P6 Q6 u6 B6 p6 q6 a6
    by_cases hlt : k < L
    · obtain ⟨x, c, b, e1, e2, e3, e4⟩ := HG.out k hlt
      have V := Lib.hid (cells_set (rs.take k ++ xs.drop k) k (b + (x - c)))
      have e4' : rs[k]'(by rw [LR.out]; exact hlt) = b + (x - c) := by
        rw [List.getElem?_eq_getElem (by rw [LR.out]; exact hlt)] at e4
        exact Option.some.inj e4
      have FS := Lib.hid (show (rs.take k ++ xs.drop k).set k (b + (x - c)) = rs.take (k + 1) ++ xs.drop (k + 1) by rw [← e4']; exact nfill_step (by rw [LR.out]; exact hlt) (by rw [LX.out]; exact hlt))
      have hx0 := nfill_get (rs := rs) (xs := xs) (k := k) (by rw [LR.out]; exact hk) (by rw [LX.out]; exact hlt)
      rw [← List.getElem?_eq_getElem (by rw [LX.out]; exact hlt), e1] at hx0
      have d1 : wr.drew.cell? ⟨g1, k, none⟩ = some (.int .u8 (x.toNat : Int)) := own_cells8 R1.out hx0
      have d2 : wr.drew.cell? ⟨g2, k, none⟩ = some (.int .u8 (c.toNat : Int)) := own_cells8 R2.out e2
      have d3 : wr.drew.cell? ⟨g3, k, none⟩ = some (.int .u8 (b.toNat : Int)) := own_cells8 R3.out e3
      have s1 := u8_sub x c
      have s2 := u8_add b (x - c)
      have fz : wr.drew.frozen? ⟨g1, k, none⟩ = false := R1.out.drew.frozenAt k
      have N1 := (R1.out.drew.stored k (.int .u8 ((b + (x - c)).toNat : Int))).1
      rw [V.out, FS.out] at N1
      have M1 := Lib.hid N1
      have GR := grown_setCellN wr.drew g1 k (.int .u8 ((b + (x - c)).toNat : Int))
      have M2 := Lib.hid (own_grown R2.out.drew GR (fun q hq e => by have e1 : g2 = q := Option.some.inj hq; have e2 := Option.some.inj e; omega))
      have M3 := Lib.hid (own_grown R3.out.drew GR (fun q hq e => by have e1 : g3 = q := Option.some.inj hq; have e2 := Option.some.inj e; omega))
      have M4 := Lib.hid (K.other (w := wr.drew) u7.out g1 k (.int .u8 ((b + (x - c)).toNat : Int)) (by have := W1.out; omega))
      have M5 := Lib.hid ((show Below w.heap.size w wr.drew from ⟨B7.out.os, B7.out.tape, B7.out.output, B7.out.size, B7.out.block⟩).setCell (p := ⟨g1, k, none⟩) (show w.heap.size ≤ g1 from W1.out.1) (.int .u8 ((b + (x - c)).toNat : Int)))
      clear N1 GR e1 e2 e3 e4 e4' hx0 V FS
      generalize x - c = d at *
      generalize b + d = y at *
      go_wp2
      go_still_tail 17, (by kernel_rfl)
      change wpList _ _ _ _ _ wr.drew
      generalize wr.drew = wd at *
      go_wp2
      go_roundw
      case rel => exact ⟨k + 1, by omega, by go_num, M1, M2, M3, M4, M5⟩
      case measure => simp [intOf]; omega
    · obtain rfl : k = L := by omega
      have RB7 := Lib.hid (show RB wr wr.heap.size (some ⟨g1, 0, none⟩) rs from by
        have := RB.of_own R1.out
        rwa [List.take_of_length_le (by rw [LR.out]; exact Nat.le_refl _), List.drop_eq_nil_of_le (by rw [LX.out]; exact Nat.le_refl _), List.append_nil] at this)
      clear R1 R2 R3
      go_wp2_with fail
      refine Calls.mono (specAddrOf _ k c1 rs _ RB7.out LR.out hL1) ?_
      rintro e w8 ⟨rfl, b8⟩
      rw [← HN.out]
      have u8 := Lib.hid (K.below b8 u7.out)
      have B8 := Lib.hid (bthen B7.out b8)
      clear b8 u7 B7
      have u9 := Lib.hid (K.old u8.out (.cells #[.int .i64 (natA p q a).k, .int .i64 (natA p q a).a, .int .i64 (natA p q a).b, .int .i64 (natA p q a).c, .int .i64 (natA p q a).d] 29))
      have a9 := Lib.hid (K.new w8 (.cells #[.int .i64 (natA p q a).k, .int .i64 (natA p q a).a, .int .i64 (natA p q a).b, .int .i64 (natA p q a).c, .int .i64 (natA p q a).d] 29))
      obtain ⟨⟨z0, z1, z2, z3, z4⟩, f0, f1, f2, f3, f4⟩ := row5 u9.out
      have N8 := Lib.hid (show w.heap.size + 1 + 1 + 1 < w8.heap.size from K.lt u8.out)
      have B9 := Lib.hid (B8.out.alloc (show w.heap.size ≤ w8.heap.size by have := N8.out; omega) (.cells #[.int .i64 (natA p q a).k, .int .i64 (natA p q a).a, .int .i64 (natA p q a).b, .int .i64 (natA p q a).c, .int .i64 (natA p q a).d] 29))
      go_wp2
      (try simp only [Exit.inBlock, Exit.then])
      refine bodyPost_ret (v := .agg #[.int .i64 (natA p q a).k, .int .i64 (natA p q a).a, .int .i64 (natA p q a).b, .int .i64 (natA p q a).c, .int .i64 (natA p q a).d]) ?_ rfl ⟨rfl, (Below.setCell (Below.setCell (Below.setCell (Below.setCell (Below.setCell B9.out (p := ⟨w.heap.size + 1 + 1 + 1, 0, none⟩) (by simp; omega) _) (p := ⟨w.heap.size + 1 + 1 + 1, 1, none⟩) (by simp; omega) _) (p := ⟨w.heap.size + 1 + 1 + 1, 2, none⟩) (by simp; omega) _) (p := ⟨w.heap.size + 1 + 1 + 1, 3, none⟩) (by simp; omega) _) (p := ⟨w.heap.size + 1 + 1 + 1, 4, none⟩) (by simp; omega) _)⟩
      refine res_cell Try.results23 _ _ _ (w.heap.size + 1 + 1 + 1) _ ?_ (run_loadVar_row _ _ 29 29 _ (0, 0) _ (set5 _ _ _ _ _ u9.out) Try.underlying29 rfl info_addr)
      rfl
theorem natAddrS (p q : Pf) (a : Ad) (w : World) : Calls Try.prog 23 #[.agg #[.int .i64 p.base.k, .int .i64 p.base.a, .int .i64 p.base.b, .int .i64 p.base.c, .int .i64 p.base.d, .int .i64 p.len], .agg #[.int .i64 q.base.k, .int .i64 q.base.a, .int .i64 q.base.b, .int .i64 q.base.c, .int .i64 q.base.d, .int .i64 q.len], .agg #[.int .i64 a.k, .int .i64 a.a, .int .i64 a.b, .int .i64 a.c, .int .i64 a.d]] w fun e w' => e = .returned (.agg #[.int .i64 (natA p q a).k, .int .i64 (natA p q a).a, .int .i64 (natA p q a).b, .int .i64 (natA p q a).c, .int .i64 (natA p q a).d]) ∧ Below w.heap.size w w' := by
  cases h1 : twins p q with
  | false =>
    rw [natA_no1 h1]
    exact natS_no1 p q a h1 w
  | true =>
    cases h2 : p.has a with
    | false =>
      rw [natA_no2 h2]
      exact natS_no2 p q a h1 h2 w
    | true => exact natS_yes p q a h1 h2 w
end Go.Proofs.Ytdndanbalmoklaa
