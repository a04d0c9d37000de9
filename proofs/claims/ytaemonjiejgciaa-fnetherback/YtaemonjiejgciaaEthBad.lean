/-
  The model's draws of frames that may be wrong, number by number.
-/
import Derived.Test.YtaemonjiejgciaaEthDraw
namespace Go.Proofs.Ytaemonjiejgciaa
open Go.RowKit

/-- What a draw of a frame leaves: the frame, its body in memory of its own. -/
def GivesF (w : World) (g : Nat) (A : Option Addr) (c : Nat) (bs : List UInt8) (t' s' : Nat) (x : Eh) (ds : List UInt8) (e : Ending) (w' : World) : Prop :=
  ∃ D d, e = .returned (.agg #[.int .i64 x.d, .int .i64 x.s, .int .i64 x.t, .int .i64 x.k, .slice D ds.length d]) ∧ w'.ownsRow w.heap.size 5 1 (.slice D ds.length d) ds.length (cellsOf ds) ∧ CurS w' g A c bs t' s' ∧ w.grownBy w' (some g)
theorem made_zero {w : World} {base g N : Nat} (h : w.ownsRow base 5 1 (.slice (some ⟨g, 0, none⟩) N N) N (madeCells (Value.int IntKind.u8 0).cells (N * 1)).toList) : w.ownsRow base 5 1 (.slice (some ⟨g, 0, none⟩) N N) N (cellsOf (List.replicate N 0)) := by
  have e : (madeCells (Value.int IntKind.u8 0).cells (N * 1)).toList = cellsOf (List.replicate N 0) := by
    have := toList_madeCells_one (.int .u8 0) N
    simpa [Value.cells, cellsOf] using this
  rwa [e] at h
def Bad (bs : List UInt8) (t s : Nat) : Prop := ∃ (x : Eh) (ds : List UInt8) (t' s' : Nat), ds.length ≤ 1600 ∧ ∀ (w : World) (g : Nat) (A : Option Addr) (c : Nat), CurS w g A c bs t s → Calls Try.prog 44 #[.pointer (some ⟨g, 0, none⟩)] w (GivesF w g A c bs t' s' x ds)
theorem curS_set {w : World} {g : Nat} {A : Option Addr} {c : Nat} {bs : List UInt8} {t s : Nat} (h : CurS w g A c bs t s) (r i : Nat) (v : Value) (hr : g < r) : CurS (w.setCell ⟨r, i, none⟩ v) g A c bs t s := h.grownBy (grownBy_set w r i v) (fun u hu => by cases hu; exact hr)
theorem grown_set {W w : World} {g : Nat} (h : W.grownBy w (some g)) (r i : Nat) (v : Value) (hr : W.heap.size ≤ r) : W.grownBy (w.setCell ⟨r, i, none⟩ v) (some g) := grown_other h (grownBy_set w r i v) (fun u hu => by cases hu; exact hr)

set_option maxRecDepth 100000 in
set_option maxHeartbeats 1000000 in
theorem bad_d (bs : List UInt8) (t s : Nat) (x : Eh) (s1 : Nat) (ds : List UInt8) (t2 s2 s3 : Nat) (ht2 : t2 ≤ 950000000000) (hds : ds.length ≤ 50) 
    (he : ∀ (w : World) (g : Nat) (A : Option Addr) (c : Nat), CurS w g A c bs t s → Calls Try.prog 51 #[.pointer (some ⟨g, 0, none⟩)] w (GivesE w g A c bs (t + 13) s1 x))
    (hb : ∀ (w : World) (g : Nat) (A : Option Addr) (c : Nat), CurS w g A c bs (t + 13) s1 → Calls Try.prog 52 #[.pointer (some ⟨g, 0, none⟩), .int .i64 50] w (GivesB w g A c bs t2 s2 ds))
    (hp : ∀ (w : World) (g : Nat) (A : Option Addr) (c : Nat), CurS w g A c bs t2 s2 → Calls Try.prog 53 #[.pointer (some ⟨g, 0, none⟩), .int .i64 8] w (Gives w g A c bs (t2 + 1) s3 0)) : Bad bs t s := by
  have HE := Lib.hid he
  have HB := Lib.hid hb
  have HP := Lib.hid hp
  clear he hb hp
  obtain ⟨y, s4, h4⟩ := rawE bs (t2 + 1) s3 (by omega)
  obtain ⟨z, s5, z0, zn, h5⟩ := pickE bs (t2 + 1 + 2) s4 3 (by omega) (by omega) (by omega)
  obtain ⟨k, rfl⟩ : ∃ k : Nat, z = k := ⟨z.toNat, by omega⟩
  obtain ⟨v, hv⟩ : ∃ v, ([y, 281474976710655, 281474976710656] : List Int)[k]? = some v := ⟨_, List.getElem?_eq_getElem (by simp; omega)⟩
  have H4 := Lib.hid h4
  have H5 := Lib.hid h5
  have HV := Lib.hid hv
  clear h4 h5 hv
  refine ⟨{ x with d := v }, ds, t2 + 1 + 2 + 1, s5, by omega, fun w g A c hc => ?_⟩
  have hgw := hc.lt
  have C0 := Lib.hid (hc.below (Joins.below_alloc1 w (.cells #[.int .i64 0, .int .i64 0, .int .i64 0, .int .i64 0, .slice none 0 0] 27)))
  have z0 := Lib.hid (K.new w (.cells #[.int .i64 0, .int .i64 0, .int .i64 0, .int .i64 0, .slice none 0 0] 27))
  have G0 := Lib.hid (only_new (K.refl w (some g)) (.cells #[.int .i64 0, .int .i64 0, .int .i64 0, .int .i64 0, .slice none 0 0] 27))
  clear hc
  go_enter Try.func44, Try.ntmps44
  go_wp2_with fail
  refine (HE.out _ g A c C0.out).mono ?_
  rintro e w1 ⟨rfl, c1, g1⟩
  have z1 := Lib.hid (K.old (K.kept g1 z0.out (fun k hk => by cases hk; omega)) (.cells #[.int .i64 x.d, .int .i64 x.s, .int .i64 x.t, .int .i64 x.k, .slice none 0 0] 27))
  have q1 := Lib.hid (K.new w1 (.cells #[.int .i64 x.d, .int .i64 x.s, .int .i64 x.t, .int .i64 x.k, .slice none 0 0] 27))
  have C1 := Lib.hid (c1.below (Joins.below_alloc1 w1 (.cells #[.int .i64 x.d, .int .i64 x.s, .int .i64 x.t, .int .i64 x.k, .slice none 0 0] 27)))
  have G1 := Lib.hid (only_new (grownBy_trans G0.out g1) (.cells #[.int .i64 x.d, .int .i64 x.s, .int .i64 x.t, .int .i64 x.k, .slice none 0 0] 27))
  have lt1 : w.heap.size < w1.heap.size := by have := g1.size; simp at this; omega
  clear c1 g1
  go_wp2_with fail
  refine (HB.out _ g A c C1.out).mono ?_
  rintro e w2 ⟨D2, cap2, rfl, o2, c2, g2⟩
  have O2 := Lib.hid (own_base o2 (show w1.heap.size + 1 ≤ _ by simp))
  have q2 := Lib.hid (K.kept g2 q1.out (fun k hk => by cases hk; omega))
  have z2 := Lib.hid (K.kept g2 z1.out (fun k hk => by cases hk; omega))
  have G2 := Lib.hid (grownBy_trans G1.out g2)
  have C2 := Lib.hid c2
  clear o2 c2 g2
  obtain ⟨⟨c0, c1, c2, c3, c4⟩, f0, f1, f2, f3, f4⟩ := K.row5 q2.out
  go_wp2_with fail
  clear c0 c1 c2 c3 c4 f0 f1 f2 f3 f4
  refine (HP.out _ g A c (curS_set C2.out w1.heap.size 4 (.slice D2 ds.length cap2) (by omega))).mono ?_
  rintro e w3 ⟨rfl, c3, g3⟩
  have C3 := Lib.hid c3
  have q3 : Hid (w3.heap[w1.heap.size]? = some (.cells #[.int .i64 x.d, .int .i64 x.s, .int .i64 x.t, .int .i64 x.k, .slice D2 ds.length cap2] 27)) := Lib.hid (K.kept g3 (K.set q2.out 4 _) (fun k hk => by cases hk; omega))
  have z3 := Lib.hid (K.kept g3 (K.other z2.out w1.heap.size 4 (.slice D2 ds.length cap2) (by omega)) (fun k hk => by cases hk; omega))
  have O3 := Lib.hid (own_grown (own_set O2.out w1.heap.size 4 (.slice D2 ds.length cap2) (by omega)) g3 (fun k h1 h2 => by cases h2; have := (O2.out.lt _ h1).1; omega))
  have G3 := Lib.hid (grownBy_trans (grown_set G2.out w1.heap.size 4 (.slice D2 ds.length cap2) (by omega)) g3)
  clear c3 g3 C0 z0 G0 z1 q1 C1 G1 q2 z2 G2 C2 O2
  go_wp2_with fail
  refine (H4.out _ g A c C3.out).mono ?_
  rintro e w4 ⟨rfl, c4, g4⟩
  have C4 := Lib.hid (c4.below (Joins.below_alloc1 w4 (.cells #[.int .i64 y, .int .i64 281474976710655, .int .i64 281474976710656] 3)))
  have q4 := Lib.hid (K.old (K.kept g4 q3.out (fun k hk => by cases hk; omega)) (.cells #[.int .i64 y, .int .i64 281474976710655, .int .i64 281474976710656] 3))
  have z4 := Lib.hid (K.old (K.kept g4 z3.out (fun k hk => by cases hk; omega)) (.cells #[.int .i64 y, .int .i64 281474976710655, .int .i64 281474976710656] 3))
  have O4 := Lib.hid ((own_grown O3.out g4 (fun k h1 h2 => by cases h2; have := (O3.out.lt _ h1).1; omega)).alloc (.cells #[.int .i64 y, .int .i64 281474976710655, .int .i64 281474976710656] 3))
  have G4 := Lib.hid (only_new (grownBy_trans G3.out g4) (.cells #[.int .i64 y, .int .i64 281474976710655, .int .i64 281474976710656] 3))
  have y4 := Lib.hid (K.new w4 (.cells #[.int .i64 y, .int .i64 281474976710655, .int .i64 281474976710656] 3))
  have lt4 : w1.heap.size < w4.heap.size := by have := K.lt (K.kept g4 q3.out (fun k hk => by cases hk; omega)); omega
  clear c4 g4 C3 q3 z3 O3 G3
  go_wp2_with fail
  refine (H5.out _ g A c C4.out).mono ?_
  rintro e w5 ⟨rfl, c5, g5⟩
  have hcell : w5.cell? ⟨w4.heap.size, k, none⟩ = some (.int .i64 v) := K.cell (K.kept g5 y4.out (fun k hk => by cases hk; omega)) k _ (by
    have hv := HV.out
    have : k = 0 ∨ k = 1 ∨ k = 2 := by omega
    rcases this with rfl | rfl | rfl <;> (simp at hv; subst hv; rfl))
  have C5 := Lib.hid c5
  have q5 := Lib.hid (K.kept g5 q4.out (fun k hk => by cases hk; omega))
  have z5 := Lib.hid (K.kept g5 z4.out (fun k hk => by cases hk; omega))
  have O5 := Lib.hid (own_grown O4.out g5 (fun k h1 h2 => by cases h2; have := (O4.out.lt _ h1).1; omega))
  have G5 := Lib.hid (grownBy_trans G4.out g5)
  clear c5 g5 C4 q4 z4 O4 G4 y4
  obtain ⟨⟨c0, c1, c2, c3, c4⟩, f0, f1, f2, f3, f4⟩ := K.row5 q5.out
  obtain ⟨⟨d0, d1, d2, d3, d4⟩, g0, g1, g2, g3, g4⟩ := K.row5 z5.out
  go_wp2
  (try simp only [Exit.inBlock, Exit.then])
  refine bodyPost_ret (v := .agg #[.int .i64 v, .int .i64 x.s, .int .i64 x.t, .int .i64 x.k, .slice D2 ds.length cap2]) ?_ rfl ⟨D2, cap2, rfl, own_base (own_set5 (own_set O5.out _ _ _ (by omega)) _ _ _ _ _ _ (by omega)) (by omega), curS_set5 (curS_set C5.out _ _ _ (by omega)) (by omega), grown_set5 (grown_set G5.out _ _ _ (by omega)) (by omega)⟩
  refine K.resCell Try.results44 _ _ _ w.heap.size _ ?_ (run_loadVar_row _ _ 27 27 _ (0, 0) _ (K.set5 _ _ _ _ _ (K.other z5.out _ _ _ (by omega))) Try.underlying27 rfl info_eth)
  rfl

set_option maxRecDepth 100000 in
set_option maxHeartbeats 1000000 in
theorem bad_s (bs : List UInt8) (t s : Nat) (x : Eh) (s1 : Nat) (ds : List UInt8) (t2 s2 s3 : Nat) (ht2 : t2 ≤ 950000000000) (hds : ds.length ≤ 50) 
    (he : ∀ (w : World) (g : Nat) (A : Option Addr) (c : Nat), CurS w g A c bs t s → Calls Try.prog 51 #[.pointer (some ⟨g, 0, none⟩)] w (GivesE w g A c bs (t + 13) s1 x))
    (hb : ∀ (w : World) (g : Nat) (A : Option Addr) (c : Nat), CurS w g A c bs (t + 13) s1 → Calls Try.prog 52 #[.pointer (some ⟨g, 0, none⟩), .int .i64 50] w (GivesB w g A c bs t2 s2 ds))
    (hp : ∀ (w : World) (g : Nat) (A : Option Addr) (c : Nat), CurS w g A c bs t2 s2 → Calls Try.prog 53 #[.pointer (some ⟨g, 0, none⟩), .int .i64 8] w (Gives w g A c bs (t2 + 1) s3 1)) : Bad bs t s := by
  have HE := Lib.hid he
  have HB := Lib.hid hb
  have HP := Lib.hid hp
  clear he hb hp
  obtain ⟨y, s4, h4⟩ := rawE bs (t2 + 1) s3 (by omega)
  obtain ⟨z, s5, z0, zn, h5⟩ := pickE bs (t2 + 1 + 2) s4 3 (by omega) (by omega) (by omega)
  obtain ⟨k, rfl⟩ : ∃ k : Nat, z = k := ⟨z.toNat, by omega⟩
  obtain ⟨v, hv⟩ : ∃ v, ([y, 281474976710655, 281474976710656] : List Int)[k]? = some v := ⟨_, List.getElem?_eq_getElem (by simp; omega)⟩
  have H4 := Lib.hid h4
  have H5 := Lib.hid h5
  have HV := Lib.hid hv
  clear h4 h5 hv
  refine ⟨{ x with s := v }, ds, t2 + 1 + 2 + 1, s5, by omega, fun w g A c hc => ?_⟩
  have hgw := hc.lt
  have C0 := Lib.hid (hc.below (Joins.below_alloc1 w (.cells #[.int .i64 0, .int .i64 0, .int .i64 0, .int .i64 0, .slice none 0 0] 27)))
  have z0 := Lib.hid (K.new w (.cells #[.int .i64 0, .int .i64 0, .int .i64 0, .int .i64 0, .slice none 0 0] 27))
  have G0 := Lib.hid (only_new (K.refl w (some g)) (.cells #[.int .i64 0, .int .i64 0, .int .i64 0, .int .i64 0, .slice none 0 0] 27))
  clear hc
  go_enter Try.func44, Try.ntmps44
  go_wp2_with fail
  refine (HE.out _ g A c C0.out).mono ?_
  rintro e w1 ⟨rfl, c1, g1⟩
  have z1 := Lib.hid (K.old (K.kept g1 z0.out (fun k hk => by cases hk; omega)) (.cells #[.int .i64 x.d, .int .i64 x.s, .int .i64 x.t, .int .i64 x.k, .slice none 0 0] 27))
  have q1 := Lib.hid (K.new w1 (.cells #[.int .i64 x.d, .int .i64 x.s, .int .i64 x.t, .int .i64 x.k, .slice none 0 0] 27))
  have C1 := Lib.hid (c1.below (Joins.below_alloc1 w1 (.cells #[.int .i64 x.d, .int .i64 x.s, .int .i64 x.t, .int .i64 x.k, .slice none 0 0] 27)))
  have G1 := Lib.hid (only_new (grownBy_trans G0.out g1) (.cells #[.int .i64 x.d, .int .i64 x.s, .int .i64 x.t, .int .i64 x.k, .slice none 0 0] 27))
  have lt1 : w.heap.size < w1.heap.size := by have := g1.size; simp at this; omega
  clear c1 g1
  go_wp2_with fail
  refine (HB.out _ g A c C1.out).mono ?_
  rintro e w2 ⟨D2, cap2, rfl, o2, c2, g2⟩
  have O2 := Lib.hid (own_base o2 (show w1.heap.size + 1 ≤ _ by simp))
  have q2 := Lib.hid (K.kept g2 q1.out (fun k hk => by cases hk; omega))
  have z2 := Lib.hid (K.kept g2 z1.out (fun k hk => by cases hk; omega))
  have G2 := Lib.hid (grownBy_trans G1.out g2)
  have C2 := Lib.hid c2
  clear o2 c2 g2
  obtain ⟨⟨c0, c1, c2, c3, c4⟩, f0, f1, f2, f3, f4⟩ := K.row5 q2.out
  go_wp2_with fail
  clear c0 c1 c2 c3 c4 f0 f1 f2 f3 f4
  refine (HP.out _ g A c (curS_set C2.out w1.heap.size 4 (.slice D2 ds.length cap2) (by omega))).mono ?_
  rintro e w3 ⟨rfl, c3, g3⟩
  have C3 := Lib.hid c3
  have q3 : Hid (w3.heap[w1.heap.size]? = some (.cells #[.int .i64 x.d, .int .i64 x.s, .int .i64 x.t, .int .i64 x.k, .slice D2 ds.length cap2] 27)) := Lib.hid (K.kept g3 (K.set q2.out 4 _) (fun k hk => by cases hk; omega))
  have z3 := Lib.hid (K.kept g3 (K.other z2.out w1.heap.size 4 (.slice D2 ds.length cap2) (by omega)) (fun k hk => by cases hk; omega))
  have O3 := Lib.hid (own_grown (own_set O2.out w1.heap.size 4 (.slice D2 ds.length cap2) (by omega)) g3 (fun k h1 h2 => by cases h2; have := (O2.out.lt _ h1).1; omega))
  have G3 := Lib.hid (grownBy_trans (grown_set G2.out w1.heap.size 4 (.slice D2 ds.length cap2) (by omega)) g3)
  clear c3 g3 C0 z0 G0 z1 q1 C1 G1 q2 z2 G2 C2 O2
  go_wp2_with fail
  refine (H4.out _ g A c C3.out).mono ?_
  rintro e w4 ⟨rfl, c4, g4⟩
  have C4 := Lib.hid (c4.below (Joins.below_alloc1 w4 (.cells #[.int .i64 y, .int .i64 281474976710655, .int .i64 281474976710656] 3)))
  have q4 := Lib.hid (K.old (K.kept g4 q3.out (fun k hk => by cases hk; omega)) (.cells #[.int .i64 y, .int .i64 281474976710655, .int .i64 281474976710656] 3))
  have z4 := Lib.hid (K.old (K.kept g4 z3.out (fun k hk => by cases hk; omega)) (.cells #[.int .i64 y, .int .i64 281474976710655, .int .i64 281474976710656] 3))
  have O4 := Lib.hid ((own_grown O3.out g4 (fun k h1 h2 => by cases h2; have := (O3.out.lt _ h1).1; omega)).alloc (.cells #[.int .i64 y, .int .i64 281474976710655, .int .i64 281474976710656] 3))
  have G4 := Lib.hid (only_new (grownBy_trans G3.out g4) (.cells #[.int .i64 y, .int .i64 281474976710655, .int .i64 281474976710656] 3))
  have y4 := Lib.hid (K.new w4 (.cells #[.int .i64 y, .int .i64 281474976710655, .int .i64 281474976710656] 3))
  have lt4 : w1.heap.size < w4.heap.size := by have := K.lt (K.kept g4 q3.out (fun k hk => by cases hk; omega)); omega
  clear c4 g4 C3 q3 z3 O3 G3
  go_wp2_with fail
  refine (H5.out _ g A c C4.out).mono ?_
  rintro e w5 ⟨rfl, c5, g5⟩
  have hcell : w5.cell? ⟨w4.heap.size, k, none⟩ = some (.int .i64 v) := K.cell (K.kept g5 y4.out (fun k hk => by cases hk; omega)) k _ (by
    have hv := HV.out
    have : k = 0 ∨ k = 1 ∨ k = 2 := by omega
    rcases this with rfl | rfl | rfl <;> (simp at hv; subst hv; rfl))
  have C5 := Lib.hid c5
  have q5 := Lib.hid (K.kept g5 q4.out (fun k hk => by cases hk; omega))
  have z5 := Lib.hid (K.kept g5 z4.out (fun k hk => by cases hk; omega))
  have O5 := Lib.hid (own_grown O4.out g5 (fun k h1 h2 => by cases h2; have := (O4.out.lt _ h1).1; omega))
  have G5 := Lib.hid (grownBy_trans G4.out g5)
  clear c5 g5 C4 q4 z4 O4 G4 y4
  obtain ⟨⟨c0, c1, c2, c3, c4⟩, f0, f1, f2, f3, f4⟩ := K.row5 q5.out
  obtain ⟨⟨d0, d1, d2, d3, d4⟩, g0, g1, g2, g3, g4⟩ := K.row5 z5.out
  go_wp2
  (try simp only [Exit.inBlock, Exit.then])
  refine bodyPost_ret (v := .agg #[.int .i64 x.d, .int .i64 v, .int .i64 x.t, .int .i64 x.k, .slice D2 ds.length cap2]) ?_ rfl ⟨D2, cap2, rfl, own_base (own_set5 (own_set O5.out _ _ _ (by omega)) _ _ _ _ _ _ (by omega)) (by omega), curS_set5 (curS_set C5.out _ _ _ (by omega)) (by omega), grown_set5 (grown_set G5.out _ _ _ (by omega)) (by omega)⟩
  refine K.resCell Try.results44 _ _ _ w.heap.size _ ?_ (run_loadVar_row _ _ 27 27 _ (0, 0) _ (K.set5 _ _ _ _ _ (K.other z5.out _ _ _ (by omega))) Try.underlying27 rfl info_eth)
  rfl

set_option maxRecDepth 100000 in
set_option maxHeartbeats 1000000 in
theorem bad_k (bs : List UInt8) (t s : Nat) (x : Eh) (s1 : Nat) (ds : List UInt8) (t2 s2 s3 : Nat) (ht2 : t2 ≤ 950000000000) (hds : ds.length ≤ 50) 
    (he : ∀ (w : World) (g : Nat) (A : Option Addr) (c : Nat), CurS w g A c bs t s → Calls Try.prog 51 #[.pointer (some ⟨g, 0, none⟩)] w (GivesE w g A c bs (t + 13) s1 x))
    (hb : ∀ (w : World) (g : Nat) (A : Option Addr) (c : Nat), CurS w g A c bs (t + 13) s1 → Calls Try.prog 52 #[.pointer (some ⟨g, 0, none⟩), .int .i64 50] w (GivesB w g A c bs t2 s2 ds))
    (hp : ∀ (w : World) (g : Nat) (A : Option Addr) (c : Nat), CurS w g A c bs t2 s2 → Calls Try.prog 53 #[.pointer (some ⟨g, 0, none⟩), .int .i64 8] w (Gives w g A c bs (t2 + 1) s3 3)) : Bad bs t s := by
  have HE := Lib.hid he
  have HB := Lib.hid hb
  have HP := Lib.hid hp
  clear he hb hp
  obtain ⟨y, s4, h4⟩ := rawE bs (t2 + 1) s3 (by omega)
  obtain ⟨z, s5, z0, zn, h5⟩ := pickE bs (t2 + 1 + 2) s4 4 (by omega) (by omega) (by omega)
  obtain ⟨k, rfl⟩ : ∃ k : Nat, z = k := ⟨z.toNat, by omega⟩
  obtain ⟨v, hv⟩ : ∃ v, ([y, 33024, 1535, 65536] : List Int)[k]? = some v := ⟨_, List.getElem?_eq_getElem (by simp; omega)⟩
  have H4 := Lib.hid h4
  have H5 := Lib.hid h5
  have HV := Lib.hid hv
  clear h4 h5 hv
  refine ⟨{ x with k := v }, ds, t2 + 1 + 2 + 1, s5, by omega, fun w g A c hc => ?_⟩
  have hgw := hc.lt
  have C0 := Lib.hid (hc.below (Joins.below_alloc1 w (.cells #[.int .i64 0, .int .i64 0, .int .i64 0, .int .i64 0, .slice none 0 0] 27)))
  have z0 := Lib.hid (K.new w (.cells #[.int .i64 0, .int .i64 0, .int .i64 0, .int .i64 0, .slice none 0 0] 27))
  have G0 := Lib.hid (only_new (K.refl w (some g)) (.cells #[.int .i64 0, .int .i64 0, .int .i64 0, .int .i64 0, .slice none 0 0] 27))
  clear hc
  go_enter Try.func44, Try.ntmps44
  go_wp2_with fail
  refine (HE.out _ g A c C0.out).mono ?_
  rintro e w1 ⟨rfl, c1, g1⟩
  have z1 := Lib.hid (K.old (K.kept g1 z0.out (fun k hk => by cases hk; omega)) (.cells #[.int .i64 x.d, .int .i64 x.s, .int .i64 x.t, .int .i64 x.k, .slice none 0 0] 27))
  have q1 := Lib.hid (K.new w1 (.cells #[.int .i64 x.d, .int .i64 x.s, .int .i64 x.t, .int .i64 x.k, .slice none 0 0] 27))
  have C1 := Lib.hid (c1.below (Joins.below_alloc1 w1 (.cells #[.int .i64 x.d, .int .i64 x.s, .int .i64 x.t, .int .i64 x.k, .slice none 0 0] 27)))
  have G1 := Lib.hid (only_new (grownBy_trans G0.out g1) (.cells #[.int .i64 x.d, .int .i64 x.s, .int .i64 x.t, .int .i64 x.k, .slice none 0 0] 27))
  have lt1 : w.heap.size < w1.heap.size := by have := g1.size; simp at this; omega
  clear c1 g1
  go_wp2_with fail
  refine (HB.out _ g A c C1.out).mono ?_
  rintro e w2 ⟨D2, cap2, rfl, o2, c2, g2⟩
  have O2 := Lib.hid (own_base o2 (show w1.heap.size + 1 ≤ _ by simp))
  have q2 := Lib.hid (K.kept g2 q1.out (fun k hk => by cases hk; omega))
  have z2 := Lib.hid (K.kept g2 z1.out (fun k hk => by cases hk; omega))
  have G2 := Lib.hid (grownBy_trans G1.out g2)
  have C2 := Lib.hid c2
  clear o2 c2 g2
  obtain ⟨⟨c0, c1, c2, c3, c4⟩, f0, f1, f2, f3, f4⟩ := K.row5 q2.out
  go_wp2_with fail
  clear c0 c1 c2 c3 c4 f0 f1 f2 f3 f4
  refine (HP.out _ g A c (curS_set C2.out w1.heap.size 4 (.slice D2 ds.length cap2) (by omega))).mono ?_
  rintro e w3 ⟨rfl, c3, g3⟩
  have C3 := Lib.hid c3
  have q3 : Hid (w3.heap[w1.heap.size]? = some (.cells #[.int .i64 x.d, .int .i64 x.s, .int .i64 x.t, .int .i64 x.k, .slice D2 ds.length cap2] 27)) := Lib.hid (K.kept g3 (K.set q2.out 4 _) (fun k hk => by cases hk; omega))
  have z3 := Lib.hid (K.kept g3 (K.other z2.out w1.heap.size 4 (.slice D2 ds.length cap2) (by omega)) (fun k hk => by cases hk; omega))
  have O3 := Lib.hid (own_grown (own_set O2.out w1.heap.size 4 (.slice D2 ds.length cap2) (by omega)) g3 (fun k h1 h2 => by cases h2; have := (O2.out.lt _ h1).1; omega))
  have G3 := Lib.hid (grownBy_trans (grown_set G2.out w1.heap.size 4 (.slice D2 ds.length cap2) (by omega)) g3)
  clear c3 g3 C0 z0 G0 z1 q1 C1 G1 q2 z2 G2 C2 O2
  go_wp2_with fail
  refine (H4.out _ g A c C3.out).mono ?_
  rintro e w4 ⟨rfl, c4, g4⟩
  have C4 := Lib.hid (c4.below (Joins.below_alloc1 w4 (.cells #[.int .i64 y, .int .i64 33024, .int .i64 1535, .int .i64 65536] 3)))
  have q4 := Lib.hid (K.old (K.kept g4 q3.out (fun k hk => by cases hk; omega)) (.cells #[.int .i64 y, .int .i64 33024, .int .i64 1535, .int .i64 65536] 3))
  have z4 := Lib.hid (K.old (K.kept g4 z3.out (fun k hk => by cases hk; omega)) (.cells #[.int .i64 y, .int .i64 33024, .int .i64 1535, .int .i64 65536] 3))
  have O4 := Lib.hid ((own_grown O3.out g4 (fun k h1 h2 => by cases h2; have := (O3.out.lt _ h1).1; omega)).alloc (.cells #[.int .i64 y, .int .i64 33024, .int .i64 1535, .int .i64 65536] 3))
  have G4 := Lib.hid (only_new (grownBy_trans G3.out g4) (.cells #[.int .i64 y, .int .i64 33024, .int .i64 1535, .int .i64 65536] 3))
  have y4 := Lib.hid (K.new w4 (.cells #[.int .i64 y, .int .i64 33024, .int .i64 1535, .int .i64 65536] 3))
  have lt4 : w1.heap.size < w4.heap.size := by have := K.lt (K.kept g4 q3.out (fun k hk => by cases hk; omega)); omega
  clear c4 g4 C3 q3 z3 O3 G3
  go_wp2_with fail
  refine (H5.out _ g A c C4.out).mono ?_
  rintro e w5 ⟨rfl, c5, g5⟩
  have hcell : w5.cell? ⟨w4.heap.size, k, none⟩ = some (.int .i64 v) := K.cell (K.kept g5 y4.out (fun k hk => by cases hk; omega)) k _ (by
    have hv := HV.out
    have : k = 0 ∨ k = 1 ∨ k = 2 ∨ k = 3 := by omega
    rcases this with rfl | rfl | rfl | rfl <;> (simp at hv; subst hv; rfl))
  have C5 := Lib.hid c5
  have q5 := Lib.hid (K.kept g5 q4.out (fun k hk => by cases hk; omega))
  have z5 := Lib.hid (K.kept g5 z4.out (fun k hk => by cases hk; omega))
  have O5 := Lib.hid (own_grown O4.out g5 (fun k h1 h2 => by cases h2; have := (O4.out.lt _ h1).1; omega))
  have G5 := Lib.hid (grownBy_trans G4.out g5)
  clear c5 g5 C4 q4 z4 O4 G4 y4
  obtain ⟨⟨c0, c1, c2, c3, c4⟩, f0, f1, f2, f3, f4⟩ := K.row5 q5.out
  obtain ⟨⟨d0, d1, d2, d3, d4⟩, g0, g1, g2, g3, g4⟩ := K.row5 z5.out
  go_wp2
  (try simp only [Exit.inBlock, Exit.then])
  refine bodyPost_ret (v := .agg #[.int .i64 x.d, .int .i64 x.s, .int .i64 x.t, .int .i64 v, .slice D2 ds.length cap2]) ?_ rfl ⟨D2, cap2, rfl, own_base (own_set5 (own_set O5.out _ _ _ (by omega)) _ _ _ _ _ _ (by omega)) (by omega), curS_set5 (curS_set C5.out _ _ _ (by omega)) (by omega), grown_set5 (grown_set G5.out _ _ _ (by omega)) (by omega)⟩
  refine K.resCell Try.results44 _ _ _ w.heap.size _ ?_ (run_loadVar_row _ _ 27 27 _ (0, 0) _ (K.set5 _ _ _ _ _ (K.other z5.out _ _ _ (by omega))) Try.underlying27 rfl info_eth)
  rfl

set_option maxRecDepth 100000 in
set_option maxHeartbeats 1000000 in
theorem bad_t (bs : List UInt8) (t s : Nat) (x : Eh) (s1 : Nat) (ds : List UInt8) (t2 s2 s3 : Nat) (ht2 : t2 ≤ 950000000000) (hds : ds.length ≤ 50) 
    (he : ∀ (w : World) (g : Nat) (A : Option Addr) (c : Nat), CurS w g A c bs t s → Calls Try.prog 51 #[.pointer (some ⟨g, 0, none⟩)] w (GivesE w g A c bs (t + 13) s1 x))
    (hb : ∀ (w : World) (g : Nat) (A : Option Addr) (c : Nat), CurS w g A c bs (t + 13) s1 → Calls Try.prog 52 #[.pointer (some ⟨g, 0, none⟩), .int .i64 50] w (GivesB w g A c bs t2 s2 ds))
    (hp : ∀ (w : World) (g : Nat) (A : Option Addr) (c : Nat), CurS w g A c bs t2 s2 → Calls Try.prog 53 #[.pointer (some ⟨g, 0, none⟩), .int .i64 8] w (Gives w g A c bs (t2 + 1) s3 2)) : Bad bs t s := by
  have HE := Lib.hid he
  have HB := Lib.hid hb
  have HP := Lib.hid hp
  clear he hb hp
  obtain ⟨y, s4, h4⟩ := rawE bs (t2 + 1) s3 (by omega)
  have H4 := Lib.hid h4
  clear h4
  refine ⟨{ x with t := y }, ds, t2 + 1 + 2, s4, by omega, fun w g A c hc => ?_⟩
  have hgw := hc.lt
  have C0 := Lib.hid (hc.below (Joins.below_alloc1 w (.cells #[.int .i64 0, .int .i64 0, .int .i64 0, .int .i64 0, .slice none 0 0] 27)))
  have z0 := Lib.hid (K.new w (.cells #[.int .i64 0, .int .i64 0, .int .i64 0, .int .i64 0, .slice none 0 0] 27))
  have G0 := Lib.hid (only_new (K.refl w (some g)) (.cells #[.int .i64 0, .int .i64 0, .int .i64 0, .int .i64 0, .slice none 0 0] 27))
  clear hc
  go_enter Try.func44, Try.ntmps44
  go_wp2_with fail
  refine (HE.out _ g A c C0.out).mono ?_
  rintro e w1 ⟨rfl, c1, g1⟩
  have z1 := Lib.hid (K.old (K.kept g1 z0.out (fun k hk => by cases hk; omega)) (.cells #[.int .i64 x.d, .int .i64 x.s, .int .i64 x.t, .int .i64 x.k, .slice none 0 0] 27))
  have q1 := Lib.hid (K.new w1 (.cells #[.int .i64 x.d, .int .i64 x.s, .int .i64 x.t, .int .i64 x.k, .slice none 0 0] 27))
  have C1 := Lib.hid (c1.below (Joins.below_alloc1 w1 (.cells #[.int .i64 x.d, .int .i64 x.s, .int .i64 x.t, .int .i64 x.k, .slice none 0 0] 27)))
  have G1 := Lib.hid (only_new (grownBy_trans G0.out g1) (.cells #[.int .i64 x.d, .int .i64 x.s, .int .i64 x.t, .int .i64 x.k, .slice none 0 0] 27))
  have lt1 : w.heap.size < w1.heap.size := by have := g1.size; simp at this; omega
  clear c1 g1
  go_wp2_with fail
  refine (HB.out _ g A c C1.out).mono ?_
  rintro e w2 ⟨D2, cap2, rfl, o2, c2, g2⟩
  have O2 := Lib.hid (own_base o2 (show w1.heap.size + 1 ≤ _ by simp))
  have q2 := Lib.hid (K.kept g2 q1.out (fun k hk => by cases hk; omega))
  have z2 := Lib.hid (K.kept g2 z1.out (fun k hk => by cases hk; omega))
  have G2 := Lib.hid (grownBy_trans G1.out g2)
  have C2 := Lib.hid c2
  clear o2 c2 g2
  obtain ⟨⟨c0, c1, c2, c3, c4⟩, f0, f1, f2, f3, f4⟩ := K.row5 q2.out
  go_wp2_with fail
  clear c0 c1 c2 c3 c4 f0 f1 f2 f3 f4
  refine (HP.out _ g A c (curS_set C2.out w1.heap.size 4 (.slice D2 ds.length cap2) (by omega))).mono ?_
  rintro e w3 ⟨rfl, c3, g3⟩
  have C3 := Lib.hid c3
  have q3 : Hid (w3.heap[w1.heap.size]? = some (.cells #[.int .i64 x.d, .int .i64 x.s, .int .i64 x.t, .int .i64 x.k, .slice D2 ds.length cap2] 27)) := Lib.hid (K.kept g3 (K.set q2.out 4 _) (fun k hk => by cases hk; omega))
  have z3 := Lib.hid (K.kept g3 (K.other z2.out w1.heap.size 4 (.slice D2 ds.length cap2) (by omega)) (fun k hk => by cases hk; omega))
  have O3 := Lib.hid (own_grown (own_set O2.out w1.heap.size 4 (.slice D2 ds.length cap2) (by omega)) g3 (fun k h1 h2 => by cases h2; have := (O2.out.lt _ h1).1; omega))
  have G3 := Lib.hid (grownBy_trans (grown_set G2.out w1.heap.size 4 (.slice D2 ds.length cap2) (by omega)) g3)
  clear c3 g3 C0 z0 G0 z1 q1 C1 G1 q2 z2 G2 C2 O2
  go_wp2_with fail
  refine (H4.out _ g A c C3.out).mono ?_
  rintro e w4 ⟨rfl, c4, g4⟩
  have C4 := Lib.hid c4
  have q4 := Lib.hid (K.kept g4 q3.out (fun k hk => by cases hk; omega))
  have z4 := Lib.hid (K.kept g4 z3.out (fun k hk => by cases hk; omega))
  have O4 := Lib.hid (own_grown O3.out g4 (fun k h1 h2 => by cases h2; have := (O3.out.lt _ h1).1; omega))
  have G4 := Lib.hid (grownBy_trans G3.out g4)
  clear c4 g4 C3 q3 z3 O3 G3
  obtain ⟨⟨c0, c1, c2, c3, c4⟩, f0, f1, f2, f3, f4⟩ := K.row5 q4.out
  obtain ⟨⟨d0, d1, d2, d3, d4⟩, g0, g1, g2, g3, g4⟩ := K.row5 z4.out
  go_wp2
  (try simp only [Exit.inBlock, Exit.then])
  refine bodyPost_ret (v := .agg #[.int .i64 x.d, .int .i64 x.s, .int .i64 y, .int .i64 x.k, .slice D2 ds.length cap2]) ?_ rfl ⟨D2, cap2, rfl, own_base (own_set5 (own_set O4.out _ _ _ (by omega)) _ _ _ _ _ _ (by omega)) (by omega), curS_set5 (curS_set C4.out _ _ _ (by omega)) (by omega), grown_set5 (grown_set G4.out _ _ _ (by omega)) (by omega)⟩
  refine K.resCell Try.results44 _ _ _ w.heap.size _ ?_ (run_loadVar_row _ _ 27 27 _ (0, 0) _ (K.set5 _ _ _ _ _ (K.other z4.out _ _ _ (by omega))) Try.underlying27 rfl info_eth)
  rfl

set_option maxRecDepth 100000 in
set_option maxHeartbeats 1000000 in
theorem bad_none (bs : List UInt8) (t s : Nat) (x : Eh) (s1 : Nat) (ds : List UInt8) (t2 s2 s3 : Nat) (hds : ds.length ≤ 50) (p : Int) (e0 : (p == 0) = false) (e1 : (p == 1) = false) (e2 : (p == 2) = false) (e3 : (p == 3) = false) (e4 : (p == 4) = false)
    (he : ∀ (w : World) (g : Nat) (A : Option Addr) (c : Nat), CurS w g A c bs t s → Calls Try.prog 51 #[.pointer (some ⟨g, 0, none⟩)] w (GivesE w g A c bs (t + 13) s1 x))
    (hb : ∀ (w : World) (g : Nat) (A : Option Addr) (c : Nat), CurS w g A c bs (t + 13) s1 → Calls Try.prog 52 #[.pointer (some ⟨g, 0, none⟩), .int .i64 50] w (GivesB w g A c bs t2 s2 ds))
    (hp : ∀ (w : World) (g : Nat) (A : Option Addr) (c : Nat), CurS w g A c bs t2 s2 → Calls Try.prog 53 #[.pointer (some ⟨g, 0, none⟩), .int .i64 8] w (Gives w g A c bs (t2 + 1) s3 p)) : Bad bs t s := by
  have HE := Lib.hid he
  have HB := Lib.hid hb
  have HP := Lib.hid hp
  clear he hb hp
  refine ⟨x, ds, t2 + 1, s3, by omega, fun w g A c hc => ?_⟩
  have hgw := hc.lt
  have C0 := Lib.hid (hc.below (Joins.below_alloc1 w (.cells #[.int .i64 0, .int .i64 0, .int .i64 0, .int .i64 0, .slice none 0 0] 27)))
  have z0 := Lib.hid (K.new w (.cells #[.int .i64 0, .int .i64 0, .int .i64 0, .int .i64 0, .slice none 0 0] 27))
  have G0 := Lib.hid (only_new (K.refl w (some g)) (.cells #[.int .i64 0, .int .i64 0, .int .i64 0, .int .i64 0, .slice none 0 0] 27))
  clear hc
  go_enter Try.func44, Try.ntmps44
  go_wp2_with fail
  refine (HE.out _ g A c C0.out).mono ?_
  rintro e w1 ⟨rfl, c1, g1⟩
  have z1 := Lib.hid (K.old (K.kept g1 z0.out (fun k hk => by cases hk; omega)) (.cells #[.int .i64 x.d, .int .i64 x.s, .int .i64 x.t, .int .i64 x.k, .slice none 0 0] 27))
  have q1 := Lib.hid (K.new w1 (.cells #[.int .i64 x.d, .int .i64 x.s, .int .i64 x.t, .int .i64 x.k, .slice none 0 0] 27))
  have C1 := Lib.hid (c1.below (Joins.below_alloc1 w1 (.cells #[.int .i64 x.d, .int .i64 x.s, .int .i64 x.t, .int .i64 x.k, .slice none 0 0] 27)))
  have G1 := Lib.hid (only_new (grownBy_trans G0.out g1) (.cells #[.int .i64 x.d, .int .i64 x.s, .int .i64 x.t, .int .i64 x.k, .slice none 0 0] 27))
  have lt1 : w.heap.size < w1.heap.size := by have := g1.size; simp at this; omega
  clear c1 g1
  go_wp2_with fail
  refine (HB.out _ g A c C1.out).mono ?_
  rintro e w2 ⟨D2, cap2, rfl, o2, c2, g2⟩
  have O2 := Lib.hid (own_base o2 (show w1.heap.size + 1 ≤ _ by simp))
  have q2 := Lib.hid (K.kept g2 q1.out (fun k hk => by cases hk; omega))
  have z2 := Lib.hid (K.kept g2 z1.out (fun k hk => by cases hk; omega))
  have G2 := Lib.hid (grownBy_trans G1.out g2)
  have C2 := Lib.hid c2
  clear o2 c2 g2
  obtain ⟨⟨c0, c1, c2, c3, c4⟩, f0, f1, f2, f3, f4⟩ := K.row5 q2.out
  go_wp2_with fail
  clear c0 c1 c2 c3 c4 f0 f1 f2 f3 f4
  refine (HP.out _ g A c (curS_set C2.out w1.heap.size 4 (.slice D2 ds.length cap2) (by omega))).mono ?_
  rintro e w3 ⟨rfl, c3, g3⟩
  have C3 := Lib.hid c3
  have q3 : Hid (w3.heap[w1.heap.size]? = some (.cells #[.int .i64 x.d, .int .i64 x.s, .int .i64 x.t, .int .i64 x.k, .slice D2 ds.length cap2] 27)) := Lib.hid (K.kept g3 (K.set q2.out 4 _) (fun k hk => by cases hk; omega))
  have z3 := Lib.hid (K.kept g3 (K.other z2.out w1.heap.size 4 (.slice D2 ds.length cap2) (by omega)) (fun k hk => by cases hk; omega))
  have O3 := Lib.hid (own_grown (own_set O2.out w1.heap.size 4 (.slice D2 ds.length cap2) (by omega)) g3 (fun k h1 h2 => by cases h2; have := (O2.out.lt _ h1).1; omega))
  have G3 := Lib.hid (grownBy_trans (grown_set G2.out w1.heap.size 4 (.slice D2 ds.length cap2) (by omega)) g3)
  clear c3 g3 C0 z0 G0 z1 q1 C1 G1 q2 z2 G2 C2 O2
  obtain ⟨⟨c0, c1, c2, c3, c4⟩, f0, f1, f2, f3, f4⟩ := K.row5 q3.out
  obtain ⟨⟨d0, d1, d2, d3, d4⟩, g0, g1, g2, g3, g4⟩ := K.row5 z3.out
  go_wp2
  (try simp only [Exit.inBlock, Exit.then])
  refine bodyPost_ret (v := .agg #[.int .i64 x.d, .int .i64 x.s, .int .i64 x.t, .int .i64 x.k, .slice D2 ds.length cap2]) ?_ rfl ⟨D2, cap2, rfl, own_base (own_set5 O3.out _ _ _ _ _ _ (by omega)) (by omega), curS_set5 C3.out (by omega), grown_set5 G3.out (by omega)⟩
  refine K.resCell Try.results44 _ _ _ w.heap.size _ ?_ (run_loadVar_row _ _ 27 27 _ (0, 0) _ (K.set5 _ _ _ _ _ z3.out) Try.underlying27 rfl info_eth)
  rfl

set_option maxRecDepth 100000 in
set_option maxHeartbeats 1000000 in
theorem bad_make (bs : List UInt8) (t s : Nat) (x : Eh) (s1 : Nat) (ds : List UInt8) (t2 s2 s3 : Nat) (ht2 : t2 ≤ 950000000000) 
    (he : ∀ (w : World) (g : Nat) (A : Option Addr) (c : Nat), CurS w g A c bs t s → Calls Try.prog 51 #[.pointer (some ⟨g, 0, none⟩)] w (GivesE w g A c bs (t + 13) s1 x))
    (hb : ∀ (w : World) (g : Nat) (A : Option Addr) (c : Nat), CurS w g A c bs (t + 13) s1 → Calls Try.prog 52 #[.pointer (some ⟨g, 0, none⟩), .int .i64 50] w (GivesB w g A c bs t2 s2 ds))
    (hp : ∀ (w : World) (g : Nat) (A : Option Addr) (c : Nat), CurS w g A c bs t2 s2 → Calls Try.prog 53 #[.pointer (some ⟨g, 0, none⟩), .int .i64 8] w (Gives w g A c bs (t2 + 1) s3 4)) : Bad bs t s := by
  have HE := Lib.hid he
  have HB := Lib.hid hb
  have HP := Lib.hid hp
  clear he hb hp
  obtain ⟨u, s4, u0, u1, h4⟩ := pickE bs (t2 + 1) s3 2 (by omega) (by omega) (by omega)
  obtain ⟨z, s5, z0, z1, h5⟩ := pickE bs (t2 + 1 + 1) s4 3 (by omega) (by omega) (by omega)
  obtain ⟨N, hN⟩ : ∃ N : Nat, 1586 - 4 * u + z - 1 = (N : Int) := ⟨(1586 - 4 * u + z - 1).toNat, by omega⟩
  have hN2 : N ≤ 1600 := by omega
  have H4 := Lib.hid h4
  have H5 := Lib.hid h5
  have HN := Lib.hid hN
  clear h4 h5 hN
  obtain ⟨i0, hi0, hz0, hz1, hz2⟩ := info_parts info_u8
  refine ⟨x, List.replicate N 0, t2 + 1 + 1 + 1, s5, by simpa using hN2, fun w g A c hc => ?_⟩
  have hgw := hc.lt
  have C0 := Lib.hid (hc.below (Joins.below_alloc1 w (.cells #[.int .i64 0, .int .i64 0, .int .i64 0, .int .i64 0, .slice none 0 0] 27)))
  have z0 := Lib.hid (K.new w (.cells #[.int .i64 0, .int .i64 0, .int .i64 0, .int .i64 0, .slice none 0 0] 27))
  have G0 := Lib.hid (only_new (K.refl w (some g)) (.cells #[.int .i64 0, .int .i64 0, .int .i64 0, .int .i64 0, .slice none 0 0] 27))
  clear hc
  go_enter Try.func44, Try.ntmps44
  go_wp2_with fail
  refine (HE.out _ g A c C0.out).mono ?_
  rintro e w1 ⟨rfl, c1, g1⟩
  have z1 := Lib.hid (K.old (K.kept g1 z0.out (fun k hk => by cases hk; omega)) (.cells #[.int .i64 x.d, .int .i64 x.s, .int .i64 x.t, .int .i64 x.k, .slice none 0 0] 27))
  have q1 := Lib.hid (K.new w1 (.cells #[.int .i64 x.d, .int .i64 x.s, .int .i64 x.t, .int .i64 x.k, .slice none 0 0] 27))
  have C1 := Lib.hid (c1.below (Joins.below_alloc1 w1 (.cells #[.int .i64 x.d, .int .i64 x.s, .int .i64 x.t, .int .i64 x.k, .slice none 0 0] 27)))
  have G1 := Lib.hid (only_new (grownBy_trans G0.out g1) (.cells #[.int .i64 x.d, .int .i64 x.s, .int .i64 x.t, .int .i64 x.k, .slice none 0 0] 27))
  have lt1 : w.heap.size < w1.heap.size := by have := g1.size; simp at this; omega
  clear c1 g1
  go_wp2_with fail
  refine (HB.out _ g A c C1.out).mono ?_
  rintro e w2 ⟨D2, cap2, rfl, o2, c2, g2⟩
  have O2 := Lib.hid (own_base o2 (show w1.heap.size + 1 ≤ _ by simp))
  have q2 := Lib.hid (K.kept g2 q1.out (fun k hk => by cases hk; omega))
  have z2 := Lib.hid (K.kept g2 z1.out (fun k hk => by cases hk; omega))
  have G2 := Lib.hid (grownBy_trans G1.out g2)
  have C2 := Lib.hid c2
  clear o2 c2 g2
  obtain ⟨⟨c0, c1, c2, c3, c4⟩, f0, f1, f2, f3, f4⟩ := K.row5 q2.out
  go_wp2_with fail
  clear c0 c1 c2 c3 c4 f0 f1 f2 f3 f4
  refine (HP.out _ g A c (curS_set C2.out w1.heap.size 4 (.slice D2 ds.length cap2) (by omega))).mono ?_
  rintro e w3 ⟨rfl, c3, g3⟩
  have C3 := Lib.hid c3
  have q3 : Hid (w3.heap[w1.heap.size]? = some (.cells #[.int .i64 x.d, .int .i64 x.s, .int .i64 x.t, .int .i64 x.k, .slice D2 ds.length cap2] 27)) := Lib.hid (K.kept g3 (K.set q2.out 4 _) (fun k hk => by cases hk; omega))
  have z3 := Lib.hid (K.kept g3 (K.other z2.out w1.heap.size 4 (.slice D2 ds.length cap2) (by omega)) (fun k hk => by cases hk; omega))
  have O3 := Lib.hid (own_grown (own_set O2.out w1.heap.size 4 (.slice D2 ds.length cap2) (by omega)) g3 (fun k h1 h2 => by cases h2; have := (O2.out.lt _ h1).1; omega))
  have G3 := Lib.hid (grownBy_trans (grown_set G2.out w1.heap.size 4 (.slice D2 ds.length cap2) (by omega)) g3)
  clear c3 g3 C0 z0 G0 z1 q1 C1 G1 q2 z2 G2 C2 O2
  go_wp2_with fail
  refine (H4.out _ g A c C3.out).mono ?_
  rintro e w4 ⟨rfl, c4, g4⟩
  have C4 := Lib.hid c4
  have q4 := Lib.hid (K.kept g4 q3.out (fun k hk => by cases hk; omega))
  have z4 := Lib.hid (K.kept g4 z3.out (fun k hk => by cases hk; omega))
  have G4 := Lib.hid (grownBy_trans G3.out g4)
  clear c4 g4 C3 q3 z3 O3 G3
  go_wp2_with fail
  refine (H5.out _ g A c C4.out).mono ?_
  rintro e w5 ⟨rfl, c5, g5⟩
  have C5 := Lib.hid c5
  have q5 := Lib.hid (K.kept g5 q4.out (fun k hk => by cases hk; omega))
  have z5 := Lib.hid (K.kept g5 z4.out (fun k hk => by cases hk; omega))
  have G5 := Lib.hid (grownBy_trans G4.out g5)
  have lt5 : w1.heap.size + 1 ≤ w5.heap.size := K.lt q5.out
  clear c5 g5 C4 q4 z4 G4
  go_wp2_with (at_make; refine wpList_make_full _ rfl _ _ 22 rfl (w1.heap.size + 1) 5 i0 (.int .u8 0) 1 Try.underlying22 hi0 hz0 hz1 _ _ _ _ N rfl rfl HN.out HN.out (by rw [hz2]; omega) (by unfold maxLen; omega) lt5 ?_; intro w6 hown hgrow; have O6 : Hid (w6.ownsRow (w1.heap.size + 1) 5 1 (.slice (some ⟨w5.heap.size, 0, none⟩) N N) N (cellsOf (List.replicate N 0))) := Lib.hid (made_zero hown); have C6 := Lib.hid (C5.out.grownBy hgrow (fun k hk => by cases hk)); have q6 := Lib.hid (K.kept hgrow q5.out (fun k hk => by cases hk)); have z6 := Lib.hid (K.kept hgrow z5.out (fun k hk => by cases hk)); have G6 := Lib.hid (grown_other G5.out hgrow (fun k hk => by cases hk)); clear hown hgrow; obtain ⟨⟨c0, c1, c2, c3, c4⟩, f0, f1, f2, f3, f4⟩ := K.row5 q6.out; obtain ⟨⟨d0, d1, d2, d3, d4⟩, g0, g1, g2, g3, g4⟩ := K.row5 z6.out)
  (try simp only [Exit.inBlock, Exit.then])
  refine bodyPost_ret (v := .agg #[.int .i64 x.d, .int .i64 x.s, .int .i64 x.t, .int .i64 x.k, .slice (some ⟨w5.heap.size, 0, none⟩) N N]) ?_ rfl ⟨some ⟨w5.heap.size, 0, none⟩, N, by rw [List.length_replicate], by rw [List.length_replicate]; exact own_base (own_set5 (own_set O6.out _ _ _ (by omega)) _ _ _ _ _ _ (by omega)) (by omega), curS_set5 (curS_set C6.out _ _ _ (by omega)) (by omega), grown_set5 (grown_set G6.out _ _ _ (by omega)) (by omega)⟩
  refine K.resCell Try.results44 _ _ _ w.heap.size _ ?_ (run_loadVar_row _ _ 27 27 _ (0, 0) _ (K.set5 _ _ _ _ _ (K.other z6.out _ _ _ (by omega))) Try.underlying27 rfl info_eth)
  rfl

theorem badEtherE (bs : List UInt8) (t s : Nat) (ht : t ≤ 900000000000) (hb : bs.length ≤ 1048576) : Bad bs t s := by
  obtain ⟨x, s1, he⟩ := etherE bs t s ht
  obtain ⟨ds, t2, s2, hds, ht2, hbb⟩ := bytesE bs (t + 13) s1 50 (by omega) (by omega) (by omega) hb
  obtain ⟨p, s3, p0, p1, hp⟩ := pickE bs t2 s2 8 (by omega) (by omega) (by omega)
  by_cases e0 : p = 0
  · subst e0
    exact bad_d bs t s x s1 ds t2 s2 s3 (by omega) hds he hbb hp
  · by_cases e1 : p = 1
    · subst e1
      exact bad_s bs t s x s1 ds t2 s2 s3 (by omega) hds he hbb hp
    · by_cases e2 : p = 2
      · subst e2
        exact bad_t bs t s x s1 ds t2 s2 s3 (by omega) hds he hbb hp
      · by_cases e3 : p = 3
        · subst e3
          exact bad_k bs t s x s1 ds t2 s2 s3 (by omega) hds he hbb hp
        · by_cases e4 : p = 4
          · subst e4
            exact bad_make bs t s x s1 ds t2 s2 s3 (by omega) he hbb hp
          · exact bad_none bs t s x s1 ds t2 s2 s3 hds p (by simpa using e0) (by simpa using e1) (by simpa using e2) (by simpa using e3) (by simpa using e4) he hbb hp
end Go.Proofs.Ytaemonjiejgciaa
