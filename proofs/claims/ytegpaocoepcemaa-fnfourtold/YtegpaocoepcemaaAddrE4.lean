/-
  The model's draw of an address that may be wrong, number by number.
-/
import Derived.Test.YtegpaocoepcemaaAddrE3
import Derived.Test.YtegpaocoepcemaaAddrLib
import Derived.Deep.Cut
namespace Go.Proofs.Ytegpaocoepcemaa
open Go.RowKit

theorem addrKE (bs : List UInt8) (t s : Nat) (k : Int) (hk : k = 4 ∨ k = 6) (ht : t ≤ 900000000000) :
    ∃ (y : Ad) (t' s' : Nat), t' ≤ t + 20 ∧ ∀ (w : World) (g : Nat) (A : Option Addr) (c : Nat), CurS w g A c bs t s → Calls Try.prog 109 #[.pointer (some ⟨g, 0, none⟩), .int .i64 k] w (GivesA w g A c bs t' s' (.agg #[.int .i64 y.k, .int .i64 y.a, .int .i64 y.b, .int .i64 y.c, .int .i64 y.d])) := by
  rcases hk with rfl | rfl
  · obtain ⟨d, s', _, _, h⟩ := addr4E bs t s ht
    exact ⟨⟨4, 0, 0, 0, d⟩, _, s', by omega, h⟩
  · obtain ⟨x1, x2, x3, x4, s', h⟩ := addr6E bs t s ht
    exact ⟨⟨6, x1, x2, x3, x4⟩, _, s', by omega, h⟩

set_option maxRecDepth 100000 in
set_option maxHeartbeats 2000000 in
theorem badAddrE (bs : List UInt8) (t s : Nat) (ht : t ≤ 800000000000) :
    ∃ (y : Ad) (t' s' : Nat), t' ≤ t + 30 ∧ ∀ (w : World) (g : Nat) (A : Option Addr) (c : Nat), CurS w g A c bs t s → Calls Try.prog 98 #[.pointer (some ⟨g, 0, none⟩)] w (GivesA w g A c bs t' s' (.agg #[.int .i64 y.k, .int .i64 y.a, .int .i64 y.b, .int .i64 y.c, .int .i64 y.d])) := by
  obtain ⟨k, s1, hk, h1⟩ := kindE bs t s (by omega)
  obtain ⟨y, t2, s2, ht2, h2⟩ := addrKE bs (t + 1) s1 k hk (by omega)
  obtain ⟨x, s3, l3, u3, h3⟩ := pickE bs t2 s2 6 (by omega) (by omega) (by omega)
  obtain ⟨z, s4, h4⟩ := rawE bs (t2 + 1) s3 (by omega)
  have H1 := Lib.hid h1
  have H2 := Lib.hid h2
  have H3 := Lib.hid h3
  have H4 := Lib.hid h4
  clear h1 h2 h3 h4 hk
  rcases (show x = 0 ∨ x = 1 ∨ x = 2 ∨ (x ≠ 0 ∧ x ≠ 1 ∧ x ≠ 2) by omega) with rfl | rfl | rfl | ⟨n0, n1, n2⟩
  · refine ⟨⟨z, y.a, y.b, y.c, y.d⟩, t2 + 1 + 2, s4, by omega, fun w g A c hc => ?_⟩
    have hgl := hc.lt
    have C0 := Lib.hid (hc.below (Joins.below_alloc1 w (.cells #[.int .i64 0, .int .i64 0, .int .i64 0, .int .i64 0, .int .i64 0] 33)))
    have z0 := Lib.hid (K.new w (.cells #[.int .i64 0, .int .i64 0, .int .i64 0, .int .i64 0, .int .i64 0] 33))
    have G0 := Lib.hid (show w.grownBy (w.alloc (.cells #[.int .i64 0, .int .i64 0, .int .i64 0, .int .i64 0, .int .i64 0] 33)) (some g) from only_new (K.refl w _) _)
    clear hc
    go_enter Try.func98, Try.ntmps98
    go_wp2_with fail
    refine Calls.mono (H1.out _ g A c C0.out) ?_
    rintro e w1 ⟨rfl, c1, g1⟩
    have C1 := Lib.hid c1
    have z1 := Lib.hid (K.kept g1 z0.out (fun k hk => by cases hk; omega))
    have G1 := Lib.hid (grownBy_trans G0.out g1)
    clear c1 g1 z0 G0 C0
    go_wp2_with fail
    refine Calls.mono (H2.out _ g A c C1.out) ?_
    rintro e w2 ⟨rfl, c2, g2⟩
    have lg := c2.lt
    have C2 := Lib.hid (c2.below (Joins.below_alloc1 w2 (.cells #[.int .i64 y.k, .int .i64 y.a, .int .i64 y.b, .int .i64 y.c, .int .i64 y.d] 33)))
    have z2 := Lib.hid (K.old (K.kept g2 z1.out (fun k hk => by cases hk; omega)) (.cells #[.int .i64 y.k, .int .i64 y.a, .int .i64 y.b, .int .i64 y.c, .int .i64 y.d] 33))
    have lr : w.heap.size < w2.heap.size := K.lt (K.kept g2 z1.out (fun k hk => by cases hk; omega))
    have y2 := Lib.hid (K.new w2 (.cells #[.int .i64 y.k, .int .i64 y.a, .int .i64 y.b, .int .i64 y.c, .int .i64 y.d] 33))
    have G2 := Lib.hid (only_new (grownBy_trans G1.out g2) (.cells #[.int .i64 y.k, .int .i64 y.a, .int .i64 y.b, .int .i64 y.c, .int .i64 y.d] 33))
    clear c2 g2 z1 G1 C1
    go_wp2_with fail
    refine Calls.mono (H3.out _ g A c C2.out) ?_
    rintro e w3 ⟨rfl, c3, g3⟩
    have C3 := Lib.hid c3
    have z3 := Lib.hid (K.kept g3 z2.out (fun k hk => by cases hk; omega))
    have y3 := Lib.hid (K.kept g3 y2.out (fun k hk => by cases hk; omega))
    have G3 := Lib.hid (grownBy_trans G2.out g3)
    clear c3 g3 z2 y2 G2 C2
    go_wp2_with fail
    refine Calls.mono (H4.out _ g A c C3.out) ?_
    rintro e w4 ⟨rfl, c4, g4⟩
    have z4' := Lib.hid (K.kept g4 z3.out (fun k hk => by cases hk; omega))
    have y4' := Lib.hid (K.kept g4 y3.out (fun k hk => by cases hk; omega))
    have GS4 := Lib.hid (grownBy_set w4 w2.heap.size 0 (.int .i64 z))
    have C4 := Lib.hid (c4.grownBy GS4.out (fun q hq => by cases hq; exact lg))
    have z4 := Lib.hid (K.other z4'.out w2.heap.size 0 (.int .i64 z) (by omega))
    have y4 : Hid ((w4.setCell ⟨w2.heap.size, 0, none⟩ (.int .i64 z)).heap[w2.heap.size]? = some (.cells #[.int .i64 z, .int .i64 y.a, .int .i64 y.b, .int .i64 y.c, .int .i64 y.d] 33 (0, 0))) := Lib.hid (K.set y4'.out 0 _)
    have G4 := Lib.hid (grown_other (grownBy_trans G3.out g4) GS4.out (fun u hu => by cases hu; exact Nat.le_of_lt lr))
    have v0 := K.cell y4'.out 0 _ rfl
    have v1 := frozen_of_row _ _ 0 _ _ y4'.out
    clear c4 g4 z3 y3 G3 C3
    go_upto_region 9 with fail
    clear v0 v1 z4' y4' GS4
    generalize w4.setCell ⟨w2.heap.size, 0, none⟩ (.int .i64 z) = W4 at C4 z4 y4 G4 ⊢
    obtain ⟨⟨a0, a1, a2, a3, a4⟩, -⟩ := K.row5 y4.out
    obtain ⟨⟨c0, c1, c2, c3, c4⟩, f0, f1, f2, f3, f4⟩ := K.row5 z4.out
    go_wp2
    (try simp only [Exit.inBlock, Exit.then])
    have GS := K.setFrom_selfE [.int .i64 z, .int .i64 y.a, .int .i64 y.b, .int .i64 y.c, .int .i64 y.d] W4 w.heap.size 0
    refine bodyPost_ret (v := .agg #[.int .i64 z, .int .i64 y.a, .int .i64 y.b, .int .i64 y.c, .int .i64 y.d]) ?_ rfl ⟨rfl, ?_, ?_⟩
    · exact K.resCell Try.results98 _ _ _ w.heap.size _ rfl (run_loadVar_row _ _ 33 33 _ (0, 0) _ (K.set5 _ _ _ _ _ z4.out) Try.underlying33 rfl info_addrE)
    · exact C4.out.grownBy GS (fun q hq => by cases hq; exact hgl)
    · exact grown_other G4.out GS (fun u hu => by cases hu; exact Nat.le_refl _)
  · refine ⟨⟨y.k, y.a, y.b, y.c, z⟩, t2 + 1 + 2, s4, by omega, fun w g A c hc => ?_⟩
    have hgl := hc.lt
    have C0 := Lib.hid (hc.below (Joins.below_alloc1 w (.cells #[.int .i64 0, .int .i64 0, .int .i64 0, .int .i64 0, .int .i64 0] 33)))
    have z0 := Lib.hid (K.new w (.cells #[.int .i64 0, .int .i64 0, .int .i64 0, .int .i64 0, .int .i64 0] 33))
    have G0 := Lib.hid (show w.grownBy (w.alloc (.cells #[.int .i64 0, .int .i64 0, .int .i64 0, .int .i64 0, .int .i64 0] 33)) (some g) from only_new (K.refl w _) _)
    clear hc
    go_enter Try.func98, Try.ntmps98
    go_wp2_with fail
    refine Calls.mono (H1.out _ g A c C0.out) ?_
    rintro e w1 ⟨rfl, c1, g1⟩
    have C1 := Lib.hid c1
    have z1 := Lib.hid (K.kept g1 z0.out (fun k hk => by cases hk; omega))
    have G1 := Lib.hid (grownBy_trans G0.out g1)
    clear c1 g1 z0 G0 C0
    go_wp2_with fail
    refine Calls.mono (H2.out _ g A c C1.out) ?_
    rintro e w2 ⟨rfl, c2, g2⟩
    have lg := c2.lt
    have C2 := Lib.hid (c2.below (Joins.below_alloc1 w2 (.cells #[.int .i64 y.k, .int .i64 y.a, .int .i64 y.b, .int .i64 y.c, .int .i64 y.d] 33)))
    have z2 := Lib.hid (K.old (K.kept g2 z1.out (fun k hk => by cases hk; omega)) (.cells #[.int .i64 y.k, .int .i64 y.a, .int .i64 y.b, .int .i64 y.c, .int .i64 y.d] 33))
    have lr : w.heap.size < w2.heap.size := K.lt (K.kept g2 z1.out (fun k hk => by cases hk; omega))
    have y2 := Lib.hid (K.new w2 (.cells #[.int .i64 y.k, .int .i64 y.a, .int .i64 y.b, .int .i64 y.c, .int .i64 y.d] 33))
    have G2 := Lib.hid (only_new (grownBy_trans G1.out g2) (.cells #[.int .i64 y.k, .int .i64 y.a, .int .i64 y.b, .int .i64 y.c, .int .i64 y.d] 33))
    clear c2 g2 z1 G1 C1
    go_wp2_with fail
    refine Calls.mono (H3.out _ g A c C2.out) ?_
    rintro e w3 ⟨rfl, c3, g3⟩
    have C3 := Lib.hid c3
    have z3 := Lib.hid (K.kept g3 z2.out (fun k hk => by cases hk; omega))
    have y3 := Lib.hid (K.kept g3 y2.out (fun k hk => by cases hk; omega))
    have G3 := Lib.hid (grownBy_trans G2.out g3)
    clear c3 g3 z2 y2 G2 C2
    go_wp2_with fail
    refine Calls.mono (H4.out _ g A c C3.out) ?_
    rintro e w4 ⟨rfl, c4, g4⟩
    have z4' := Lib.hid (K.kept g4 z3.out (fun k hk => by cases hk; omega))
    have y4' := Lib.hid (K.kept g4 y3.out (fun k hk => by cases hk; omega))
    have GS4 := Lib.hid (grownBy_set w4 w2.heap.size 4 (.int .i64 z))
    have C4 := Lib.hid (c4.grownBy GS4.out (fun q hq => by cases hq; exact lg))
    have z4 := Lib.hid (K.other z4'.out w2.heap.size 4 (.int .i64 z) (by omega))
    have y4 : Hid ((w4.setCell ⟨w2.heap.size, 4, none⟩ (.int .i64 z)).heap[w2.heap.size]? = some (.cells #[.int .i64 y.k, .int .i64 y.a, .int .i64 y.b, .int .i64 y.c, .int .i64 z] 33 (0, 0))) := Lib.hid (K.set y4'.out 4 _)
    have G4 := Lib.hid (grown_other (grownBy_trans G3.out g4) GS4.out (fun u hu => by cases hu; exact Nat.le_of_lt lr))
    have v0 := K.cell y4'.out 4 _ rfl
    have v1 := frozen_of_row _ _ 4 _ _ y4'.out
    clear c4 g4 z3 y3 G3 C3
    go_upto_region 9 with fail
    clear v0 v1 z4' y4' GS4
    generalize w4.setCell ⟨w2.heap.size, 4, none⟩ (.int .i64 z) = W4 at C4 z4 y4 G4 ⊢
    obtain ⟨⟨a0, a1, a2, a3, a4⟩, -⟩ := K.row5 y4.out
    obtain ⟨⟨c0, c1, c2, c3, c4⟩, f0, f1, f2, f3, f4⟩ := K.row5 z4.out
    go_wp2
    (try simp only [Exit.inBlock, Exit.then])
    have GS := K.setFrom_selfE [.int .i64 y.k, .int .i64 y.a, .int .i64 y.b, .int .i64 y.c, .int .i64 z] W4 w.heap.size 0
    refine bodyPost_ret (v := .agg #[.int .i64 y.k, .int .i64 y.a, .int .i64 y.b, .int .i64 y.c, .int .i64 z]) ?_ rfl ⟨rfl, ?_, ?_⟩
    · exact K.resCell Try.results98 _ _ _ w.heap.size _ rfl (run_loadVar_row _ _ 33 33 _ (0, 0) _ (K.set5 _ _ _ _ _ z4.out) Try.underlying33 rfl info_addrE)
    · exact C4.out.grownBy GS (fun q hq => by cases hq; exact hgl)
    · exact grown_other G4.out GS (fun u hu => by cases hu; exact Nat.le_refl _)
  · refine ⟨⟨y.k, z, y.b, y.c, y.d⟩, t2 + 1 + 2, s4, by omega, fun w g A c hc => ?_⟩
    have hgl := hc.lt
    have C0 := Lib.hid (hc.below (Joins.below_alloc1 w (.cells #[.int .i64 0, .int .i64 0, .int .i64 0, .int .i64 0, .int .i64 0] 33)))
    have z0 := Lib.hid (K.new w (.cells #[.int .i64 0, .int .i64 0, .int .i64 0, .int .i64 0, .int .i64 0] 33))
    have G0 := Lib.hid (show w.grownBy (w.alloc (.cells #[.int .i64 0, .int .i64 0, .int .i64 0, .int .i64 0, .int .i64 0] 33)) (some g) from only_new (K.refl w _) _)
    clear hc
    go_enter Try.func98, Try.ntmps98
    go_wp2_with fail
    refine Calls.mono (H1.out _ g A c C0.out) ?_
    rintro e w1 ⟨rfl, c1, g1⟩
    have C1 := Lib.hid c1
    have z1 := Lib.hid (K.kept g1 z0.out (fun k hk => by cases hk; omega))
    have G1 := Lib.hid (grownBy_trans G0.out g1)
    clear c1 g1 z0 G0 C0
    go_wp2_with fail
    refine Calls.mono (H2.out _ g A c C1.out) ?_
    rintro e w2 ⟨rfl, c2, g2⟩
    have lg := c2.lt
    have C2 := Lib.hid (c2.below (Joins.below_alloc1 w2 (.cells #[.int .i64 y.k, .int .i64 y.a, .int .i64 y.b, .int .i64 y.c, .int .i64 y.d] 33)))
    have z2 := Lib.hid (K.old (K.kept g2 z1.out (fun k hk => by cases hk; omega)) (.cells #[.int .i64 y.k, .int .i64 y.a, .int .i64 y.b, .int .i64 y.c, .int .i64 y.d] 33))
    have lr : w.heap.size < w2.heap.size := K.lt (K.kept g2 z1.out (fun k hk => by cases hk; omega))
    have y2 := Lib.hid (K.new w2 (.cells #[.int .i64 y.k, .int .i64 y.a, .int .i64 y.b, .int .i64 y.c, .int .i64 y.d] 33))
    have G2 := Lib.hid (only_new (grownBy_trans G1.out g2) (.cells #[.int .i64 y.k, .int .i64 y.a, .int .i64 y.b, .int .i64 y.c, .int .i64 y.d] 33))
    clear c2 g2 z1 G1 C1
    go_wp2_with fail
    refine Calls.mono (H3.out _ g A c C2.out) ?_
    rintro e w3 ⟨rfl, c3, g3⟩
    have C3 := Lib.hid c3
    have z3 := Lib.hid (K.kept g3 z2.out (fun k hk => by cases hk; omega))
    have y3 := Lib.hid (K.kept g3 y2.out (fun k hk => by cases hk; omega))
    have G3 := Lib.hid (grownBy_trans G2.out g3)
    clear c3 g3 z2 y2 G2 C2
    go_wp2_with fail
    refine Calls.mono (H4.out _ g A c C3.out) ?_
    rintro e w4 ⟨rfl, c4, g4⟩
    have z4' := Lib.hid (K.kept g4 z3.out (fun k hk => by cases hk; omega))
    have y4' := Lib.hid (K.kept g4 y3.out (fun k hk => by cases hk; omega))
    have GS4 := Lib.hid (grownBy_set w4 w2.heap.size 1 (.int .i64 z))
    have C4 := Lib.hid (c4.grownBy GS4.out (fun q hq => by cases hq; exact lg))
    have z4 := Lib.hid (K.other z4'.out w2.heap.size 1 (.int .i64 z) (by omega))
    have y4 : Hid ((w4.setCell ⟨w2.heap.size, 1, none⟩ (.int .i64 z)).heap[w2.heap.size]? = some (.cells #[.int .i64 y.k, .int .i64 z, .int .i64 y.b, .int .i64 y.c, .int .i64 y.d] 33 (0, 0))) := Lib.hid (K.set y4'.out 1 _)
    have G4 := Lib.hid (grown_other (grownBy_trans G3.out g4) GS4.out (fun u hu => by cases hu; exact Nat.le_of_lt lr))
    have v0 := K.cell y4'.out 1 _ rfl
    have v1 := frozen_of_row _ _ 1 _ _ y4'.out
    clear c4 g4 z3 y3 G3 C3
    go_upto_region 9 with fail
    clear v0 v1 z4' y4' GS4
    generalize w4.setCell ⟨w2.heap.size, 1, none⟩ (.int .i64 z) = W4 at C4 z4 y4 G4 ⊢
    obtain ⟨⟨a0, a1, a2, a3, a4⟩, -⟩ := K.row5 y4.out
    obtain ⟨⟨c0, c1, c2, c3, c4⟩, f0, f1, f2, f3, f4⟩ := K.row5 z4.out
    go_wp2
    (try simp only [Exit.inBlock, Exit.then])
    have GS := K.setFrom_selfE [.int .i64 y.k, .int .i64 z, .int .i64 y.b, .int .i64 y.c, .int .i64 y.d] W4 w.heap.size 0
    refine bodyPost_ret (v := .agg #[.int .i64 y.k, .int .i64 z, .int .i64 y.b, .int .i64 y.c, .int .i64 y.d]) ?_ rfl ⟨rfl, ?_, ?_⟩
    · exact K.resCell Try.results98 _ _ _ w.heap.size _ rfl (run_loadVar_row _ _ 33 33 _ (0, 0) _ (K.set5 _ _ _ _ _ z4.out) Try.underlying33 rfl info_addrE)
    · exact C4.out.grownBy GS (fun q hq => by cases hq; exact hgl)
    · exact grown_other G4.out GS (fun u hu => by cases hu; exact Nat.le_refl _)
  · refine ⟨y, t2 + 1, s3, by omega, fun w g A c hc => ?_⟩
    have hgl := hc.lt
    have C0 := Lib.hid (hc.below (Joins.below_alloc1 w (.cells #[.int .i64 0, .int .i64 0, .int .i64 0, .int .i64 0, .int .i64 0] 33)))
    have z0 := Lib.hid (K.new w (.cells #[.int .i64 0, .int .i64 0, .int .i64 0, .int .i64 0, .int .i64 0] 33))
    have G0 := Lib.hid (show w.grownBy (w.alloc (.cells #[.int .i64 0, .int .i64 0, .int .i64 0, .int .i64 0, .int .i64 0] 33)) (some g) from only_new (K.refl w _) _)
    clear hc
    go_enter Try.func98, Try.ntmps98
    go_wp2_with fail
    refine Calls.mono (H1.out _ g A c C0.out) ?_
    rintro e w1 ⟨rfl, c1, g1⟩
    have C1 := Lib.hid c1
    have z1 := Lib.hid (K.kept g1 z0.out (fun k hk => by cases hk; omega))
    have G1 := Lib.hid (grownBy_trans G0.out g1)
    clear c1 g1 z0 G0 C0
    go_wp2_with fail
    refine Calls.mono (H2.out _ g A c C1.out) ?_
    rintro e w2 ⟨rfl, c2, g2⟩
    have lg := c2.lt
    have C2 := Lib.hid (c2.below (Joins.below_alloc1 w2 (.cells #[.int .i64 y.k, .int .i64 y.a, .int .i64 y.b, .int .i64 y.c, .int .i64 y.d] 33)))
    have z2 := Lib.hid (K.old (K.kept g2 z1.out (fun k hk => by cases hk; omega)) (.cells #[.int .i64 y.k, .int .i64 y.a, .int .i64 y.b, .int .i64 y.c, .int .i64 y.d] 33))
    have lr : w.heap.size < w2.heap.size := K.lt (K.kept g2 z1.out (fun k hk => by cases hk; omega))
    have y2 := Lib.hid (K.new w2 (.cells #[.int .i64 y.k, .int .i64 y.a, .int .i64 y.b, .int .i64 y.c, .int .i64 y.d] 33))
    have G2 := Lib.hid (only_new (grownBy_trans G1.out g2) (.cells #[.int .i64 y.k, .int .i64 y.a, .int .i64 y.b, .int .i64 y.c, .int .i64 y.d] 33))
    clear c2 g2 z1 G1 C1
    go_wp2_with fail
    refine Calls.mono (H3.out _ g A c C2.out) ?_
    rintro e w3 ⟨rfl, c3, g3⟩
    have C3 := Lib.hid c3
    have z3 := Lib.hid (K.kept g3 z2.out (fun k hk => by cases hk; omega))
    have y3 := Lib.hid (K.kept g3 y2.out (fun k hk => by cases hk; omega))
    have G3 := Lib.hid (grownBy_trans G2.out g3)
    clear c3 g3 z2 y2 G2 C2
    obtain ⟨⟨a0, a1, a2, a3, a4⟩, -⟩ := K.row5 y3.out
    obtain ⟨⟨c0, c1, c2, c3, c4⟩, f0, f1, f2, f3, f4⟩ := K.row5 z3.out
    go_wp2
    (try simp only [Exit.inBlock, Exit.then])
    have GS := K.setFrom_selfE [.int .i64 y.k, .int .i64 y.a, .int .i64 y.b, .int .i64 y.c, .int .i64 y.d] w3 w.heap.size 0
    refine bodyPost_ret (v := .agg #[.int .i64 y.k, .int .i64 y.a, .int .i64 y.b, .int .i64 y.c, .int .i64 y.d]) ?_ rfl ⟨rfl, ?_, ?_⟩
    · exact K.resCell Try.results98 _ _ _ w.heap.size _ rfl (run_loadVar_row _ _ 33 33 _ (0, 0) _ (K.set5 _ _ _ _ _ z3.out) Try.underlying33 rfl info_addrE)
    · exact C3.out.grownBy GS (fun q hq => by cases hq; exact hgl)
    · exact grown_other G3.out GS (fun u hu => by cases hu; exact Nat.le_refl _)
end Go.Proofs.Ytegpaocoepcemaa
