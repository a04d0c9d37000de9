/-
  The model's draw of an address that may be wrong, number by number. The sums of chapter 2 as plain functions. Nothing here speaks of the program. The laws' own copy of bytes by 'append'; slices of rows of bytes. IPv4 packets as seven integers, two addresses, options and a body. Plain: nothing here speaks of the program. Upper layers as eleven integers, a bool, options and a body. Plain: nothing here speaks of the program. Blocks of nineteen cells as one fact each. Plain: any program. Blocks of fourteen cells as one fact each. Plain: any program. The laws' own helpers on addresses and prefixes; AddrOk in the program and in the model. The laws' own helpers on IPv4 packets: a size, a copy, a comparison, a marking, a look at the marks. The laws' own copy of an IPv4 packet. The laws' own comparison of IPv4 packets, their marking and a look at the marks. AddrBytes in the model.
-/
import Derived.Test.YthogonpjkngpjaaRc02
import Derived.Deep.Cut
import Derived.Test.YthogonpjkngpjaaRc01
import Derived.Deep.QuietTactic
import Derived.BigQuiet
import Derived.Handy
import Derived.Lib.SmallJoins
import Derived.Laws.Tables
namespace Go.Proofs.Ythogonpjkngpjaa
set_option maxRecDepth 100000
open Go.RowKit
theorem addrKE (bs : List UInt8) (t s : Nat) (k : Int) (hk : k = 4 ∨ k = 6) (ht : t ≤ 900000000000) :
    ∃ (y : Ad) (t' s' : Nat), t' ≤ t + 20 ∧ ∀ (w : World) (g : Nat) (A : Option Addr) (c : Nat), CurS w g A c bs t s → Calls Try.prog 53 #[.pointer (some ⟨g, 0, none⟩), .int .i64 k] w (GivesA w g A c bs t' s' (.agg #[.int .i64 y.k, .int .i64 y.a, .int .i64 y.b, .int .i64 y.c, .int .i64 y.d])) := by
  rcases hk with rfl | rfl
  · obtain ⟨d, s', _, _, h⟩ := addr4E bs t s ht
    exact ⟨⟨4, 0, 0, 0, d⟩, _, s', by omega, h⟩
  · obtain ⟨x1, x2, x3, x4, s', h⟩ := addr6E bs t s ht
    exact ⟨⟨6, x1, x2, x3, x4⟩, _, s', by omega, h⟩
set_option maxRecDepth 100000 in
set_option maxHeartbeats 2000000 in
theorem badAddrE (bs : List UInt8) (t s : Nat) (ht : t ≤ 800000000000) :
    ∃ (y : Ad) (t' s' : Nat), t' ≤ t + 30 ∧ ∀ (w : World) (g : Nat) (A : Option Addr) (c : Nat), CurS w g A c bs t s → Calls Try.prog 55 #[.pointer (some ⟨g, 0, none⟩)] w (GivesA w g A c bs t' s' (.agg #[.int .i64 y.k, .int .i64 y.a, .int .i64 y.b, .int .i64 y.c, .int .i64 y.d])) := by
  obtain ⟨k, s1, hk, h1⟩ := kindE bs t s (by omega)
  obtain ⟨y, t2, s2, ht2, h2⟩ := addrKE bs (t + 1) s1 k hk (by omega)
  obtain ⟨x, s3, l3, u3, h3⟩ := pickE bs t2 s2 6 (by omega) (by omega) (by omega)
  obtain ⟨z, s4, h4⟩ := rawE bs (t2 + 1) s3 (by omega)
  have H1 := Lib.hid h1
  have H2 := Lib.hid h2
  have H3 := Lib.hid h3
  have H4 := Lib.hid h4
  clear h1 h2 h3 h4 hk
  rcases (show x = 0 ∨ x = 1 ∨ x = 2 ∨ (x ≠ 0 ∧ x ≠ 1 ∧ x ≠ 2) by omega) with rfl | rfl | rfl | ⟨n0, n1, n2⟩
  · refine ⟨⟨z, y.a, y.b, y.c, y.d⟩, t2 + 1 + 2, s4, by omega, fun w g A c hc => ?_⟩
    have hgl := hc.lt
    have C0 := Lib.hid (hc.below (Joins.below_alloc1 w (.cells #[.int .i64 0, .int .i64 0, .int .i64 0, .int .i64 0, .int .i64 0] 27)))
    have z0 := Lib.hid (K.new w (.cells #[.int .i64 0, .int .i64 0, .int .i64 0, .int .i64 0, .int .i64 0] 27))
    have G0 := Lib.hid (show w.grownBy (w.alloc (.cells #[.int .i64 0, .int .i64 0, .int .i64 0, .int .i64 0, .int .i64 0] 27)) (some g) from only_new (K.refl w _) _)
    clear hc
    go_enter Try.func55, Try.ntmps55
    go_wp2_with fail
    refine Calls.mono (H1.out _ g A c C0.out) ?_
    rintro e w1 ⟨rfl, c1, g1⟩
    have C1 := Lib.hid c1
    have z1 := Lib.hid (K.kept g1 z0.out (fun k hk => by cases hk; omega))
    have G1 := Lib.hid (grownBy_trans G0.out g1)
    clear c1 g1 z0 G0 C0
    go_wp2_with fail
    refine Calls.mono (H2.out _ g A c C1.out) ?_
    rintro e w2 ⟨rfl, c2, g2⟩
    have lg := c2.lt
    have C2 := Lib.hid (c2.below (Joins.below_alloc1 w2 (.cells #[.int .i64 y.k, .int .i64 y.a, .int .i64 y.b, .int .i64 y.c, .int .i64 y.d] 27)))
    have z2 := Lib.hid (K.old (K.kept g2 z1.out (fun k hk => by cases hk; omega)) (.cells #[.int .i64 y.k, .int .i64 y.a, .int .i64 y.b, .int .i64 y.c, .int .i64 y.d] 27))
    have lr : w.heap.size < w2.heap.size := K.lt (K.kept g2 z1.out (fun k hk => by cases hk; omega))
    have y2 := Lib.hid (K.new w2 (.cells #[.int .i64 y.k, .int .i64 y.a, .int .i64 y.b, .int .i64 y.c, .int .i64 y.d] 27))
    have G2 := Lib.hid (only_new (grownBy_trans G1.out g2) (.cells #[.int .i64 y.k, .int .i64 y.a, .int .i64 y.b, .int .i64 y.c, .int .i64 y.d] 27))
    clear c2 g2 z1 G1 C1
    go_wp2_with fail
    refine Calls.mono (H3.out _ g A c C2.out) ?_
    rintro e w3 ⟨rfl, c3, g3⟩
    have C3 := Lib.hid c3
    have z3 := Lib.hid (K.kept g3 z2.out (fun k hk => by cases hk; omega))
    have y3 := Lib.hid (K.kept g3 y2.out (fun k hk => by cases hk; omega))
    have G3 := Lib.hid (grownBy_trans G2.out g3)
    clear c3 g3 z2 y2 G2 C2
    go_wp2_with fail
    refine Calls.mono (H4.out _ g A c C3.out) ?_
    rintro e w4 ⟨rfl, c4, g4⟩
    have z4' := Lib.hid (K.kept g4 z3.out (fun k hk => by cases hk; omega))
    have y4' := Lib.hid (K.kept g4 y3.out (fun k hk => by cases hk; omega))
    have GS4 := Lib.hid (grownBy_set w4 w2.heap.size 0 (.int .i64 z))
    have C4 := Lib.hid (c4.grownBy GS4.out (fun q hq => by cases hq; exact lg))
    have z4 := Lib.hid (K.other z4'.out w2.heap.size 0 (.int .i64 z) (by omega))
    have y4 : Hid ((w4.setCell ⟨w2.heap.size, 0, none⟩ (.int .i64 z)).heap[w2.heap.size]? = some (.cells #[.int .i64 z, .int .i64 y.a, .int .i64 y.b, .int .i64 y.c, .int .i64 y.d] 27 (0, 0))) := Lib.hid (K.set y4'.out 0 _)
    have G4 := Lib.hid (grown_other (grownBy_trans G3.out g4) GS4.out (fun u hu => by cases hu; exact Nat.le_of_lt lr))
    have v0 := K.cell y4'.out 0 _ rfl
    have v1 := frozen_of_row _ _ 0 _ _ y4'.out
    clear c4 g4 z3 y3 G3 C3
    go_upto_region 9 with fail
    clear v0 v1 z4' y4' GS4
    generalize w4.setCell ⟨w2.heap.size, 0, none⟩ (.int .i64 z) = W4 at C4 z4 y4 G4 ⊢
    obtain ⟨⟨a0, a1, a2, a3, a4⟩, -⟩ := K.row5 y4.out
    obtain ⟨⟨c0, c1, c2, c3, c4⟩, f0, f1, f2, f3, f4⟩ := K.row5 z4.out
    go_wp2
    (try simp only [Exit.inBlock, Exit.then])
    have GS := K.setFrom_selfE [.int .i64 z, .int .i64 y.a, .int .i64 y.b, .int .i64 y.c, .int .i64 y.d] W4 w.heap.size 0
    refine bodyPost_ret (v := .agg #[.int .i64 z, .int .i64 y.a, .int .i64 y.b, .int .i64 y.c, .int .i64 y.d]) ?_ rfl ⟨rfl, ?_, ?_⟩
    · exact K.resCell Try.results55 _ _ _ w.heap.size _ rfl (run_loadVar_row _ _ 27 27 _ (0, 0) _ (K.set5 _ _ _ _ _ z4.out) Try.underlying27 rfl info_addrE)
    · exact C4.out.grownBy GS (fun q hq => by cases hq; exact hgl)
    · exact grown_other G4.out GS (fun u hu => by cases hu; exact Nat.le_refl _)
  · refine ⟨⟨y.k, y.a, y.b, y.c, z⟩, t2 + 1 + 2, s4, by omega, fun w g A c hc => ?_⟩
    have hgl := hc.lt
    have C0 := Lib.hid (hc.below (Joins.below_alloc1 w (.cells #[.int .i64 0, .int .i64 0, .int .i64 0, .int .i64 0, .int .i64 0] 27)))
    have z0 := Lib.hid (K.new w (.cells #[.int .i64 0, .int .i64 0, .int .i64 0, .int .i64 0, .int .i64 0] 27))
    have G0 := Lib.hid (show w.grownBy (w.alloc (.cells #[.int .i64 0, .int .i64 0, .int .i64 0, .int .i64 0, .int .i64 0] 27)) (some g) from only_new (K.refl w _) _)
    clear hc
    go_enter Try.func55, Try.ntmps55
    go_wp2_with fail
    refine Calls.mono (H1.out _ g A c C0.out) ?_
    rintro e w1 ⟨rfl, c1, g1⟩
    have C1 := Lib.hid c1
    have z1 := Lib.hid (K.kept g1 z0.out (fun k hk => by cases hk; omega))
    have G1 := Lib.hid (grownBy_trans G0.out g1)
    clear c1 g1 z0 G0 C0
    go_wp2_with fail
    refine Calls.mono (H2.out _ g A c C1.out) ?_
    rintro e w2 ⟨rfl, c2, g2⟩
    have lg := c2.lt
    have C2 := Lib.hid (c2.below (Joins.below_alloc1 w2 (.cells #[.int .i64 y.k, .int .i64 y.a, .int .i64 y.b, .int .i64 y.c, .int .i64 y.d] 27)))
    have z2 := Lib.hid (K.old (K.kept g2 z1.out (fun k hk => by cases hk; omega)) (.cells #[.int .i64 y.k, .int .i64 y.a, .int .i64 y.b, .int .i64 y.c, .int .i64 y.d] 27))
    have lr : w.heap.size < w2.heap.size := K.lt (K.kept g2 z1.out (fun k hk => by cases hk; omega))
    have y2 := Lib.hid (K.new w2 (.cells #[.int .i64 y.k, .int .i64 y.a, .int .i64 y.b, .int .i64 y.c, .int .i64 y.d] 27))
    have G2 := Lib.hid (only_new (grownBy_trans G1.out g2) (.cells #[.int .i64 y.k, .int .i64 y.a, .int .i64 y.b, .int .i64 y.c, .int .i64 y.d] 27))
    clear c2 g2 z1 G1 C1
    go_wp2_with fail
    refine Calls.mono (H3.out _ g A c C2.out) ?_
    rintro e w3 ⟨rfl, c3, g3⟩
    have C3 := Lib.hid c3
    have z3 := Lib.hid (K.kept g3 z2.out (fun k hk => by cases hk; omega))
    have y3 := Lib.hid (K.kept g3 y2.out (fun k hk => by cases hk; omega))
    have G3 := Lib.hid (grownBy_trans G2.out g3)
    clear c3 g3 z2 y2 G2 C2
    go_wp2_with fail
    refine Calls.mono (H4.out _ g A c C3.out) ?_
    rintro e w4 ⟨rfl, c4, g4⟩
    have z4' := Lib.hid (K.kept g4 z3.out (fun k hk => by cases hk; omega))
    have y4' := Lib.hid (K.kept g4 y3.out (fun k hk => by cases hk; omega))
    have GS4 := Lib.hid (grownBy_set w4 w2.heap.size 4 (.int .i64 z))
    have C4 := Lib.hid (c4.grownBy GS4.out (fun q hq => by cases hq; exact lg))
    have z4 := Lib.hid (K.other z4'.out w2.heap.size 4 (.int .i64 z) (by omega))
    have y4 : Hid ((w4.setCell ⟨w2.heap.size, 4, none⟩ (.int .i64 z)).heap[w2.heap.size]? = some (.cells #[.int .i64 y.k, .int .i64 y.a, .int .i64 y.b, .int .i64 y.c, .int .i64 z] 27 (0, 0))) := Lib.hid (K.set y4'.out 4 _)
    have G4 := Lib.hid (grown_other (grownBy_trans G3.out g4) GS4.out (fun u hu => by cases hu; exact Nat.le_of_lt lr))
    have v0 := K.cell y4'.out 4 _ rfl
    have v1 := frozen_of_row _ _ 4 _ _ y4'.out
    clear c4 g4 z3 y3 G3 C3
    go_upto_region 9 with fail
    clear v0 v1 z4' y4' GS4
    generalize w4.setCell ⟨w2.heap.size, 4, none⟩ (.int .i64 z) = W4 at C4 z4 y4 G4 ⊢
    obtain ⟨⟨a0, a1, a2, a3, a4⟩, -⟩ := K.row5 y4.out
    obtain ⟨⟨c0, c1, c2, c3, c4⟩, f0, f1, f2, f3, f4⟩ := K.row5 z4.out
    go_wp2
    (try simp only [Exit.inBlock, Exit.then])
    have GS := K.setFrom_selfE [.int .i64 y.k, .int .i64 y.a, .int .i64 y.b, .int .i64 y.c, .int .i64 z] W4 w.heap.size 0
    refine bodyPost_ret (v := .agg #[.int .i64 y.k, .int .i64 y.a, .int .i64 y.b, .int .i64 y.c, .int .i64 z]) ?_ rfl ⟨rfl, ?_, ?_⟩
    · exact K.resCell Try.results55 _ _ _ w.heap.size _ rfl (run_loadVar_row _ _ 27 27 _ (0, 0) _ (K.set5 _ _ _ _ _ z4.out) Try.underlying27 rfl info_addrE)
    · exact C4.out.grownBy GS (fun q hq => by cases hq; exact hgl)
    · exact grown_other G4.out GS (fun u hu => by cases hu; exact Nat.le_refl _)
  · refine ⟨⟨y.k, z, y.b, y.c, y.d⟩, t2 + 1 + 2, s4, by omega, fun w g A c hc => ?_⟩
    have hgl := hc.lt
    have C0 := Lib.hid (hc.below (Joins.below_alloc1 w (.cells #[.int .i64 0, .int .i64 0, .int .i64 0, .int .i64 0, .int .i64 0] 27)))
    have z0 := Lib.hid (K.new w (.cells #[.int .i64 0, .int .i64 0, .int .i64 0, .int .i64 0, .int .i64 0] 27))
    have G0 := Lib.hid (show w.grownBy (w.alloc (.cells #[.int .i64 0, .int .i64 0, .int .i64 0, .int .i64 0, .int .i64 0] 27)) (some g) from only_new (K.refl w _) _)
    clear hc
    go_enter Try.func55, Try.ntmps55
    go_wp2_with fail
    refine Calls.mono (H1.out _ g A c C0.out) ?_
    rintro e w1 ⟨rfl, c1, g1⟩
    have C1 := Lib.hid c1
    have z1 := Lib.hid (K.kept g1 z0.out (fun k hk => by cases hk; omega))
    have G1 := Lib.hid (grownBy_trans G0.out g1)
    clear c1 g1 z0 G0 C0
    go_wp2_with fail
    refine Calls.mono (H2.out _ g A c C1.out) ?_
    rintro e w2 ⟨rfl, c2, g2⟩
    have lg := c2.lt
    have C2 := Lib.hid (c2.below (Joins.below_alloc1 w2 (.cells #[.int .i64 y.k, .int .i64 y.a, .int .i64 y.b, .int .i64 y.c, .int .i64 y.d] 27)))
    have z2 := Lib.hid (K.old (K.kept g2 z1.out (fun k hk => by cases hk; omega)) (.cells #[.int .i64 y.k, .int .i64 y.a, .int .i64 y.b, .int .i64 y.c, .int .i64 y.d] 27))
    have lr : w.heap.size < w2.heap.size := K.lt (K.kept g2 z1.out (fun k hk => by cases hk; omega))
    have y2 := Lib.hid (K.new w2 (.cells #[.int .i64 y.k, .int .i64 y.a, .int .i64 y.b, .int .i64 y.c, .int .i64 y.d] 27))
    have G2 := Lib.hid (only_new (grownBy_trans G1.out g2) (.cells #[.int .i64 y.k, .int .i64 y.a, .int .i64 y.b, .int .i64 y.c, .int .i64 y.d] 27))
    clear c2 g2 z1 G1 C1
    go_wp2_with fail
    refine Calls.mono (H3.out _ g A c C2.out) ?_
    rintro e w3 ⟨rfl, c3, g3⟩
    have C3 := Lib.hid c3
    have z3 := Lib.hid (K.kept g3 z2.out (fun k hk => by cases hk; omega))
    have y3 := Lib.hid (K.kept g3 y2.out (fun k hk => by cases hk; omega))
    have G3 := Lib.hid (grownBy_trans G2.out g3)
    clear c3 g3 z2 y2 G2 C2
    go_wp2_with fail
    refine Calls.mono (H4.out _ g A c C3.out) ?_
    rintro e w4 ⟨rfl, c4, g4⟩
    have z4' := Lib.hid (K.kept g4 z3.out (fun k hk => by cases hk; omega))
    have y4' := Lib.hid (K.kept g4 y3.out (fun k hk => by cases hk; omega))
    have GS4 := Lib.hid (grownBy_set w4 w2.heap.size 1 (.int .i64 z))
    have C4 := Lib.hid (c4.grownBy GS4.out (fun q hq => by cases hq; exact lg))
    have z4 := Lib.hid (K.other z4'.out w2.heap.size 1 (.int .i64 z) (by omega))
    have y4 : Hid ((w4.setCell ⟨w2.heap.size, 1, none⟩ (.int .i64 z)).heap[w2.heap.size]? = some (.cells #[.int .i64 y.k, .int .i64 z, .int .i64 y.b, .int .i64 y.c, .int .i64 y.d] 27 (0, 0))) := Lib.hid (K.set y4'.out 1 _)
    have G4 := Lib.hid (grown_other (grownBy_trans G3.out g4) GS4.out (fun u hu => by cases hu; exact Nat.le_of_lt lr))
    have v0 := K.cell y4'.out 1 _ rfl
    have v1 := frozen_of_row _ _ 1 _ _ y4'.out
    clear c4 g4 z3 y3 G3 C3
    go_upto_region 9 with fail
    clear v0 v1 z4' y4' GS4
    generalize w4.setCell ⟨w2.heap.size, 1, none⟩ (.int .i64 z) = W4 at C4 z4 y4 G4 ⊢
    obtain ⟨⟨a0, a1, a2, a3, a4⟩, -⟩ := K.row5 y4.out
    obtain ⟨⟨c0, c1, c2, c3, c4⟩, f0, f1, f2, f3, f4⟩ := K.row5 z4.out
    go_wp2
    (try simp only [Exit.inBlock, Exit.then])
    have GS := K.setFrom_selfE [.int .i64 y.k, .int .i64 z, .int .i64 y.b, .int .i64 y.c, .int .i64 y.d] W4 w.heap.size 0
    refine bodyPost_ret (v := .agg #[.int .i64 y.k, .int .i64 z, .int .i64 y.b, .int .i64 y.c, .int .i64 y.d]) ?_ rfl ⟨rfl, ?_, ?_⟩
    · exact K.resCell Try.results55 _ _ _ w.heap.size _ rfl (run_loadVar_row _ _ 27 27 _ (0, 0) _ (K.set5 _ _ _ _ _ z4.out) Try.underlying27 rfl info_addrE)
    · exact C4.out.grownBy GS (fun q hq => by cases hq; exact hgl)
    · exact grown_other G4.out GS (fun u hu => by cases hu; exact Nat.le_refl _)
  · refine ⟨y, t2 + 1, s3, by omega, fun w g A c hc => ?_⟩
    have hgl := hc.lt
    have C0 := Lib.hid (hc.below (Joins.below_alloc1 w (.cells #[.int .i64 0, .int .i64 0, .int .i64 0, .int .i64 0, .int .i64 0] 27)))
    have z0 := Lib.hid (K.new w (.cells #[.int .i64 0, .int .i64 0, .int .i64 0, .int .i64 0, .int .i64 0] 27))
    have G0 := Lib.hid (show w.grownBy (w.alloc (.cells #[.int .i64 0, .int .i64 0, .int .i64 0, .int .i64 0, .int .i64 0] 27)) (some g) from only_new (K.refl w _) _)
    clear hc
    go_enter Try.func55, Try.ntmps55
    go_wp2_with fail
    refine Calls.mono (H1.out _ g A c C0.out) ?_
    rintro e w1 ⟨rfl, c1, g1⟩
    have C1 := Lib.hid c1
    have z1 := Lib.hid (K.kept g1 z0.out (fun k hk => by cases hk; omega))
    have G1 := Lib.hid (grownBy_trans G0.out g1)
    clear c1 g1 z0 G0 C0
    go_wp2_with fail
    refine Calls.mono (H2.out _ g A c C1.out) ?_
    rintro e w2 ⟨rfl, c2, g2⟩
    have lg := c2.lt
    have C2 := Lib.hid (c2.below (Joins.below_alloc1 w2 (.cells #[.int .i64 y.k, .int .i64 y.a, .int .i64 y.b, .int .i64 y.c, .int .i64 y.d] 27)))
    have z2 := Lib.hid (K.old (K.kept g2 z1.out (fun k hk => by cases hk; omega)) (.cells #[.int .i64 y.k, .int .i64 y.a, .int .i64 y.b, .int .i64 y.c, .int .i64 y.d] 27))
    have lr : w.heap.size < w2.heap.size := K.lt (K.kept g2 z1.out (fun k hk => by cases hk; omega))
    have y2 := Lib.hid (K.new w2 (.cells #[.int .i64 y.k, .int .i64 y.a, .int .i64 y.b, .int .i64 y.c, .int .i64 y.d] 27))
    have G2 := Lib.hid (only_new (grownBy_trans G1.out g2) (.cells #[.int .i64 y.k, .int .i64 y.a, .int .i64 y.b, .int .i64 y.c, .int .i64 y.d] 27))
    clear c2 g2 z1 G1 C1
    go_wp2_with fail
    refine Calls.mono (H3.out _ g A c C2.out) ?_
    rintro e w3 ⟨rfl, c3, g3⟩
    have C3 := Lib.hid c3
    have z3 := Lib.hid (K.kept g3 z2.out (fun k hk => by cases hk; omega))
    have y3 := Lib.hid (K.kept g3 y2.out (fun k hk => by cases hk; omega))
    have G3 := Lib.hid (grownBy_trans G2.out g3)
    clear c3 g3 z2 y2 G2 C2
    obtain ⟨⟨a0, a1, a2, a3, a4⟩, -⟩ := K.row5 y3.out
    obtain ⟨⟨c0, c1, c2, c3, c4⟩, f0, f1, f2, f3, f4⟩ := K.row5 z3.out
    go_wp2
    (try simp only [Exit.inBlock, Exit.then])
    have GS := K.setFrom_selfE [.int .i64 y.k, .int .i64 y.a, .int .i64 y.b, .int .i64 y.c, .int .i64 y.d] w3 w.heap.size 0
    refine bodyPost_ret (v := .agg #[.int .i64 y.k, .int .i64 y.a, .int .i64 y.b, .int .i64 y.c, .int .i64 y.d]) ?_ rfl ⟨rfl, ?_, ?_⟩
    · exact K.resCell Try.results55 _ _ _ w.heap.size _ rfl (run_loadVar_row _ _ 27 27 _ (0, 0) _ (K.set5 _ _ _ _ _ z3.out) Try.underlying27 rfl info_addrE)
    · exact C3.out.grownBy GS (fun q hq => by cases hq; exact hgl)
    · exact grown_other G3.out GS (fun u hu => by cases hu; exact Nat.le_refl _)
end Go.Proofs.Ythogonpjkngpjaa

namespace Go.Proofs.Ythogonpjkngpjaa
set_option maxRecDepth 100000
def isWord (n : Int) : Bool := decide (0 ≤ n ∧ n ≤ 65535)
theorem isWord_iff {n : Int} : isWord n = true ↔ 0 ≤ n ∧ n ≤ 65535 := by simp [isWord]
theorem isWord_not {n : Int} : isWord n = false ↔ n < 0 ∨ 65535 < n := by simp [isWord]; omega
def sadd (a b : Int) : Int := if 65535 < a + b then a + b - 65535 else a + b
theorem sadd_word {a b : Int} (ha : isWord a = true) (hb : isWord b = true) : isWord (sadd a b) = true := by
  rw [isWord_iff] at *
  unfold sadd
  split <;> omega
theorem sadd_zero {a : Int} (ha : isWord a = true) : sadd 0 a = a := by
  rw [isWord_iff] at ha
  unfold sadd
  split <;> omega
def sums (s : Int) (ws : List Int) : Int := ws.foldl sadd s
theorem sums_snoc (s : Int) (ws : List Int) (x : Int) : sums s (ws ++ [x]) = sadd (sums s ws) x := by simp [sums]
theorem sums_word (ws : List Int) : ∀ s, isWord s = true → ws.all isWord = true → isWord (sums s ws) = true := by
  induction ws with
  | nil => intro s h _; exact h
  | cons x ws ih =>
    intro s h hw
    simp only [List.all_cons, Bool.and_eq_true] at hw
    exact ih _ (sadd_word h hw.1) hw.2
def folded (ws : List Int) : Int := if ws.all isWord then sums 0 ws else -1
theorem folded_yes {ws : List Int} (h : ws.all isWord = true) : folded ws = sums 0 ws := by rw [folded, if_pos h]
theorem folded_no {ws : List Int} (k : Nat) (hk : k < ws.length) (h : isWord ws[k] = false) : folded ws = -1 := by
  have : ws.all isWord = false := by
    rw [Bool.eq_false_iff]
    intro ha
    have := List.all_eq_true.1 ha _ (List.getElem_mem hk)
    simp [h] at this
  rw [folded, this]
  rfl
theorem all_take_snoc (ws : List Int) (k : Nat) (hk : k < ws.length) (h : (ws.take k).all isWord = true) (hx : isWord ws[k] = true) : (ws.take (k + 1)).all isWord = true := by
  rw [take_snoc ws k hk, List.all_append, h, List.all_cons, hx]
  rfl
def comp (n : Int) : Int := if isWord n then 65535 - n else -1
theorem comp_yes {n : Int} (h : isWord n = true) : comp n = 65535 - n := by rw [comp, if_pos h]
theorem comp_no {n : Int} (h : isWord n = false) : comp n = -1 := by rw [comp, h]; rfl
def wordsL : List UInt8 → List Int
  | [] => []
  | [a] => [256 * (a.toNat : Int)]
  | a :: b :: t => (256 * (a.toNat : Int) + b.toNat) :: wordsL t
theorem wordsL_length : ∀ l : List UInt8, (wordsL l).length = (l.length + 1) / 2
  | [] => rfl
  | [_] => by simp [wordsL]
  | a :: b :: t => by
    have := wordsL_length t
    simp only [wordsL, List.length_cons, this]
    omega
theorem wordsL_append : ∀ (l m : List UInt8), l.length % 2 = 0 → wordsL (l ++ m) = wordsL l ++ wordsL m
  | [], _, _ => rfl
  | [_], _, h => by simp at h
  | a :: b :: t, m, h => by
    have := wordsL_append t m (by simp at h; omega)
    simp [wordsL, this]
theorem wordsL_word : ∀ l : List UInt8, (wordsL l).all isWord = true
  | [] => rfl
  | [a] => by
    have := UInt8.toNat_lt a
    simp [wordsL, isWord]
    omega
  | a :: b :: t => by
    have := wordsL_word t
    have := UInt8.toNat_lt a
    have := UInt8.toNat_lt b
    simp only [wordsL, List.all_cons, Bool.and_eq_true]
    exact ⟨isWord_iff.2 (by omega), by assumption⟩
theorem wordsL_even (bs : List UInt8) (k : Nat) (h : k < bs.length) (he : k % 2 = 0) : wordsL (bs.take (k + 1)) = wordsL (bs.take k) ++ [256 * (bs[k].toNat : Int)] := by
  rw [take_snoc bs k h, wordsL_append _ _ (by simp; omega)]
  rfl
theorem wordsL_odd (bs : List UInt8) (k : Nat) (h : k + 1 < bs.length) (he : k % 2 = 0) : wordsL (bs.take (k + 2)) = wordsL (bs.take k) ++ [256 * (bs[k].toNat : Int) + bs[k + 1].toNat] := by
  rw [take_snoc bs (k + 1) h, take_snoc bs k (by omega), List.append_assoc, wordsL_append _ _ (by simp; omega)]
  rfl
def onesSum (bs : List UInt8) : Int := if 2000 < bs.length then -1 else sums 0 (wordsL bs)
theorem onesSum_word {bs : List UInt8} (h : bs.length ≤ 2000) : isWord (onesSum bs) = true := by
  rw [onesSum, if_neg (by omega)]
  exact sums_word (wordsL bs) 0 (by decide) (wordsL_word bs)
def checksum (bs : List UInt8) : Int := comp (onesSum bs)
end Go.Proofs.Ythogonpjkngpjaa

namespace Go.Proofs.Ythogonpjkngpjaa
set_option maxRecDepth 100000
open Go.RowKit
theorem RB.front {w : World} {B : Nat} {A : Option Addr} {bs : List UInt8} (h : RB w B A bs) (m : Nat) : RB w B A (bs.take m) := by
  intro hp
  have hp' : 0 < bs.length := by rw [List.length_take] at hp; omega
  obtain ⟨g, o, e, hg, hc⟩ := h hp'
  refine ⟨g, o, e, hg, fun j u hu => hc j u ?_⟩
  rw [List.getElem?_take] at hu
  split at hu
  · exact hu
  · cases hu
theorem RB.back {w : World} {B : Nat} {A : Option Addr} {bs : List UInt8} (h : RB w B A bs) (m c : Nat) (hc : bs.length ≤ c) : RB w B (if c = m then A else A.map (·.add (m * 1))) (bs.drop m) := by
  intro hp
  rw [List.length_drop] at hp
  obtain ⟨g, o, e, hg, hcell⟩ := h (by omega)
  subst e
  rw [if_neg (by omega)]
  refine ⟨g, o + m, by simp [addr_add], hg, fun j u hu => ?_⟩
  rw [List.getElem?_drop] at hu
  rw [Nat.add_assoc]
  exact hcell _ _ hu
structure Fh where
  dscp : Int
  ecn : Int
  id : Int
  flags : Int
  frag : Int
  ttl : Int
  proto : Int
  src : Ad
  dst : Ad
deriving DecidableEq
def Fh.zero : Fh := ⟨0, 0, 0, 0, 0, 0, 0, Ad.zero, Ad.zero⟩
def upTo (n hi : Int) : Bool := decide (0 ≤ n ∧ n ≤ hi)
theorem upTo_iff {n hi : Int} : upTo n hi = true ↔ 0 ≤ n ∧ n ≤ hi := by simp [upTo]
def adOk4 (x : Ad) : Bool := decide (x.k = 4) && x.ok
def optOk (o : Nat) : Bool := decide (o ≤ 40 ∧ o % 4 = 0)
def Fh.small (x : Fh) : Bool := upTo x.dscp 63 && upTo x.ecn 3 && upTo x.id 65535 && upTo x.flags 7 && upTo x.frag 8191 && upTo x.ttl 255 && upTo x.proto 255
def Fh.ok (x : Fh) (o n : Nat) : Bool := x.small && adOk4 x.src && adOk4 x.dst && optOk o && decide ((n : Int) ≤ 1480 - o)
theorem Fh.small_iff (x : Fh) : x.small = true ↔ (0 ≤ x.dscp ∧ x.dscp ≤ 63) ∧ (0 ≤ x.ecn ∧ x.ecn ≤ 3) ∧ (0 ≤ x.id ∧ x.id ≤ 65535) ∧ (0 ≤ x.flags ∧ x.flags ≤ 7) ∧ (0 ≤ x.frag ∧ x.frag ≤ 8191) ∧ (0 ≤ x.ttl ∧ x.ttl ≤ 255) ∧ (0 ≤ x.proto ∧ x.proto ≤ 255) := by
  simp only [Fh.small, upTo, Bool.and_eq_true, decide_eq_true_eq, and_assoc]
theorem Fh.ok_iff (x : Fh) (o n : Nat) : x.ok o n = true ↔ ((0 ≤ x.dscp ∧ x.dscp ≤ 63) ∧ (0 ≤ x.ecn ∧ x.ecn ≤ 3) ∧ (0 ≤ x.id ∧ x.id ≤ 65535) ∧ (0 ≤ x.flags ∧ x.flags ≤ 7) ∧ (0 ≤ x.frag ∧ x.frag ≤ 8191) ∧ (0 ≤ x.ttl ∧ x.ttl ≤ 255) ∧ (0 ≤ x.proto ∧ x.proto ≤ 255)) ∧
    adOk4 x.src = true ∧ adOk4 x.dst = true ∧ (o ≤ 40 ∧ o % 4 = 0) ∧ (n : Int) ≤ 1480 - o := by
  simp only [Fh.ok, optOk, Bool.and_eq_true, decide_eq_true_eq, and_assoc, Fh.small_iff]
def Fh.head (x : Fh) (sum : Int) (os : List UInt8) (n : Nat) : List UInt8 :=
  [byteOf (69 + (os.length : Int) / 4), byteOf (4 * x.dscp + x.ecn)] ++ put16 (20 + os.length + n) ++ put16 x.id ++ put16 (8192 * x.flags + x.frag) ++ [byteOf x.ttl, byteOf x.proto] ++ put16 sum ++ put32 x.src.d ++ put32 x.dst.d ++ os
def Fh.sum (x : Fh) (os : List UInt8) (n : Nat) : Int := if x.ok os.length n then checksum (x.head 0 os n) else -1
def Fh.bytes (x : Fh) (os bs : List UInt8) : List UInt8 := if x.ok os.length bs.length then x.head (x.sum os bs.length) os bs.length ++ bs else []
structure Uh where
  kind : Int
  sport : Int
  dport : Int
  seq : Int
  ack : Int
  bits : Int
  window : Int
  urgent : Int
  ty : Int
  code : Int
  rest : Int
  nosum : Bool
deriving DecidableEq
def Uh.zero : Uh := ⟨0, 0, 0, 0, 0, 0, 0, 0, 0, 0, 0, false⟩
def Uh.size (x : Uh) (o n : Nat) : Int := if x.kind = 0 then n else if x.kind = 1 then 20 + o + n else if x.kind = 2 then 8 + n else if x.kind = 3 then 8 + n else -1
def pairA (x y : Ad) : Bool := x.ok && y.ok && decide (x.k = y.k)
def psBytes (x y : Ad) (p s : Int) : List UInt8 := x.bytes ++ y.bytes ++ (if x.k = 4 then [0, byteOf p] ++ put16 s else put32 s ++ [0, 0, 0, byteOf p])
def psSum (x y : Ad) (p s : Int) : Int := if pairA x y && upTo p 255 && upTo s 1500 then onesSum (psBytes x y p s) else -1
theorem psSum_no {x y : Ad} {p s : Int} (h : (pairA x y && upTo p 255 && upTo s 1500) = false) : psSum x y p s = -1 := by simp [psSum, h]
theorem psSum_yes {x y : Ad} {p s : Int} (h : (pairA x y && upTo p 255 && upTo s 1500) = true) : psSum x y p s = onesSum (psBytes x y p s) := by simp [psSum, h]
end Go.Proofs.Ythogonpjkngpjaa

namespace Go.Proofs.Ythogonpjkngpjaa.K
open Go.RowKit
section
variable {w : World} {g : Nat} {t : TypeId}
theorem newAt {w : World} {o : Obj} {g : Nat} (h : g = w.heap.size) : (w.alloc o).heap[g]? = some o := h ▸ new w o
theorem oldAt {w : World} {o x : Obj} {g : Nat} (h : g < w.heap.size) (k : w.heap[g]? = some o) : (w.alloc x).heap[g]? = some o := (Below.heap_alloc w x g h).trans k
end
end Go.Proofs.Ythogonpjkngpjaa.K

namespace Go.Proofs.Ythogonpjkngpjaa.K
open Go.RowKit
section
variable {w : World} {g : Nat} {t : TypeId}
theorem cells14 {v0 v1 v2 v3 v4 v5 v6 v7 v8 v9 v10 v11 v12 v13 : Value} (h : w.heap[g]? = some (.cells #[v0, v1, v2, v3, v4, v5, v6, v7, v8, v9, v10, v11, v12, v13] t (0, 0))) : w.cell? ⟨g, 0, none⟩ = some v0 ∧ w.cell? ⟨g, 1, none⟩ = some v1 ∧ w.cell? ⟨g, 2, none⟩ = some v2 ∧ w.cell? ⟨g, 3, none⟩ = some v3 ∧ w.cell? ⟨g, 4, none⟩ = some v4 ∧ w.cell? ⟨g, 5, none⟩ = some v5 ∧ w.cell? ⟨g, 6, none⟩ = some v6 ∧ w.cell? ⟨g, 7, none⟩ = some v7 ∧ w.cell? ⟨g, 8, none⟩ = some v8 ∧ w.cell? ⟨g, 9, none⟩ = some v9 ∧ w.cell? ⟨g, 10, none⟩ = some v10 ∧ w.cell? ⟨g, 11, none⟩ = some v11 ∧ w.cell? ⟨g, 12, none⟩ = some v12 ∧ w.cell? ⟨g, 13, none⟩ = some v13 :=
  ⟨cell_of_row w g 0 _ _ _ h, cell_of_row w g 1 _ _ _ h, cell_of_row w g 2 _ _ _ h, cell_of_row w g 3 _ _ _ h, cell_of_row w g 4 _ _ _ h, cell_of_row w g 5 _ _ _ h, cell_of_row w g 6 _ _ _ h, cell_of_row w g 7 _ _ _ h, cell_of_row w g 8 _ _ _ h, cell_of_row w g 9 _ _ _ h, cell_of_row w g 10 _ _ _ h, cell_of_row w g 11 _ _ _ h, cell_of_row w g 12 _ _ _ h, cell_of_row w g 13 _ _ _ h⟩
end
end Go.Proofs.Ythogonpjkngpjaa.K

namespace Go.Proofs.Ythogonpjkngpjaa
set_option maxRecDepth 100000
open Go.RowKit
theorem box_cell {w w' : World} {cs : Array Value} {t : TypeId} (b : Below (w.alloc (.cells cs t)).heap.size (w.alloc (.cells cs t)) w') (j : Nat) (v : Value) (h : cs[j]? = some v) : w'.cell? ⟨w.heap.size, j, none⟩ = some v := by
  rw [b.cell (p := ⟨w.heap.size, j, none⟩) (by simp)]
  simp [go_sem, h]
theorem ad_box {w w' : World} {x : Ad} {t : TypeId} (b : Below (w.alloc (.cells #[.int .i64 x.k, .int .i64 x.a, .int .i64 x.b, .int .i64 x.c, .int .i64 x.d] t)).heap.size (w.alloc (.cells #[.int .i64 x.k, .int .i64 x.a, .int .i64 x.b, .int .i64 x.c, .int .i64 x.d] t)) w') :
    w'.cell? ⟨w.heap.size, 0, none⟩ = some (.int .i64 x.k) ∧ w'.cell? ⟨w.heap.size, 1, none⟩ = some (.int .i64 x.a) ∧ w'.cell? ⟨w.heap.size, 2, none⟩ = some (.int .i64 x.b) ∧ w'.cell? ⟨w.heap.size, 3, none⟩ = some (.int .i64 x.c) ∧ w'.cell? ⟨w.heap.size, 4, none⟩ = some (.int .i64 x.d) :=
  ⟨box_cell b 0 _ rfl, box_cell b 1 _ rfl, box_cell b 2 _ rfl, box_cell b 3 _ rfl, box_cell b 4 _ rfl⟩
set_option maxHeartbeats 400000 in
theorem specHalf (n : Int) (w : World) : Calls Try.prog 97 #[.int .i64 n] w fun e w' => e = .returned (.bool (half n)) ∧ w = w' := by
  go_enter Try.func97, Try.ntmps97
  go_wp2
  · go_ret
    exact ⟨ret_bool (by simp [half]; omega), rfl⟩
  · go_ret
    exact ⟨ret_bool (by simp [half]; omega), rfl⟩
set_option maxHeartbeats 400000 in
theorem partOkC (n : Int) (w : World) : Calls Try.prog 120 #[.int .i64 n] w fun e w' => e = .returned (.bool (half n)) ∧ w = w' := by
  by_cases h : 0 ≤ n ∧ n ≤ 4294967295
  · have hh := Lib.hid ((half_iff n).2 h)
    obtain ⟨h1, h2⟩ := h
    go_enter Try.func120, Try.ntmps120
    go_wp2_with (go_at_call 42; refine (within_yes _ _ _ _ h1 h2).mono ?_; rintro e w' ⟨rfl, rfl⟩)
    go_ret
    exact ⟨ret_bool hh.out.symm, rfl⟩
  · have hh := Lib.hid (show half n = false by simp [half]; omega)
    have h3 := Lib.hid (show n < 0 ∨ 4294967295 < n by omega)
    clear h
    go_enter Try.func120, Try.ntmps120
    go_wp2_with (go_at_call 42; refine (within_no _ _ _ _ h3.out).mono ?_; rintro e w' ⟨rfl, rfl⟩)
    go_ret
    exact ⟨ret_bool hh.out.symm, rfl⟩
set_option maxHeartbeats 400000 in
theorem bitsOfC (k : Int) (h : k = 4 ∨ k = 6) (w : World) : Calls Try.prog 114 #[.int .i64 k] w fun e w' => e = .returned (.int .i64 (if k = 4 then 32 else 128)) ∧ w = w' := by
  rcases h with rfl | rfl
  · go_enter Try.func114, Try.ntmps114
    go_wp2
    go_ret
    exact ⟨rfl, rfl⟩
  · go_enter Try.func114, Try.ntmps114
    go_wp2
    go_ret
    exact ⟨rfl, rfl⟩
set_option maxHeartbeats 1000000 in
theorem specAddrOk (x : Ad) (w : World) : Calls Try.prog 80 #[.agg #[.int .i64 x.k, .int .i64 x.a, .int .i64 x.b, .int .i64 x.c, .int .i64 x.d]] w fun e w' => e = .returned (.bool x.ok) ∧ Below w.heap.size w w' := by
  by_cases h : x.k = 4
  · go_enter Try.func80, Try.ntmps80
    go_wp2_with (go_at_call 97; refine (specHalf _ _).mono ?_; rintro e w' ⟨rfl, rfl⟩)
    all_goals (go_ret; exact ⟨ret_bool (by simp [Ad.ok, *]), by go_grown⟩)
  · go_enter Try.func80, Try.ntmps80
    go_wp2_with (go_at_call 97; refine (specHalf _ _).mono ?_; rintro e w' ⟨rfl, rfl⟩)
    all_goals (go_ret; exact ⟨ret_bool (by simp [Ad.ok, *]), by go_grown⟩)
set_option maxHeartbeats 1000000 in
theorem implAddrOk (x : Ad) (w : World) : Calls Try.prog 85 #[.agg #[.int .i64 x.k, .int .i64 x.a, .int .i64 x.b, .int .i64 x.c, .int .i64 x.d]] w fun e w' => e = .returned (.bool x.ok) ∧ Below w.heap.size w w' := by
  by_cases h : x.k = 4
  · go_enter Try.func85, Try.ntmps85
    go_wp2_with (go_at_call 120; refine (partOkC _ _).mono ?_; rintro e w' ⟨rfl, rfl⟩)
    all_goals (go_ret; exact ⟨ret_bool (by simp [Ad.ok, *]), by go_grown⟩)
  · go_enter Try.func85, Try.ntmps85
    go_wp2_with (go_at_call 120; refine (partOkC _ _).mono ?_; rintro e w' ⟨rfl, rfl⟩)
    all_goals (go_ret; exact ⟨ret_bool (by simp [Ad.ok, *]), by go_grown⟩)
theorem K.setRow_own {w : World} {base : Nat} {e : TypeId} {size n : Nat} {v : Value} {xs : List Value} {g : Nat} (cs : Array Value) (h : w.ownsRow base e size v n xs) (hg : g < base) : (w.setRow g cs).ownsRow base e size v n xs :=
  own_grown (row := some g) h ⟨rfl, rfl, rfl, by simp, fun k _ hk => setRow_other w g k cs (fun e => hk (by rw [e]))⟩ (fun k hk => by have := (h.lt k hk).1; simp; omega)
theorem K.setRow_grown (w : World) (g : Nat) (cs : Array Value) : w.grownBy (w.setRow g cs) (some g) := ⟨rfl, rfl, rfl, by simp, fun k _ hk => setRow_other w g k cs (fun e => hk (by rw [e]))⟩
theorem K.setRow_below {w0 w : World} {g : Nat} (hb : Below w0.heap.size w0 w) (hg : w0.heap.size ≤ g) (cs : Array Value) : Below w0.heap.size w0 (w.setRow g cs) :=
  bgrown hb (K.setRow_grown w g cs) (fun k hk => by cases hk; exact hg)
theorem own_set {w : World} {base : Nat} {e : TypeId} {size n : Nat} {v : Value} {xs : List Value} (h : w.ownsRow base e size v n xs) (g j : Nat) (u : Value) (hg : g < base) : (w.setCell ⟨g, j, none⟩ u).ownsRow base e size v n xs :=
  own_grown h (grownBy_set w g j u) (fun k hk => by have := (h.lt k hk).1; simp; omega)
def BytesOut (x : Ad) (w : World) (e : Ending) (w' : World) : Prop := ∃ A c, e = .returned (.slice A x.bytes.length c) ∧ w'.ownsRow w.heap.size 5 1 (.slice A x.bytes.length c) x.bytes.length (cellsOf x.bytes) ∧ Below w.heap.size w w'
theorem bytesOut_no {x : Ad} (h : x.ok = false) {w w' : World} (hb : Below w.heap.size w w') : BytesOut x w (.returned (.slice none 0 0)) w' := by
  have e : x.bytes = [] := by simp [Ad.bytes, h]
  unfold BytesOut
  rw [e]
  exact ⟨none, 0, rfl, ⟨rfl, .inl ⟨rfl, rfl⟩⟩, hb⟩
theorem bytesOut_yes {x : Ad} {w w' : World} {A : Option Addr} {n c B : Nat} {bs : List UInt8} (he : x.bytes = bs) (hn : bs.length = n) (ho : w'.ownsRow B 5 1 (.slice A n c) n (cellsOf bs)) (hB : w.heap.size ≤ B) (hb : Below w.heap.size w w') :
    BytesOut x w (.returned (.slice A n c)) w' := by
  unfold BytesOut
  rw [he, hn]
  exact ⟨A, c, rfl, own_base ho hB, hb⟩
theorem bytes_four {x : Ad} (h : x.ok = true) (hk : x.k = 4) : x.bytes = put32 x.d := by simp [Ad.bytes, h, hk]
theorem bytes_six {x : Ad} (h : x.ok = true) (hk : x.k = 6) : x.bytes = x.whole := by simp [Ad.bytes, h, hk]
theorem cell_on {a b : World} {p : Addr} {v : Value} (h : Below a.heap.size a b) (hc : a.cell? p = some v) : b.cell? p = some v := (h.cell (World.block_lt_of_cell? _ _ hc)).trans hc
theorem undrew {a b : World} (h : Below a.drew.heap.size a.drew b) : Below a.heap.size a b := ⟨h.os, h.tape, h.output, h.size, h.block⟩
theorem cell_grown {a b : World} {row : Option Nat} {g i : Nat} {v : Value} (h : a.grownBy b row) (hne : ∀ k, row = some k → g < k) (hc : a.cell? ⟨g, i, none⟩ = some v) : b.cell? ⟨g, i, none⟩ = some v :=
  h.cell hc (fun e => by have := hne g e.symm; omega)
set_option maxHeartbeats 400000 in
theorem specAddrBytes_no (x : Ad) (h : x.ok = false) (w : World) : Calls Try.prog 98 #[.agg #[.int .i64 x.k, .int .i64 x.a, .int .i64 x.b, .int .i64 x.c, .int .i64 x.d]] w (BytesOut x w) := by
  have H := Lib.hid h
  clear h
  go_enter Try.func98, Try.ntmps98
  go_wp2_with fail
  refine (specAddrOk x _).mono ?_
  rintro e w1 ⟨rfl, b1⟩
  have h := H.out
  go_wp2
  go_ret
  exact bytesOut_no H.out (bthen (Joins.below_alloc1 w _) b1)
set_option maxHeartbeats 400000 in
theorem specAddrBytes_four (x : Ad) (h : x.ok = true) (hk : x.k = 4) (w : World) : Calls Try.prog 98 #[.agg #[.int .i64 x.k, .int .i64 x.a, .int .i64 x.b, .int .i64 x.c, .int .i64 x.d]] w (BytesOut x w) := by
  have H := Lib.hid (bytes_four h hk)
  have HH := Lib.hid (And.intro h hk)
  clear h hk
  go_enter Try.func98, Try.ntmps98
  go_wp2_with fail
  refine (specAddrOk x _).mono ?_
  rintro e w1 ⟨rfl, b1⟩
  obtain ⟨c0, c1, c2, c3, c4⟩ := ad_box b1
  obtain ⟨h, hk⟩ := HH.out
  go_wp2_with fail
  refine (specPut32 x.d _).mono ?_
  rintro e w2 ⟨A, c, rfl, o2, b2⟩
  go_wp2
  go_ret
  have b12 := bthen (Joins.below_alloc1 w _) b1
  exact bytesOut_yes H.out rfl o2 b12.size (bthen b12 b2)
set_option maxHeartbeats 400000 in
theorem specAddrBytes_six (x : Ad) (h : x.ok = true) (hk : x.k = 6) (w : World) : Calls Try.prog 98 #[.agg #[.int .i64 x.k, .int .i64 x.a, .int .i64 x.b, .int .i64 x.c, .int .i64 x.d]] w (BytesOut x w) := by
  have H := Lib.hid (bytes_six h hk)
  have HH := Lib.hid (And.intro h hk)
  clear h hk
  go_enter Try.func98, Try.ntmps98
  go_wp2_with fail
  refine (specAddrOk x _).mono ?_
  rintro e w1 ⟨rfl, b1⟩
  obtain ⟨c0, c1, c2, c3, c4⟩ := ad_box b1
  have bb := bthen (Joins.below_alloc1 w _) b1
  have hlt : w.heap.size < w1.heap.size := by have := b1.size; simp at this; omega
  clear b1
  obtain ⟨h, hk⟩ := HH.out
  go_wp2_with fail
  go_region_held3 (fun w' => w'.cell? ⟨w.heap.size, 1, none⟩ = some (.int .i64 x.a) ∧ w'.cell? ⟨w.heap.size, 2, none⟩ = some (.int .i64 x.b)) (first | exact ⟨c1, c2⟩ | exact ⟨cell_on b2 c1, cell_on b2 c2⟩ | exact ⟨cell_on b3 (cell_on b2 c1), cell_on b3 (cell_on b2 c2)⟩ | exact ⟨cell_grown hg4 hr4.out (cell_on b3 (cell_on b2 c1)), cell_grown hg4 hr4.out (cell_on b3 (cell_on b2 c2))⟩ | go_keep)
    (first | (go_at_call 99; with_reducible refine (specPut32 x.a _).mono ?_; rintro e w2 ⟨A2, k2, rfl, o2, b2⟩) | (go_at_call 99; with_reducible refine (specPut32 x.b _).mono ?_; rintro e w3 ⟨A3, k3, rfl, o3, b3⟩) | (refine step_append_b (by rfl) (.tmp 15) (.tmp 18) (by rfl) (w.heap.size + 1) (.slice A2 4 k2) (put32 x.a) (by rfl) (own_below (own_base o2 (show w.heap.size + 1 ≤ w1.drew.heap.size from hlt)) b3) _ A3 4 k3 (put32 x.b) (by rfl) rfl (RB.of_own o3) (by simp [put32]) (Nat.le_trans (show w.heap.size + 1 ≤ w1.drew.heap.size from hlt) (Nat.le_trans b2.size b3.size)) ?_; intro v4 w4 o4 hg4 ha4; have hr4 := Lib.hid (show ∀ k, (Value.slice A2 4 k2).ownBlock = some k → w.heap.size < k from fun k hk => Nat.lt_of_lt_of_le (show w.heap.size < w1.drew.heap.size from hlt) (o2.lt k hk).1)))
  obtain ⟨A4, k4, rfl⟩ := own_form o4
  have b4 : Below w.heap.size w w4 := bgrown (bthen bb (bthen (undrew b2) b3)) hg4 (fun k hk => Nat.le_of_lt (hr4.out k hk))
  have lt4 : w.heap.size < w4.heap.size := Nat.lt_of_lt_of_le (Nat.lt_of_lt_of_le hlt (Nat.le_trans b2.size b3.size)) hg4.size
  have d3 := cell_grown hg4 hr4.out (cell_on b3 (cell_on b2 c3))
  have d4 := cell_grown hg4 hr4.out (cell_on b3 (cell_on b2 c4))
  have r4 := Lib.hid (show ∀ k, (Value.slice A4 (put32 x.a ++ put32 x.b).length k4).ownBlock = some k → w.heap.size < k from fun k hk => (o4.lt k hk).1)
  clear c0 c1 c2 c3 c4 o2 o3 b2 b3 ha4 hg4 hr4
  go_wp2_with fail
  go_region_held3 (fun w' => w'.cell? ⟨w.heap.size, 3, none⟩ = some (.int .i64 x.c) ∧ w'.cell? ⟨w.heap.size, 4, none⟩ = some (.int .i64 x.d)) (first | exact ⟨d3, d4⟩ | exact ⟨cell_on b5 d3, cell_on b5 d4⟩ | exact ⟨cell_grown hg6 r4.out (cell_on b5 d3), cell_grown hg6 r4.out (cell_on b5 d4)⟩ | exact ⟨cell_on b7 (cell_grown hg6 r4.out (cell_on b5 d3)), cell_on b7 (cell_grown hg6 r4.out (cell_on b5 d4))⟩ | exact ⟨cell_grown hg8 r6.out (cell_on b7 (cell_grown hg6 r4.out (cell_on b5 d3))), cell_grown hg8 r6.out (cell_on b7 (cell_grown hg6 r4.out (cell_on b5 d4)))⟩ | go_keep)
    (first | (go_at_call 99; with_reducible refine (specPut32 x.c _).mono ?_; rintro e w5 ⟨A5, k5, rfl, o5, b5⟩) | (go_at_call 99; with_reducible refine (specPut32 x.d _).mono ?_; rintro e w7 ⟨A7, k7, rfl, o7, b7⟩) | (refine step_append_b (by rfl) (.tmp 20) (.tmp 23) (by rfl) (w.heap.size + 1) (.slice A4 (put32 x.a ++ put32 x.b).length k4) (put32 x.a ++ put32 x.b) (by rfl) (own_below o4 (undrew b5)) _ A5 4 k5 (put32 x.c) (by rfl) rfl (RB.of_own o5) (by simp [put32]) (Nat.le_trans (show w.heap.size + 1 ≤ w4.drew.heap.size from lt4) b5.size) ?_; intro v6 w6 o6 hg6 ha6; have r6 := Lib.hid (show ∀ k, v6.ownBlock = some k → w.heap.size < k from fun k hk => (o6.lt k hk).1)) | (refine step_append_b (by rfl) (.tmp 24) (.tmp 27) (by rfl) (w.heap.size + 1) v6 ((put32 x.a ++ put32 x.b) ++ put32 x.c) (by rfl) (own_below o6 b7) _ A7 4 k7 (put32 x.d) (by rfl) rfl (RB.of_own o7) (by simp [put32]) (Nat.le_trans (Nat.le_trans (Nat.le_trans (show w.heap.size + 1 ≤ w4.drew.heap.size from lt4) b5.size) hg6.size) b7.size) ?_; intro v8 w8 o8 hg8 ha8))
  obtain ⟨A8, k8, rfl⟩ := own_form o8
  go_wp2
  go_ret
  exact bytesOut_yes H.out rfl o8 (by omega) (bgrown (bthen (bgrown (bthen b4 (undrew b5)) hg6 (fun k hk => Nat.le_of_lt (r4.out k hk))) b7) hg8 (fun k hk => Nat.le_of_lt (r6.out k hk)))
theorem specAddrBytes (x : Ad) (w : World) : Calls Try.prog 98 #[.agg #[.int .i64 x.k, .int .i64 x.a, .int .i64 x.b, .int .i64 x.c, .int .i64 x.d]] w (BytesOut x w) := by
  cases h : x.ok
  · exact specAddrBytes_no x h w
  · rcases x.ok_kind h with hk | hk
    · exact specAddrBytes_four x h hk w
    · exact specAddrBytes_six x h hk w
end Go.Proofs.Ythogonpjkngpjaa
