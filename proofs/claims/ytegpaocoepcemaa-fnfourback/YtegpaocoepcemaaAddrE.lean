/-
  The model's draw of an address of four bytes, number by number.
-/
import Derived.Test.YtegpaocoepcemaaCurD2
import Derived.Test.YtegpaocoepcemaaCellsN
namespace Go.Proofs.Ytegpaocoepcemaa
open Go.RowKit

/-- What a draw of an address leaves. -/
def GivesA (w : World) (g : Nat) (A : Option Addr) (c : Nat) (bs : List UInt8) (t' s' : Nat) (v : Value) (e : Ending) (w' : World) : Prop :=
  e = .returned v ∧ CurS w' g A c bs t' s' ∧ w.grownBy w' (some g)
theorem info_addrE : (Try.prog.info? 33).map (·.size) = some 5 := by kernel_rfl

theorem K.setFrom_selfE : ∀ (vs : List Value) (w : World) (g i : Nat), w.grownBy (K.setFrom w g i vs) (some g)
  | [], w, _, _ => K.refl w _
  | v :: vs, w, g, i => grownBy_trans (grownBy_set w g i v) (K.setFrom_selfE vs (w.setCell ⟨g, i, none⟩ v) g (i + 1))

set_option maxRecDepth 100000 in
set_option maxHeartbeats 2000000 in
theorem addr4E (bs : List UInt8) (t s : Nat) (ht : t ≤ 900000000000) :
    ∃ (d : Int) (s' : Nat), 0 ≤ d ∧ d ≤ 4294967295 ∧ ∀ (w : World) (g : Nat) (A : Option Addr) (c : Nat), CurS w g A c bs t s → Calls Try.prog 109 #[.pointer (some ⟨g, 0, none⟩), .int .i64 4] w (GivesA w g A c bs (t + 9) s' (.agg #[.int .i64 4, .int .i64 0, .int .i64 0, .int .i64 0, .int .i64 d])) := by
  obtain ⟨x1, s1, l1, u1, h1⟩ := pickE bs t s 4 (by omega) (by omega) (by omega)
  obtain ⟨x2, s2, l2, u2, h2⟩ := pickE bs (t + 1) s1 3 (by omega) (by omega) (by omega)
  obtain ⟨x3, s3, l3, u3, h3⟩ := pickE bs (t + 2) s2 256 (by omega) (by omega) (by omega)
  obtain ⟨x4, s4, l4, u4, h4⟩ := pickE bs (t + 3) s3 8 (by omega) (by omega) (by omega)
  obtain ⟨x5, s5, l5, u5, h5⟩ := wideE bs (t + 4) s4 16777216 (by omega) (by omega) (by omega)
  obtain ⟨x6, s6, l6, u6, h6⟩ := pickE bs (t + 7) s5 256 (by omega) (by omega) (by omega)
  obtain ⟨x7, s7, l7, u7, h7⟩ := pickE bs (t + 8) s6 5 (by omega) (by omega) (by omega)
  have H1 := Lib.hid h1
  have H2 := Lib.hid h2
  have H3 := Lib.hid h3
  have H4 := Lib.hid h4
  have H5 := Lib.hid h5
  have H6 := Lib.hid h6
  have H7 := Lib.hid h7
  clear h1 h2 h3 h4 h5 h6 h7
  obtain ⟨d, hd, d0, d1⟩ : ∃ d : Int, (x7 = 0 ∧ d = 167772160 + x1 ∨ x7 = 1 ∧ d = 167772160 + 256 * x2 + x3 ∨ x7 = 2 ∧ d = 3232235520 + x4 ∨ x7 = 3 ∧ d = x5 * 256 + x6 ∨ x7 = 4 ∧ d = 4294967295) ∧ 0 ≤ d ∧ d ≤ 4294967295 := by
    rcases (show x7 = 0 ∨ x7 = 1 ∨ x7 = 2 ∨ x7 = 3 ∨ x7 = 4 by omega) with h | h | h | h | h
    · exact ⟨167772160 + x1, .inl ⟨h, rfl⟩, by omega, by omega⟩
    · exact ⟨167772160 + 256 * x2 + x3, .inr (.inl ⟨h, rfl⟩), by omega, by omega⟩
    · exact ⟨3232235520 + x4, .inr (.inr (.inl ⟨h, rfl⟩)), by omega, by omega⟩
    · exact ⟨x5 * 256 + x6, .inr (.inr (.inr (.inl ⟨h, rfl⟩))), by omega, by omega⟩
    · exact ⟨4294967295, .inr (.inr (.inr (.inr ⟨h, rfl⟩))), by omega, by omega⟩
  refine ⟨d, s7, d0, d1, fun w g A c hc => ?_⟩
  have hgl := hc.lt
  have C0 := Lib.hid (hc.below (Joins.below_alloc1 w (.cells #[.int .i64 0, .int .i64 0, .int .i64 0, .int .i64 0, .int .i64 0] 33)))
  have z0 := Lib.hid (K.new w (.cells #[.int .i64 0, .int .i64 0, .int .i64 0, .int .i64 0, .int .i64 0] 33))
  have G0 := Lib.hid (show w.grownBy (w.alloc (.cells #[.int .i64 0, .int .i64 0, .int .i64 0, .int .i64 0, .int .i64 0] 33)) (some g) from only_new (K.refl w _) _)
  clear hc
  go_enter Try.func109, Try.ntmps109
  go_wp2_with fail
  refine Calls.mono (H1.out _ g A c C0.out) ?_
  rintro e w1 ⟨rfl, c1, g1⟩
  have C1 := Lib.hid c1
  have z1 := Lib.hid (K.kept g1 z0.out (fun k hk => by cases hk; omega))
  have G1 := Lib.hid (grownBy_trans G0.out g1)
  clear c1 g1 z0 G0 C0
  go_wp2_with fail
  refine Calls.mono (H2.out _ g A c C1.out) ?_
  rintro e w2 ⟨rfl, c2, g2⟩
  have C2 := Lib.hid c2
  have z2 := Lib.hid (K.kept g2 z1.out (fun k hk => by cases hk; omega))
  have G2 := Lib.hid (grownBy_trans G1.out g2)
  clear c2 g2 z1 G1 C1
  go_wp2_with fail
  refine Calls.mono (H3.out _ g A c C2.out) ?_
  rintro e w3 ⟨rfl, c3, g3⟩
  have C3 := Lib.hid c3
  have z3 := Lib.hid (K.kept g3 z2.out (fun k hk => by cases hk; omega))
  have G3 := Lib.hid (grownBy_trans G2.out g3)
  clear c3 g3 z2 G2 C2
  go_wp2_with fail
  refine Calls.mono (H4.out _ g A c C3.out) ?_
  rintro e w4 ⟨rfl, c4, g4⟩
  have C4 := Lib.hid c4
  have z4 := Lib.hid (K.kept g4 z3.out (fun k hk => by cases hk; omega))
  have G4 := Lib.hid (grownBy_trans G3.out g4)
  clear c4 g4 z3 G3 C3
  go_wp2_with fail
  refine Calls.mono (H5.out _ g A c C4.out) ?_
  rintro e w5 ⟨rfl, c5, g5⟩
  have C5 := Lib.hid c5
  have z5 := Lib.hid (K.kept g5 z4.out (fun k hk => by cases hk; omega))
  have G5 := Lib.hid (grownBy_trans G4.out g5)
  clear c5 g5 z4 G4 C4
  go_wp2_with fail
  refine Calls.mono (H6.out _ g A c C5.out) ?_
  rintro e w6 ⟨rfl, c6, g6⟩
  have C6 := Lib.hid c6
  have z6 := Lib.hid (K.kept g6 z5.out (fun k hk => by cases hk; omega))
  have G6 := Lib.hid (grownBy_trans G5.out g6)
  clear c6 g6 z5 G5 C5
  go_wp2_with fail
  have lg := C6.out.lt
  have lr := K.lt z6.out
  have C6' := Lib.hid (C6.out.below (Joins.below_alloc1 w6 (.cells #[.int .i64 (167772160 + x1), .int .i64 (167772160 + 256 * x2 + x3), .int .i64 (3232235520 + x4), .int .i64 (x5 * 256 + x6), .int .i64 4294967295] 3)))
  have z6' := Lib.hid (K.old z6.out (.cells #[.int .i64 (167772160 + x1), .int .i64 (167772160 + 256 * x2 + x3), .int .i64 (3232235520 + x4), .int .i64 (x5 * 256 + x6), .int .i64 4294967295] 3))
  have y6' := Lib.hid (K.new w6 (.cells #[.int .i64 (167772160 + x1), .int .i64 (167772160 + 256 * x2 + x3), .int .i64 (3232235520 + x4), .int .i64 (x5 * 256 + x6), .int .i64 4294967295] 3))
  have G6' := Lib.hid (only_new G6.out (.cells #[.int .i64 (167772160 + x1), .int .i64 (167772160 + 256 * x2 + x3), .int .i64 (3232235520 + x4), .int .i64 (x5 * 256 + x6), .int .i64 4294967295] 3))
  refine Calls.mono (H7.out _ g A c C6'.out) ?_
  rintro e w7 ⟨rfl, c7, g7⟩
  have C7 := Lib.hid c7
  have z7 := Lib.hid (K.kept g7 z6'.out (fun k hk => by cases hk; omega))
  have y7 := Lib.hid (K.kept g7 y6'.out (fun k hk => by cases hk; omega))
  have G7 := Lib.hid (grownBy_trans G6'.out g7)
  clear c7 g7 z6 G6 C6 z6' y6' G6' C6'
  obtain ⟨⟨a0, a1, a2, a3, a4⟩, -⟩ := K.row5 y7.out
  obtain ⟨⟨c0, c1, c2, c3, c4⟩, f0, f1, f2, f3, f4⟩ := K.row5 z7.out
  rcases hd with ⟨rfl, rfl⟩ | ⟨rfl, rfl⟩ | ⟨rfl, rfl⟩ | ⟨rfl, rfl⟩ | ⟨rfl, rfl⟩
  · go_wp2
    (try simp only [Exit.inBlock, Exit.then])
    have GS := K.setFrom_selfE [.int .i64 4, .int .i64 0, .int .i64 0, .int .i64 0, .int .i64 (167772160 + x1)] w7 w.heap.size 0
    refine bodyPost_ret (v := .agg #[.int .i64 4, .int .i64 0, .int .i64 0, .int .i64 0, .int .i64 (167772160 + x1)]) ?_ rfl ⟨rfl, ?_, ?_⟩
    · exact K.resCell Try.results109 _ _ _ w.heap.size _ rfl (run_loadVar_row _ _ 33 33 _ (0, 0) _ (K.set5 _ _ _ _ _ z7.out) Try.underlying33 rfl info_addrE)
    · exact C7.out.grownBy GS (fun q hq => by cases hq; exact hgl)
    · exact grown_other G7.out GS (fun u hu => by cases hu; exact Nat.le_refl _)
  · go_wp2
    (try simp only [Exit.inBlock, Exit.then])
    have GS := K.setFrom_selfE [.int .i64 4, .int .i64 0, .int .i64 0, .int .i64 0, .int .i64 (167772160 + 256 * x2 + x3)] w7 w.heap.size 0
    refine bodyPost_ret (v := .agg #[.int .i64 4, .int .i64 0, .int .i64 0, .int .i64 0, .int .i64 (167772160 + 256 * x2 + x3)]) ?_ rfl ⟨rfl, ?_, ?_⟩
    · exact K.resCell Try.results109 _ _ _ w.heap.size _ rfl (run_loadVar_row _ _ 33 33 _ (0, 0) _ (K.set5 _ _ _ _ _ z7.out) Try.underlying33 rfl info_addrE)
    · exact C7.out.grownBy GS (fun q hq => by cases hq; exact hgl)
    · exact grown_other G7.out GS (fun u hu => by cases hu; exact Nat.le_refl _)
  · go_wp2
    (try simp only [Exit.inBlock, Exit.then])
    have GS := K.setFrom_selfE [.int .i64 4, .int .i64 0, .int .i64 0, .int .i64 0, .int .i64 (3232235520 + x4)] w7 w.heap.size 0
    refine bodyPost_ret (v := .agg #[.int .i64 4, .int .i64 0, .int .i64 0, .int .i64 0, .int .i64 (3232235520 + x4)]) ?_ rfl ⟨rfl, ?_, ?_⟩
    · exact K.resCell Try.results109 _ _ _ w.heap.size _ rfl (run_loadVar_row _ _ 33 33 _ (0, 0) _ (K.set5 _ _ _ _ _ z7.out) Try.underlying33 rfl info_addrE)
    · exact C7.out.grownBy GS (fun q hq => by cases hq; exact hgl)
    · exact grown_other G7.out GS (fun u hu => by cases hu; exact Nat.le_refl _)
  · go_wp2
    (try simp only [Exit.inBlock, Exit.then])
    have GS := K.setFrom_selfE [.int .i64 4, .int .i64 0, .int .i64 0, .int .i64 0, .int .i64 (x5 * 256 + x6)] w7 w.heap.size 0
    refine bodyPost_ret (v := .agg #[.int .i64 4, .int .i64 0, .int .i64 0, .int .i64 0, .int .i64 (x5 * 256 + x6)]) ?_ rfl ⟨rfl, ?_, ?_⟩
    · exact K.resCell Try.results109 _ _ _ w.heap.size _ rfl (run_loadVar_row _ _ 33 33 _ (0, 0) _ (K.set5 _ _ _ _ _ z7.out) Try.underlying33 rfl info_addrE)
    · exact C7.out.grownBy GS (fun q hq => by cases hq; exact hgl)
    · exact grown_other G7.out GS (fun u hu => by cases hu; exact Nat.le_refl _)
  · go_wp2
    (try simp only [Exit.inBlock, Exit.then])
    have GS := K.setFrom_selfE [.int .i64 4, .int .i64 0, .int .i64 0, .int .i64 0, .int .i64 (4294967295)] w7 w.heap.size 0
    refine bodyPost_ret (v := .agg #[.int .i64 4, .int .i64 0, .int .i64 0, .int .i64 0, .int .i64 (4294967295)]) ?_ rfl ⟨rfl, ?_, ?_⟩
    · exact K.resCell Try.results109 _ _ _ w.heap.size _ rfl (run_loadVar_row _ _ 33 33 _ (0, 0) _ (K.set5 _ _ _ _ _ z7.out) Try.underlying33 rfl info_addrE)
    · exact C7.out.grownBy GS (fun q hq => by cases hq; exact hgl)
    · exact grown_other G7.out GS (fun u hu => by cases hu; exact Nat.le_refl _)
end Go.Proofs.Ytegpaocoepcemaa
