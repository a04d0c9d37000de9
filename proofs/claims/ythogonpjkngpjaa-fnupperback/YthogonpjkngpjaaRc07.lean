/-
  The model's draw of an upper layer, number by number.
-/
import Derived.Test.YthogonpjkngpjaaRc02
import Derived.Test.YthogonpjkngpjaaRc05
import Derived.Test.YthogonpjkngpjaaRc03
import Derived.Test.YthogonpjkngpjaaRc04
import Derived.Deep.Cut
namespace Go.Proofs.Ythogonpjkngpjaa
set_option maxRecDepth 100000
open Go.RowKit
set_option maxHeartbeats 8000000 in
theorem upE_1 (k : Int) (bs : List UInt8) (t s : Nat) (ht : t ≤ 700000000000) (ds : List UInt8) (t0 s0 : Nat) (hds : ds.length ≤ 40) (ht0 : t0 ≤ t + 40 + 1) (HB : Hid (∀ (w : World) (g : Nat) (A : Option Addr) (c : Nat), CurS w g A c bs t s → Calls Try.prog 109 #[.pointer (some ⟨g, 0, none⟩), .int .i64 (40 : Int)] w (GivesB w g A c bs t0 s0 ds))) : ∃ (x : Uh) (os ds : List UInt8) (t' s' : Nat), os.length ≤ 40 ∧ ds.length ≤ 40 ∧ t' ≤ t + 100 ∧ ∀ (w : World) (g : Nat) (A : Option Addr) (c : Nat), CurS w g A c bs t s → Calls Try.prog 95 #[.pointer (some ⟨g, 0, none⟩), .int .i64 1, .int .i64 k] w (GivesUp w g A c bs t' s' x os ds) := by
  obtain ⟨x1, s11, lo1, up1, hd1⟩ := pickE bs (t0) s0 3 (by omega) (by omega) (by omega)
  have H1 := Lib.hid hd1
  clear hd1
  obtain ⟨y1, rfl⟩ : ∃ k : Nat, x1 = k := ⟨x1.toNat, by omega⟩
  obtain ⟨x2, s12, lo2, up2, hd2⟩ := wideE bs (t0 + 1) s11 16777216 (by omega) (by omega) (by omega)
  have H2 := Lib.hid hd2
  clear hd2
  obtain ⟨x3, s13, lo3, up3, hd3⟩ := wideE bs (t0 + 1 + 3) s12 16777216 (by omega) (by omega) (by omega)
  have H3 := Lib.hid hd3
  clear hd3
  obtain ⟨x4, s14, lo4, up4, hd4⟩ := pickE bs (t0 + 1 + 3 + 3) s13 256 (by omega) (by omega) (by omega)
  have H4 := Lib.hid hd4
  clear hd4
  obtain ⟨x5, s15, lo5, up5, hd5⟩ := wideE bs (t0 + 1 + 3 + 3 + 1) s14 65536 (by omega) (by omega) (by omega)
  have H5 := Lib.hid hd5
  clear hd5
  obtain ⟨x6, s16, lo6, up6, hd6⟩ := pickE bs (t0 + 1 + 3 + 3 + 1 + 3) s15 2 (by omega) (by omega) (by omega)
  have H6 := Lib.hid hd6
  clear hd6
  obtain ⟨o1, so, hdo⟩ := onceE bs (t0 + 1 + 3 + 3 + 1 + 3 + 1) s16 4 (by omega) (by omega) (by omega)
  have HO := Lib.hid hdo
  clear hdo
  cases o1 with
  | false =>
    obtain ⟨x7, s17, lo7, up7, hd7⟩ := wideE bs (t0 + 1 + 3 + 3 + 1 + 3 + 1 + 1) so 65536 (by omega) (by omega) (by omega)
    have H7 := Lib.hid hd7
    clear hd7
    obtain ⟨x8, s18, lo8, up8, hd8⟩ := pickE bs (t0 + 1 + 3 + 3 + 1 + 3 + 1 + 1 + 3) s17 9 (by omega) (by omega) (by omega)
    have H8 := Lib.hid hd8
    clear hd8
    obtain ⟨u8, hu8⟩ : ∃ a, ([x7, 1024 + x8, 53] : List Int)[y1]? = some a := ⟨_, List.getElem?_eq_getElem (by simp; omega)⟩
    have HU8 := Lib.hid hu8
    clear hu8
    obtain ⟨x9, s19, lo9, up9, hd9⟩ := pickE bs (t0 + 1 + 3 + 3 + 1 + 3 + 1 + 1 + 3 + 1) s18 9 (by omega) (by omega) (by omega)
    have H9 := Lib.hid hd9
    clear hd9
    obtain ⟨x10, s20, lo10, up10, hd10⟩ := wideE bs (t0 + 1 + 3 + 3 + 1 + 3 + 1 + 1 + 3 + 1 + 1) s19 65536 (by omega) (by omega) (by omega)
    have H10 := Lib.hid hd10
    clear hd10
    obtain ⟨x11, s21, lo11, up11, hd11⟩ := pickE bs (t0 + 1 + 3 + 3 + 1 + 3 + 1 + 1 + 3 + 1 + 1 + 3) s20 5 (by omega) (by omega) (by omega)
    have H11 := Lib.hid hd11
    clear hd11
    obtain ⟨y11, rfl⟩ : ∃ k : Nat, x11 = k := ⟨x11.toNat, by omega⟩
    obtain ⟨u11, hu11⟩ : ∃ a, ([80, 443, 53, 8000 + x9, x10] : List Int)[y11]? = some a := ⟨_, List.getElem?_eq_getElem (by simp; omega)⟩
    have HU11 := Lib.hid hu11
    clear hu11
    refine ⟨⟨1, u8, u11, (x2 * 255), x3, (x4 * 16), x5, x6, 0, 0, 0, false⟩, [], ds, t0 + 1 + 3 + 3 + 1 + 3 + 1 + 1 + 3 + 1 + 1 + 3 + 1, s21, by simp, by omega, by omega, fun w g A c hc0 => ?_⟩
    have hgl := hc0.lt
    have HC0 := Lib.hid (hc0.below (Joins.below_alloc1 w (.cells #[.int .i64 0, .int .i64 0, .int .i64 0, .int .i64 0, .int .i64 0, .int .i64 0, .int .i64 0, .int .i64 0, .int .i64 0, .int .i64 0, .int .i64 0, .bool false, .slice none 0 0, .slice none 0 0] 36)))
    have R0_ := Lib.hid (K.new w (.cells #[.int .i64 0, .int .i64 0, .int .i64 0, .int .i64 0, .int .i64 0, .int .i64 0, .int .i64 0, .int .i64 0, .int .i64 0, .int .i64 0, .int .i64 0, .bool false, .slice none 0 0, .slice none 0 0] 36))
    clear hc0
    have m1 : IntKind.i64.wrap (x2 * 255) = x2 * 255 := by rw [IntKind.wrap_i64]; omega
    have m2 : IntKind.i64.wrap (x4 * 16) = x4 * 16 := by rw [IntKind.wrap_i64]; omega
    have m3 : IntKind.i64.wrap (1024 + x8) = 1024 + x8 := by rw [IntKind.wrap_i64]; omega
    have m4 : IntKind.i64.wrap (8000 + x9) = 8000 + x9 := by rw [IntKind.wrap_i64]; omega
    have hy1 : (y1 : Int) < 3 := by omega
    go_enter Try.func95, Try.ntmps95
    go_wp2_with fail
    refine Calls.mono (HB.out _ g A c HC0.out) ?_
    rintro e w1 ⟨D0, d0, rfl, od, hc2, hg2⟩
    have hb : w.heap.size < w1.heap.size := by have := hg2.size; simp at this; omega
    have q1 := Lib.hid (K.new w1 (.cells #[.int .i64 1, .int .i64 0, .int .i64 0, .int .i64 0, .int .i64 0, .int .i64 0, .int .i64 0, .int .i64 0, .int .i64 0, .int .i64 0, .int .i64 0, .bool false, .slice none 0 0, .slice D0 ds.length d0] 36))
    have R1 := Lib.hid (K.old (K.kept hg2 R0_.out (fun k hk => by cases hk; omega)) (.cells #[.int .i64 1, .int .i64 0, .int .i64 0, .int .i64 0, .int .i64 0, .int .i64 0, .int .i64 0, .int .i64 0, .int .i64 0, .int .i64 0, .int .i64 0, .bool false, .slice none 0 0, .slice D0 ds.length d0] 36))
    have C1 := Lib.hid (hc2.below (Joins.below_alloc1 w1 (.cells #[.int .i64 1, .int .i64 0, .int .i64 0, .int .i64 0, .int .i64 0, .int .i64 0, .int .i64 0, .int .i64 0, .int .i64 0, .int .i64 0, .int .i64 0, .bool false, .slice none 0 0, .slice D0 ds.length d0] 36)))
    have G1 := Lib.hid (only_new (grownBy_trans (only_new (K.refl w (some g)) (.cells #[.int .i64 0, .int .i64 0, .int .i64 0, .int .i64 0, .int .i64 0, .int .i64 0, .int .i64 0, .int .i64 0, .int .i64 0, .int .i64 0, .int .i64 0, .bool false, .slice none 0 0, .slice none 0 0] 36)) hg2) (.cells #[.int .i64 1, .int .i64 0, .int .i64 0, .int .i64 0, .int .i64 0, .int .i64 0, .int .i64 0, .int .i64 0, .int .i64 0, .int .i64 0, .int .i64 0, .bool false, .slice none 0 0, .slice D0 ds.length d0] 36))
    have B1 := Lib.hid (World.ownsRow.alloc (own_base od (show w.heap.size + 1 ≤ _ by simp)) (.cells #[.int .i64 1, .int .i64 0, .int .i64 0, .int .i64 0, .int .i64 0, .int .i64 0, .int .i64 0, .int .i64 0, .int .i64 0, .int .i64 0, .int .i64 0, .bool false, .slice none 0 0, .slice D0 ds.length d0] 36))
    have NB := Lib.hid (fun k (hk : (Value.slice D0 ds.length d0).ownBlock = some k) => show k ≠ w1.heap.size by have := (od.lt k hk).2; omega)
    clear od hc2 hg2 HC0 R0_
    go_wp2_with (with_reducible refine storeNewU rfl _ _ rfl rfl rfl ?_)
    generalize (w1.alloc (.cells #[.int .i64 1, .int .i64 0, .int .i64 0, .int .i64 0, .int .i64 0, .int .i64 0, .int .i64 0, .int .i64 0, .int .i64 0, .int .i64 0, .int .i64 0, .bool false, .slice none 0 0, .slice D0 ds.length d0] 36)) = w2 at q1 R1 C1 G1 B1 ⊢
    refine Calls.mono (H1.out _ g A c C1.out) ?_
    rintro e w3 ⟨rfl, hc2, hg2⟩
    have q2 := Lib.hid (K.kept hg2 q1.out (fun k hk => by cases hk; omega))
    have R2 := Lib.hid (K.kept hg2 R1.out (fun k hk => by cases hk; omega))
    have C2 := Lib.hid hc2
    have G2 := Lib.hid (grownBy_trans G1.out hg2)
    have B2 := Lib.hid (own_grown B1.out hg2 (fun k h1 h2 => by cases h2; have := (B1.out.lt _ h1).1; omega))
    clear hc2 hg2 q1 R1 C1 G1 B1
    go_wp2_with fail
    refine Calls.mono (H2.out _ g A c C2.out) ?_
    rintro e w4 ⟨rfl, hc2, hg2⟩
    have q3 := Lib.hid (K.kept hg2 q2.out (fun k hk => by cases hk; omega))
    have R3 := Lib.hid (K.kept hg2 R2.out (fun k hk => by cases hk; omega))
    have C3 := Lib.hid hc2
    have G3 := Lib.hid (grownBy_trans G2.out hg2)
    have B3 := Lib.hid (own_grown B2.out hg2 (fun k h1 h2 => by cases h2; have := (B2.out.lt _ h1).1; omega))
    clear hc2 hg2 q2 R2 C2 G2 B2
    have uu := K.cell q3.out 3 _ rfl
    have yy := frozen_of_row _ _ 3 _ _ q3.out
    have q4 : Hid ((w4.setCell ⟨w1.heap.size, 3, none⟩ (.int .i64 (x2 * 255))).heap[w1.heap.size]? = some (.cells #[.int .i64 1, .int .i64 0, .int .i64 0, .int .i64 (x2 * 255), .int .i64 0, .int .i64 0, .int .i64 0, .int .i64 0, .int .i64 0, .int .i64 0, .int .i64 0, .bool false, .slice none 0 0, .slice D0 ds.length d0] 36 (0, 0))) := Lib.hid (K.set q3.out 3 _)
    have R4 := Lib.hid (K.other R3.out w1.heap.size 3 (.int .i64 (x2 * 255)) (by omega))
    have C4 := Lib.hid (C3.out.grownBy (grownBy_set w4 w1.heap.size 3 (.int .i64 (x2 * 255))) (fun u hu => by cases hu; omega))
    have G4 := Lib.hid (grown_other G3.out (grownBy_set w4 w1.heap.size 3 (.int .i64 (x2 * 255))) (fun u hu => by cases hu; omega))
    have B4 := Lib.hid (own_grown B3.out (grownBy_set w4 w1.heap.size 3 (.int .i64 (x2 * 255))) (fun k h1 h2 => by cases h2; exact NB.out _ h1 rfl))
    go_wp2_with fail
    clear uu yy q3 R3 C3 G3 B3
    generalize (w4.setCell ⟨w1.heap.size, 3, none⟩ (.int .i64 (x2 * 255))) = w5 at q4 R4 C4 G4 B4 ⊢
    refine Calls.mono (H3.out _ g A c C4.out) ?_
    rintro e w6 ⟨rfl, hc2, hg2⟩
    have q5 := Lib.hid (K.kept hg2 q4.out (fun k hk => by cases hk; omega))
    have R5 := Lib.hid (K.kept hg2 R4.out (fun k hk => by cases hk; omega))
    have C5 := Lib.hid hc2
    have G5 := Lib.hid (grownBy_trans G4.out hg2)
    have B5 := Lib.hid (own_grown B4.out hg2 (fun k h1 h2 => by cases h2; have := (B4.out.lt _ h1).1; omega))
    clear hc2 hg2 q4 R4 C4 G4 B4
    have uu := K.cell q5.out 4 _ rfl
    have yy := frozen_of_row _ _ 4 _ _ q5.out
    have q6 : Hid ((w6.setCell ⟨w1.heap.size, 4, none⟩ (.int .i64 x3)).heap[w1.heap.size]? = some (.cells #[.int .i64 1, .int .i64 0, .int .i64 0, .int .i64 (x2 * 255), .int .i64 x3, .int .i64 0, .int .i64 0, .int .i64 0, .int .i64 0, .int .i64 0, .int .i64 0, .bool false, .slice none 0 0, .slice D0 ds.length d0] 36 (0, 0))) := Lib.hid (K.set q5.out 4 _)
    have R6 := Lib.hid (K.other R5.out w1.heap.size 4 (.int .i64 x3) (by omega))
    have C6 := Lib.hid (C5.out.grownBy (grownBy_set w6 w1.heap.size 4 (.int .i64 x3)) (fun u hu => by cases hu; omega))
    have G6 := Lib.hid (grown_other G5.out (grownBy_set w6 w1.heap.size 4 (.int .i64 x3)) (fun u hu => by cases hu; omega))
    have B6 := Lib.hid (own_grown B5.out (grownBy_set w6 w1.heap.size 4 (.int .i64 x3)) (fun k h1 h2 => by cases h2; exact NB.out _ h1 rfl))
    go_wp2_with fail
    clear uu yy q5 R5 C5 G5 B5
    generalize (w6.setCell ⟨w1.heap.size, 4, none⟩ (.int .i64 x3)) = w7 at q6 R6 C6 G6 B6 ⊢
    refine Calls.mono (H4.out _ g A c C6.out) ?_
    rintro e w8 ⟨rfl, hc2, hg2⟩
    have q7 := Lib.hid (K.kept hg2 q6.out (fun k hk => by cases hk; omega))
    have R7 := Lib.hid (K.kept hg2 R6.out (fun k hk => by cases hk; omega))
    have C7 := Lib.hid hc2
    have G7 := Lib.hid (grownBy_trans G6.out hg2)
    have B7 := Lib.hid (own_grown B6.out hg2 (fun k h1 h2 => by cases h2; have := (B6.out.lt _ h1).1; omega))
    clear hc2 hg2 q6 R6 C6 G6 B6
    have uu := K.cell q7.out 5 _ rfl
    have yy := frozen_of_row _ _ 5 _ _ q7.out
    have q8 : Hid ((w8.setCell ⟨w1.heap.size, 5, none⟩ (.int .i64 (x4 * 16))).heap[w1.heap.size]? = some (.cells #[.int .i64 1, .int .i64 0, .int .i64 0, .int .i64 (x2 * 255), .int .i64 x3, .int .i64 (x4 * 16), .int .i64 0, .int .i64 0, .int .i64 0, .int .i64 0, .int .i64 0, .bool false, .slice none 0 0, .slice D0 ds.length d0] 36 (0, 0))) := Lib.hid (K.set q7.out 5 _)
    have R8 := Lib.hid (K.other R7.out w1.heap.size 5 (.int .i64 (x4 * 16)) (by omega))
    have C8 := Lib.hid (C7.out.grownBy (grownBy_set w8 w1.heap.size 5 (.int .i64 (x4 * 16))) (fun u hu => by cases hu; omega))
    have G8 := Lib.hid (grown_other G7.out (grownBy_set w8 w1.heap.size 5 (.int .i64 (x4 * 16))) (fun u hu => by cases hu; omega))
    have B8 := Lib.hid (own_grown B7.out (grownBy_set w8 w1.heap.size 5 (.int .i64 (x4 * 16))) (fun k h1 h2 => by cases h2; exact NB.out _ h1 rfl))
    go_wp2_with fail
    clear uu yy q7 R7 C7 G7 B7
    generalize (w8.setCell ⟨w1.heap.size, 5, none⟩ (.int .i64 (x4 * 16))) = w9 at q8 R8 C8 G8 B8 ⊢
    refine Calls.mono (H5.out _ g A c C8.out) ?_
    rintro e w10 ⟨rfl, hc2, hg2⟩
    have q9 := Lib.hid (K.kept hg2 q8.out (fun k hk => by cases hk; omega))
    have R9 := Lib.hid (K.kept hg2 R8.out (fun k hk => by cases hk; omega))
    have C9 := Lib.hid hc2
    have G9 := Lib.hid (grownBy_trans G8.out hg2)
    have B9 := Lib.hid (own_grown B8.out hg2 (fun k h1 h2 => by cases h2; have := (B8.out.lt _ h1).1; omega))
    clear hc2 hg2 q8 R8 C8 G8 B8
    have uu := K.cell q9.out 6 _ rfl
    have yy := frozen_of_row _ _ 6 _ _ q9.out
    have q10 : Hid ((w10.setCell ⟨w1.heap.size, 6, none⟩ (.int .i64 x5)).heap[w1.heap.size]? = some (.cells #[.int .i64 1, .int .i64 0, .int .i64 0, .int .i64 (x2 * 255), .int .i64 x3, .int .i64 (x4 * 16), .int .i64 x5, .int .i64 0, .int .i64 0, .int .i64 0, .int .i64 0, .bool false, .slice none 0 0, .slice D0 ds.length d0] 36 (0, 0))) := Lib.hid (K.set q9.out 6 _)
    have R10 := Lib.hid (K.other R9.out w1.heap.size 6 (.int .i64 x5) (by omega))
    have C10 := Lib.hid (C9.out.grownBy (grownBy_set w10 w1.heap.size 6 (.int .i64 x5)) (fun u hu => by cases hu; omega))
    have G10 := Lib.hid (grown_other G9.out (grownBy_set w10 w1.heap.size 6 (.int .i64 x5)) (fun u hu => by cases hu; omega))
    have B10 := Lib.hid (own_grown B9.out (grownBy_set w10 w1.heap.size 6 (.int .i64 x5)) (fun k h1 h2 => by cases h2; exact NB.out _ h1 rfl))
    go_wp2_with fail
    clear uu yy q9 R9 C9 G9 B9
    generalize (w10.setCell ⟨w1.heap.size, 6, none⟩ (.int .i64 x5)) = w11 at q10 R10 C10 G10 B10 ⊢
    refine Calls.mono (H6.out _ g A c C10.out) ?_
    rintro e w12 ⟨rfl, hc2, hg2⟩
    have q11 := Lib.hid (K.kept hg2 q10.out (fun k hk => by cases hk; omega))
    have R11 := Lib.hid (K.kept hg2 R10.out (fun k hk => by cases hk; omega))
    have C11 := Lib.hid hc2
    have G11 := Lib.hid (grownBy_trans G10.out hg2)
    have B11 := Lib.hid (own_grown B10.out hg2 (fun k h1 h2 => by cases h2; have := (B10.out.lt _ h1).1; omega))
    clear hc2 hg2 q10 R10 C10 G10 B10
    have uu := K.cell q11.out 7 _ rfl
    have yy := frozen_of_row _ _ 7 _ _ q11.out
    have q12 : Hid ((w12.setCell ⟨w1.heap.size, 7, none⟩ (.int .i64 x6)).heap[w1.heap.size]? = some (.cells #[.int .i64 1, .int .i64 0, .int .i64 0, .int .i64 (x2 * 255), .int .i64 x3, .int .i64 (x4 * 16), .int .i64 x5, .int .i64 x6, .int .i64 0, .int .i64 0, .int .i64 0, .bool false, .slice none 0 0, .slice D0 ds.length d0] 36 (0, 0))) := Lib.hid (K.set q11.out 7 _)
    have R12 := Lib.hid (K.other R11.out w1.heap.size 7 (.int .i64 x6) (by omega))
    have C12 := Lib.hid (C11.out.grownBy (grownBy_set w12 w1.heap.size 7 (.int .i64 x6)) (fun u hu => by cases hu; omega))
    have G12 := Lib.hid (grown_other G11.out (grownBy_set w12 w1.heap.size 7 (.int .i64 x6)) (fun u hu => by cases hu; omega))
    have B12 := Lib.hid (own_grown B11.out (grownBy_set w12 w1.heap.size 7 (.int .i64 x6)) (fun k h1 h2 => by cases h2; exact NB.out _ h1 rfl))
    go_wp2_with fail
    clear uu yy q11 R11 C11 G11 B11
    generalize (w12.setCell ⟨w1.heap.size, 7, none⟩ (.int .i64 x6)) = w13 at q12 R12 C12 G12 B12 ⊢
    refine Calls.mono (HO.out _ g A c C12.out) ?_
    rintro e w14 ⟨rfl, hc2, hg2⟩
    have q13 := Lib.hid (K.kept hg2 q12.out (fun k hk => by cases hk; omega))
    have R13 := Lib.hid (K.kept hg2 R12.out (fun k hk => by cases hk; omega))
    have C13 := Lib.hid hc2
    have G13 := Lib.hid (grownBy_trans G12.out hg2)
    have B13 := Lib.hid (own_grown B12.out hg2 (fun k h1 h2 => by cases h2; have := (B12.out.lt _ h1).1; omega))
    clear hc2 hg2 q12 R12 C12 G12 B12
    go_wp2_with fail
    refine Calls.mono (H7.out _ g A c C13.out) ?_
    rintro e w15 ⟨rfl, hc2, hg2⟩
    have q14 := Lib.hid (K.kept hg2 q13.out (fun k hk => by cases hk; omega))
    have R14 := Lib.hid (K.kept hg2 R13.out (fun k hk => by cases hk; omega))
    have C14 := Lib.hid hc2
    have G14 := Lib.hid (grownBy_trans G13.out hg2)
    have B14 := Lib.hid (own_grown B13.out hg2 (fun k h1 h2 => by cases h2; have := (B13.out.lt _ h1).1; omega))
    clear hc2 hg2 q13 R13 C13 G13 B13
    go_wp2_with fail
    refine Calls.mono (H8.out _ g A c C14.out) ?_
    rintro e w16 ⟨rfl, hc2, hg2⟩
    have q15 := Lib.hid (K.kept hg2 q14.out (fun k hk => by cases hk; omega))
    have R15 := Lib.hid (K.kept hg2 R14.out (fun k hk => by cases hk; omega))
    have C15 := Lib.hid hc2
    have G15 := Lib.hid (grownBy_trans G14.out hg2)
    have B15 := Lib.hid (own_grown B14.out hg2 (fun k h1 h2 => by cases h2; have := (B14.out.lt _ h1).1; omega))
    clear hc2 hg2 q14 R14 C14 G14 B14
    have q16 := Lib.hid (K.old q15.out (.cells #[.int .i64 x7, .int .i64 (1024 + x8), .int .i64 53] 3))
    have R16 := Lib.hid (K.old R15.out (.cells #[.int .i64 x7, .int .i64 (1024 + x8), .int .i64 53] 3))
    have C16 := Lib.hid (C15.out.below (Joins.below_alloc1 w16 (.cells #[.int .i64 x7, .int .i64 (1024 + x8), .int .i64 53] 3)))
    have G16 := Lib.hid (only_new G15.out (.cells #[.int .i64 x7, .int .i64 (1024 + x8), .int .i64 53] 3))
    have B16 := Lib.hid (World.ownsRow.alloc B15.out (.cells #[.int .i64 x7, .int .i64 (1024 + x8), .int .i64 53] 3))
    clear q15 R15 C15 G15 B15
    have cf := K.row_cells w16 [x7, (1024 + x8), 53] _ rfl 3 y1 u8 HU8.out
    have cfa : (#[.int .i64 x7, .int .i64 (1024 + x8), .int .i64 53] : Array Value)[y1]? = some (.int .i64 u8) := by have := arr_U [x7, (1024 + x8), 53] y1 u8 HU8.out; simpa using this
    have uu := K.cell q16.out 1 _ rfl
    have yy := frozen_of_row _ _ 1 _ _ q16.out
    have q17 : Hid (((w16.alloc (.cells #[.int .i64 x7, .int .i64 (1024 + x8), .int .i64 53] 3)).setCell ⟨w1.heap.size, 1, none⟩ (.int .i64 u8)).heap[w1.heap.size]? = some (.cells #[.int .i64 1, .int .i64 u8, .int .i64 0, .int .i64 (x2 * 255), .int .i64 x3, .int .i64 (x4 * 16), .int .i64 x5, .int .i64 x6, .int .i64 0, .int .i64 0, .int .i64 0, .bool false, .slice none 0 0, .slice D0 ds.length d0] 36 (0, 0))) := Lib.hid (K.set q16.out 1 _)
    have R17 := Lib.hid (K.other R16.out w1.heap.size 1 (.int .i64 u8) (by omega))
    have C17 := Lib.hid (C16.out.grownBy (grownBy_set (w16.alloc (.cells #[.int .i64 x7, .int .i64 (1024 + x8), .int .i64 53] 3)) w1.heap.size 1 (.int .i64 u8)) (fun u hu => by cases hu; omega))
    have G17 := Lib.hid (grown_other G16.out (grownBy_set (w16.alloc (.cells #[.int .i64 x7, .int .i64 (1024 + x8), .int .i64 53] 3)) w1.heap.size 1 (.int .i64 u8)) (fun u hu => by cases hu; omega))
    have B17 := Lib.hid (own_grown B16.out (grownBy_set (w16.alloc (.cells #[.int .i64 x7, .int .i64 (1024 + x8), .int .i64 53] 3)) w1.heap.size 1 (.int .i64 u8)) (fun k h1 h2 => by cases h2; exact NB.out _ h1 rfl))
    go_upto_region 20 with fail
    clear uu yy cf cfa q16 R16 C16 G16 B16
    generalize ((w16.alloc (.cells #[.int .i64 x7, .int .i64 (1024 + x8), .int .i64 53] 3)).setCell ⟨w1.heap.size, 1, none⟩ (.int .i64 u8)) = w17 at q17 R17 C17 G17 B17 ⊢
    go_wp2_with fail
    refine Calls.mono (H9.out _ g A c C17.out) ?_
    rintro e w18 ⟨rfl, hc2, hg2⟩
    have q18 := Lib.hid (K.kept hg2 q17.out (fun k hk => by cases hk; omega))
    have R18 := Lib.hid (K.kept hg2 R17.out (fun k hk => by cases hk; omega))
    have C18 := Lib.hid hc2
    have G18 := Lib.hid (grownBy_trans G17.out hg2)
    have B18 := Lib.hid (own_grown B17.out hg2 (fun k h1 h2 => by cases h2; have := (B17.out.lt _ h1).1; omega))
    clear hc2 hg2 q17 R17 C17 G17 B17
    go_wp2_with fail
    refine Calls.mono (H10.out _ g A c C18.out) ?_
    rintro e w19 ⟨rfl, hc2, hg2⟩
    have q19 := Lib.hid (K.kept hg2 q18.out (fun k hk => by cases hk; omega))
    have R19 := Lib.hid (K.kept hg2 R18.out (fun k hk => by cases hk; omega))
    have C19 := Lib.hid hc2
    have G19 := Lib.hid (grownBy_trans G18.out hg2)
    have B19 := Lib.hid (own_grown B18.out hg2 (fun k h1 h2 => by cases h2; have := (B18.out.lt _ h1).1; omega))
    clear hc2 hg2 q18 R18 C18 G18 B18
    have gk := C19.out.lt
    have q20 := Lib.hid (K.old q19.out (.cells #[.int .i64 80, .int .i64 443, .int .i64 53, .int .i64 (8000 + x9), .int .i64 x10] 3))
    have R20 := Lib.hid (K.old R19.out (.cells #[.int .i64 80, .int .i64 443, .int .i64 53, .int .i64 (8000 + x9), .int .i64 x10] 3))
    have C20 := Lib.hid (C19.out.below (Joins.below_alloc1 w19 (.cells #[.int .i64 80, .int .i64 443, .int .i64 53, .int .i64 (8000 + x9), .int .i64 x10] 3)))
    have G20 := Lib.hid (only_new G19.out (.cells #[.int .i64 80, .int .i64 443, .int .i64 53, .int .i64 (8000 + x9), .int .i64 x10] 3))
    have B20 := Lib.hid (World.ownsRow.alloc B19.out (.cells #[.int .i64 80, .int .i64 443, .int .i64 53, .int .i64 (8000 + x9), .int .i64 x10] 3))
    go_wp2_with fail
    clear q19 R19 C19 G19 B19
    refine Calls.mono (H11.out _ g A c C20.out) ?_
    rintro e w20 ⟨rfl, hc2, hg2⟩
    have q21 := Lib.hid (K.kept hg2 q20.out (fun k hk => by cases hk; omega))
    have R21 := Lib.hid (K.kept hg2 R20.out (fun k hk => by cases hk; omega))
    have C21 := Lib.hid hc2
    have G21 := Lib.hid (grownBy_trans G20.out hg2)
    have B21 := Lib.hid (own_grown B20.out hg2 (fun k h1 h2 => by cases h2; have := (B20.out.lt _ h1).1; omega))
    have cf := hg2.cell (K.row_cells w19 [80, 443, 53, (8000 + x9), x10] _ rfl 3 y11 u11 HU11.out) (fun e => by have e2 : w19.heap.size = g := Option.some.inj e; omega)
    clear hc2 hg2 q20 R20 C20 G20 B20
    have uu := K.cell q21.out 2 _ rfl
    have yy := frozen_of_row _ _ 2 _ _ q21.out
    have hyd : (y11 : Int) < 5 := by omega
    have q22 : Hid ((w20.setCell ⟨w1.heap.size, 2, none⟩ (.int .i64 u11)).heap[w1.heap.size]? = some (.cells #[.int .i64 1, .int .i64 u8, .int .i64 u11, .int .i64 (x2 * 255), .int .i64 x3, .int .i64 (x4 * 16), .int .i64 x5, .int .i64 x6, .int .i64 0, .int .i64 0, .int .i64 0, .bool false, .slice none 0 0, .slice D0 ds.length d0] 36 (0, 0))) := Lib.hid (K.set q21.out 2 _)
    have R22 := Lib.hid (K.other R21.out w1.heap.size 2 (.int .i64 u11) (by omega))
    have C22 := Lib.hid (C21.out.grownBy (grownBy_set w20 w1.heap.size 2 (.int .i64 u11)) (fun u hu => by cases hu; omega))
    have G22 := Lib.hid (grown_other G21.out (grownBy_set w20 w1.heap.size 2 (.int .i64 u11)) (fun u hu => by cases hu; omega))
    have B22 := Lib.hid (own_grown B21.out (grownBy_set w20 w1.heap.size 2 (.int .i64 u11)) (fun k h1 h2 => by cases h2; exact NB.out _ h1 rfl))
    go_upto_region 21 with fail
    clear uu yy cf gk q21 R21 C21 G21 B21
    generalize (w20.setCell ⟨w1.heap.size, 2, none⟩ (.int .i64 u11)) = w21 at q22 R22 C22 G22 B22 ⊢
    go_wp2_with (first | (with_reducible refine loadU rfl _ rfl w1.heap.size rfl q22.out ?_) | (with_reducible refine storeU rfl _ _ rfl w.heap.size rfl rfl R22.out ?_))
    (try simp only [Exit.inBlock, Exit.then])
    refine bodyPost_ret (v := .agg #[.int .i64 1, .int .i64 u8, .int .i64 u11, .int .i64 (x2 * 255), .int .i64 x3, .int .i64 (x4 * 16), .int .i64 x5, .int .i64 x6, .int .i64 0, .int .i64 0, .int .i64 0, .bool false, .slice none 0 0, .slice D0 ds.length d0]) ?_ rfl ⟨none, 0, D0, d0, rfl, ?_, ?_, (fun _ h => by cases h), ?_, ?_⟩
    · exact resU Try.results95 _ _ w.heap.size rfl (setRow_heap _ _ _ _ _ _ R22.out)
    · exact ⟨rfl, .inl ⟨rfl, rfl⟩⟩
    · exact own_base (own_grown B22.out (K.setRow_grown _ _ _) (fun k h1 h2 => by cases h2; have := (B22.out.lt _ h1).1; omega)) (by omega)
    · exact C22.out.grownBy (K.setRow_grown _ _ _) (fun u hu => by cases hu; omega)
    · exact grown_other G22.out (K.setRow_grown _ _ _) (fun u hu => by cases hu; omega)
  | true =>
    obtain ⟨x7, s17, lo7, up7, hd7⟩ := pickE bs (t0 + 1 + 3 + 3 + 1 + 3 + 1 + 1) so 11 (by omega) (by omega) (by omega)
    have H7 := Lib.hid hd7
    clear hd7
    obtain ⟨y7, rfl⟩ : ∃ k : Nat, x7 = k := ⟨x7.toNat, by omega⟩
    obtain ⟨m, hm⟩ : ∃ m : Nat, 4 * (y7 : Int) = m := ⟨4 * y7, by omega⟩
    have hmw : IntKind.i64.wrap (4 * (y7 : Int)) = (m : Int) := by rw [hm, IntKind.wrap_i64]; omega
    have hm40 : m ≤ 40 := by omega
    obtain ⟨x8, s18, lo8, up8, hd8⟩ := wideE bs (t0 + 1 + 3 + 3 + 1 + 3 + 1 + 1 + 1) s17 65536 (by omega) (by omega) (by omega)
    have H8 := Lib.hid hd8
    clear hd8
    obtain ⟨x9, s19, lo9, up9, hd9⟩ := pickE bs (t0 + 1 + 3 + 3 + 1 + 3 + 1 + 1 + 1 + 3) s18 9 (by omega) (by omega) (by omega)
    have H9 := Lib.hid hd9
    clear hd9
    obtain ⟨u9, hu9⟩ : ∃ a, ([x8, 1024 + x9, 53] : List Int)[y1]? = some a := ⟨_, List.getElem?_eq_getElem (by simp; omega)⟩
    have HU9 := Lib.hid hu9
    clear hu9
    obtain ⟨x10, s20, lo10, up10, hd10⟩ := pickE bs (t0 + 1 + 3 + 3 + 1 + 3 + 1 + 1 + 1 + 3 + 1) s19 9 (by omega) (by omega) (by omega)
    have H10 := Lib.hid hd10
    clear hd10
    obtain ⟨x11, s21, lo11, up11, hd11⟩ := wideE bs (t0 + 1 + 3 + 3 + 1 + 3 + 1 + 1 + 1 + 3 + 1 + 1) s20 65536 (by omega) (by omega) (by omega)
    have H11 := Lib.hid hd11
    clear hd11
    obtain ⟨x12, s22, lo12, up12, hd12⟩ := pickE bs (t0 + 1 + 3 + 3 + 1 + 3 + 1 + 1 + 1 + 3 + 1 + 1 + 3) s21 5 (by omega) (by omega) (by omega)
    have H12 := Lib.hid hd12
    clear hd12
    obtain ⟨y12, rfl⟩ : ∃ k : Nat, x12 = k := ⟨x12.toNat, by omega⟩
    obtain ⟨u12, hu12⟩ : ∃ a, ([80, 443, 53, 8000 + x10, x11] : List Int)[y12]? = some a := ⟨_, List.getElem?_eq_getElem (by simp; omega)⟩
    have HU12 := Lib.hid hu12
    clear hu12
    refine ⟨⟨1, u9, u12, (x2 * 255), x3, (x4 * 16), x5, x6, 0, 0, 0, false⟩, (List.replicate m 0), ds, t0 + 1 + 3 + 3 + 1 + 3 + 1 + 1 + 1 + 3 + 1 + 1 + 3 + 1, s22, by simp; omega, by omega, by omega, fun w g A c hc0 => ?_⟩
    have hgl := hc0.lt
    have HC0 := Lib.hid (hc0.below (Joins.below_alloc1 w (.cells #[.int .i64 0, .int .i64 0, .int .i64 0, .int .i64 0, .int .i64 0, .int .i64 0, .int .i64 0, .int .i64 0, .int .i64 0, .int .i64 0, .int .i64 0, .bool false, .slice none 0 0, .slice none 0 0] 36)))
    have R0_ := Lib.hid (K.new w (.cells #[.int .i64 0, .int .i64 0, .int .i64 0, .int .i64 0, .int .i64 0, .int .i64 0, .int .i64 0, .int .i64 0, .int .i64 0, .int .i64 0, .int .i64 0, .bool false, .slice none 0 0, .slice none 0 0] 36))
    clear hc0
    have m1 : IntKind.i64.wrap (x2 * 255) = x2 * 255 := by rw [IntKind.wrap_i64]; omega
    have m2 : IntKind.i64.wrap (x4 * 16) = x4 * 16 := by rw [IntKind.wrap_i64]; omega
    have m3 : IntKind.i64.wrap (1024 + x9) = 1024 + x9 := by rw [IntKind.wrap_i64]; omega
    have m4 : IntKind.i64.wrap (8000 + x10) = 8000 + x10 := by rw [IntKind.wrap_i64]; omega
    have hy1 : (y1 : Int) < 3 := by omega
    go_enter Try.func95, Try.ntmps95
    go_wp2_with fail
    refine Calls.mono (HB.out _ g A c HC0.out) ?_
    rintro e w1 ⟨D0, d0, rfl, od, hc2, hg2⟩
    have hb : w.heap.size < w1.heap.size := by have := hg2.size; simp at this; omega
    have q1 := Lib.hid (K.new w1 (.cells #[.int .i64 1, .int .i64 0, .int .i64 0, .int .i64 0, .int .i64 0, .int .i64 0, .int .i64 0, .int .i64 0, .int .i64 0, .int .i64 0, .int .i64 0, .bool false, .slice none 0 0, .slice D0 ds.length d0] 36))
    have R1 := Lib.hid (K.old (K.kept hg2 R0_.out (fun k hk => by cases hk; omega)) (.cells #[.int .i64 1, .int .i64 0, .int .i64 0, .int .i64 0, .int .i64 0, .int .i64 0, .int .i64 0, .int .i64 0, .int .i64 0, .int .i64 0, .int .i64 0, .bool false, .slice none 0 0, .slice D0 ds.length d0] 36))
    have C1 := Lib.hid (hc2.below (Joins.below_alloc1 w1 (.cells #[.int .i64 1, .int .i64 0, .int .i64 0, .int .i64 0, .int .i64 0, .int .i64 0, .int .i64 0, .int .i64 0, .int .i64 0, .int .i64 0, .int .i64 0, .bool false, .slice none 0 0, .slice D0 ds.length d0] 36)))
    have G1 := Lib.hid (only_new (grownBy_trans (only_new (K.refl w (some g)) (.cells #[.int .i64 0, .int .i64 0, .int .i64 0, .int .i64 0, .int .i64 0, .int .i64 0, .int .i64 0, .int .i64 0, .int .i64 0, .int .i64 0, .int .i64 0, .bool false, .slice none 0 0, .slice none 0 0] 36)) hg2) (.cells #[.int .i64 1, .int .i64 0, .int .i64 0, .int .i64 0, .int .i64 0, .int .i64 0, .int .i64 0, .int .i64 0, .int .i64 0, .int .i64 0, .int .i64 0, .bool false, .slice none 0 0, .slice D0 ds.length d0] 36))
    have B1 := Lib.hid (World.ownsRow.alloc (own_base od (show w.heap.size + 1 ≤ _ by simp)) (.cells #[.int .i64 1, .int .i64 0, .int .i64 0, .int .i64 0, .int .i64 0, .int .i64 0, .int .i64 0, .int .i64 0, .int .i64 0, .int .i64 0, .int .i64 0, .bool false, .slice none 0 0, .slice D0 ds.length d0] 36))
    have NB := Lib.hid (fun k (hk : (Value.slice D0 ds.length d0).ownBlock = some k) => show k ≠ w1.heap.size by have := (od.lt k hk).2; omega)
    clear od hc2 hg2 HC0 R0_
    go_wp2_with (with_reducible refine storeNewU rfl _ _ rfl rfl rfl ?_)
    generalize (w1.alloc (.cells #[.int .i64 1, .int .i64 0, .int .i64 0, .int .i64 0, .int .i64 0, .int .i64 0, .int .i64 0, .int .i64 0, .int .i64 0, .int .i64 0, .int .i64 0, .bool false, .slice none 0 0, .slice D0 ds.length d0] 36)) = w2 at q1 R1 C1 G1 B1 ⊢
    refine Calls.mono (H1.out _ g A c C1.out) ?_
    rintro e w3 ⟨rfl, hc2, hg2⟩
    have q2 := Lib.hid (K.kept hg2 q1.out (fun k hk => by cases hk; omega))
    have R2 := Lib.hid (K.kept hg2 R1.out (fun k hk => by cases hk; omega))
    have C2 := Lib.hid hc2
    have G2 := Lib.hid (grownBy_trans G1.out hg2)
    have B2 := Lib.hid (own_grown B1.out hg2 (fun k h1 h2 => by cases h2; have := (B1.out.lt _ h1).1; omega))
    clear hc2 hg2 q1 R1 C1 G1 B1
    go_wp2_with fail
    refine Calls.mono (H2.out _ g A c C2.out) ?_
    rintro e w4 ⟨rfl, hc2, hg2⟩
    have q3 := Lib.hid (K.kept hg2 q2.out (fun k hk => by cases hk; omega))
    have R3 := Lib.hid (K.kept hg2 R2.out (fun k hk => by cases hk; omega))
    have C3 := Lib.hid hc2
    have G3 := Lib.hid (grownBy_trans G2.out hg2)
    have B3 := Lib.hid (own_grown B2.out hg2 (fun k h1 h2 => by cases h2; have := (B2.out.lt _ h1).1; omega))
    clear hc2 hg2 q2 R2 C2 G2 B2
    have uu := K.cell q3.out 3 _ rfl
    have yy := frozen_of_row _ _ 3 _ _ q3.out
    have q4 : Hid ((w4.setCell ⟨w1.heap.size, 3, none⟩ (.int .i64 (x2 * 255))).heap[w1.heap.size]? = some (.cells #[.int .i64 1, .int .i64 0, .int .i64 0, .int .i64 (x2 * 255), .int .i64 0, .int .i64 0, .int .i64 0, .int .i64 0, .int .i64 0, .int .i64 0, .int .i64 0, .bool false, .slice none 0 0, .slice D0 ds.length d0] 36 (0, 0))) := Lib.hid (K.set q3.out 3 _)
    have R4 := Lib.hid (K.other R3.out w1.heap.size 3 (.int .i64 (x2 * 255)) (by omega))
    have C4 := Lib.hid (C3.out.grownBy (grownBy_set w4 w1.heap.size 3 (.int .i64 (x2 * 255))) (fun u hu => by cases hu; omega))
    have G4 := Lib.hid (grown_other G3.out (grownBy_set w4 w1.heap.size 3 (.int .i64 (x2 * 255))) (fun u hu => by cases hu; omega))
    have B4 := Lib.hid (own_grown B3.out (grownBy_set w4 w1.heap.size 3 (.int .i64 (x2 * 255))) (fun k h1 h2 => by cases h2; exact NB.out _ h1 rfl))
    go_wp2_with fail
    clear uu yy q3 R3 C3 G3 B3
    generalize (w4.setCell ⟨w1.heap.size, 3, none⟩ (.int .i64 (x2 * 255))) = w5 at q4 R4 C4 G4 B4 ⊢
    refine Calls.mono (H3.out _ g A c C4.out) ?_
    rintro e w6 ⟨rfl, hc2, hg2⟩
    have q5 := Lib.hid (K.kept hg2 q4.out (fun k hk => by cases hk; omega))
    have R5 := Lib.hid (K.kept hg2 R4.out (fun k hk => by cases hk; omega))
    have C5 := Lib.hid hc2
    have G5 := Lib.hid (grownBy_trans G4.out hg2)
    have B5 := Lib.hid (own_grown B4.out hg2 (fun k h1 h2 => by cases h2; have := (B4.out.lt _ h1).1; omega))
    clear hc2 hg2 q4 R4 C4 G4 B4
    have uu := K.cell q5.out 4 _ rfl
    have yy := frozen_of_row _ _ 4 _ _ q5.out
    have q6 : Hid ((w6.setCell ⟨w1.heap.size, 4, none⟩ (.int .i64 x3)).heap[w1.heap.size]? = some (.cells #[.int .i64 1, .int .i64 0, .int .i64 0, .int .i64 (x2 * 255), .int .i64 x3, .int .i64 0, .int .i64 0, .int .i64 0, .int .i64 0, .int .i64 0, .int .i64 0, .bool false, .slice none 0 0, .slice D0 ds.length d0] 36 (0, 0))) := Lib.hid (K.set q5.out 4 _)
    have R6 := Lib.hid (K.other R5.out w1.heap.size 4 (.int .i64 x3) (by omega))
    have C6 := Lib.hid (C5.out.grownBy (grownBy_set w6 w1.heap.size 4 (.int .i64 x3)) (fun u hu => by cases hu; omega))
    have G6 := Lib.hid (grown_other G5.out (grownBy_set w6 w1.heap.size 4 (.int .i64 x3)) (fun u hu => by cases hu; omega))
    have B6 := Lib.hid (own_grown B5.out (grownBy_set w6 w1.heap.size 4 (.int .i64 x3)) (fun k h1 h2 => by cases h2; exact NB.out _ h1 rfl))
    go_wp2_with fail
    clear uu yy q5 R5 C5 G5 B5
    generalize (w6.setCell ⟨w1.heap.size, 4, none⟩ (.int .i64 x3)) = w7 at q6 R6 C6 G6 B6 ⊢
    refine Calls.mono (H4.out _ g A c C6.out) ?_
    rintro e w8 ⟨rfl, hc2, hg2⟩
    have q7 := Lib.hid (K.kept hg2 q6.out (fun k hk => by cases hk; omega))
    have R7 := Lib.hid (K.kept hg2 R6.out (fun k hk => by cases hk; omega))
    have C7 := Lib.hid hc2
    have G7 := Lib.hid (grownBy_trans G6.out hg2)
    have B7 := Lib.hid (own_grown B6.out hg2 (fun k h1 h2 => by cases h2; have := (B6.out.lt _ h1).1; omega))
    clear hc2 hg2 q6 R6 C6 G6 B6
    have uu := K.cell q7.out 5 _ rfl
    have yy := frozen_of_row _ _ 5 _ _ q7.out
    have q8 : Hid ((w8.setCell ⟨w1.heap.size, 5, none⟩ (.int .i64 (x4 * 16))).heap[w1.heap.size]? = some (.cells #[.int .i64 1, .int .i64 0, .int .i64 0, .int .i64 (x2 * 255), .int .i64 x3, .int .i64 (x4 * 16), .int .i64 0, .int .i64 0, .int .i64 0, .int .i64 0, .int .i64 0, .bool false, .slice none 0 0, .slice D0 ds.length d0] 36 (0, 0))) := Lib.hid (K.set q7.out 5 _)
    have R8 := Lib.hid (K.other R7.out w1.heap.size 5 (.int .i64 (x4 * 16)) (by omega))
    have C8 := Lib.hid (C7.out.grownBy (grownBy_set w8 w1.heap.size 5 (.int .i64 (x4 * 16))) (fun u hu => by cases hu; omega))
    have G8 := Lib.hid (grown_other G7.out (grownBy_set w8 w1.heap.size 5 (.int .i64 (x4 * 16))) (fun u hu => by cases hu; omega))
    have B8 := Lib.hid (own_grown B7.out (grownBy_set w8 w1.heap.size 5 (.int .i64 (x4 * 16))) (fun k h1 h2 => by cases h2; exact NB.out _ h1 rfl))
    go_wp2_with fail
    clear uu yy q7 R7 C7 G7 B7
    generalize (w8.setCell ⟨w1.heap.size, 5, none⟩ (.int .i64 (x4 * 16))) = w9 at q8 R8 C8 G8 B8 ⊢
    refine Calls.mono (H5.out _ g A c C8.out) ?_
    rintro e w10 ⟨rfl, hc2, hg2⟩
    have q9 := Lib.hid (K.kept hg2 q8.out (fun k hk => by cases hk; omega))
    have R9 := Lib.hid (K.kept hg2 R8.out (fun k hk => by cases hk; omega))
    have C9 := Lib.hid hc2
    have G9 := Lib.hid (grownBy_trans G8.out hg2)
    have B9 := Lib.hid (own_grown B8.out hg2 (fun k h1 h2 => by cases h2; have := (B8.out.lt _ h1).1; omega))
    clear hc2 hg2 q8 R8 C8 G8 B8
    have uu := K.cell q9.out 6 _ rfl
    have yy := frozen_of_row _ _ 6 _ _ q9.out
    have q10 : Hid ((w10.setCell ⟨w1.heap.size, 6, none⟩ (.int .i64 x5)).heap[w1.heap.size]? = some (.cells #[.int .i64 1, .int .i64 0, .int .i64 0, .int .i64 (x2 * 255), .int .i64 x3, .int .i64 (x4 * 16), .int .i64 x5, .int .i64 0, .int .i64 0, .int .i64 0, .int .i64 0, .bool false, .slice none 0 0, .slice D0 ds.length d0] 36 (0, 0))) := Lib.hid (K.set q9.out 6 _)
    have R10 := Lib.hid (K.other R9.out w1.heap.size 6 (.int .i64 x5) (by omega))
    have C10 := Lib.hid (C9.out.grownBy (grownBy_set w10 w1.heap.size 6 (.int .i64 x5)) (fun u hu => by cases hu; omega))
    have G10 := Lib.hid (grown_other G9.out (grownBy_set w10 w1.heap.size 6 (.int .i64 x5)) (fun u hu => by cases hu; omega))
    have B10 := Lib.hid (own_grown B9.out (grownBy_set w10 w1.heap.size 6 (.int .i64 x5)) (fun k h1 h2 => by cases h2; exact NB.out _ h1 rfl))
    go_wp2_with fail
    clear uu yy q9 R9 C9 G9 B9
    generalize (w10.setCell ⟨w1.heap.size, 6, none⟩ (.int .i64 x5)) = w11 at q10 R10 C10 G10 B10 ⊢
    refine Calls.mono (H6.out _ g A c C10.out) ?_
    rintro e w12 ⟨rfl, hc2, hg2⟩
    have q11 := Lib.hid (K.kept hg2 q10.out (fun k hk => by cases hk; omega))
    have R11 := Lib.hid (K.kept hg2 R10.out (fun k hk => by cases hk; omega))
    have C11 := Lib.hid hc2
    have G11 := Lib.hid (grownBy_trans G10.out hg2)
    have B11 := Lib.hid (own_grown B10.out hg2 (fun k h1 h2 => by cases h2; have := (B10.out.lt _ h1).1; omega))
    clear hc2 hg2 q10 R10 C10 G10 B10
    have uu := K.cell q11.out 7 _ rfl
    have yy := frozen_of_row _ _ 7 _ _ q11.out
    have q12 : Hid ((w12.setCell ⟨w1.heap.size, 7, none⟩ (.int .i64 x6)).heap[w1.heap.size]? = some (.cells #[.int .i64 1, .int .i64 0, .int .i64 0, .int .i64 (x2 * 255), .int .i64 x3, .int .i64 (x4 * 16), .int .i64 x5, .int .i64 x6, .int .i64 0, .int .i64 0, .int .i64 0, .bool false, .slice none 0 0, .slice D0 ds.length d0] 36 (0, 0))) := Lib.hid (K.set q11.out 7 _)
    have R12 := Lib.hid (K.other R11.out w1.heap.size 7 (.int .i64 x6) (by omega))
    have C12 := Lib.hid (C11.out.grownBy (grownBy_set w12 w1.heap.size 7 (.int .i64 x6)) (fun u hu => by cases hu; omega))
    have G12 := Lib.hid (grown_other G11.out (grownBy_set w12 w1.heap.size 7 (.int .i64 x6)) (fun u hu => by cases hu; omega))
    have B12 := Lib.hid (own_grown B11.out (grownBy_set w12 w1.heap.size 7 (.int .i64 x6)) (fun k h1 h2 => by cases h2; exact NB.out _ h1 rfl))
    go_wp2_with fail
    clear uu yy q11 R11 C11 G11 B11
    generalize (w12.setCell ⟨w1.heap.size, 7, none⟩ (.int .i64 x6)) = w13 at q12 R12 C12 G12 B12 ⊢
    refine Calls.mono (HO.out _ g A c C12.out) ?_
    rintro e w14 ⟨rfl, hc2, hg2⟩
    have q13 := Lib.hid (K.kept hg2 q12.out (fun k hk => by cases hk; omega))
    have R13 := Lib.hid (K.kept hg2 R12.out (fun k hk => by cases hk; omega))
    have C13 := Lib.hid hc2
    have G13 := Lib.hid (grownBy_trans G12.out hg2)
    have B13 := Lib.hid (own_grown B12.out hg2 (fun k h1 h2 => by cases h2; have := (B12.out.lt _ h1).1; omega))
    clear hc2 hg2 q12 R12 C12 G12 B12
    go_wp2_with fail
    refine Calls.mono (H7.out _ g A c C13.out) ?_
    rintro e w15 ⟨rfl, hc2, hg2⟩
    have q14 := Lib.hid (K.kept hg2 q13.out (fun k hk => by cases hk; omega))
    have R14 := Lib.hid (K.kept hg2 R13.out (fun k hk => by cases hk; omega))
    have C14 := Lib.hid hc2
    have G14 := Lib.hid (grownBy_trans G13.out hg2)
    have B14 := Lib.hid (own_grown B13.out hg2 (fun k h1 h2 => by cases h2; have := (B13.out.lt _ h1).1; omega))
    clear hc2 hg2 q13 R13 C13 G13 B13
    have hlq := K.lt q14.out
    obtain ⟨i0, hi0, hz0, hz1, hz2⟩ := info_parts info_u8
    go_upto_region 18 with (at_make; refine wpList_make_full _ rfl _ _ 34 rfl (w1.heap.size + 1) 5 i0 (.int .u8 0) 1 Try.underlying34 hi0 hz0 hz1 _ _ _ _ m rfl rfl rfl rfl (by rw [hz2]; omega) (by unfold maxLen; omega) (by omega) ?_; intro w16 hown hgm; have HOM := Lib.hid hown; have HGM := Lib.hid hgm; clear hown hgm; have uu := K.cell (K.kept HGM.out q14.out (fun k hk => by cases hk)) 12 _ rfl; have yy := frozen_of_row _ _ 12 _ _ (K.kept HGM.out q14.out (fun k hk => by cases hk)))
    have q15 := Lib.hid (K.kept HGM.out q14.out (fun k hk => by cases hk))
    have R15 := Lib.hid (K.kept HGM.out R14.out (fun k hk => by cases hk))
    have C15 := Lib.hid (C14.out.grownBy HGM.out (fun k hk => by cases hk))
    have G15 := Lib.hid (grown_other G14.out HGM.out (fun k hk => by cases hk))
    have B15 := Lib.hid (own_grown B14.out HGM.out (fun k hk e => by cases e))
    have O15 := Lib.hid (made_zeroF m ▸ HOM.out)
    have NO := Lib.hid (show ∀ k, (Value.slice (some ⟨w15.heap.size, 0, none⟩) m m).ownBlock = some k → k ≠ w1.heap.size from fun k hk => by have := (HOM.out.lt k hk).1; omega)
    have APO := Lib.hid (show ∀ k, (Value.slice (some ⟨w15.heap.size, 0, none⟩) m m).ownBlock = some k → w15.heap.size ≤ k from fun k hk => by simp [Value.ownBlock] at hk; omega)
    have LB := Lib.hid (fun k hk => (B14.out.lt k hk).2)
    clear HOM HGM uu yy q14 R14 C14 G14 B14
    have q16 : Hid ((w16.setCell ⟨w1.heap.size, 12, none⟩ (.slice (some ⟨w15.heap.size, 0, none⟩) m m)).heap[w1.heap.size]? = some (.cells #[.int .i64 1, .int .i64 0, .int .i64 0, .int .i64 (x2 * 255), .int .i64 x3, .int .i64 (x4 * 16), .int .i64 x5, .int .i64 x6, .int .i64 0, .int .i64 0, .int .i64 0, .bool false, .slice (some ⟨w15.heap.size, 0, none⟩) m m, .slice D0 ds.length d0] 36 (0, 0))) := Lib.hid (K.set q15.out 12 _)
    have R16 := Lib.hid (K.other R15.out w1.heap.size 12 (.slice (some ⟨w15.heap.size, 0, none⟩) m m) (by omega))
    have C16 := Lib.hid (C15.out.grownBy (grownBy_set w16 w1.heap.size 12 (.slice (some ⟨w15.heap.size, 0, none⟩) m m)) (fun u hu => by cases hu; omega))
    have G16 := Lib.hid (grown_other G15.out (grownBy_set w16 w1.heap.size 12 (.slice (some ⟨w15.heap.size, 0, none⟩) m m)) (fun u hu => by cases hu; omega))
    have B16 := Lib.hid (own_grown B15.out (grownBy_set w16 w1.heap.size 12 (.slice (some ⟨w15.heap.size, 0, none⟩) m m)) (fun k h1 h2 => by cases h2; exact NB.out _ h1 rfl))
    have O16 := Lib.hid (own_grown O15.out (grownBy_set w16 w1.heap.size 12 (.slice (some ⟨w15.heap.size, 0, none⟩) m m)) (fun k h1 h2 => by cases h2; exact NO.out _ h1 rfl))
    clear q15 R15 C15 G15 B15 O15
    generalize (w16.setCell ⟨w1.heap.size, 12, none⟩ (.slice (some ⟨w15.heap.size, 0, none⟩) m m)) = w17 at q16 R16 C16 G16 B16 O16 ⊢
    go_wp2_with fail
    refine Calls.mono (H8.out _ g A c C16.out) ?_
    rintro e w18 ⟨rfl, hc2, hg2⟩
    have q17 := Lib.hid (K.kept hg2 q16.out (fun k hk => by cases hk; omega))
    have R17 := Lib.hid (K.kept hg2 R16.out (fun k hk => by cases hk; omega))
    have C17 := Lib.hid hc2
    have G17 := Lib.hid (grownBy_trans G16.out hg2)
    have B17 := Lib.hid (own_grown B16.out hg2 (fun k h1 h2 => by cases h2; have := (B16.out.lt _ h1).1; omega))
    have O17 := Lib.hid (own_grown O16.out hg2 (fun k h1 h2 => by cases h2; have := (O16.out.lt _ h1).1; omega))
    clear hc2 hg2 q16 R16 C16 G16 B16 O16
    go_wp2_with fail
    refine Calls.mono (H9.out _ g A c C17.out) ?_
    rintro e w19 ⟨rfl, hc2, hg2⟩
    have q18 := Lib.hid (K.kept hg2 q17.out (fun k hk => by cases hk; omega))
    have R18 := Lib.hid (K.kept hg2 R17.out (fun k hk => by cases hk; omega))
    have C18 := Lib.hid hc2
    have G18 := Lib.hid (grownBy_trans G17.out hg2)
    have B18 := Lib.hid (own_grown B17.out hg2 (fun k h1 h2 => by cases h2; have := (B17.out.lt _ h1).1; omega))
    have O18 := Lib.hid (own_grown O17.out hg2 (fun k h1 h2 => by cases h2; have := (O17.out.lt _ h1).1; omega))
    clear hc2 hg2 q17 R17 C17 G17 B17 O17
    have q19 := Lib.hid (K.old q18.out (.cells #[.int .i64 x8, .int .i64 (1024 + x9), .int .i64 53] 3))
    have R19 := Lib.hid (K.old R18.out (.cells #[.int .i64 x8, .int .i64 (1024 + x9), .int .i64 53] 3))
    have C19 := Lib.hid (C18.out.below (Joins.below_alloc1 w19 (.cells #[.int .i64 x8, .int .i64 (1024 + x9), .int .i64 53] 3)))
    have G19 := Lib.hid (only_new G18.out (.cells #[.int .i64 x8, .int .i64 (1024 + x9), .int .i64 53] 3))
    have B19 := Lib.hid (World.ownsRow.alloc B18.out (.cells #[.int .i64 x8, .int .i64 (1024 + x9), .int .i64 53] 3))
    have O19 := Lib.hid (World.ownsRow.alloc O18.out (.cells #[.int .i64 x8, .int .i64 (1024 + x9), .int .i64 53] 3))
    clear q18 R18 C18 G18 B18 O18
    have cf := K.row_cells w19 [x8, (1024 + x9), 53] _ rfl 3 y1 u9 HU9.out
    have cfa : (#[.int .i64 x8, .int .i64 (1024 + x9), .int .i64 53] : Array Value)[y1]? = some (.int .i64 u9) := by have := arr_U [x8, (1024 + x9), 53] y1 u9 HU9.out; simpa using this
    have uu := K.cell q19.out 1 _ rfl
    have yy := frozen_of_row _ _ 1 _ _ q19.out
    have q20 : Hid (((w19.alloc (.cells #[.int .i64 x8, .int .i64 (1024 + x9), .int .i64 53] 3)).setCell ⟨w1.heap.size, 1, none⟩ (.int .i64 u9)).heap[w1.heap.size]? = some (.cells #[.int .i64 1, .int .i64 u9, .int .i64 0, .int .i64 (x2 * 255), .int .i64 x3, .int .i64 (x4 * 16), .int .i64 x5, .int .i64 x6, .int .i64 0, .int .i64 0, .int .i64 0, .bool false, .slice (some ⟨w15.heap.size, 0, none⟩) m m, .slice D0 ds.length d0] 36 (0, 0))) := Lib.hid (K.set q19.out 1 _)
    have R20 := Lib.hid (K.other R19.out w1.heap.size 1 (.int .i64 u9) (by omega))
    have C20 := Lib.hid (C19.out.grownBy (grownBy_set (w19.alloc (.cells #[.int .i64 x8, .int .i64 (1024 + x9), .int .i64 53] 3)) w1.heap.size 1 (.int .i64 u9)) (fun u hu => by cases hu; omega))
    have G20 := Lib.hid (grown_other G19.out (grownBy_set (w19.alloc (.cells #[.int .i64 x8, .int .i64 (1024 + x9), .int .i64 53] 3)) w1.heap.size 1 (.int .i64 u9)) (fun u hu => by cases hu; omega))
    have B20 := Lib.hid (own_grown B19.out (grownBy_set (w19.alloc (.cells #[.int .i64 x8, .int .i64 (1024 + x9), .int .i64 53] 3)) w1.heap.size 1 (.int .i64 u9)) (fun k h1 h2 => by cases h2; exact NB.out _ h1 rfl))
    have O20 := Lib.hid (own_grown O19.out (grownBy_set (w19.alloc (.cells #[.int .i64 x8, .int .i64 (1024 + x9), .int .i64 53] 3)) w1.heap.size 1 (.int .i64 u9)) (fun k h1 h2 => by cases h2; exact NO.out _ h1 rfl))
    go_upto_region 20 with fail
    clear uu yy cf cfa q19 R19 C19 G19 B19 O19
    generalize ((w19.alloc (.cells #[.int .i64 x8, .int .i64 (1024 + x9), .int .i64 53] 3)).setCell ⟨w1.heap.size, 1, none⟩ (.int .i64 u9)) = w20 at q20 R20 C20 G20 B20 O20 ⊢
    go_wp2_with fail
    refine Calls.mono (H10.out _ g A c C20.out) ?_
    rintro e w21 ⟨rfl, hc2, hg2⟩
    have q21 := Lib.hid (K.kept hg2 q20.out (fun k hk => by cases hk; omega))
    have R21 := Lib.hid (K.kept hg2 R20.out (fun k hk => by cases hk; omega))
    have C21 := Lib.hid hc2
    have G21 := Lib.hid (grownBy_trans G20.out hg2)
    have B21 := Lib.hid (own_grown B20.out hg2 (fun k h1 h2 => by cases h2; have := (B20.out.lt _ h1).1; omega))
    have O21 := Lib.hid (own_grown O20.out hg2 (fun k h1 h2 => by cases h2; have := (O20.out.lt _ h1).1; omega))
    clear hc2 hg2 q20 R20 C20 G20 B20 O20
    go_wp2_with fail
    refine Calls.mono (H11.out _ g A c C21.out) ?_
    rintro e w22 ⟨rfl, hc2, hg2⟩
    have q22 := Lib.hid (K.kept hg2 q21.out (fun k hk => by cases hk; omega))
    have R22 := Lib.hid (K.kept hg2 R21.out (fun k hk => by cases hk; omega))
    have C22 := Lib.hid hc2
    have G22 := Lib.hid (grownBy_trans G21.out hg2)
    have B22 := Lib.hid (own_grown B21.out hg2 (fun k h1 h2 => by cases h2; have := (B21.out.lt _ h1).1; omega))
    have O22 := Lib.hid (own_grown O21.out hg2 (fun k h1 h2 => by cases h2; have := (O21.out.lt _ h1).1; omega))
    clear hc2 hg2 q21 R21 C21 G21 B21 O21
    have gk := C22.out.lt
    have q23 := Lib.hid (K.old q22.out (.cells #[.int .i64 80, .int .i64 443, .int .i64 53, .int .i64 (8000 + x10), .int .i64 x11] 3))
    have R23 := Lib.hid (K.old R22.out (.cells #[.int .i64 80, .int .i64 443, .int .i64 53, .int .i64 (8000 + x10), .int .i64 x11] 3))
    have C23 := Lib.hid (C22.out.below (Joins.below_alloc1 w22 (.cells #[.int .i64 80, .int .i64 443, .int .i64 53, .int .i64 (8000 + x10), .int .i64 x11] 3)))
    have G23 := Lib.hid (only_new G22.out (.cells #[.int .i64 80, .int .i64 443, .int .i64 53, .int .i64 (8000 + x10), .int .i64 x11] 3))
    have B23 := Lib.hid (World.ownsRow.alloc B22.out (.cells #[.int .i64 80, .int .i64 443, .int .i64 53, .int .i64 (8000 + x10), .int .i64 x11] 3))
    have O23 := Lib.hid (World.ownsRow.alloc O22.out (.cells #[.int .i64 80, .int .i64 443, .int .i64 53, .int .i64 (8000 + x10), .int .i64 x11] 3))
    go_wp2_with fail
    clear q22 R22 C22 G22 B22 O22
    refine Calls.mono (H12.out _ g A c C23.out) ?_
    rintro e w23 ⟨rfl, hc2, hg2⟩
    have q24 := Lib.hid (K.kept hg2 q23.out (fun k hk => by cases hk; omega))
    have R24 := Lib.hid (K.kept hg2 R23.out (fun k hk => by cases hk; omega))
    have C24 := Lib.hid hc2
    have G24 := Lib.hid (grownBy_trans G23.out hg2)
    have B24 := Lib.hid (own_grown B23.out hg2 (fun k h1 h2 => by cases h2; have := (B23.out.lt _ h1).1; omega))
    have O24 := Lib.hid (own_grown O23.out hg2 (fun k h1 h2 => by cases h2; have := (O23.out.lt _ h1).1; omega))
    have cf := hg2.cell (K.row_cells w22 [80, 443, 53, (8000 + x10), x11] _ rfl 3 y12 u12 HU12.out) (fun e => by have e2 : w22.heap.size = g := Option.some.inj e; omega)
    clear hc2 hg2 q23 R23 C23 G23 B23 O23
    have uu := K.cell q24.out 2 _ rfl
    have yy := frozen_of_row _ _ 2 _ _ q24.out
    have hyd : (y12 : Int) < 5 := by omega
    have q25 : Hid ((w23.setCell ⟨w1.heap.size, 2, none⟩ (.int .i64 u12)).heap[w1.heap.size]? = some (.cells #[.int .i64 1, .int .i64 u9, .int .i64 u12, .int .i64 (x2 * 255), .int .i64 x3, .int .i64 (x4 * 16), .int .i64 x5, .int .i64 x6, .int .i64 0, .int .i64 0, .int .i64 0, .bool false, .slice (some ⟨w15.heap.size, 0, none⟩) m m, .slice D0 ds.length d0] 36 (0, 0))) := Lib.hid (K.set q24.out 2 _)
    have R25 := Lib.hid (K.other R24.out w1.heap.size 2 (.int .i64 u12) (by omega))
    have C25 := Lib.hid (C24.out.grownBy (grownBy_set w23 w1.heap.size 2 (.int .i64 u12)) (fun u hu => by cases hu; omega))
    have G25 := Lib.hid (grown_other G24.out (grownBy_set w23 w1.heap.size 2 (.int .i64 u12)) (fun u hu => by cases hu; omega))
    have B25 := Lib.hid (own_grown B24.out (grownBy_set w23 w1.heap.size 2 (.int .i64 u12)) (fun k h1 h2 => by cases h2; exact NB.out _ h1 rfl))
    have O25 := Lib.hid (own_grown O24.out (grownBy_set w23 w1.heap.size 2 (.int .i64 u12)) (fun k h1 h2 => by cases h2; exact NO.out _ h1 rfl))
    go_upto_region 21 with fail
    clear uu yy cf gk q24 R24 C24 G24 B24 O24
    generalize (w23.setCell ⟨w1.heap.size, 2, none⟩ (.int .i64 u12)) = w24 at q25 R25 C25 G25 B25 O25 ⊢
    go_wp2_with (first | (with_reducible refine loadU rfl _ rfl w1.heap.size rfl q25.out ?_) | (with_reducible refine storeU rfl _ _ rfl w.heap.size rfl rfl R25.out ?_))
    (try simp only [Exit.inBlock, Exit.then])
    refine bodyPost_ret (v := .agg #[.int .i64 1, .int .i64 u9, .int .i64 u12, .int .i64 (x2 * 255), .int .i64 x3, .int .i64 (x4 * 16), .int .i64 x5, .int .i64 x6, .int .i64 0, .int .i64 0, .int .i64 0, .bool false, .slice (some ⟨w15.heap.size, 0, none⟩) m m, .slice D0 ds.length d0]) ?_ rfl ⟨(some ⟨w15.heap.size, 0, none⟩), m, D0, d0, by rw [List.length_replicate], ?_, ?_, (fun k h1 h2 => by rw [List.length_replicate] at h1; have := APO.out k h1; have := LB.out k h2; omega), ?_, ?_⟩
    · exact resU Try.results95 _ _ w.heap.size rfl (setRow_heap _ _ _ _ _ _ R25.out)
    · exact by have this := own_base (base' := w.heap.size) (own_grown O25.out (K.setRow_grown w24 w.heap.size #[.int .i64 1, .int .i64 u9, .int .i64 u12, .int .i64 (x2 * 255), .int .i64 x3, .int .i64 (x4 * 16), .int .i64 x5, .int .i64 x6, .int .i64 0, .int .i64 0, .int .i64 0, .bool false, .slice (some ⟨w15.heap.size, 0, none⟩) m m, .slice D0 ds.length d0]) (fun k h1 h2 => by cases h2; have := (O25.out.lt _ h1).1; omega)) (by omega); rw [List.length_replicate]; exact this
    · exact own_base (own_grown B25.out (K.setRow_grown _ _ _) (fun k h1 h2 => by cases h2; have := (B25.out.lt _ h1).1; omega)) (by omega)
    · exact C25.out.grownBy (K.setRow_grown _ _ _) (fun u hu => by cases hu; omega)
    · exact grown_other G25.out (K.setRow_grown _ _ _) (fun u hu => by cases hu; omega)
end Go.Proofs.Ythogonpjkngpjaa
