/-
  The model's draw of an upper layer, number by number.
-/
import Derived.Test.YthogonpjkngpjaaRc02
import Derived.Test.YthogonpjkngpjaaRc05
import Derived.Test.YthogonpjkngpjaaRc03
import Derived.Test.YthogonpjkngpjaaRc04
import Derived.Deep.Cut
namespace Go.Proofs.Ythogonpjkngpjaa
set_option maxRecDepth 100000
open Go.RowKit
set_option maxHeartbeats 8000000 in
theorem upE_2_4 (bs : List UInt8) (t s : Nat) (ht : t ≤ 700000000000) (ds : List UInt8) (t0 s0 : Nat) (hds : ds.length ≤ 40) (ht0 : t0 ≤ t + 40 + 1) (HB : Hid (∀ (w : World) (g : Nat) (A : Option Addr) (c : Nat), CurS w g A c bs t s → Calls Try.prog 109 #[.pointer (some ⟨g, 0, none⟩), .int .i64 (40 : Int)] w (GivesB w g A c bs t0 s0 ds))) : ∃ (x : Uh) (os ds : List UInt8) (t' s' : Nat), os.length ≤ 40 ∧ ds.length ≤ 40 ∧ t' ≤ t + 100 ∧ ∀ (w : World) (g : Nat) (A : Option Addr) (c : Nat), CurS w g A c bs t s → Calls Try.prog 95 #[.pointer (some ⟨g, 0, none⟩), .int .i64 2, .int .i64 4] w (GivesUp w g A c bs t' s' x os ds) := by
  obtain ⟨x1, s11, lo1, up1, hd1⟩ := pickE bs (t0) s0 3 (by omega) (by omega) (by omega)
  have H1 := Lib.hid hd1
  clear hd1
  obtain ⟨y1, rfl⟩ : ∃ k : Nat, x1 = k := ⟨x1.toNat, by omega⟩
  obtain ⟨o1, so, hdo⟩ := onceE bs (t0 + 1) s11 4 (by omega) (by omega) (by omega)
  have HO := Lib.hid hdo
  clear hdo
  cases o1 with
  | false =>
    obtain ⟨x2, s12, lo2, up2, hd2⟩ := wideE bs (t0 + 1 + 1) so 65536 (by omega) (by omega) (by omega)
    have H2 := Lib.hid hd2
    clear hd2
    obtain ⟨x3, s13, lo3, up3, hd3⟩ := pickE bs (t0 + 1 + 1 + 3) s12 9 (by omega) (by omega) (by omega)
    have H3 := Lib.hid hd3
    clear hd3
    obtain ⟨u3, hu3⟩ : ∃ a, ([x2, 1024 + x3, 53] : List Int)[y1]? = some a := ⟨_, List.getElem?_eq_getElem (by simp; omega)⟩
    have HU3 := Lib.hid hu3
    clear hu3
    obtain ⟨x4, s14, lo4, up4, hd4⟩ := pickE bs (t0 + 1 + 1 + 3 + 1) s13 9 (by omega) (by omega) (by omega)
    have H4 := Lib.hid hd4
    clear hd4
    obtain ⟨x5, s15, lo5, up5, hd5⟩ := wideE bs (t0 + 1 + 1 + 3 + 1 + 1) s14 65536 (by omega) (by omega) (by omega)
    have H5 := Lib.hid hd5
    clear hd5
    obtain ⟨x6, s16, lo6, up6, hd6⟩ := pickE bs (t0 + 1 + 1 + 3 + 1 + 1 + 3) s15 5 (by omega) (by omega) (by omega)
    have H6 := Lib.hid hd6
    clear hd6
    obtain ⟨y6, rfl⟩ : ∃ k : Nat, x6 = k := ⟨x6.toNat, by omega⟩
    obtain ⟨u6, hu6⟩ : ∃ a, ([80, 443, 53, 8000 + x4, x5] : List Int)[y6]? = some a := ⟨_, List.getElem?_eq_getElem (by simp; omega)⟩
    have HU6 := Lib.hid hu6
    clear hu6
    refine ⟨⟨2, u3, u6, 0, 0, 0, 0, 0, 0, 0, 0, false⟩, [], ds, t0 + 1 + 1 + 3 + 1 + 1 + 3 + 1, s16, by simp, by omega, by omega, fun w g A c hc0 => ?_⟩
    have hgl := hc0.lt
    have HC0 := Lib.hid (hc0.below (Joins.below_alloc1 w (.cells #[.int .i64 0, .int .i64 0, .int .i64 0, .int .i64 0, .int .i64 0, .int .i64 0, .int .i64 0, .int .i64 0, .int .i64 0, .int .i64 0, .int .i64 0, .bool false, .slice none 0 0, .slice none 0 0] 36)))
    have R0_ := Lib.hid (K.new w (.cells #[.int .i64 0, .int .i64 0, .int .i64 0, .int .i64 0, .int .i64 0, .int .i64 0, .int .i64 0, .int .i64 0, .int .i64 0, .int .i64 0, .int .i64 0, .bool false, .slice none 0 0, .slice none 0 0] 36))
    clear hc0
    have m3 : IntKind.i64.wrap (1024 + x3) = 1024 + x3 := by rw [IntKind.wrap_i64]; omega
    have m4 : IntKind.i64.wrap (8000 + x4) = 8000 + x4 := by rw [IntKind.wrap_i64]; omega
    have hy1 : (y1 : Int) < 3 := by omega
    go_enter Try.func95, Try.ntmps95
    go_wp2_with fail
    refine Calls.mono (HB.out _ g A c HC0.out) ?_
    rintro e w1 ⟨D0, d0, rfl, od, hc2, hg2⟩
    have hb : w.heap.size < w1.heap.size := by have := hg2.size; simp at this; omega
    have q1 := Lib.hid (K.new w1 (.cells #[.int .i64 2, .int .i64 0, .int .i64 0, .int .i64 0, .int .i64 0, .int .i64 0, .int .i64 0, .int .i64 0, .int .i64 0, .int .i64 0, .int .i64 0, .bool false, .slice none 0 0, .slice D0 ds.length d0] 36))
    have R1 := Lib.hid (K.old (K.kept hg2 R0_.out (fun k hk => by cases hk; omega)) (.cells #[.int .i64 2, .int .i64 0, .int .i64 0, .int .i64 0, .int .i64 0, .int .i64 0, .int .i64 0, .int .i64 0, .int .i64 0, .int .i64 0, .int .i64 0, .bool false, .slice none 0 0, .slice D0 ds.length d0] 36))
    have C1 := Lib.hid (hc2.below (Joins.below_alloc1 w1 (.cells #[.int .i64 2, .int .i64 0, .int .i64 0, .int .i64 0, .int .i64 0, .int .i64 0, .int .i64 0, .int .i64 0, .int .i64 0, .int .i64 0, .int .i64 0, .bool false, .slice none 0 0, .slice D0 ds.length d0] 36)))
    have G1 := Lib.hid (only_new (grownBy_trans (only_new (K.refl w (some g)) (.cells #[.int .i64 0, .int .i64 0, .int .i64 0, .int .i64 0, .int .i64 0, .int .i64 0, .int .i64 0, .int .i64 0, .int .i64 0, .int .i64 0, .int .i64 0, .bool false, .slice none 0 0, .slice none 0 0] 36)) hg2) (.cells #[.int .i64 2, .int .i64 0, .int .i64 0, .int .i64 0, .int .i64 0, .int .i64 0, .int .i64 0, .int .i64 0, .int .i64 0, .int .i64 0, .int .i64 0, .bool false, .slice none 0 0, .slice D0 ds.length d0] 36))
    have B1 := Lib.hid (World.ownsRow.alloc (own_base od (show w.heap.size + 1 ≤ _ by simp)) (.cells #[.int .i64 2, .int .i64 0, .int .i64 0, .int .i64 0, .int .i64 0, .int .i64 0, .int .i64 0, .int .i64 0, .int .i64 0, .int .i64 0, .int .i64 0, .bool false, .slice none 0 0, .slice D0 ds.length d0] 36))
    have NB := Lib.hid (fun k (hk : (Value.slice D0 ds.length d0).ownBlock = some k) => show k ≠ w1.heap.size by have := (od.lt k hk).2; omega)
    clear od hc2 hg2 HC0 R0_
    go_wp2_with (with_reducible refine storeNewU rfl _ _ rfl rfl rfl ?_)
    generalize (w1.alloc (.cells #[.int .i64 2, .int .i64 0, .int .i64 0, .int .i64 0, .int .i64 0, .int .i64 0, .int .i64 0, .int .i64 0, .int .i64 0, .int .i64 0, .int .i64 0, .bool false, .slice none 0 0, .slice D0 ds.length d0] 36)) = w2 at q1 R1 C1 G1 B1 ⊢
    refine Calls.mono (H1.out _ g A c C1.out) ?_
    rintro e w3 ⟨rfl, hc2, hg2⟩
    have q2 := Lib.hid (K.kept hg2 q1.out (fun k hk => by cases hk; omega))
    have R2 := Lib.hid (K.kept hg2 R1.out (fun k hk => by cases hk; omega))
    have C2 := Lib.hid hc2
    have G2 := Lib.hid (grownBy_trans G1.out hg2)
    have B2 := Lib.hid (own_grown B1.out hg2 (fun k h1 h2 => by cases h2; have := (B1.out.lt _ h1).1; omega))
    clear hc2 hg2 q1 R1 C1 G1 B1
    go_wp2_with fail
    refine Calls.mono (HO.out _ g A c C2.out) ?_
    rintro e w4 ⟨rfl, hc2, hg2⟩
    have q3 := Lib.hid (K.kept hg2 q2.out (fun k hk => by cases hk; omega))
    have R3 := Lib.hid (K.kept hg2 R2.out (fun k hk => by cases hk; omega))
    have C3 := Lib.hid hc2
    have G3 := Lib.hid (grownBy_trans G2.out hg2)
    have B3 := Lib.hid (own_grown B2.out hg2 (fun k h1 h2 => by cases h2; have := (B2.out.lt _ h1).1; omega))
    clear hc2 hg2 q2 R2 C2 G2 B2
    have uu := K.cell q3.out 11 _ rfl
    have yy := frozen_of_row _ _ 11 _ _ q3.out
    have q4 : Hid ((w4.setCell ⟨w1.heap.size, 11, none⟩ (.bool false)).heap[w1.heap.size]? = some (.cells #[.int .i64 2, .int .i64 0, .int .i64 0, .int .i64 0, .int .i64 0, .int .i64 0, .int .i64 0, .int .i64 0, .int .i64 0, .int .i64 0, .int .i64 0, .bool false, .slice none 0 0, .slice D0 ds.length d0] 36 (0, 0))) := Lib.hid (K.set q3.out 11 _)
    have R4 := Lib.hid (K.other R3.out w1.heap.size 11 (.bool false) (by omega))
    have C4 := Lib.hid (C3.out.grownBy (grownBy_set w4 w1.heap.size 11 (.bool false)) (fun u hu => by cases hu; omega))
    have G4 := Lib.hid (grown_other G3.out (grownBy_set w4 w1.heap.size 11 (.bool false)) (fun u hu => by cases hu; omega))
    have B4 := Lib.hid (own_grown B3.out (grownBy_set w4 w1.heap.size 11 (.bool false)) (fun k h1 h2 => by cases h2; exact NB.out _ h1 rfl))
    go_upto_region 18 with fail
    clear uu yy q3 R3 C3 G3 B3
    generalize (w4.setCell ⟨w1.heap.size, 11, none⟩ (.bool false)) = w5 at q4 R4 C4 G4 B4 ⊢
    go_wp2_with fail
    refine Calls.mono (H2.out _ g A c C4.out) ?_
    rintro e w6 ⟨rfl, hc2, hg2⟩
    have q5 := Lib.hid (K.kept hg2 q4.out (fun k hk => by cases hk; omega))
    have R5 := Lib.hid (K.kept hg2 R4.out (fun k hk => by cases hk; omega))
    have C5 := Lib.hid hc2
    have G5 := Lib.hid (grownBy_trans G4.out hg2)
    have B5 := Lib.hid (own_grown B4.out hg2 (fun k h1 h2 => by cases h2; have := (B4.out.lt _ h1).1; omega))
    clear hc2 hg2 q4 R4 C4 G4 B4
    go_wp2_with fail
    refine Calls.mono (H3.out _ g A c C5.out) ?_
    rintro e w7 ⟨rfl, hc2, hg2⟩
    have q6 := Lib.hid (K.kept hg2 q5.out (fun k hk => by cases hk; omega))
    have R6 := Lib.hid (K.kept hg2 R5.out (fun k hk => by cases hk; omega))
    have C6 := Lib.hid hc2
    have G6 := Lib.hid (grownBy_trans G5.out hg2)
    have B6 := Lib.hid (own_grown B5.out hg2 (fun k h1 h2 => by cases h2; have := (B5.out.lt _ h1).1; omega))
    clear hc2 hg2 q5 R5 C5 G5 B5
    have q7 := Lib.hid (K.old q6.out (.cells #[.int .i64 x2, .int .i64 (1024 + x3), .int .i64 53] 3))
    have R7 := Lib.hid (K.old R6.out (.cells #[.int .i64 x2, .int .i64 (1024 + x3), .int .i64 53] 3))
    have C7 := Lib.hid (C6.out.below (Joins.below_alloc1 w7 (.cells #[.int .i64 x2, .int .i64 (1024 + x3), .int .i64 53] 3)))
    have G7 := Lib.hid (only_new G6.out (.cells #[.int .i64 x2, .int .i64 (1024 + x3), .int .i64 53] 3))
    have B7 := Lib.hid (World.ownsRow.alloc B6.out (.cells #[.int .i64 x2, .int .i64 (1024 + x3), .int .i64 53] 3))
    clear q6 R6 C6 G6 B6
    have cf := K.row_cells w7 [x2, (1024 + x3), 53] _ rfl 3 y1 u3 HU3.out
    have cfa : (#[.int .i64 x2, .int .i64 (1024 + x3), .int .i64 53] : Array Value)[y1]? = some (.int .i64 u3) := by have := arr_U [x2, (1024 + x3), 53] y1 u3 HU3.out; simpa using this
    have uu := K.cell q7.out 1 _ rfl
    have yy := frozen_of_row _ _ 1 _ _ q7.out
    have q8 : Hid (((w7.alloc (.cells #[.int .i64 x2, .int .i64 (1024 + x3), .int .i64 53] 3)).setCell ⟨w1.heap.size, 1, none⟩ (.int .i64 u3)).heap[w1.heap.size]? = some (.cells #[.int .i64 2, .int .i64 u3, .int .i64 0, .int .i64 0, .int .i64 0, .int .i64 0, .int .i64 0, .int .i64 0, .int .i64 0, .int .i64 0, .int .i64 0, .bool false, .slice none 0 0, .slice D0 ds.length d0] 36 (0, 0))) := Lib.hid (K.set q7.out 1 _)
    have R8 := Lib.hid (K.other R7.out w1.heap.size 1 (.int .i64 u3) (by omega))
    have C8 := Lib.hid (C7.out.grownBy (grownBy_set (w7.alloc (.cells #[.int .i64 x2, .int .i64 (1024 + x3), .int .i64 53] 3)) w1.heap.size 1 (.int .i64 u3)) (fun u hu => by cases hu; omega))
    have G8 := Lib.hid (grown_other G7.out (grownBy_set (w7.alloc (.cells #[.int .i64 x2, .int .i64 (1024 + x3), .int .i64 53] 3)) w1.heap.size 1 (.int .i64 u3)) (fun u hu => by cases hu; omega))
    have B8 := Lib.hid (own_grown B7.out (grownBy_set (w7.alloc (.cells #[.int .i64 x2, .int .i64 (1024 + x3), .int .i64 53] 3)) w1.heap.size 1 (.int .i64 u3)) (fun k h1 h2 => by cases h2; exact NB.out _ h1 rfl))
    go_upto_region 20 with fail
    clear uu yy cf cfa q7 R7 C7 G7 B7
    generalize ((w7.alloc (.cells #[.int .i64 x2, .int .i64 (1024 + x3), .int .i64 53] 3)).setCell ⟨w1.heap.size, 1, none⟩ (.int .i64 u3)) = w8 at q8 R8 C8 G8 B8 ⊢
    go_wp2_with fail
    refine Calls.mono (H4.out _ g A c C8.out) ?_
    rintro e w9 ⟨rfl, hc2, hg2⟩
    have q9 := Lib.hid (K.kept hg2 q8.out (fun k hk => by cases hk; omega))
    have R9 := Lib.hid (K.kept hg2 R8.out (fun k hk => by cases hk; omega))
    have C9 := Lib.hid hc2
    have G9 := Lib.hid (grownBy_trans G8.out hg2)
    have B9 := Lib.hid (own_grown B8.out hg2 (fun k h1 h2 => by cases h2; have := (B8.out.lt _ h1).1; omega))
    clear hc2 hg2 q8 R8 C8 G8 B8
    go_wp2_with fail
    refine Calls.mono (H5.out _ g A c C9.out) ?_
    rintro e w10 ⟨rfl, hc2, hg2⟩
    have q10 := Lib.hid (K.kept hg2 q9.out (fun k hk => by cases hk; omega))
    have R10 := Lib.hid (K.kept hg2 R9.out (fun k hk => by cases hk; omega))
    have C10 := Lib.hid hc2
    have G10 := Lib.hid (grownBy_trans G9.out hg2)
    have B10 := Lib.hid (own_grown B9.out hg2 (fun k h1 h2 => by cases h2; have := (B9.out.lt _ h1).1; omega))
    clear hc2 hg2 q9 R9 C9 G9 B9
    have gk := C10.out.lt
    have q11 := Lib.hid (K.old q10.out (.cells #[.int .i64 80, .int .i64 443, .int .i64 53, .int .i64 (8000 + x4), .int .i64 x5] 3))
    have R11 := Lib.hid (K.old R10.out (.cells #[.int .i64 80, .int .i64 443, .int .i64 53, .int .i64 (8000 + x4), .int .i64 x5] 3))
    have C11 := Lib.hid (C10.out.below (Joins.below_alloc1 w10 (.cells #[.int .i64 80, .int .i64 443, .int .i64 53, .int .i64 (8000 + x4), .int .i64 x5] 3)))
    have G11 := Lib.hid (only_new G10.out (.cells #[.int .i64 80, .int .i64 443, .int .i64 53, .int .i64 (8000 + x4), .int .i64 x5] 3))
    have B11 := Lib.hid (World.ownsRow.alloc B10.out (.cells #[.int .i64 80, .int .i64 443, .int .i64 53, .int .i64 (8000 + x4), .int .i64 x5] 3))
    go_wp2_with fail
    clear q10 R10 C10 G10 B10
    refine Calls.mono (H6.out _ g A c C11.out) ?_
    rintro e w11 ⟨rfl, hc2, hg2⟩
    have q12 := Lib.hid (K.kept hg2 q11.out (fun k hk => by cases hk; omega))
    have R12 := Lib.hid (K.kept hg2 R11.out (fun k hk => by cases hk; omega))
    have C12 := Lib.hid hc2
    have G12 := Lib.hid (grownBy_trans G11.out hg2)
    have B12 := Lib.hid (own_grown B11.out hg2 (fun k h1 h2 => by cases h2; have := (B11.out.lt _ h1).1; omega))
    have cf := hg2.cell (K.row_cells w10 [80, 443, 53, (8000 + x4), x5] _ rfl 3 y6 u6 HU6.out) (fun e => by have e2 : w10.heap.size = g := Option.some.inj e; omega)
    clear hc2 hg2 q11 R11 C11 G11 B11
    have uu := K.cell q12.out 2 _ rfl
    have yy := frozen_of_row _ _ 2 _ _ q12.out
    have hyd : (y6 : Int) < 5 := by omega
    have q13 : Hid ((w11.setCell ⟨w1.heap.size, 2, none⟩ (.int .i64 u6)).heap[w1.heap.size]? = some (.cells #[.int .i64 2, .int .i64 u3, .int .i64 u6, .int .i64 0, .int .i64 0, .int .i64 0, .int .i64 0, .int .i64 0, .int .i64 0, .int .i64 0, .int .i64 0, .bool false, .slice none 0 0, .slice D0 ds.length d0] 36 (0, 0))) := Lib.hid (K.set q12.out 2 _)
    have R13 := Lib.hid (K.other R12.out w1.heap.size 2 (.int .i64 u6) (by omega))
    have C13 := Lib.hid (C12.out.grownBy (grownBy_set w11 w1.heap.size 2 (.int .i64 u6)) (fun u hu => by cases hu; omega))
    have G13 := Lib.hid (grown_other G12.out (grownBy_set w11 w1.heap.size 2 (.int .i64 u6)) (fun u hu => by cases hu; omega))
    have B13 := Lib.hid (own_grown B12.out (grownBy_set w11 w1.heap.size 2 (.int .i64 u6)) (fun k h1 h2 => by cases h2; exact NB.out _ h1 rfl))
    go_upto_region 21 with fail
    clear uu yy cf gk q12 R12 C12 G12 B12
    generalize (w11.setCell ⟨w1.heap.size, 2, none⟩ (.int .i64 u6)) = w12 at q13 R13 C13 G13 B13 ⊢
    go_wp2_with (first | (with_reducible refine loadU rfl _ rfl w1.heap.size rfl q13.out ?_) | (with_reducible refine storeU rfl _ _ rfl w.heap.size rfl rfl R13.out ?_))
    (try simp only [Exit.inBlock, Exit.then])
    refine bodyPost_ret (v := .agg #[.int .i64 2, .int .i64 u3, .int .i64 u6, .int .i64 0, .int .i64 0, .int .i64 0, .int .i64 0, .int .i64 0, .int .i64 0, .int .i64 0, .int .i64 0, .bool false, .slice none 0 0, .slice D0 ds.length d0]) ?_ rfl ⟨none, 0, D0, d0, rfl, ?_, ?_, (fun _ h => by cases h), ?_, ?_⟩
    · exact resU Try.results95 _ _ w.heap.size rfl (setRow_heap _ _ _ _ _ _ R13.out)
    · exact ⟨rfl, .inl ⟨rfl, rfl⟩⟩
    · exact own_base (own_grown B13.out (K.setRow_grown _ _ _) (fun k h1 h2 => by cases h2; have := (B13.out.lt _ h1).1; omega)) (by omega)
    · exact C13.out.grownBy (K.setRow_grown _ _ _) (fun u hu => by cases hu; omega)
    · exact grown_other G13.out (K.setRow_grown _ _ _) (fun u hu => by cases hu; omega)
  | true =>
    obtain ⟨x2, s12, lo2, up2, hd2⟩ := wideE bs (t0 + 1 + 1) so 65536 (by omega) (by omega) (by omega)
    have H2 := Lib.hid hd2
    clear hd2
    obtain ⟨x3, s13, lo3, up3, hd3⟩ := pickE bs (t0 + 1 + 1 + 3) s12 9 (by omega) (by omega) (by omega)
    have H3 := Lib.hid hd3
    clear hd3
    obtain ⟨u3, hu3⟩ : ∃ a, ([x2, 1024 + x3, 53] : List Int)[y1]? = some a := ⟨_, List.getElem?_eq_getElem (by simp; omega)⟩
    have HU3 := Lib.hid hu3
    clear hu3
    obtain ⟨x4, s14, lo4, up4, hd4⟩ := pickE bs (t0 + 1 + 1 + 3 + 1) s13 9 (by omega) (by omega) (by omega)
    have H4 := Lib.hid hd4
    clear hd4
    obtain ⟨x5, s15, lo5, up5, hd5⟩ := wideE bs (t0 + 1 + 1 + 3 + 1 + 1) s14 65536 (by omega) (by omega) (by omega)
    have H5 := Lib.hid hd5
    clear hd5
    obtain ⟨x6, s16, lo6, up6, hd6⟩ := pickE bs (t0 + 1 + 1 + 3 + 1 + 1 + 3) s15 5 (by omega) (by omega) (by omega)
    have H6 := Lib.hid hd6
    clear hd6
    obtain ⟨y6, rfl⟩ : ∃ k : Nat, x6 = k := ⟨x6.toNat, by omega⟩
    obtain ⟨u6, hu6⟩ : ∃ a, ([80, 443, 53, 8000 + x4, x5] : List Int)[y6]? = some a := ⟨_, List.getElem?_eq_getElem (by simp; omega)⟩
    have HU6 := Lib.hid hu6
    clear hu6
    refine ⟨⟨2, u3, u6, 0, 0, 0, 0, 0, 0, 0, 0, true⟩, [], ds, t0 + 1 + 1 + 3 + 1 + 1 + 3 + 1, s16, by simp, by omega, by omega, fun w g A c hc0 => ?_⟩
    have hgl := hc0.lt
    have HC0 := Lib.hid (hc0.below (Joins.below_alloc1 w (.cells #[.int .i64 0, .int .i64 0, .int .i64 0, .int .i64 0, .int .i64 0, .int .i64 0, .int .i64 0, .int .i64 0, .int .i64 0, .int .i64 0, .int .i64 0, .bool false, .slice none 0 0, .slice none 0 0] 36)))
    have R0_ := Lib.hid (K.new w (.cells #[.int .i64 0, .int .i64 0, .int .i64 0, .int .i64 0, .int .i64 0, .int .i64 0, .int .i64 0, .int .i64 0, .int .i64 0, .int .i64 0, .int .i64 0, .bool false, .slice none 0 0, .slice none 0 0] 36))
    clear hc0
    have m3 : IntKind.i64.wrap (1024 + x3) = 1024 + x3 := by rw [IntKind.wrap_i64]; omega
    have m4 : IntKind.i64.wrap (8000 + x4) = 8000 + x4 := by rw [IntKind.wrap_i64]; omega
    have hy1 : (y1 : Int) < 3 := by omega
    go_enter Try.func95, Try.ntmps95
    go_wp2_with fail
    refine Calls.mono (HB.out _ g A c HC0.out) ?_
    rintro e w1 ⟨D0, d0, rfl, od, hc2, hg2⟩
    have hb : w.heap.size < w1.heap.size := by have := hg2.size; simp at this; omega
    have q1 := Lib.hid (K.new w1 (.cells #[.int .i64 2, .int .i64 0, .int .i64 0, .int .i64 0, .int .i64 0, .int .i64 0, .int .i64 0, .int .i64 0, .int .i64 0, .int .i64 0, .int .i64 0, .bool false, .slice none 0 0, .slice D0 ds.length d0] 36))
    have R1 := Lib.hid (K.old (K.kept hg2 R0_.out (fun k hk => by cases hk; omega)) (.cells #[.int .i64 2, .int .i64 0, .int .i64 0, .int .i64 0, .int .i64 0, .int .i64 0, .int .i64 0, .int .i64 0, .int .i64 0, .int .i64 0, .int .i64 0, .bool false, .slice none 0 0, .slice D0 ds.length d0] 36))
    have C1 := Lib.hid (hc2.below (Joins.below_alloc1 w1 (.cells #[.int .i64 2, .int .i64 0, .int .i64 0, .int .i64 0, .int .i64 0, .int .i64 0, .int .i64 0, .int .i64 0, .int .i64 0, .int .i64 0, .int .i64 0, .bool false, .slice none 0 0, .slice D0 ds.length d0] 36)))
    have G1 := Lib.hid (only_new (grownBy_trans (only_new (K.refl w (some g)) (.cells #[.int .i64 0, .int .i64 0, .int .i64 0, .int .i64 0, .int .i64 0, .int .i64 0, .int .i64 0, .int .i64 0, .int .i64 0, .int .i64 0, .int .i64 0, .bool false, .slice none 0 0, .slice none 0 0] 36)) hg2) (.cells #[.int .i64 2, .int .i64 0, .int .i64 0, .int .i64 0, .int .i64 0, .int .i64 0, .int .i64 0, .int .i64 0, .int .i64 0, .int .i64 0, .int .i64 0, .bool false, .slice none 0 0, .slice D0 ds.length d0] 36))
    have B1 := Lib.hid (World.ownsRow.alloc (own_base od (show w.heap.size + 1 ≤ _ by simp)) (.cells #[.int .i64 2, .int .i64 0, .int .i64 0, .int .i64 0, .int .i64 0, .int .i64 0, .int .i64 0, .int .i64 0, .int .i64 0, .int .i64 0, .int .i64 0, .bool false, .slice none 0 0, .slice D0 ds.length d0] 36))
    have NB := Lib.hid (fun k (hk : (Value.slice D0 ds.length d0).ownBlock = some k) => show k ≠ w1.heap.size by have := (od.lt k hk).2; omega)
    clear od hc2 hg2 HC0 R0_
    go_wp2_with (with_reducible refine storeNewU rfl _ _ rfl rfl rfl ?_)
    generalize (w1.alloc (.cells #[.int .i64 2, .int .i64 0, .int .i64 0, .int .i64 0, .int .i64 0, .int .i64 0, .int .i64 0, .int .i64 0, .int .i64 0, .int .i64 0, .int .i64 0, .bool false, .slice none 0 0, .slice D0 ds.length d0] 36)) = w2 at q1 R1 C1 G1 B1 ⊢
    refine Calls.mono (H1.out _ g A c C1.out) ?_
    rintro e w3 ⟨rfl, hc2, hg2⟩
    have q2 := Lib.hid (K.kept hg2 q1.out (fun k hk => by cases hk; omega))
    have R2 := Lib.hid (K.kept hg2 R1.out (fun k hk => by cases hk; omega))
    have C2 := Lib.hid hc2
    have G2 := Lib.hid (grownBy_trans G1.out hg2)
    have B2 := Lib.hid (own_grown B1.out hg2 (fun k h1 h2 => by cases h2; have := (B1.out.lt _ h1).1; omega))
    clear hc2 hg2 q1 R1 C1 G1 B1
    go_wp2_with fail
    refine Calls.mono (HO.out _ g A c C2.out) ?_
    rintro e w4 ⟨rfl, hc2, hg2⟩
    have q3 := Lib.hid (K.kept hg2 q2.out (fun k hk => by cases hk; omega))
    have R3 := Lib.hid (K.kept hg2 R2.out (fun k hk => by cases hk; omega))
    have C3 := Lib.hid hc2
    have G3 := Lib.hid (grownBy_trans G2.out hg2)
    have B3 := Lib.hid (own_grown B2.out hg2 (fun k h1 h2 => by cases h2; have := (B2.out.lt _ h1).1; omega))
    clear hc2 hg2 q2 R2 C2 G2 B2
    have uu := K.cell q3.out 11 _ rfl
    have yy := frozen_of_row _ _ 11 _ _ q3.out
    have q4 : Hid ((w4.setCell ⟨w1.heap.size, 11, none⟩ (.bool true)).heap[w1.heap.size]? = some (.cells #[.int .i64 2, .int .i64 0, .int .i64 0, .int .i64 0, .int .i64 0, .int .i64 0, .int .i64 0, .int .i64 0, .int .i64 0, .int .i64 0, .int .i64 0, .bool true, .slice none 0 0, .slice D0 ds.length d0] 36 (0, 0))) := Lib.hid (K.set q3.out 11 _)
    have R4 := Lib.hid (K.other R3.out w1.heap.size 11 (.bool true) (by omega))
    have C4 := Lib.hid (C3.out.grownBy (grownBy_set w4 w1.heap.size 11 (.bool true)) (fun u hu => by cases hu; omega))
    have G4 := Lib.hid (grown_other G3.out (grownBy_set w4 w1.heap.size 11 (.bool true)) (fun u hu => by cases hu; omega))
    have B4 := Lib.hid (own_grown B3.out (grownBy_set w4 w1.heap.size 11 (.bool true)) (fun k h1 h2 => by cases h2; exact NB.out _ h1 rfl))
    go_upto_region 18 with fail
    clear uu yy q3 R3 C3 G3 B3
    generalize (w4.setCell ⟨w1.heap.size, 11, none⟩ (.bool true)) = w5 at q4 R4 C4 G4 B4 ⊢
    go_wp2_with fail
    refine Calls.mono (H2.out _ g A c C4.out) ?_
    rintro e w6 ⟨rfl, hc2, hg2⟩
    have q5 := Lib.hid (K.kept hg2 q4.out (fun k hk => by cases hk; omega))
    have R5 := Lib.hid (K.kept hg2 R4.out (fun k hk => by cases hk; omega))
    have C5 := Lib.hid hc2
    have G5 := Lib.hid (grownBy_trans G4.out hg2)
    have B5 := Lib.hid (own_grown B4.out hg2 (fun k h1 h2 => by cases h2; have := (B4.out.lt _ h1).1; omega))
    clear hc2 hg2 q4 R4 C4 G4 B4
    go_wp2_with fail
    refine Calls.mono (H3.out _ g A c C5.out) ?_
    rintro e w7 ⟨rfl, hc2, hg2⟩
    have q6 := Lib.hid (K.kept hg2 q5.out (fun k hk => by cases hk; omega))
    have R6 := Lib.hid (K.kept hg2 R5.out (fun k hk => by cases hk; omega))
    have C6 := Lib.hid hc2
    have G6 := Lib.hid (grownBy_trans G5.out hg2)
    have B6 := Lib.hid (own_grown B5.out hg2 (fun k h1 h2 => by cases h2; have := (B5.out.lt _ h1).1; omega))
    clear hc2 hg2 q5 R5 C5 G5 B5
    have q7 := Lib.hid (K.old q6.out (.cells #[.int .i64 x2, .int .i64 (1024 + x3), .int .i64 53] 3))
    have R7 := Lib.hid (K.old R6.out (.cells #[.int .i64 x2, .int .i64 (1024 + x3), .int .i64 53] 3))
    have C7 := Lib.hid (C6.out.below (Joins.below_alloc1 w7 (.cells #[.int .i64 x2, .int .i64 (1024 + x3), .int .i64 53] 3)))
    have G7 := Lib.hid (only_new G6.out (.cells #[.int .i64 x2, .int .i64 (1024 + x3), .int .i64 53] 3))
    have B7 := Lib.hid (World.ownsRow.alloc B6.out (.cells #[.int .i64 x2, .int .i64 (1024 + x3), .int .i64 53] 3))
    clear q6 R6 C6 G6 B6
    have cf := K.row_cells w7 [x2, (1024 + x3), 53] _ rfl 3 y1 u3 HU3.out
    have cfa : (#[.int .i64 x2, .int .i64 (1024 + x3), .int .i64 53] : Array Value)[y1]? = some (.int .i64 u3) := by have := arr_U [x2, (1024 + x3), 53] y1 u3 HU3.out; simpa using this
    have uu := K.cell q7.out 1 _ rfl
    have yy := frozen_of_row _ _ 1 _ _ q7.out
    have q8 : Hid (((w7.alloc (.cells #[.int .i64 x2, .int .i64 (1024 + x3), .int .i64 53] 3)).setCell ⟨w1.heap.size, 1, none⟩ (.int .i64 u3)).heap[w1.heap.size]? = some (.cells #[.int .i64 2, .int .i64 u3, .int .i64 0, .int .i64 0, .int .i64 0, .int .i64 0, .int .i64 0, .int .i64 0, .int .i64 0, .int .i64 0, .int .i64 0, .bool true, .slice none 0 0, .slice D0 ds.length d0] 36 (0, 0))) := Lib.hid (K.set q7.out 1 _)
    have R8 := Lib.hid (K.other R7.out w1.heap.size 1 (.int .i64 u3) (by omega))
    have C8 := Lib.hid (C7.out.grownBy (grownBy_set (w7.alloc (.cells #[.int .i64 x2, .int .i64 (1024 + x3), .int .i64 53] 3)) w1.heap.size 1 (.int .i64 u3)) (fun u hu => by cases hu; omega))
    have G8 := Lib.hid (grown_other G7.out (grownBy_set (w7.alloc (.cells #[.int .i64 x2, .int .i64 (1024 + x3), .int .i64 53] 3)) w1.heap.size 1 (.int .i64 u3)) (fun u hu => by cases hu; omega))
    have B8 := Lib.hid (own_grown B7.out (grownBy_set (w7.alloc (.cells #[.int .i64 x2, .int .i64 (1024 + x3), .int .i64 53] 3)) w1.heap.size 1 (.int .i64 u3)) (fun k h1 h2 => by cases h2; exact NB.out _ h1 rfl))
    go_upto_region 20 with fail
    clear uu yy cf cfa q7 R7 C7 G7 B7
    generalize ((w7.alloc (.cells #[.int .i64 x2, .int .i64 (1024 + x3), .int .i64 53] 3)).setCell ⟨w1.heap.size, 1, none⟩ (.int .i64 u3)) = w8 at q8 R8 C8 G8 B8 ⊢
    go_wp2_with fail
    refine Calls.mono (H4.out _ g A c C8.out) ?_
    rintro e w9 ⟨rfl, hc2, hg2⟩
    have q9 := Lib.hid (K.kept hg2 q8.out (fun k hk => by cases hk; omega))
    have R9 := Lib.hid (K.kept hg2 R8.out (fun k hk => by cases hk; omega))
    have C9 := Lib.hid hc2
    have G9 := Lib.hid (grownBy_trans G8.out hg2)
    have B9 := Lib.hid (own_grown B8.out hg2 (fun k h1 h2 => by cases h2; have := (B8.out.lt _ h1).1; omega))
    clear hc2 hg2 q8 R8 C8 G8 B8
    go_wp2_with fail
    refine Calls.mono (H5.out _ g A c C9.out) ?_
    rintro e w10 ⟨rfl, hc2, hg2⟩
    have q10 := Lib.hid (K.kept hg2 q9.out (fun k hk => by cases hk; omega))
    have R10 := Lib.hid (K.kept hg2 R9.out (fun k hk => by cases hk; omega))
    have C10 := Lib.hid hc2
    have G10 := Lib.hid (grownBy_trans G9.out hg2)
    have B10 := Lib.hid (own_grown B9.out hg2 (fun k h1 h2 => by cases h2; have := (B9.out.lt _ h1).1; omega))
    clear hc2 hg2 q9 R9 C9 G9 B9
    have gk := C10.out.lt
    have q11 := Lib.hid (K.old q10.out (.cells #[.int .i64 80, .int .i64 443, .int .i64 53, .int .i64 (8000 + x4), .int .i64 x5] 3))
    have R11 := Lib.hid (K.old R10.out (.cells #[.int .i64 80, .int .i64 443, .int .i64 53, .int .i64 (8000 + x4), .int .i64 x5] 3))
    have C11 := Lib.hid (C10.out.below (Joins.below_alloc1 w10 (.cells #[.int .i64 80, .int .i64 443, .int .i64 53, .int .i64 (8000 + x4), .int .i64 x5] 3)))
    have G11 := Lib.hid (only_new G10.out (.cells #[.int .i64 80, .int .i64 443, .int .i64 53, .int .i64 (8000 + x4), .int .i64 x5] 3))
    have B11 := Lib.hid (World.ownsRow.alloc B10.out (.cells #[.int .i64 80, .int .i64 443, .int .i64 53, .int .i64 (8000 + x4), .int .i64 x5] 3))
    go_wp2_with fail
    clear q10 R10 C10 G10 B10
    refine Calls.mono (H6.out _ g A c C11.out) ?_
    rintro e w11 ⟨rfl, hc2, hg2⟩
    have q12 := Lib.hid (K.kept hg2 q11.out (fun k hk => by cases hk; omega))
    have R12 := Lib.hid (K.kept hg2 R11.out (fun k hk => by cases hk; omega))
    have C12 := Lib.hid hc2
    have G12 := Lib.hid (grownBy_trans G11.out hg2)
    have B12 := Lib.hid (own_grown B11.out hg2 (fun k h1 h2 => by cases h2; have := (B11.out.lt _ h1).1; omega))
    have cf := hg2.cell (K.row_cells w10 [80, 443, 53, (8000 + x4), x5] _ rfl 3 y6 u6 HU6.out) (fun e => by have e2 : w10.heap.size = g := Option.some.inj e; omega)
    clear hc2 hg2 q11 R11 C11 G11 B11
    have uu := K.cell q12.out 2 _ rfl
    have yy := frozen_of_row _ _ 2 _ _ q12.out
    have hyd : (y6 : Int) < 5 := by omega
    have q13 : Hid ((w11.setCell ⟨w1.heap.size, 2, none⟩ (.int .i64 u6)).heap[w1.heap.size]? = some (.cells #[.int .i64 2, .int .i64 u3, .int .i64 u6, .int .i64 0, .int .i64 0, .int .i64 0, .int .i64 0, .int .i64 0, .int .i64 0, .int .i64 0, .int .i64 0, .bool true, .slice none 0 0, .slice D0 ds.length d0] 36 (0, 0))) := Lib.hid (K.set q12.out 2 _)
    have R13 := Lib.hid (K.other R12.out w1.heap.size 2 (.int .i64 u6) (by omega))
    have C13 := Lib.hid (C12.out.grownBy (grownBy_set w11 w1.heap.size 2 (.int .i64 u6)) (fun u hu => by cases hu; omega))
    have G13 := Lib.hid (grown_other G12.out (grownBy_set w11 w1.heap.size 2 (.int .i64 u6)) (fun u hu => by cases hu; omega))
    have B13 := Lib.hid (own_grown B12.out (grownBy_set w11 w1.heap.size 2 (.int .i64 u6)) (fun k h1 h2 => by cases h2; exact NB.out _ h1 rfl))
    go_upto_region 21 with fail
    clear uu yy cf gk q12 R12 C12 G12 B12
    generalize (w11.setCell ⟨w1.heap.size, 2, none⟩ (.int .i64 u6)) = w12 at q13 R13 C13 G13 B13 ⊢
    go_wp2_with (first | (with_reducible refine loadU rfl _ rfl w1.heap.size rfl q13.out ?_) | (with_reducible refine storeU rfl _ _ rfl w.heap.size rfl rfl R13.out ?_))
    (try simp only [Exit.inBlock, Exit.then])
    refine bodyPost_ret (v := .agg #[.int .i64 2, .int .i64 u3, .int .i64 u6, .int .i64 0, .int .i64 0, .int .i64 0, .int .i64 0, .int .i64 0, .int .i64 0, .int .i64 0, .int .i64 0, .bool true, .slice none 0 0, .slice D0 ds.length d0]) ?_ rfl ⟨none, 0, D0, d0, rfl, ?_, ?_, (fun _ h => by cases h), ?_, ?_⟩
    · exact resU Try.results95 _ _ w.heap.size rfl (setRow_heap _ _ _ _ _ _ R13.out)
    · exact ⟨rfl, .inl ⟨rfl, rfl⟩⟩
    · exact own_base (own_grown B13.out (K.setRow_grown _ _ _) (fun k h1 h2 => by cases h2; have := (B13.out.lt _ h1).1; omega)) (by omega)
    · exact C13.out.grownBy (K.setRow_grown _ _ _) (fun u hu => by cases hu; omega)
    · exact grown_other G13.out (K.setRow_grown _ _ _) (fun u hu => by cases hu; omega)
end Go.Proofs.Ythogonpjkngpjaa
