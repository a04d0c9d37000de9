/-
  The model's draw of an address of sixteen bytes, number by number.
-/
import Derived.Test.YtegpaocoepcemaaRegD
import Derived.Test.YtegpaocoepcemaaAddrE2
import Derived.Test.YtegpaocoepcemaaRegChain
namespace Go.Proofs.Ytegpaocoepcemaa
open Go.RowKit

theorem K.stay {I : Nat → World → Prop} {ch : List Nat} {j m : Nat} {w : World} (h : ch.contains j = false) (hI : I m w) : I (nextOf ch j m) w := by
  unfold nextOf
  rw [if_neg (by rw [h]; decide)]
  exact hI
theorem K.go_on {I : Nat → World → Prop} {ch : List Nat} {j m : Nat} {w : World} (h : ch.contains j = true) (hI : I (m + 1) w) : I (nextOf ch j m) w := by
  unfold nextOf
  rw [if_pos h]
  exact hI
theorem curS_set5 {w : World} {g r : Nat} {A : Option Addr} {c : Nat} {bs : List UInt8} {t s : Nat} {v0 v1 v2 v3 v4 : Value} (h : CurS w g A c bs t s) (hr : g < r) : CurS (((((w.setCell ⟨r, 0, none⟩ v0).setCell ⟨r, 1, none⟩ v1).setCell ⟨r, 2, none⟩ v2).setCell ⟨r, 3, none⟩ v3).setCell ⟨r, 4, none⟩ v4) g A c bs t s :=
  h.grownBy (K.setFrom_selfE [v0, v1, v2, v3, v4] w r 0) (fun u hu => by cases hu; exact hr)
theorem grown_set5 {W w : World} {g r : Nat} {v0 v1 v2 v3 v4 : Value} (h : W.grownBy w (some g)) (hr : W.heap.size ≤ r) : W.grownBy (((((w.setCell ⟨r, 0, none⟩ v0).setCell ⟨r, 1, none⟩ v1).setCell ⟨r, 2, none⟩ v2).setCell ⟨r, 3, none⟩ v3).setCell ⟨r, 4, none⟩ v4) (some g) :=
  grown_other h (K.setFrom_selfE [v0, v1, v2, v3, v4] w r 0) (fun u hu => by cases hu; exact hr)

section
variable {o : Oper} {a : Act} {w : World} {Kt : Act → World → Prop} {Q : Exit → Act → World → Prop}
theorem d_addr (x0 x1 x2 x3 x4 : Operand) (m0 m1 m2 m3 m4 : Int) (ho : o.op = .build 33 #[(0, x0), (1, x1), (2, x2), (3, x3), (4, x4)]) (h0 : a.eval x0 = .int .i64 m0) (h1 : a.eval x1 = .int .i64 m1) (h2 : a.eval x2 = .int .i64 m2) (h3 : a.eval x3 = .int .i64 m3) (h4 : a.eval x4 = .int .i64 m4)
    (hK : Kt (a.put o.dst (.agg #[.int .i64 m0, .int .i64 m1, .int .i64 m2, .int .i64 m3, .int .i64 m4])) w) : o.wp Try.prog a w Kt Q := by
  unfold Oper.wp execOp
  simp only [ho, List.map_toArray, List.map_cons, List.map_nil, h0, h1, h2, h3, h4]
  go_simp
  exact hK
theorem d_store_addr (x y : Operand) (r : Nat) (m0 m1 m2 m3 m4 : Int) (a0 a1 a2 a3 a4 : Value) (ho : o.op = .store 33 x y) (hx : a.eval x = .pointer (some ⟨r, 0, none⟩)) (hy : a.eval y = .agg #[.int .i64 m0, .int .i64 m1, .int .i64 m2, .int .i64 m3, .int .i64 m4]) (hr : w.heap[r]? = some (.cells #[a0, a1, a2, a3, a4] 33 (0, 0)))
    (hK : Kt (a.put o.dst undef) (((((w.setCell ⟨r, 0, none⟩ (.int .i64 m0)).setCell ⟨r, 1, none⟩ (.int .i64 m1)).setCell ⟨r, 2, none⟩ (.int .i64 m2)).setCell ⟨r, 3, none⟩ (.int .i64 m3)).setCell ⟨r, 4, none⟩ (.int .i64 m4))) : o.wp Try.prog a w Kt Q := by
  obtain ⟨⟨c0, c1, c2, c3, c4⟩, f0, f1, f2, f3, f4⟩ := K.row5 hr
  clear hr
  unfold Oper.wp execOp
  simp only [ho, hx, hy]
  go_simp
  exact hK
end

def avsA (x1 : Int) (y2 : Nat) (v2 : Int) (x3 : Int) (x4 : Int) (x5 : Int) (x6 : Int) (x7 : Int) (y8 : Nat) (v8 : Int) : List K.Dv := [.cur, .int x1, .row [(536939960 : Int), (4261412864 : Int), x1], .cur, .int (y2 : Int), .cellp v2, .int v2, .cur, .int x3, .cur, .int x4, .cur, .int x5, .int (IntKind.i64.wrap (x4 * x5)), .int (IntKind.i64.wrap ((IntKind.i64.wrap (x4 * x5)) * (200 : Int))), .cur, .int x6, .cur, .int x7, .int (IntKind.i64.wrap ((4294967295 : Int) - x7)), .row [x6, (IntKind.i64.wrap ((4294967295 : Int) - x7))], .cur, .int (y8 : Int), .cellp v8, .int v8, .val (.agg #[.int .i64 (6 : Int), .int .i64 v2, .int .i64 x3, .int .i64 (IntKind.i64.wrap ((IntKind.i64.wrap (x4 * x5)) * (200 : Int))), .int .i64 v8]), .any]

set_option maxRecDepth 100000 in
set_option maxHeartbeats 4000000 in
theorem addr6E (bs : List UInt8) (t s : Nat) (ht : t ≤ 900000000000) :
    ∃ (x1 x2 x3 x4 : Int) (s' : Nat), ∀ (w : World) (g : Nat) (A : Option Addr) (c : Nat), CurS w g A c bs t s → Calls Try.prog 109 #[.pointer (some ⟨g, 0, none⟩), .int .i64 6] w (GivesA w g A c bs (t + 3 + 1 + 1 + 1 + 3 + 1 + 1 + 1) s' (.agg #[.int .i64 6, .int .i64 x1, .int .i64 x2, .int .i64 x3, .int .i64 x4])) := by
  obtain ⟨x1, s1, lo1, up1, hd1⟩ := wideE bs (t) s 16777216 (by omega) (by omega) (by omega)
  have H1 := Lib.hid hd1
  clear hd1
  obtain ⟨x2, s2, lo2, up2, hd2⟩ := pickE bs (t + 3) s1 3 (by omega) (by omega) (by omega)
  have H2 := Lib.hid hd2
  clear hd2
  obtain ⟨y2, rfl⟩ : ∃ k : Nat, x2 = k := ⟨x2.toNat, by omega⟩
  obtain ⟨v2, hv2⟩ : ∃ z, ([(536939960 : Int), (4261412864 : Int), x1] : List Int)[y2]? = some z := ⟨_, List.getElem?_eq_getElem (by simp; omega)⟩
  have Hv2 := Lib.hid hv2
  clear hv2
  obtain ⟨x3, s3, lo3, up3, hd3⟩ := pickE bs (t + 3 + 1) s2 2 (by omega) (by omega) (by omega)
  have H3 := Lib.hid hd3
  clear hd3
  obtain ⟨x4, s4, lo4, up4, hd4⟩ := pickE bs (t + 3 + 1 + 1) s3 3 (by omega) (by omega) (by omega)
  have H4 := Lib.hid hd4
  clear hd4
  obtain ⟨x5, s5, lo5, up5, hd5⟩ := wideE bs (t + 3 + 1 + 1 + 1) s4 16777216 (by omega) (by omega) (by omega)
  have H5 := Lib.hid hd5
  clear hd5
  obtain ⟨x6, s6, lo6, up6, hd6⟩ := pickE bs (t + 3 + 1 + 1 + 1 + 3) s5 8 (by omega) (by omega) (by omega)
  have H6 := Lib.hid hd6
  clear hd6
  obtain ⟨x7, s7, lo7, up7, hd7⟩ := pickE bs (t + 3 + 1 + 1 + 1 + 3 + 1) s6 3 (by omega) (by omega) (by omega)
  have H7 := Lib.hid hd7
  clear hd7
  obtain ⟨x8, s8, lo8, up8, hd8⟩ := pickE bs (t + 3 + 1 + 1 + 1 + 3 + 1 + 1) s7 2 (by omega) (by omega) (by omega)
  have H8 := Lib.hid hd8
  clear hd8
  obtain ⟨y8, rfl⟩ : ∃ k : Nat, x8 = k := ⟨x8.toNat, by omega⟩
  obtain ⟨v8, hv8⟩ : ∃ z, ([x6, (IntKind.i64.wrap ((4294967295 : Int) - x7))] : List Int)[y8]? = some z := ⟨_, List.getElem?_eq_getElem (by simp; omega)⟩
  have Hv8 := Lib.hid hv8
  clear hv8
  refine ⟨v2, x3, (IntKind.i64.wrap ((IntKind.i64.wrap (x4 * x5)) * (200 : Int))), v8, s8, fun w g A c hc => ?_⟩
  have hgw := hc.lt
  obtain ⟨r, hr⟩ : ∃ r, w.heap.size = r := ⟨_, rfl⟩
  have hrg : g < r := by omega
  have hrW : w.heap.size ≤ r := by omega
  obtain ⟨I, hI⟩ : ∃ I : Nat → World → Prop, I = fun m v => CurS v g A c bs ([t, t + 3, t + 3 + 1, t + 3 + 1 + 1, t + 3 + 1 + 1 + 1, t + 3 + 1 + 1 + 1 + 3, t + 3 + 1 + 1 + 1 + 3 + 1, t + 3 + 1 + 1 + 1 + 3 + 1 + 1, t + 3 + 1 + 1 + 1 + 3 + 1 + 1 + 1, t + 3 + 1 + 1 + 1 + 3 + 1 + 1 + 1].getD m 0) ([s, s1, s2, s3, s4, s5, s6, s7, s8, s8].getD m 0) ∧ v.heap[r]? = some ([.cells #[.int .i64 0, .int .i64 0, .int .i64 0, .int .i64 0, .int .i64 0] 33, .cells #[.int .i64 0, .int .i64 0, .int .i64 0, .int .i64 0, .int .i64 0] 33, .cells #[.int .i64 0, .int .i64 0, .int .i64 0, .int .i64 0, .int .i64 0] 33, .cells #[.int .i64 0, .int .i64 0, .int .i64 0, .int .i64 0, .int .i64 0] 33, .cells #[.int .i64 0, .int .i64 0, .int .i64 0, .int .i64 0, .int .i64 0] 33, .cells #[.int .i64 0, .int .i64 0, .int .i64 0, .int .i64 0, .int .i64 0] 33, .cells #[.int .i64 0, .int .i64 0, .int .i64 0, .int .i64 0, .int .i64 0] 33, .cells #[.int .i64 0, .int .i64 0, .int .i64 0, .int .i64 0, .int .i64 0] 33, .cells #[.int .i64 0, .int .i64 0, .int .i64 0, .int .i64 0, .int .i64 0] 33, .cells #[.int .i64 (6 : Int), .int .i64 v2, .int .i64 x3, .int .i64 (IntKind.i64.wrap ((IntKind.i64.wrap (x4 * x5)) * (200 : Int))), .int .i64 v8] 33].getD m (.cells #[] 0)) ∧ w.grownBy v (some g) := ⟨_, rfl⟩
  have I0 : Hid (I 0 (w.alloc (.cells #[.int .i64 0, .int .i64 0, .int .i64 0, .int .i64 0, .int .i64 0] 33)).drew) := Lib.hid (by
    rw [hI]
    have h1 : CurS (w.alloc (.cells #[.int .i64 0, .int .i64 0, .int .i64 0, .int .i64 0, .int .i64 0] 33)) g A c bs t s := hc.below (Joins.below_alloc1 w _)
    refine ⟨h1.drewN 1, ?_, ⟨rfl, rfl, rfl, by simp, fun i hi _ => Below.heap_alloc w _ i hi⟩⟩
    rw [← hr]
    exact K.new w _)
  have IU := Lib.hid (show ∀ m v, I m v → CurS v g A c bs ([t, t + 3, t + 3 + 1, t + 3 + 1 + 1, t + 3 + 1 + 1 + 1, t + 3 + 1 + 1 + 1 + 3, t + 3 + 1 + 1 + 1 + 3 + 1, t + 3 + 1 + 1 + 1 + 3 + 1 + 1, t + 3 + 1 + 1 + 1 + 3 + 1 + 1 + 1, t + 3 + 1 + 1 + 1 + 3 + 1 + 1 + 1].getD m 0) ([s, s1, s2, s3, s4, s5, s6, s7, s8, s8].getD m 0) ∧ v.heap[r]? = some ([.cells #[.int .i64 0, .int .i64 0, .int .i64 0, .int .i64 0, .int .i64 0] 33, .cells #[.int .i64 0, .int .i64 0, .int .i64 0, .int .i64 0, .int .i64 0] 33, .cells #[.int .i64 0, .int .i64 0, .int .i64 0, .int .i64 0, .int .i64 0] 33, .cells #[.int .i64 0, .int .i64 0, .int .i64 0, .int .i64 0, .int .i64 0] 33, .cells #[.int .i64 0, .int .i64 0, .int .i64 0, .int .i64 0, .int .i64 0] 33, .cells #[.int .i64 0, .int .i64 0, .int .i64 0, .int .i64 0, .int .i64 0] 33, .cells #[.int .i64 0, .int .i64 0, .int .i64 0, .int .i64 0, .int .i64 0] 33, .cells #[.int .i64 0, .int .i64 0, .int .i64 0, .int .i64 0, .int .i64 0] 33, .cells #[.int .i64 0, .int .i64 0, .int .i64 0, .int .i64 0, .int .i64 0] 33, .cells #[.int .i64 (6 : Int), .int .i64 v2, .int .i64 x3, .int .i64 (IntKind.i64.wrap ((IntKind.i64.wrap (x4 * x5)) * (200 : Int))), .int .i64 v8] 33].getD m (.cells #[] 0)) ∧ w.grownBy v (some g) by rw [hI]; exact fun _ _ h => h)
  have IV := Lib.hid (show ∀ m v, CurS v g A c bs ([t, t + 3, t + 3 + 1, t + 3 + 1 + 1, t + 3 + 1 + 1 + 1, t + 3 + 1 + 1 + 1 + 3, t + 3 + 1 + 1 + 1 + 3 + 1, t + 3 + 1 + 1 + 1 + 3 + 1 + 1, t + 3 + 1 + 1 + 1 + 3 + 1 + 1 + 1, t + 3 + 1 + 1 + 1 + 3 + 1 + 1 + 1].getD m 0) ([s, s1, s2, s3, s4, s5, s6, s7, s8, s8].getD m 0) ∧ v.heap[r]? = some ([.cells #[.int .i64 0, .int .i64 0, .int .i64 0, .int .i64 0, .int .i64 0] 33, .cells #[.int .i64 0, .int .i64 0, .int .i64 0, .int .i64 0, .int .i64 0] 33, .cells #[.int .i64 0, .int .i64 0, .int .i64 0, .int .i64 0, .int .i64 0] 33, .cells #[.int .i64 0, .int .i64 0, .int .i64 0, .int .i64 0, .int .i64 0] 33, .cells #[.int .i64 0, .int .i64 0, .int .i64 0, .int .i64 0, .int .i64 0] 33, .cells #[.int .i64 0, .int .i64 0, .int .i64 0, .int .i64 0, .int .i64 0] 33, .cells #[.int .i64 0, .int .i64 0, .int .i64 0, .int .i64 0, .int .i64 0] 33, .cells #[.int .i64 0, .int .i64 0, .int .i64 0, .int .i64 0, .int .i64 0] 33, .cells #[.int .i64 0, .int .i64 0, .int .i64 0, .int .i64 0, .int .i64 0] 33, .cells #[.int .i64 (6 : Int), .int .i64 v2, .int .i64 x3, .int .i64 (IntKind.i64.wrap ((IntKind.i64.wrap (x4 * x5)) * (200 : Int))), .int .i64 v8] 33].getD m (.cells #[] 0)) ∧ w.grownBy v (some g) → I m v by rw [hI]; exact fun _ _ h => h)
  clear hgw hI
  go_enter Try.func109, Try.ntmps109
  go_wp2
  refine wp_region_chain (by kernel_rfl) (fun j => K.gam g r ((avsA x1 y2 v2 x3 x4 x5 x6 x7 y8 v8).getD j .any)) [0, 4] [1, 4, 8, 10, 12, 16, 18, 22, 26] I (K.Turned g r) 58 (by kernel_rfl) (by kernel_rfl) rfl I0.out (fun j v v' u h hu => K.gam_on h _ u hu) ?_ ?_
  · intro j o ho m a' v Kt hx hn hm hI hK
    have hp0 : (.pointer (some ⟨g, 0, none⟩) : Value) = .pointer (some ⟨g, 0, none⟩) := rfl
    have hp2 : (.pointer (some ⟨r, 0, none⟩) : Value) = .pointer (some ⟨r, 0, none⟩) := rfl
    match j, ho with
    | 0, ho =>
      obtain rfl := Option.some.inj ho
      exact K.d_move 0 _ rfl (K.outer hx 0 rfl hp0) (hK _ _ rfl (K.Turned.refl _ _ _) (K.stay (by rfl) hI))
    | 1, ho =>
      obtain rfl := Option.some.inj ho
      obtain rfl : 0 = m := hm 0 rfl
      have hJ := IU.out _ _ hI
      have e1 : a'.eval (.tmp 32) = .pointer (some ⟨g, 0, none⟩) := (K.need (Γ := fun j => K.gam g r ((avsA x1 y2 v2 x3 x4 x5 x6 x7 y8 v8).getD j .any)) hn 0 32 (by kernel_rfl) :)
      refine K.d_wide 32 _ _ g rfl e1 ((H1.out v g A c hJ.1).mono ?_)
      rintro e v' ⟨rfl, hc2, hg2⟩
      exact ⟨_, rfl, hK _ _ rfl (K.Turned.of_grown hg2) (K.go_on (by rfl) (IV.out _ _ ⟨hc2, K.kept hg2 hJ.2.1 (fun k hk => by cases hk; omega), grownBy_trans hJ.2.2 hg2⟩))⟩
    | 2, ho =>
      obtain rfl := Option.some.inj ho
      have e2 : a'.eval (.tmp 33) = .int .i64 x1 := (K.need (Γ := fun j => K.gam g r ((avsA x1 y2 v2 x3 x4 x5 x6 x7 y8 v8).getD j .any)) hn 1 33 (by kernel_rfl) :)
      have hJ := IU.out _ _ hI
      have hgs : g < v.heap.size := hJ.1.lt
      have hrs : r < v.heap.size := K.lt hJ.2.1
      exact K.d_row3 _ _ _ (536939960 : Int) (4261412864 : Int) x1 rfl rfl rfl e2 (hK _ _ ⟨v.heap.size, rfl, by omega, by omega, fun j x hx => K.row_cells v [(536939960 : Int), (4261412864 : Int), x1] _ rfl _ j x hx⟩ (K.Turned.alloc _ _ _ _) (K.stay (by rfl) (IV.out _ _ ⟨hJ.1.below (Joins.below_alloc1 v _), K.old hJ.2.1 _, only_new hJ.2.2 _⟩)))
    | 3, ho =>
      obtain rfl := Option.some.inj ho
      exact K.d_move 0 _ rfl (K.outer hx 0 rfl hp0) (hK _ _ rfl (K.Turned.refl _ _ _) (K.stay (by rfl) hI))
    | 4, ho =>
      obtain rfl := Option.some.inj ho
      obtain rfl : 1 = m := hm 1 rfl
      have hJ := IU.out _ _ hI
      have e1 : a'.eval (.tmp 35) = .pointer (some ⟨g, 0, none⟩) := (K.need (Γ := fun j => K.gam g r ((avsA x1 y2 v2 x3 x4 x5 x6 x7 y8 v8).getD j .any)) hn 3 35 (by kernel_rfl) :)
      refine K.d_pick 35 _ _ g rfl e1 ((H2.out v g A c hJ.1).mono ?_)
      rintro e v' ⟨rfl, hc2, hg2⟩
      exact ⟨_, rfl, hK _ _ rfl (K.Turned.of_grown hg2) (K.go_on (by rfl) (IV.out _ _ ⟨hc2, K.kept hg2 hJ.2.1 (fun k hk => by cases hk; omega), grownBy_trans hJ.2.2 hg2⟩))⟩
    | 5, ho =>
      obtain rfl := Option.some.inj ho
      obtain ⟨b, e1, hb1, hb2, hcs⟩ : ∃ b, a'.eval (.tmp 34) = .slice (some ⟨b, 0, none⟩) 3 3 ∧ b ≠ g ∧ b ≠ r ∧ ∀ j x, ([(536939960 : Int), (4261412864 : Int), x1] : List Int)[j]? = some x → v.cell? ⟨b, j, none⟩ = some (.int .i64 x) := (K.need (Γ := fun j => K.gam g r ((avsA x1 y2 v2 x3 x4 x5 x6 x7 y8 v8).getD j .any)) hn 2 34 (by kernel_rfl) :)
      have e2 : a'.eval (.tmp 36) = .int .i64 (y2 : Int) := (K.need (Γ := fun j => K.gam g r ((avsA x1 y2 v2 x3 x4 x5 x6 x7 y8 v8).getD j .any)) hn 4 36 (by kernel_rfl) :)
      exact K.d_idx 34 36 b 3 y2 rfl e1 e2 (by omega) (hK _ _ ⟨b, y2, rfl, hb1, hb2, hcs _ _ Hv2.out⟩ (K.Turned.refl _ _ _) (K.stay (by rfl) hI))
    | 6, ho =>
      obtain rfl := Option.some.inj ho
      obtain ⟨b, q, e1, hb1, hb2, hx2⟩ : ∃ b q, a'.eval (.tmp 37) = .pointer (some ⟨b, q, none⟩) ∧ b ≠ g ∧ b ≠ r ∧ v.cell? ⟨b, q, none⟩ = some (.int .i64 v2) := (K.need (Γ := fun j => K.gam g r ((avsA x1 y2 v2 x3 x4 x5 x6 x7 y8 v8).getD j .any)) hn 5 37 (by kernel_rfl) :)
      exact K.d_load 37 b q _ rfl e1 hx2 (hK _ _ rfl (K.Turned.refl _ _ _) (K.stay (by rfl) hI))
    | 7, ho =>
      obtain rfl := Option.some.inj ho
      exact K.d_move 0 _ rfl (K.outer hx 0 rfl hp0) (hK _ _ rfl (K.Turned.refl _ _ _) (K.stay (by rfl) hI))
    | 8, ho =>
      obtain rfl := Option.some.inj ho
      obtain rfl : 2 = m := hm 2 rfl
      have hJ := IU.out _ _ hI
      have e1 : a'.eval (.tmp 39) = .pointer (some ⟨g, 0, none⟩) := (K.need (Γ := fun j => K.gam g r ((avsA x1 y2 v2 x3 x4 x5 x6 x7 y8 v8).getD j .any)) hn 7 39 (by kernel_rfl) :)
      refine K.d_pick 39 _ _ g rfl e1 ((H3.out v g A c hJ.1).mono ?_)
      rintro e v' ⟨rfl, hc2, hg2⟩
      exact ⟨_, rfl, hK _ _ rfl (K.Turned.of_grown hg2) (K.go_on (by rfl) (IV.out _ _ ⟨hc2, K.kept hg2 hJ.2.1 (fun k hk => by cases hk; omega), grownBy_trans hJ.2.2 hg2⟩))⟩
    | 9, ho =>
      obtain rfl := Option.some.inj ho
      exact K.d_move 0 _ rfl (K.outer hx 0 rfl hp0) (hK _ _ rfl (K.Turned.refl _ _ _) (K.stay (by rfl) hI))
    | 10, ho =>
      obtain rfl := Option.some.inj ho
      obtain rfl : 3 = m := hm 3 rfl
      have hJ := IU.out _ _ hI
      have e1 : a'.eval (.tmp 41) = .pointer (some ⟨g, 0, none⟩) := (K.need (Γ := fun j => K.gam g r ((avsA x1 y2 v2 x3 x4 x5 x6 x7 y8 v8).getD j .any)) hn 9 41 (by kernel_rfl) :)
      refine K.d_pick 41 _ _ g rfl e1 ((H4.out v g A c hJ.1).mono ?_)
      rintro e v' ⟨rfl, hc2, hg2⟩
      exact ⟨_, rfl, hK _ _ rfl (K.Turned.of_grown hg2) (K.go_on (by rfl) (IV.out _ _ ⟨hc2, K.kept hg2 hJ.2.1 (fun k hk => by cases hk; omega), grownBy_trans hJ.2.2 hg2⟩))⟩
    | 11, ho =>
      obtain rfl := Option.some.inj ho
      exact K.d_move 0 _ rfl (K.outer hx 0 rfl hp0) (hK _ _ rfl (K.Turned.refl _ _ _) (K.stay (by rfl) hI))
    | 12, ho =>
      obtain rfl := Option.some.inj ho
      obtain rfl : 4 = m := hm 4 rfl
      have hJ := IU.out _ _ hI
      have e1 : a'.eval (.tmp 43) = .pointer (some ⟨g, 0, none⟩) := (K.need (Γ := fun j => K.gam g r ((avsA x1 y2 v2 x3 x4 x5 x6 x7 y8 v8).getD j .any)) hn 11 43 (by kernel_rfl) :)
      refine K.d_wide 43 _ _ g rfl e1 ((H5.out v g A c hJ.1).mono ?_)
      rintro e v' ⟨rfl, hc2, hg2⟩
      exact ⟨_, rfl, hK _ _ rfl (K.Turned.of_grown hg2) (K.go_on (by rfl) (IV.out _ _ ⟨hc2, K.kept hg2 hJ.2.1 (fun k hk => by cases hk; omega), grownBy_trans hJ.2.2 hg2⟩))⟩
    | 13, ho =>
      obtain rfl := Option.some.inj ho
      have e0 : a'.eval (.tmp 42) = .int .i64 x4 := (K.need (Γ := fun j => K.gam g r ((avsA x1 y2 v2 x3 x4 x5 x6 x7 y8 v8).getD j .any)) hn 10 42 (by kernel_rfl) :)
      have e1 : a'.eval (.tmp 44) = .int .i64 x5 := (K.need (Γ := fun j => K.gam g r ((avsA x1 y2 v2 x3 x4 x5 x6 x7 y8 v8).getD j .any)) hn 12 44 (by kernel_rfl) :)
      exact K.d_mul _ _ x4 x5 rfl e0 e1 (hK _ _ rfl (K.Turned.refl _ _ _) (K.stay (by rfl) hI))
    | 14, ho =>
      obtain rfl := Option.some.inj ho
      have e0 : a'.eval (.tmp 45) = .int .i64 (IntKind.i64.wrap (x4 * x5)) := (K.need (Γ := fun j => K.gam g r ((avsA x1 y2 v2 x3 x4 x5 x6 x7 y8 v8).getD j .any)) hn 13 45 (by kernel_rfl) :)
      exact K.d_mul _ _ (IntKind.i64.wrap (x4 * x5)) (200 : Int) rfl e0 rfl (hK _ _ rfl (K.Turned.refl _ _ _) (K.stay (by rfl) hI))
    | 15, ho =>
      obtain rfl := Option.some.inj ho
      exact K.d_move 0 _ rfl (K.outer hx 0 rfl hp0) (hK _ _ rfl (K.Turned.refl _ _ _) (K.stay (by rfl) hI))
    | 16, ho =>
      obtain rfl := Option.some.inj ho
      obtain rfl : 5 = m := hm 5 rfl
      have hJ := IU.out _ _ hI
      have e1 : a'.eval (.tmp 47) = .pointer (some ⟨g, 0, none⟩) := (K.need (Γ := fun j => K.gam g r ((avsA x1 y2 v2 x3 x4 x5 x6 x7 y8 v8).getD j .any)) hn 15 47 (by kernel_rfl) :)
      refine K.d_pick 47 _ _ g rfl e1 ((H6.out v g A c hJ.1).mono ?_)
      rintro e v' ⟨rfl, hc2, hg2⟩
      exact ⟨_, rfl, hK _ _ rfl (K.Turned.of_grown hg2) (K.go_on (by rfl) (IV.out _ _ ⟨hc2, K.kept hg2 hJ.2.1 (fun k hk => by cases hk; omega), grownBy_trans hJ.2.2 hg2⟩))⟩
    | 17, ho =>
      obtain rfl := Option.some.inj ho
      exact K.d_move 0 _ rfl (K.outer hx 0 rfl hp0) (hK _ _ rfl (K.Turned.refl _ _ _) (K.stay (by rfl) hI))
    | 18, ho =>
      obtain rfl := Option.some.inj ho
      obtain rfl : 6 = m := hm 6 rfl
      have hJ := IU.out _ _ hI
      have e1 : a'.eval (.tmp 49) = .pointer (some ⟨g, 0, none⟩) := (K.need (Γ := fun j => K.gam g r ((avsA x1 y2 v2 x3 x4 x5 x6 x7 y8 v8).getD j .any)) hn 17 49 (by kernel_rfl) :)
      refine K.d_pick 49 _ _ g rfl e1 ((H7.out v g A c hJ.1).mono ?_)
      rintro e v' ⟨rfl, hc2, hg2⟩
      exact ⟨_, rfl, hK _ _ rfl (K.Turned.of_grown hg2) (K.go_on (by rfl) (IV.out _ _ ⟨hc2, K.kept hg2 hJ.2.1 (fun k hk => by cases hk; omega), grownBy_trans hJ.2.2 hg2⟩))⟩
    | 19, ho =>
      obtain rfl := Option.some.inj ho
      have e1 : a'.eval (.tmp 50) = .int .i64 x7 := (K.need (Γ := fun j => K.gam g r ((avsA x1 y2 v2 x3 x4 x5 x6 x7 y8 v8).getD j .any)) hn 18 50 (by kernel_rfl) :)
      exact K.d_sub _ _ (4294967295 : Int) x7 rfl rfl e1 (hK _ _ rfl (K.Turned.refl _ _ _) (K.stay (by rfl) hI))
    | 20, ho =>
      obtain rfl := Option.some.inj ho
      have e0 : a'.eval (.tmp 48) = .int .i64 x6 := (K.need (Γ := fun j => K.gam g r ((avsA x1 y2 v2 x3 x4 x5 x6 x7 y8 v8).getD j .any)) hn 16 48 (by kernel_rfl) :)
      have e1 : a'.eval (.tmp 51) = .int .i64 (IntKind.i64.wrap ((4294967295 : Int) - x7)) := (K.need (Γ := fun j => K.gam g r ((avsA x1 y2 v2 x3 x4 x5 x6 x7 y8 v8).getD j .any)) hn 19 51 (by kernel_rfl) :)
      have hJ := IU.out _ _ hI
      have hgs : g < v.heap.size := hJ.1.lt
      have hrs : r < v.heap.size := K.lt hJ.2.1
      exact K.d_row2 _ _ x6 (IntKind.i64.wrap ((4294967295 : Int) - x7)) rfl e0 e1 (hK _ _ ⟨v.heap.size, rfl, by omega, by omega, fun j x hx => K.row_cells v [x6, (IntKind.i64.wrap ((4294967295 : Int) - x7))] _ rfl _ j x hx⟩ (K.Turned.alloc _ _ _ _) (K.stay (by rfl) (IV.out _ _ ⟨hJ.1.below (Joins.below_alloc1 v _), K.old hJ.2.1 _, only_new hJ.2.2 _⟩)))
    | 21, ho =>
      obtain rfl := Option.some.inj ho
      exact K.d_move 0 _ rfl (K.outer hx 0 rfl hp0) (hK _ _ rfl (K.Turned.refl _ _ _) (K.stay (by rfl) hI))
    | 22, ho =>
      obtain rfl := Option.some.inj ho
      obtain rfl : 7 = m := hm 7 rfl
      have hJ := IU.out _ _ hI
      have e1 : a'.eval (.tmp 53) = .pointer (some ⟨g, 0, none⟩) := (K.need (Γ := fun j => K.gam g r ((avsA x1 y2 v2 x3 x4 x5 x6 x7 y8 v8).getD j .any)) hn 21 53 (by kernel_rfl) :)
      refine K.d_pick 53 _ _ g rfl e1 ((H8.out v g A c hJ.1).mono ?_)
      rintro e v' ⟨rfl, hc2, hg2⟩
      exact ⟨_, rfl, hK _ _ rfl (K.Turned.of_grown hg2) (K.go_on (by rfl) (IV.out _ _ ⟨hc2, K.kept hg2 hJ.2.1 (fun k hk => by cases hk; omega), grownBy_trans hJ.2.2 hg2⟩))⟩
    | 23, ho =>
      obtain rfl := Option.some.inj ho
      obtain ⟨b, e1, hb1, hb2, hcs⟩ : ∃ b, a'.eval (.tmp 52) = .slice (some ⟨b, 0, none⟩) 2 2 ∧ b ≠ g ∧ b ≠ r ∧ ∀ j x, ([x6, (IntKind.i64.wrap ((4294967295 : Int) - x7))] : List Int)[j]? = some x → v.cell? ⟨b, j, none⟩ = some (.int .i64 x) := (K.need (Γ := fun j => K.gam g r ((avsA x1 y2 v2 x3 x4 x5 x6 x7 y8 v8).getD j .any)) hn 20 52 (by kernel_rfl) :)
      have e2 : a'.eval (.tmp 54) = .int .i64 (y8 : Int) := (K.need (Γ := fun j => K.gam g r ((avsA x1 y2 v2 x3 x4 x5 x6 x7 y8 v8).getD j .any)) hn 22 54 (by kernel_rfl) :)
      exact K.d_idx 52 54 b 2 y8 rfl e1 e2 (by omega) (hK _ _ ⟨b, y8, rfl, hb1, hb2, hcs _ _ Hv8.out⟩ (K.Turned.refl _ _ _) (K.stay (by rfl) hI))
    | 24, ho =>
      obtain rfl := Option.some.inj ho
      obtain ⟨b, q, e1, hb1, hb2, hx2⟩ : ∃ b q, a'.eval (.tmp 55) = .pointer (some ⟨b, q, none⟩) ∧ b ≠ g ∧ b ≠ r ∧ v.cell? ⟨b, q, none⟩ = some (.int .i64 v8) := (K.need (Γ := fun j => K.gam g r ((avsA x1 y2 v2 x3 x4 x5 x6 x7 y8 v8).getD j .any)) hn 23 55 (by kernel_rfl) :)
      exact K.d_load 55 b q _ rfl e1 hx2 (hK _ _ rfl (K.Turned.refl _ _ _) (K.stay (by rfl) hI))
    | 25, ho =>
      obtain rfl := Option.some.inj ho
      have e1 : a'.eval (.tmp 38) = .int .i64 v2 := (K.need (Γ := fun j => K.gam g r ((avsA x1 y2 v2 x3 x4 x5 x6 x7 y8 v8).getD j .any)) hn 6 38 (by kernel_rfl) :)
      have e2 : a'.eval (.tmp 40) = .int .i64 x3 := (K.need (Γ := fun j => K.gam g r ((avsA x1 y2 v2 x3 x4 x5 x6 x7 y8 v8).getD j .any)) hn 8 40 (by kernel_rfl) :)
      have e3 : a'.eval (.tmp 46) = .int .i64 (IntKind.i64.wrap ((IntKind.i64.wrap (x4 * x5)) * (200 : Int))) := (K.need (Γ := fun j => K.gam g r ((avsA x1 y2 v2 x3 x4 x5 x6 x7 y8 v8).getD j .any)) hn 14 46 (by kernel_rfl) :)
      have e4 : a'.eval (.tmp 56) = .int .i64 v8 := (K.need (Γ := fun j => K.gam g r ((avsA x1 y2 v2 x3 x4 x5 x6 x7 y8 v8).getD j .any)) hn 24 56 (by kernel_rfl) :)
      exact d_addr _ _ _ _ _ (6 : Int) v2 x3 (IntKind.i64.wrap ((IntKind.i64.wrap (x4 * x5)) * (200 : Int))) v8 rfl rfl e1 e2 e3 e4 (hK _ _ rfl (K.Turned.refl _ _ _) (K.stay (by rfl) hI))
    | 26, ho =>
      obtain rfl := Option.some.inj ho
      obtain rfl : 8 = m := hm 8 rfl
      have hJ := IU.out _ _ hI
      have e1 : a'.eval (.tmp 57) = .agg #[.int .i64 (6 : Int), .int .i64 v2, .int .i64 x3, .int .i64 (IntKind.i64.wrap ((IntKind.i64.wrap (x4 * x5)) * (200 : Int))), .int .i64 v8] := (K.need (Γ := fun j => K.gam g r ((avsA x1 y2 v2 x3 x4 x5 x6 x7 y8 v8).getD j .any)) hn 25 57 (by kernel_rfl) :)
      exact d_store_addr _ _ r (6 : Int) v2 x3 (IntKind.i64.wrap ((IntKind.i64.wrap (x4 * x5)) * (200 : Int))) v8 _ _ _ _ _ rfl (K.outer hx 4 rfl hp2) e1 hJ.2.1 (hK undef _ trivial ((((((K.Turned.refl g r v).set 0 _).set 1 _).set 2 _).set 3 _).set 4 _) (K.go_on (by rfl) (IV.out _ _ ⟨curS_set5 hJ.1 hrg, K.set5 _ _ _ _ _ hJ.2.1, grown_set5 hJ.2.2 hrW⟩)))
    | j + 27, ho => simp at ho
  · intro a' w' hsz hdf hout hkp hsl hI
    clear hkp hsl
    rename_i Kt hret
    obtain ⟨hc', hrow, hg'⟩ := IU.out _ _ hI
    refine hret _ _ ?_
    have hs2 : a'.tmps.getD 4 undef = .pointer (some ⟨r, 0, none⟩) := hout 4 (by simp)
    clear hsz hout
    go_wp2
    (try simp only [Exit.inBlock, Exit.then])
    refine bodyPost_ret (v := .agg #[.int .i64 (6 : Int), .int .i64 v2, .int .i64 x3, .int .i64 (IntKind.i64.wrap ((IntKind.i64.wrap (x4 * x5)) * (200 : Int))), .int .i64 v8]) ?_ hdf ⟨rfl, hc', hg'⟩
    exact K.resCell Try.results109 _ _ _ r _ hs2 (run_loadVar_row _ _ 33 33 _ (0, 0) _ hrow Try.underlying33 rfl info_addrE)
end Go.Proofs.Ytegpaocoepcemaa
