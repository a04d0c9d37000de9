/-
  The model's draws of frames, number by number.
-/
import Derived.Test.YtaemonjiejgciaaRegD
import Derived.Test.YtaemonjiejgciaaEth
import Derived.Test.YtaemonjiejgciaaEthBytesI
namespace Go.Proofs.Ytaemonjiejgciaa
open Go.RowKit

theorem K.stay {I : Nat → World → Prop} {ch : List Nat} {j m : Nat} {w : World} (h : ch.contains j = false) (hI : I m w) : I (nextOf ch j m) w := by
  unfold nextOf
  rw [if_neg (by rw [h]; decide)]
  exact hI
theorem K.go_on {I : Nat → World → Prop} {ch : List Nat} {j m : Nat} {w : World} (h : ch.contains j = true) (hI : I (m + 1) w) : I (nextOf ch j m) w := by
  unfold nextOf
  rw [if_pos h]
  exact hI
theorem curS_set5 {w : World} {g r : Nat} {A : Option Addr} {c : Nat} {bs : List UInt8} {t s : Nat} {v0 v1 v2 v3 v4 : Value} (h : CurS w g A c bs t s) (hr : g < r) : CurS (((((w.setCell ⟨r, 0, none⟩ v0).setCell ⟨r, 1, none⟩ v1).setCell ⟨r, 2, none⟩ v2).setCell ⟨r, 3, none⟩ v3).setCell ⟨r, 4, none⟩ v4) g A c bs t s := by
  have st := fun (a : World) (h : CurS a g A c bs t s) (i : Nat) (v : Value) => h.grownBy (grownBy_set a r i v) (fun u hu => by cases hu; exact hr)
  exact st _ (st _ (st _ (st _ (st _ h 0 v0) 1 v1) 2 v2) 3 v3) 4 v4
theorem grown_set5 {W w : World} {g r : Nat} {v0 v1 v2 v3 v4 : Value} (h : W.grownBy w (some g)) (hr : W.heap.size ≤ r) : W.grownBy (((((w.setCell ⟨r, 0, none⟩ v0).setCell ⟨r, 1, none⟩ v1).setCell ⟨r, 2, none⟩ v2).setCell ⟨r, 3, none⟩ v3).setCell ⟨r, 4, none⟩ v4) (some g) := by
  have st := fun (a : World) (h : W.grownBy a (some g)) (i : Nat) (v : Value) => grown_other h (grownBy_set a r i v) (fun u hu => by cases hu; exact hr)
  exact st _ (st _ (st _ (st _ (st _ h 0 v0) 1 v1) 2 v2) 3 v3) 4 v4

section
variable {o : Oper} {a : Act} {w : World} {Kt : Act → World → Prop} {Q : Exit → Act → World → Prop}

theorem d_eth (x0 x1 x2 x3 : Operand) (m0 m1 m2 m3 : Int) (ho : o.op = .build 27 #[(0, x0), (1, x1), (2, x2), (3, x3)]) (h0 : a.eval x0 = .int .i64 m0) (h1 : a.eval x1 = .int .i64 m1) (h2 : a.eval x2 = .int .i64 m2) (h3 : a.eval x3 = .int .i64 m3)
    (hK : Kt (a.put o.dst (.agg #[.int .i64 m0, .int .i64 m1, .int .i64 m2, .int .i64 m3, .slice none 0 0])) w) : o.wp Try.prog a w Kt Q := by
  unfold Oper.wp execOp
  simp only [ho, List.map_toArray, List.map_cons, List.map_nil, h0, h1, h2, h3]
  go_simp
  exact hK

theorem d_store_eth (x y : Operand) (r : Nat) (m0 m1 m2 m3 : Int) (a0 a1 a2 a3 a4 : Value) (ho : o.op = .store 27 x y) (hx : a.eval x = .pointer (some ⟨r, 0, none⟩)) (hy : a.eval y = .agg #[.int .i64 m0, .int .i64 m1, .int .i64 m2, .int .i64 m3, .slice none 0 0]) (hr : w.heap[r]? = some (.cells #[a0, a1, a2, a3, a4] 27 (0, 0)))
    (hK : Kt (a.put o.dst undef) (((((w.setCell ⟨r, 0, none⟩ (.int .i64 m0)).setCell ⟨r, 1, none⟩ (.int .i64 m1)).setCell ⟨r, 2, none⟩ (.int .i64 m2)).setCell ⟨r, 3, none⟩ (.int .i64 m3)).setCell ⟨r, 4, none⟩ (.slice none 0 0))) : o.wp Try.prog a w Kt Q := by
  obtain ⟨⟨c0, c1, c2, c3, c4⟩, f0, f1, f2, f3, f4⟩ := K.row5 hr
  clear hr
  unfold Oper.wp execOp
  simp only [ho, hx, hy]
  go_simp
  exact hK

end

/-- What a draw of a frame with no body leaves. -/
def GivesE (w : World) (g : Nat) (A : Option Addr) (c : Nat) (bs : List UInt8) (t' s' : Nat) (x : Eh) (e : Ending) (w' : World) : Prop :=
  e = .returned (.agg #[.int .i64 x.d, .int .i64 x.s, .int .i64 x.t, .int .i64 x.k, .slice none 0 0]) ∧ CurS w' g A c bs t' s' ∧ w.grownBy w' (some g)
def avsE (x1 : Int) (x2 : Int) (x3 : Int) (x4 : Int) (x5 : Int) (y6 : Nat) (v6 : Int) (y7 : Nat) (v7 : Int) : List K.Dv := [.cur, .int x1, .int (IntKind.i64.wrap (x1 * (7919 : Int))), .cur, .int x2, .int (IntKind.i64.wrap ((IntKind.i64.wrap (x1 * (7919 : Int))) + x2)), .cur, .int x3, .int (IntKind.i64.wrap (x3 * (16777215 : Int))), .cur, .int x4, .int (IntKind.i64.wrap ((IntKind.i64.wrap (x3 * (16777215 : Int))) + x4)), .cur, .int x5, .row [(-1 : Int), (-1 : Int), x5, (0 : Int), (65535 : Int)], .cur, .int (y6 : Int), .cellp v6, .int v6, .row [(2048 : Int), (34525 : Int), (2054 : Int), (1536 : Int), (65535 : Int), (2048 : Int)], .cur, .int (y7 : Int), .cellp v7, .int v7, .val (.agg #[.int .i64 (IntKind.i64.wrap ((IntKind.i64.wrap (x1 * (7919 : Int))) + x2)), .int .i64 (IntKind.i64.wrap ((IntKind.i64.wrap (x3 * (16777215 : Int))) + x4)), .int .i64 v6, .int .i64 v7, .slice none 0 0]), .any]

set_option maxRecDepth 100000 in
set_option maxHeartbeats 4000000 in
theorem etherE (bs : List UInt8) (t s : Nat) (ht : t ≤ 900000000000) :
    ∃ (x : Eh) (s' : Nat), ∀ (w : World) (g : Nat) (A : Option Addr) (c : Nat), CurS w g A c bs t s → Calls Try.prog 51 #[.pointer (some ⟨g, 0, none⟩)] w (GivesE w g A c bs (t + 3 + 1 + 3 + 1 + 3 + 1 + 1) s' x) := by
  obtain ⟨x1, s1, lo1, up1, hd1⟩ := wideE bs (t) s 16777216 (by omega) (by omega) (by omega)
  have H1 := Lib.hid hd1
  clear hd1
  obtain ⟨x2, s2, lo2, up2, hd2⟩ := pickE bs (t + 3) s1 256 (by omega) (by omega) (by omega)
  have H2 := Lib.hid hd2
  clear hd2
  obtain ⟨x3, s3, lo3, up3, hd3⟩ := wideE bs (t + 3 + 1) s2 16777216 (by omega) (by omega) (by omega)
  have H3 := Lib.hid hd3
  clear hd3
  obtain ⟨x4, s4, lo4, up4, hd4⟩ := pickE bs (t + 3 + 1 + 3) s3 256 (by omega) (by omega) (by omega)
  have H4 := Lib.hid hd4
  clear hd4
  obtain ⟨x5, s5, lo5, up5, hd5⟩ := wideE bs (t + 3 + 1 + 3 + 1) s4 65536 (by omega) (by omega) (by omega)
  have H5 := Lib.hid hd5
  clear hd5
  obtain ⟨x6, s6, lo6, up6, hd6⟩ := pickE bs (t + 3 + 1 + 3 + 1 + 3) s5 5 (by omega) (by omega) (by omega)
  have H6 := Lib.hid hd6
  clear hd6
  obtain ⟨y6, rfl⟩ : ∃ k : Nat, x6 = k := ⟨x6.toNat, by omega⟩
  obtain ⟨v6, hv6⟩ : ∃ z, ([(-1 : Int), (-1 : Int), x5, (0 : Int), (65535 : Int)] : List Int)[y6]? = some z := ⟨_, List.getElem?_eq_getElem (by simp; omega)⟩
  have Hv6 := Lib.hid hv6
  clear hv6
  obtain ⟨x7, s7, lo7, up7, hd7⟩ := pickE bs (t + 3 + 1 + 3 + 1 + 3 + 1) s6 6 (by omega) (by omega) (by omega)
  have H7 := Lib.hid hd7
  clear hd7
  obtain ⟨y7, rfl⟩ : ∃ k : Nat, x7 = k := ⟨x7.toNat, by omega⟩
  obtain ⟨v7, hv7⟩ : ∃ z, ([(2048 : Int), (34525 : Int), (2054 : Int), (1536 : Int), (65535 : Int), (2048 : Int)] : List Int)[y7]? = some z := ⟨_, List.getElem?_eq_getElem (by simp; omega)⟩
  have Hv7 := Lib.hid hv7
  clear hv7
  refine ⟨⟨(IntKind.i64.wrap ((IntKind.i64.wrap (x1 * (7919 : Int))) + x2)), (IntKind.i64.wrap ((IntKind.i64.wrap (x3 * (16777215 : Int))) + x4)), v6, v7⟩, s7, fun w g A c hc => ?_⟩
  have hgw := hc.lt
  obtain ⟨r, hr⟩ : ∃ r, w.heap.size = r := ⟨_, rfl⟩
  have hrg : g < r := by omega
  have hrW : w.heap.size ≤ r := by omega
  obtain ⟨I, hI⟩ : ∃ I : Nat → World → Prop, I = fun m v => CurS v g A c bs ([t, t + 3, t + 3 + 1, t + 3 + 1 + 3, t + 3 + 1 + 3 + 1, t + 3 + 1 + 3 + 1 + 3, t + 3 + 1 + 3 + 1 + 3 + 1, t + 3 + 1 + 3 + 1 + 3 + 1 + 1, t + 3 + 1 + 3 + 1 + 3 + 1 + 1].getD m 0) ([s, s1, s2, s3, s4, s5, s6, s7, s7].getD m 0) ∧ v.heap[r]? = some ([.cells #[.int .i64 0, .int .i64 0, .int .i64 0, .int .i64 0, .slice none 0 0] 27, .cells #[.int .i64 0, .int .i64 0, .int .i64 0, .int .i64 0, .slice none 0 0] 27, .cells #[.int .i64 0, .int .i64 0, .int .i64 0, .int .i64 0, .slice none 0 0] 27, .cells #[.int .i64 0, .int .i64 0, .int .i64 0, .int .i64 0, .slice none 0 0] 27, .cells #[.int .i64 0, .int .i64 0, .int .i64 0, .int .i64 0, .slice none 0 0] 27, .cells #[.int .i64 0, .int .i64 0, .int .i64 0, .int .i64 0, .slice none 0 0] 27, .cells #[.int .i64 0, .int .i64 0, .int .i64 0, .int .i64 0, .slice none 0 0] 27, .cells #[.int .i64 0, .int .i64 0, .int .i64 0, .int .i64 0, .slice none 0 0] 27, .cells #[.int .i64 (IntKind.i64.wrap ((IntKind.i64.wrap (x1 * (7919 : Int))) + x2)), .int .i64 (IntKind.i64.wrap ((IntKind.i64.wrap (x3 * (16777215 : Int))) + x4)), .int .i64 v6, .int .i64 v7, .slice none 0 0] 27].getD m (.cells #[] 0)) ∧ w.grownBy v (some g) := ⟨_, rfl⟩
  have I0 : Hid (I 0 (w.alloc (.cells #[.int .i64 0, .int .i64 0, .int .i64 0, .int .i64 0, .slice none 0 0] 27)).drew) := Lib.hid (by
    rw [hI]
    have h1 : CurS (w.alloc (.cells #[.int .i64 0, .int .i64 0, .int .i64 0, .int .i64 0, .slice none 0 0] 27)) g A c bs t s := hc.below (Joins.below_alloc1 w _)
    refine ⟨h1.drewN 1, ?_, ⟨rfl, rfl, rfl, by simp, fun i hi _ => Below.heap_alloc w _ i hi⟩⟩
    rw [← hr]
    exact K.new w _)
  have IU := Lib.hid (show ∀ m v, I m v → CurS v g A c bs ([t, t + 3, t + 3 + 1, t + 3 + 1 + 3, t + 3 + 1 + 3 + 1, t + 3 + 1 + 3 + 1 + 3, t + 3 + 1 + 3 + 1 + 3 + 1, t + 3 + 1 + 3 + 1 + 3 + 1 + 1, t + 3 + 1 + 3 + 1 + 3 + 1 + 1].getD m 0) ([s, s1, s2, s3, s4, s5, s6, s7, s7].getD m 0) ∧ v.heap[r]? = some ([.cells #[.int .i64 0, .int .i64 0, .int .i64 0, .int .i64 0, .slice none 0 0] 27, .cells #[.int .i64 0, .int .i64 0, .int .i64 0, .int .i64 0, .slice none 0 0] 27, .cells #[.int .i64 0, .int .i64 0, .int .i64 0, .int .i64 0, .slice none 0 0] 27, .cells #[.int .i64 0, .int .i64 0, .int .i64 0, .int .i64 0, .slice none 0 0] 27, .cells #[.int .i64 0, .int .i64 0, .int .i64 0, .int .i64 0, .slice none 0 0] 27, .cells #[.int .i64 0, .int .i64 0, .int .i64 0, .int .i64 0, .slice none 0 0] 27, .cells #[.int .i64 0, .int .i64 0, .int .i64 0, .int .i64 0, .slice none 0 0] 27, .cells #[.int .i64 0, .int .i64 0, .int .i64 0, .int .i64 0, .slice none 0 0] 27, .cells #[.int .i64 (IntKind.i64.wrap ((IntKind.i64.wrap (x1 * (7919 : Int))) + x2)), .int .i64 (IntKind.i64.wrap ((IntKind.i64.wrap (x3 * (16777215 : Int))) + x4)), .int .i64 v6, .int .i64 v7, .slice none 0 0] 27].getD m (.cells #[] 0)) ∧ w.grownBy v (some g) by rw [hI]; exact fun _ _ h => h)
  have IV := Lib.hid (show ∀ m v, CurS v g A c bs ([t, t + 3, t + 3 + 1, t + 3 + 1 + 3, t + 3 + 1 + 3 + 1, t + 3 + 1 + 3 + 1 + 3, t + 3 + 1 + 3 + 1 + 3 + 1, t + 3 + 1 + 3 + 1 + 3 + 1 + 1, t + 3 + 1 + 3 + 1 + 3 + 1 + 1].getD m 0) ([s, s1, s2, s3, s4, s5, s6, s7, s7].getD m 0) ∧ v.heap[r]? = some ([.cells #[.int .i64 0, .int .i64 0, .int .i64 0, .int .i64 0, .slice none 0 0] 27, .cells #[.int .i64 0, .int .i64 0, .int .i64 0, .int .i64 0, .slice none 0 0] 27, .cells #[.int .i64 0, .int .i64 0, .int .i64 0, .int .i64 0, .slice none 0 0] 27, .cells #[.int .i64 0, .int .i64 0, .int .i64 0, .int .i64 0, .slice none 0 0] 27, .cells #[.int .i64 0, .int .i64 0, .int .i64 0, .int .i64 0, .slice none 0 0] 27, .cells #[.int .i64 0, .int .i64 0, .int .i64 0, .int .i64 0, .slice none 0 0] 27, .cells #[.int .i64 0, .int .i64 0, .int .i64 0, .int .i64 0, .slice none 0 0] 27, .cells #[.int .i64 0, .int .i64 0, .int .i64 0, .int .i64 0, .slice none 0 0] 27, .cells #[.int .i64 (IntKind.i64.wrap ((IntKind.i64.wrap (x1 * (7919 : Int))) + x2)), .int .i64 (IntKind.i64.wrap ((IntKind.i64.wrap (x3 * (16777215 : Int))) + x4)), .int .i64 v6, .int .i64 v7, .slice none 0 0] 27].getD m (.cells #[] 0)) ∧ w.grownBy v (some g) → I m v by rw [hI]; exact fun _ _ h => h)
  clear hgw hI
  go_enter Try.func51, Try.ntmps51
  go_wp2
  refine wp_region_chain (by kernel_rfl) (fun j => K.gam g r ((avsE x1 x2 x3 x4 x5 y6 v6 y7 v7).getD j .any)) [0, 2] [1, 4, 7, 10, 13, 16, 21, 25] I (K.Turned g r) 28 (by kernel_rfl) (by kernel_rfl) rfl I0.out (fun j v v' u h hu => K.gam_on h _ u hu) ?_ ?_
  · intro j o ho m a' v Kt hx hn hm hI hK
    have hp0 : (.pointer (some ⟨g, 0, none⟩) : Value) = .pointer (some ⟨g, 0, none⟩) := rfl
    have hp2 : (.pointer (some ⟨r, 0, none⟩) : Value) = .pointer (some ⟨r, 0, none⟩) := rfl
    match j, ho with
    | 0, ho =>
      obtain rfl := Option.some.inj ho
      exact K.d_move 0 _ rfl (K.outer hx 0 rfl hp0) (hK _ _ rfl (K.Turned.refl _ _ _) (K.stay (by rfl) hI))
    | 1, ho =>
      obtain rfl := Option.some.inj ho
      obtain rfl : 0 = m := hm 0 rfl
      have hJ := IU.out _ _ hI
      have e1 : a'.eval (.tmp 3) = .pointer (some ⟨g, 0, none⟩) := (K.need (Γ := fun j => K.gam g r ((avsE x1 x2 x3 x4 x5 y6 v6 y7 v7).getD j .any)) hn 0 3 (by kernel_rfl) :)
      refine K.d_wide 3 _ _ g rfl e1 ((H1.out v g A c hJ.1).mono ?_)
      rintro e v' ⟨rfl, hc2, hg2⟩
      exact ⟨_, rfl, hK _ _ rfl (K.Turned.of_grown hg2) (K.go_on (by rfl) (IV.out _ _ ⟨hc2, K.kept hg2 hJ.2.1 (fun k hk => by cases hk; omega), grownBy_trans hJ.2.2 hg2⟩))⟩
    | 2, ho =>
      obtain rfl := Option.some.inj ho
      have e0 : a'.eval (.tmp 4) = .int .i64 x1 := (K.need (Γ := fun j => K.gam g r ((avsE x1 x2 x3 x4 x5 y6 v6 y7 v7).getD j .any)) hn 1 4 (by kernel_rfl) :)
      exact K.d_mul _ _ x1 (7919 : Int) rfl e0 rfl (hK _ _ rfl (K.Turned.refl _ _ _) (K.stay (by rfl) hI))
    | 3, ho =>
      obtain rfl := Option.some.inj ho
      exact K.d_move 0 _ rfl (K.outer hx 0 rfl hp0) (hK _ _ rfl (K.Turned.refl _ _ _) (K.stay (by rfl) hI))
    | 4, ho =>
      obtain rfl := Option.some.inj ho
      obtain rfl : 1 = m := hm 1 rfl
      have hJ := IU.out _ _ hI
      have e1 : a'.eval (.tmp 6) = .pointer (some ⟨g, 0, none⟩) := (K.need (Γ := fun j => K.gam g r ((avsE x1 x2 x3 x4 x5 y6 v6 y7 v7).getD j .any)) hn 3 6 (by kernel_rfl) :)
      refine K.d_pick 6 _ _ g rfl e1 ((H2.out v g A c hJ.1).mono ?_)
      rintro e v' ⟨rfl, hc2, hg2⟩
      exact ⟨_, rfl, hK _ _ rfl (K.Turned.of_grown hg2) (K.go_on (by rfl) (IV.out _ _ ⟨hc2, K.kept hg2 hJ.2.1 (fun k hk => by cases hk; omega), grownBy_trans hJ.2.2 hg2⟩))⟩
    | 5, ho =>
      obtain rfl := Option.some.inj ho
      have e0 : a'.eval (.tmp 5) = .int .i64 (IntKind.i64.wrap (x1 * (7919 : Int))) := (K.need (Γ := fun j => K.gam g r ((avsE x1 x2 x3 x4 x5 y6 v6 y7 v7).getD j .any)) hn 2 5 (by kernel_rfl) :)
      have e1 : a'.eval (.tmp 7) = .int .i64 x2 := (K.need (Γ := fun j => K.gam g r ((avsE x1 x2 x3 x4 x5 y6 v6 y7 v7).getD j .any)) hn 4 7 (by kernel_rfl) :)
      exact K.d_add _ _ (IntKind.i64.wrap (x1 * (7919 : Int))) x2 rfl e0 e1 (hK _ _ rfl (K.Turned.refl _ _ _) (K.stay (by rfl) hI))
    | 6, ho =>
      obtain rfl := Option.some.inj ho
      exact K.d_move 0 _ rfl (K.outer hx 0 rfl hp0) (hK _ _ rfl (K.Turned.refl _ _ _) (K.stay (by rfl) hI))
    | 7, ho =>
      obtain rfl := Option.some.inj ho
      obtain rfl : 2 = m := hm 2 rfl
      have hJ := IU.out _ _ hI
      have e1 : a'.eval (.tmp 9) = .pointer (some ⟨g, 0, none⟩) := (K.need (Γ := fun j => K.gam g r ((avsE x1 x2 x3 x4 x5 y6 v6 y7 v7).getD j .any)) hn 6 9 (by kernel_rfl) :)
      refine K.d_wide 9 _ _ g rfl e1 ((H3.out v g A c hJ.1).mono ?_)
      rintro e v' ⟨rfl, hc2, hg2⟩
      exact ⟨_, rfl, hK _ _ rfl (K.Turned.of_grown hg2) (K.go_on (by rfl) (IV.out _ _ ⟨hc2, K.kept hg2 hJ.2.1 (fun k hk => by cases hk; omega), grownBy_trans hJ.2.2 hg2⟩))⟩
    | 8, ho =>
      obtain rfl := Option.some.inj ho
      have e0 : a'.eval (.tmp 10) = .int .i64 x3 := (K.need (Γ := fun j => K.gam g r ((avsE x1 x2 x3 x4 x5 y6 v6 y7 v7).getD j .any)) hn 7 10 (by kernel_rfl) :)
      exact K.d_mul _ _ x3 (16777215 : Int) rfl e0 rfl (hK _ _ rfl (K.Turned.refl _ _ _) (K.stay (by rfl) hI))
    | 9, ho =>
      obtain rfl := Option.some.inj ho
      exact K.d_move 0 _ rfl (K.outer hx 0 rfl hp0) (hK _ _ rfl (K.Turned.refl _ _ _) (K.stay (by rfl) hI))
    | 10, ho =>
      obtain rfl := Option.some.inj ho
      obtain rfl : 3 = m := hm 3 rfl
      have hJ := IU.out _ _ hI
      have e1 : a'.eval (.tmp 12) = .pointer (some ⟨g, 0, none⟩) := (K.need (Γ := fun j => K.gam g r ((avsE x1 x2 x3 x4 x5 y6 v6 y7 v7).getD j .any)) hn 9 12 (by kernel_rfl) :)
      refine K.d_pick 12 _ _ g rfl e1 ((H4.out v g A c hJ.1).mono ?_)
      rintro e v' ⟨rfl, hc2, hg2⟩
      exact ⟨_, rfl, hK _ _ rfl (K.Turned.of_grown hg2) (K.go_on (by rfl) (IV.out _ _ ⟨hc2, K.kept hg2 hJ.2.1 (fun k hk => by cases hk; omega), grownBy_trans hJ.2.2 hg2⟩))⟩
    | 11, ho =>
      obtain rfl := Option.some.inj ho
      have e0 : a'.eval (.tmp 11) = .int .i64 (IntKind.i64.wrap (x3 * (16777215 : Int))) := (K.need (Γ := fun j => K.gam g r ((avsE x1 x2 x3 x4 x5 y6 v6 y7 v7).getD j .any)) hn 8 11 (by kernel_rfl) :)
      have e1 : a'.eval (.tmp 13) = .int .i64 x4 := (K.need (Γ := fun j => K.gam g r ((avsE x1 x2 x3 x4 x5 y6 v6 y7 v7).getD j .any)) hn 10 13 (by kernel_rfl) :)
      exact K.d_add _ _ (IntKind.i64.wrap (x3 * (16777215 : Int))) x4 rfl e0 e1 (hK _ _ rfl (K.Turned.refl _ _ _) (K.stay (by rfl) hI))
    | 12, ho =>
      obtain rfl := Option.some.inj ho
      exact K.d_move 0 _ rfl (K.outer hx 0 rfl hp0) (hK _ _ rfl (K.Turned.refl _ _ _) (K.stay (by rfl) hI))
    | 13, ho =>
      obtain rfl := Option.some.inj ho
      obtain rfl : 4 = m := hm 4 rfl
      have hJ := IU.out _ _ hI
      have e1 : a'.eval (.tmp 15) = .pointer (some ⟨g, 0, none⟩) := (K.need (Γ := fun j => K.gam g r ((avsE x1 x2 x3 x4 x5 y6 v6 y7 v7).getD j .any)) hn 12 15 (by kernel_rfl) :)
      refine K.d_wide 15 _ _ g rfl e1 ((H5.out v g A c hJ.1).mono ?_)
      rintro e v' ⟨rfl, hc2, hg2⟩
      exact ⟨_, rfl, hK _ _ rfl (K.Turned.of_grown hg2) (K.go_on (by rfl) (IV.out _ _ ⟨hc2, K.kept hg2 hJ.2.1 (fun k hk => by cases hk; omega), grownBy_trans hJ.2.2 hg2⟩))⟩
    | 14, ho =>
      obtain rfl := Option.some.inj ho
      have e2 : a'.eval (.tmp 16) = .int .i64 x5 := (K.need (Γ := fun j => K.gam g r ((avsE x1 x2 x3 x4 x5 y6 v6 y7 v7).getD j .any)) hn 13 16 (by kernel_rfl) :)
      have hJ := IU.out _ _ hI
      have hgs : g < v.heap.size := hJ.1.lt
      have hrs : r < v.heap.size := K.lt hJ.2.1
      exact K.d_row5 _ _ _ _ _ (-1 : Int) (-1 : Int) x5 (0 : Int) (65535 : Int) rfl rfl rfl e2 rfl rfl (hK _ _ ⟨v.heap.size, rfl, by omega, by omega, fun j x hx => K.row_cells v [(-1 : Int), (-1 : Int), x5, (0 : Int), (65535 : Int)] _ rfl _ j x hx⟩ (K.Turned.alloc _ _ _ _) (K.stay (by rfl) (IV.out _ _ ⟨hJ.1.below (Joins.below_alloc1 v _), K.old hJ.2.1 _, only_new hJ.2.2 _⟩)))
    | 15, ho =>
      obtain rfl := Option.some.inj ho
      exact K.d_move 0 _ rfl (K.outer hx 0 rfl hp0) (hK _ _ rfl (K.Turned.refl _ _ _) (K.stay (by rfl) hI))
    | 16, ho =>
      obtain rfl := Option.some.inj ho
      obtain rfl : 5 = m := hm 5 rfl
      have hJ := IU.out _ _ hI
      have e1 : a'.eval (.tmp 18) = .pointer (some ⟨g, 0, none⟩) := (K.need (Γ := fun j => K.gam g r ((avsE x1 x2 x3 x4 x5 y6 v6 y7 v7).getD j .any)) hn 15 18 (by kernel_rfl) :)
      refine K.d_pick 18 _ _ g rfl e1 ((H6.out v g A c hJ.1).mono ?_)
      rintro e v' ⟨rfl, hc2, hg2⟩
      exact ⟨_, rfl, hK _ _ rfl (K.Turned.of_grown hg2) (K.go_on (by rfl) (IV.out _ _ ⟨hc2, K.kept hg2 hJ.2.1 (fun k hk => by cases hk; omega), grownBy_trans hJ.2.2 hg2⟩))⟩
    | 17, ho =>
      obtain rfl := Option.some.inj ho
      obtain ⟨b, e1, hb1, hb2, hcs⟩ : ∃ b, a'.eval (.tmp 17) = .slice (some ⟨b, 0, none⟩) 5 5 ∧ b ≠ g ∧ b ≠ r ∧ ∀ j x, ([(-1 : Int), (-1 : Int), x5, (0 : Int), (65535 : Int)] : List Int)[j]? = some x → v.cell? ⟨b, j, none⟩ = some (.int .i64 x) := (K.need (Γ := fun j => K.gam g r ((avsE x1 x2 x3 x4 x5 y6 v6 y7 v7).getD j .any)) hn 14 17 (by kernel_rfl) :)
      have e2 : a'.eval (.tmp 19) = .int .i64 (y6 : Int) := (K.need (Γ := fun j => K.gam g r ((avsE x1 x2 x3 x4 x5 y6 v6 y7 v7).getD j .any)) hn 16 19 (by kernel_rfl) :)
      exact K.d_idx 17 19 b 5 y6 rfl e1 e2 (by omega) (hK _ _ ⟨b, y6, rfl, hb1, hb2, hcs _ _ Hv6.out⟩ (K.Turned.refl _ _ _) (K.stay (by rfl) hI))
    | 18, ho =>
      obtain rfl := Option.some.inj ho
      obtain ⟨b, q, e1, hb1, hb2, hx2⟩ : ∃ b q, a'.eval (.tmp 20) = .pointer (some ⟨b, q, none⟩) ∧ b ≠ g ∧ b ≠ r ∧ v.cell? ⟨b, q, none⟩ = some (.int .i64 v6) := (K.need (Γ := fun j => K.gam g r ((avsE x1 x2 x3 x4 x5 y6 v6 y7 v7).getD j .any)) hn 17 20 (by kernel_rfl) :)
      exact K.d_load 20 b q _ rfl e1 hx2 (hK _ _ rfl (K.Turned.refl _ _ _) (K.stay (by rfl) hI))
    | 19, ho =>
      obtain rfl := Option.some.inj ho
      have hJ := IU.out _ _ hI
      have hgs : g < v.heap.size := hJ.1.lt
      have hrs : r < v.heap.size := K.lt hJ.2.1
      exact K.d_row6 _ _ _ _ _ _ (2048 : Int) (34525 : Int) (2054 : Int) (1536 : Int) (65535 : Int) (2048 : Int) rfl rfl rfl rfl rfl rfl rfl (hK _ _ ⟨v.heap.size, rfl, by omega, by omega, fun j x hx => K.row_cells v [(2048 : Int), (34525 : Int), (2054 : Int), (1536 : Int), (65535 : Int), (2048 : Int)] _ rfl _ j x hx⟩ (K.Turned.alloc _ _ _ _) (K.stay (by rfl) (IV.out _ _ ⟨hJ.1.below (Joins.below_alloc1 v _), K.old hJ.2.1 _, only_new hJ.2.2 _⟩)))
    | 20, ho =>
      obtain rfl := Option.some.inj ho
      exact K.d_move 0 _ rfl (K.outer hx 0 rfl hp0) (hK _ _ rfl (K.Turned.refl _ _ _) (K.stay (by rfl) hI))
    | 21, ho =>
      obtain rfl := Option.some.inj ho
      obtain rfl : 6 = m := hm 6 rfl
      have hJ := IU.out _ _ hI
      have e1 : a'.eval (.tmp 23) = .pointer (some ⟨g, 0, none⟩) := (K.need (Γ := fun j => K.gam g r ((avsE x1 x2 x3 x4 x5 y6 v6 y7 v7).getD j .any)) hn 20 23 (by kernel_rfl) :)
      refine K.d_pick 23 _ _ g rfl e1 ((H7.out v g A c hJ.1).mono ?_)
      rintro e v' ⟨rfl, hc2, hg2⟩
      exact ⟨_, rfl, hK _ _ rfl (K.Turned.of_grown hg2) (K.go_on (by rfl) (IV.out _ _ ⟨hc2, K.kept hg2 hJ.2.1 (fun k hk => by cases hk; omega), grownBy_trans hJ.2.2 hg2⟩))⟩
    | 22, ho =>
      obtain rfl := Option.some.inj ho
      obtain ⟨b, e1, hb1, hb2, hcs⟩ : ∃ b, a'.eval (.tmp 22) = .slice (some ⟨b, 0, none⟩) 6 6 ∧ b ≠ g ∧ b ≠ r ∧ ∀ j x, ([(2048 : Int), (34525 : Int), (2054 : Int), (1536 : Int), (65535 : Int), (2048 : Int)] : List Int)[j]? = some x → v.cell? ⟨b, j, none⟩ = some (.int .i64 x) := (K.need (Γ := fun j => K.gam g r ((avsE x1 x2 x3 x4 x5 y6 v6 y7 v7).getD j .any)) hn 19 22 (by kernel_rfl) :)
      have e2 : a'.eval (.tmp 24) = .int .i64 (y7 : Int) := (K.need (Γ := fun j => K.gam g r ((avsE x1 x2 x3 x4 x5 y6 v6 y7 v7).getD j .any)) hn 21 24 (by kernel_rfl) :)
      exact K.d_idx 22 24 b 6 y7 rfl e1 e2 (by omega) (hK _ _ ⟨b, y7, rfl, hb1, hb2, hcs _ _ Hv7.out⟩ (K.Turned.refl _ _ _) (K.stay (by rfl) hI))
    | 23, ho =>
      obtain rfl := Option.some.inj ho
      obtain ⟨b, q, e1, hb1, hb2, hx2⟩ : ∃ b q, a'.eval (.tmp 25) = .pointer (some ⟨b, q, none⟩) ∧ b ≠ g ∧ b ≠ r ∧ v.cell? ⟨b, q, none⟩ = some (.int .i64 v7) := (K.need (Γ := fun j => K.gam g r ((avsE x1 x2 x3 x4 x5 y6 v6 y7 v7).getD j .any)) hn 22 25 (by kernel_rfl) :)
      exact K.d_load 25 b q _ rfl e1 hx2 (hK _ _ rfl (K.Turned.refl _ _ _) (K.stay (by rfl) hI))
    | 24, ho =>
      obtain rfl := Option.some.inj ho
      have e0 : a'.eval (.tmp 8) = .int .i64 (IntKind.i64.wrap ((IntKind.i64.wrap (x1 * (7919 : Int))) + x2)) := (K.need (Γ := fun j => K.gam g r ((avsE x1 x2 x3 x4 x5 y6 v6 y7 v7).getD j .any)) hn 5 8 (by kernel_rfl) :)
      have e1 : a'.eval (.tmp 14) = .int .i64 (IntKind.i64.wrap ((IntKind.i64.wrap (x3 * (16777215 : Int))) + x4)) := (K.need (Γ := fun j => K.gam g r ((avsE x1 x2 x3 x4 x5 y6 v6 y7 v7).getD j .any)) hn 11 14 (by kernel_rfl) :)
      have e2 : a'.eval (.tmp 21) = .int .i64 v6 := (K.need (Γ := fun j => K.gam g r ((avsE x1 x2 x3 x4 x5 y6 v6 y7 v7).getD j .any)) hn 18 21 (by kernel_rfl) :)
      have e3 : a'.eval (.tmp 26) = .int .i64 v7 := (K.need (Γ := fun j => K.gam g r ((avsE x1 x2 x3 x4 x5 y6 v6 y7 v7).getD j .any)) hn 23 26 (by kernel_rfl) :)
      exact d_eth _ _ _ _ (IntKind.i64.wrap ((IntKind.i64.wrap (x1 * (7919 : Int))) + x2)) (IntKind.i64.wrap ((IntKind.i64.wrap (x3 * (16777215 : Int))) + x4)) v6 v7 rfl e0 e1 e2 e3 (hK _ _ rfl (K.Turned.refl _ _ _) (K.stay (by rfl) hI))
    | 25, ho =>
      obtain rfl := Option.some.inj ho
      obtain rfl : 7 = m := hm 7 rfl
      have hJ := IU.out _ _ hI
      have e1 : a'.eval (.tmp 27) = .agg #[.int .i64 (IntKind.i64.wrap ((IntKind.i64.wrap (x1 * (7919 : Int))) + x2)), .int .i64 (IntKind.i64.wrap ((IntKind.i64.wrap (x3 * (16777215 : Int))) + x4)), .int .i64 v6, .int .i64 v7, .slice none 0 0] := (K.need (Γ := fun j => K.gam g r ((avsE x1 x2 x3 x4 x5 y6 v6 y7 v7).getD j .any)) hn 24 27 (by kernel_rfl) :)
      exact d_store_eth _ _ r (IntKind.i64.wrap ((IntKind.i64.wrap (x1 * (7919 : Int))) + x2)) (IntKind.i64.wrap ((IntKind.i64.wrap (x3 * (16777215 : Int))) + x4)) v6 v7 _ _ _ _ _ rfl (K.outer hx 2 rfl hp2) e1 hJ.2.1 (hK undef _ trivial ((((((K.Turned.refl g r v).set 0 _).set 1 _).set 2 _).set 3 _).set 4 _) (K.go_on (by rfl) (IV.out _ _ ⟨curS_set5 hJ.1 hrg, K.set5 _ _ _ _ _ hJ.2.1, grown_set5 hJ.2.2 hrW⟩)))
    | j + 26, ho => simp at ho
  · intro a' w' hsz hdf hout hkp hsl hI
    clear hkp hsl
    rename_i Kt hret
    obtain ⟨hc', hrow, hg'⟩ := IU.out _ _ hI
    refine hret _ _ ?_
    have hs2 : a'.tmps.getD 2 undef = .pointer (some ⟨r, 0, none⟩) := hout 2 (by simp)
    clear hsz hout
    go_wp2
    (try simp only [Exit.inBlock, Exit.then])
    refine bodyPost_ret (v := .agg #[.int .i64 (IntKind.i64.wrap ((IntKind.i64.wrap (x1 * (7919 : Int))) + x2)), .int .i64 (IntKind.i64.wrap ((IntKind.i64.wrap (x3 * (16777215 : Int))) + x4)), .int .i64 v6, .int .i64 v7, .slice none 0 0]) ?_ hdf ⟨rfl, hc', hg'⟩
    exact K.resCell Try.results51 _ _ _ r _ hs2 (run_loadVar_row _ _ 27 27 _ (0, 0) _ hrow Try.underlying27 rfl info_eth)
end Go.Proofs.Ytaemonjiejgciaa
