/-
  The model's draw of an IPv4 packet, number by number.
-/
import Derived.Test.YtegpaocoepcemaaRegDraw
import Derived.Test.YtegpaocoepcemaaAddrE4
import Derived.Test.YtegpaocoepcemaaFour2
import Derived.Test.YtegpaocoepcemaaFourLib
namespace Go.Proofs.Ytegpaocoepcemaa
set_option maxRecDepth 100000
open Go.RowKit

/-- What a draw of a packet leaves. -/
def GivesFour (w : World) (g : Nat) (A : Option Addr) (c : Nat) (bs : List UInt8) (t' s' : Nat) (x : Fh) (os ds : List UInt8) (e : Ending) (w' : World) : Prop :=
  ∃ O oc D dc, e = .returned (.agg #[.int .i64 x.dscp, .int .i64 x.ecn, .int .i64 x.id, .int .i64 x.flags, .int .i64 x.frag, .int .i64 x.ttl, .int .i64 x.proto, .int .i64 x.src.k, .int .i64 x.src.a, .int .i64 x.src.b, .int .i64 x.src.c, .int .i64 x.src.d, .int .i64 x.dst.k, .int .i64 x.dst.a, .int .i64 x.dst.b, .int .i64 x.dst.c, .int .i64 x.dst.d, .slice O os.length oc, .slice D ds.length dc]) ∧ w'.ownsRow w.heap.size 5 1 (.slice O os.length oc) os.length (cellsOf os) ∧ w'.ownsRow w.heap.size 5 1 (.slice D ds.length dc) ds.length (cellsOf ds) ∧ CurS w' g A c bs t' s' ∧ w.grownBy w' (some g)

set_option maxHeartbeats 8000000 in
theorem fourE (bs : List UInt8) (t s : Nat) (ht : t ≤ 800000000000) :
    ∃ (x : Fh) (os : List UInt8) (t' s' : Nat), os.length ≤ 40 ∧ t' ≤ t + 100 ∧ ∀ (w : World) (g : Nat) (A : Option Addr) (c : Nat), CurS w g A c bs t s → Calls Try.prog 99 #[.pointer (some ⟨g, 0, none⟩)] w (GivesFour w g A c bs t' s' x os []) := by
  obtain ⟨x1, s1, lo1, up1, hd1⟩ := pickE bs (t) s 64 (by omega) (by omega) (by omega)
  have H1 := Lib.hid hd1
  clear hd1
  obtain ⟨x2, s2, lo2, up2, hd2⟩ := pickE bs (t + 1) s1 4 (by omega) (by omega) (by omega)
  have H2 := Lib.hid hd2
  clear hd2
  obtain ⟨x3, s3, lo3, up3, hd3⟩ := wideE bs (t + 1 + 1) s2 65536 (by omega) (by omega) (by omega)
  have H3 := Lib.hid hd3
  clear hd3
  obtain ⟨x4, s4, lo4, up4, hd4⟩ := pickE bs (t + 1 + 1 + 3) s3 5 (by omega) (by omega) (by omega)
  have H4 := Lib.hid hd4
  clear hd4
  obtain ⟨y4, rfl⟩ : ∃ k : Nat, x4 = k := ⟨x4.toNat, by omega⟩
  obtain ⟨v4, hv4⟩ : ∃ z, ([(0 : Int), (2 : Int), (2 : Int), (1 : Int), (4 : Int)] : List Int)[y4]? = some z := ⟨_, List.getElem?_eq_getElem (by simp; omega)⟩
  have Hv4 := Lib.hid hv4
  clear hv4
  obtain ⟨x5, s5, lo5, up5, hd5⟩ := pickE bs (t + 1 + 1 + 3 + 1) s4 256 (by omega) (by omega) (by omega)
  have H5 := Lib.hid hd5
  clear hd5
  obtain ⟨x6, s6, lo6, up6, hd6⟩ := pickE bs (t + 1 + 1 + 3 + 1 + 1) s5 6 (by omega) (by omega) (by omega)
  have H6 := Lib.hid hd6
  clear hd6
  obtain ⟨y6, rfl⟩ : ∃ k : Nat, x6 = k := ⟨x6.toNat, by omega⟩
  obtain ⟨v6, hv6⟩ : ∃ z, ([(64 : Int), (1 : Int), (2 : Int), (0 : Int), (255 : Int), x5] : List Int)[y6]? = some z := ⟨_, List.getElem?_eq_getElem (by simp; omega)⟩
  have Hv6 := Lib.hid hv6
  clear hv6
  obtain ⟨x7, s7, lo7, up7, hd7⟩ := pickE bs (t + 1 + 1 + 3 + 1 + 1 + 1) s6 256 (by omega) (by omega) (by omega)
  have H7 := Lib.hid hd7
  clear hd7
  obtain ⟨x8, s8, lo8, up8, hd8⟩ := pickE bs (t + 1 + 1 + 3 + 1 + 1 + 1 + 1) s7 7 (by omega) (by omega) (by omega)
  have H8 := Lib.hid hd8
  clear hd8
  obtain ⟨y8, rfl⟩ : ∃ k : Nat, x8 = k := ⟨x8.toNat, by omega⟩
  obtain ⟨v8, hv8⟩ : ∃ z, ([(6 : Int), (17 : Int), (1 : Int), (47 : Int), (6 : Int), (17 : Int), x7] : List Int)[y8]? = some z := ⟨_, List.getElem?_eq_getElem (by simp; omega)⟩
  have Hv8 := Lib.hid hv8
  clear hv8
  obtain ⟨da, sa, _, _, hda⟩ := addr4E bs (t + 1 + 1 + 3 + 1 + 1 + 1 + 1 + 1) s8 (by omega)
  have HA := Lib.hid hda
  clear hda
  obtain ⟨db, sb, _, _, hdb⟩ := addr4E bs (t + 1 + 1 + 3 + 1 + 1 + 1 + 1 + 1 + 9) sa (by omega)
  have HB := Lib.hid hdb
  clear hdb
  obtain ⟨o1, sc, hdc⟩ := onceE bs (t + 1 + 1 + 3 + 1 + 1 + 1 + 1 + 1 + 9 + 9) sb 6 (by omega) (by omega) (by omega)
  have HO1 := Lib.hid hdc
  clear hdc
  cases o1 with
  | false =>
    obtain ⟨o2, sd, hdd⟩ := onceE bs (t + 1 + 1 + 3 + 1 + 1 + 1 + 1 + 1 + 9 + 9 + 1) sc 5 (by omega) (by omega) (by omega)
    have HO2 := Lib.hid hdd
    clear hdd
    cases o2 with
    | false =>
      refine ⟨⟨x1, x2, x3, v4, 0, v6, v8, ⟨4, 0, 0, 0, da⟩, ⟨4, 0, 0, 0, db⟩⟩, [], t + 1 + 1 + 3 + 1 + 1 + 1 + 1 + 1 + 9 + 9 + 1 + 1, sd, by simp, by omega, fun w g A c hc0 => ?_⟩
      have hgl := hc0.lt
      have CUR0 := hc0.below (Joins.below_alloc1 w (.cells #[.int .i64 0, .int .i64 0, .int .i64 0, .int .i64 0, .int .i64 0, .int .i64 0, .int .i64 0, .int .i64 0, .int .i64 0, .int .i64 0, .int .i64 0, .int .i64 0, .int .i64 0, .int .i64 0, .int .i64 0, .int .i64 0, .int .i64 0, .slice none 0 0, .slice none 0 0] 52))
      have r0 := Lib.hid (K.new w (.cells #[.int .i64 0, .int .i64 0, .int .i64 0, .int .i64 0, .int .i64 0, .int .i64 0, .int .i64 0, .int .i64 0, .int .i64 0, .int .i64 0, .int .i64 0, .int .i64 0, .int .i64 0, .int .i64 0, .int .i64 0, .int .i64 0, .int .i64 0, .slice none 0 0, .slice none 0 0] 52))
      clear hc0
      go_enter Try.func99, Try.ntmps99
      go_wp2_with fail
      refine wp_region_draws 27 67 [(0, 5), (1, 6), (2, 7), (3, 8), (4, 9), (5, 10), (6, 11), (7, 12), (8, 13), (9, 14), (10, 15), (11, 16), (12, 17), (13, 18), (14, 19), (15, 20), (16, 21), (17, 22), (18, 23), (19, 24), (20, 25), (21, 26), (22, 27), (23, 28), (24, 29), (25, 30), (26, 3)] [.cur, .int x1, .cur, .int x2, .cur, .int x3, .row [(0 : Int), (2 : Int), (2 : Int), (1 : Int), (4 : Int)], .cur, .int (y4 : Int), .cellp v4, .int v4, .cur, .int x5, .row [(64 : Int), (1 : Int), (2 : Int), (0 : Int), (255 : Int), x5], .cur, .int (y6 : Int), .cellp v6, .int v6, .cur, .int x7, .row [(6 : Int), (17 : Int), (1 : Int), (47 : Int), (6 : Int), (17 : Int), x7], .cur, .int (y8 : Int), .cellp v8, .int v8, .val (.agg #[.int .i64 x1, .int .i64 x2, .int .i64 x3, .int .i64 v4, .int .i64 0, .int .i64 v6, .int .i64 v8, .int .i64 0, .int .i64 0, .int .i64 0, .int .i64 0, .int .i64 0, .int .i64 0, .int .i64 0, .int .i64 0, .int .i64 0, .int .i64 0, .slice none 0 0, .slice none 0 0]), .blk (.cells #[.int .i64 0, .int .i64 0, .int .i64 0, .int .i64 0, .int .i64 0, .int .i64 0, .int .i64 0, .int .i64 0, .int .i64 0, .int .i64 0, .int .i64 0, .int .i64 0, .int .i64 0, .int .i64 0, .int .i64 0, .int .i64 0, .int .i64 0, .slice none 0 0, .slice none 0 0] 52)] [1, 3, 5, 8, 12, 15, 19, 22] g A c bs [t, t + 1, t + 1 + 1, t + 1 + 1 + 3, t + 1 + 1 + 3 + 1, t + 1 + 1 + 3 + 1 + 1, t + 1 + 1 + 3 + 1 + 1 + 1, t + 1 + 1 + 3 + 1 + 1 + 1 + 1, t + 1 + 1 + 3 + 1 + 1 + 1 + 1 + 1] [s, s1, s2, s3, s4, s5, s6, s7, s8] _ (by kernel_rfl) (by kernel_rfl) rfl (by kernel_rfl) (by kernel_rfl) rfl CUR0 ?_ ?_
      · intro j o hj ho m a' v K' hx hnd hm hc hg hK
        match j, hj, ho with
        | 0, _, ho =>
          obtain rfl := Option.some.inj ho
          exact K.d_move 0 _ rfl ((hx 0 (by decide)).trans rfl) (hK _ _ rfl (K.refl _ _) (cur_stay (by rfl) hc))
        | 1, _, ho =>
          obtain rfl := Option.some.inj ho
          obtain rfl : 0 = m := hm 0 rfl
          have e1 : a'.eval (.tmp 5) = .pointer (some ⟨g, 0, none⟩) := (draw_of hnd 0 5 (by kernel_rfl) :)
          refine K.d_pick 5 _ _ g rfl e1 ((H1.out v g A c hc).mono ?_)
          rintro e v' ⟨rfl, hc2, hg2⟩
          exact ⟨_, rfl, hK _ _ rfl hg2 (cur_go (by rfl) hc2)⟩
        | 2, _, ho =>
          obtain rfl := Option.some.inj ho
          exact K.d_move 0 _ rfl ((hx 0 (by decide)).trans rfl) (hK _ _ rfl (K.refl _ _) (cur_stay (by rfl) hc))
        | 3, _, ho =>
          obtain rfl := Option.some.inj ho
          obtain rfl : 1 = m := hm 1 rfl
          have e1 : a'.eval (.tmp 7) = .pointer (some ⟨g, 0, none⟩) := (draw_of hnd 2 7 (by kernel_rfl) :)
          refine K.d_pick 7 _ _ g rfl e1 ((H2.out v g A c hc).mono ?_)
          rintro e v' ⟨rfl, hc2, hg2⟩
          exact ⟨_, rfl, hK _ _ rfl hg2 (cur_go (by rfl) hc2)⟩
        | 4, _, ho =>
          obtain rfl := Option.some.inj ho
          exact K.d_move 0 _ rfl ((hx 0 (by decide)).trans rfl) (hK _ _ rfl (K.refl _ _) (cur_stay (by rfl) hc))
        | 5, _, ho =>
          obtain rfl := Option.some.inj ho
          obtain rfl : 2 = m := hm 2 rfl
          have e1 : a'.eval (.tmp 9) = .pointer (some ⟨g, 0, none⟩) := (draw_of hnd 4 9 (by kernel_rfl) :)
          refine K.d_wide 9 _ _ g rfl e1 ((H3.out v g A c hc).mono ?_)
          rintro e v' ⟨rfl, hc2, hg2⟩
          exact ⟨_, rfl, hK _ _ rfl hg2 (cur_go (by rfl) hc2)⟩
        | 6, _, ho =>
          obtain rfl := Option.some.inj ho
          exact K.d_row5 _ _ _ _ _ (0 : Int) (2 : Int) (2 : Int) (1 : Int) (4 : Int) rfl rfl rfl rfl rfl rfl (hK _ _ (drawn_row v g _ hc.lt [(0 : Int), (2 : Int), (2 : Int), (1 : Int), (4 : Int)] _ rfl _ _ rfl) (only_new (K.refl _ _) _) (cur_stay (by rfl) (hc.below (Joins.below_alloc1 v _))))
        | 7, _, ho =>
          obtain rfl := Option.some.inj ho
          exact K.d_move 0 _ rfl ((hx 0 (by decide)).trans rfl) (hK _ _ rfl (K.refl _ _) (cur_stay (by rfl) hc))
        | 8, _, ho =>
          obtain rfl := Option.some.inj ho
          obtain rfl : 3 = m := hm 3 rfl
          have e1 : a'.eval (.tmp 12) = .pointer (some ⟨g, 0, none⟩) := (draw_of hnd 7 12 (by kernel_rfl) :)
          refine K.d_pick 12 _ _ g rfl e1 ((H4.out v g A c hc).mono ?_)
          rintro e v' ⟨rfl, hc2, hg2⟩
          exact ⟨_, rfl, hK _ _ rfl hg2 (cur_go (by rfl) hc2)⟩
        | 9, _, ho =>
          obtain rfl := Option.some.inj ho
          obtain ⟨b, e1, hb1, hcs⟩ : ∃ b, a'.eval (.tmp 11) = .slice (some ⟨b, 0, none⟩) 5 5 ∧ b ≠ g ∧ ∀ j x, ([(0 : Int), (2 : Int), (2 : Int), (1 : Int), (4 : Int)] : List Int)[j]? = some x → v.cell? ⟨b, j, none⟩ = some (.int .i64 x) := (draw_of hnd 6 11 (by kernel_rfl) :)
          have e2 : a'.eval (.tmp 13) = .int .i64 (y4 : Int) := (draw_of hnd 8 13 (by kernel_rfl) :)
          exact K.d_idx 11 13 b 5 y4 rfl e1 e2 (by omega) (hK _ _ ⟨b, y4, rfl, hb1, hcs _ _ Hv4.out⟩ (K.refl _ _) (cur_stay (by rfl) hc))
        | 10, _, ho =>
          obtain rfl := Option.some.inj ho
          obtain ⟨b, q, e1, hb1, hx2⟩ : ∃ b q, a'.eval (.tmp 14) = .pointer (some ⟨b, q, none⟩) ∧ b ≠ g ∧ v.cell? ⟨b, q, none⟩ = some (.int .i64 v4) := (draw_of hnd 9 14 (by kernel_rfl) :)
          exact K.d_load 14 b q _ rfl e1 hx2 (hK _ _ rfl (K.refl _ _) (cur_stay (by rfl) hc))
        | 11, _, ho =>
          obtain rfl := Option.some.inj ho
          exact K.d_move 0 _ rfl ((hx 0 (by decide)).trans rfl) (hK _ _ rfl (K.refl _ _) (cur_stay (by rfl) hc))
        | 12, _, ho =>
          obtain rfl := Option.some.inj ho
          obtain rfl : 4 = m := hm 4 rfl
          have e1 : a'.eval (.tmp 16) = .pointer (some ⟨g, 0, none⟩) := (draw_of hnd 11 16 (by kernel_rfl) :)
          refine K.d_pick 16 _ _ g rfl e1 ((H5.out v g A c hc).mono ?_)
          rintro e v' ⟨rfl, hc2, hg2⟩
          exact ⟨_, rfl, hK _ _ rfl hg2 (cur_go (by rfl) hc2)⟩
        | 13, _, ho =>
          obtain rfl := Option.some.inj ho
          have e5 : a'.eval (.tmp 17) = .int .i64 x5 := (draw_of hnd 12 17 (by kernel_rfl) :)
          exact K.d_row6 _ _ _ _ _ _ (64 : Int) (1 : Int) (2 : Int) (0 : Int) (255 : Int) x5 rfl rfl rfl rfl rfl rfl e5 (hK _ _ (drawn_row v g _ hc.lt [(64 : Int), (1 : Int), (2 : Int), (0 : Int), (255 : Int), x5] _ rfl _ _ rfl) (only_new (K.refl _ _) _) (cur_stay (by rfl) (hc.below (Joins.below_alloc1 v _))))
        | 14, _, ho =>
          obtain rfl := Option.some.inj ho
          exact K.d_move 0 _ rfl ((hx 0 (by decide)).trans rfl) (hK _ _ rfl (K.refl _ _) (cur_stay (by rfl) hc))
        | 15, _, ho =>
          obtain rfl := Option.some.inj ho
          obtain rfl : 5 = m := hm 5 rfl
          have e1 : a'.eval (.tmp 19) = .pointer (some ⟨g, 0, none⟩) := (draw_of hnd 14 19 (by kernel_rfl) :)
          refine K.d_pick 19 _ _ g rfl e1 ((H6.out v g A c hc).mono ?_)
          rintro e v' ⟨rfl, hc2, hg2⟩
          exact ⟨_, rfl, hK _ _ rfl hg2 (cur_go (by rfl) hc2)⟩
        | 16, _, ho =>
          obtain rfl := Option.some.inj ho
          obtain ⟨b, e1, hb1, hcs⟩ : ∃ b, a'.eval (.tmp 18) = .slice (some ⟨b, 0, none⟩) 6 6 ∧ b ≠ g ∧ ∀ j x, ([(64 : Int), (1 : Int), (2 : Int), (0 : Int), (255 : Int), x5] : List Int)[j]? = some x → v.cell? ⟨b, j, none⟩ = some (.int .i64 x) := (draw_of hnd 13 18 (by kernel_rfl) :)
          have e2 : a'.eval (.tmp 20) = .int .i64 (y6 : Int) := (draw_of hnd 15 20 (by kernel_rfl) :)
          exact K.d_idx 18 20 b 6 y6 rfl e1 e2 (by omega) (hK _ _ ⟨b, y6, rfl, hb1, hcs _ _ Hv6.out⟩ (K.refl _ _) (cur_stay (by rfl) hc))
        | 17, _, ho =>
          obtain rfl := Option.some.inj ho
          obtain ⟨b, q, e1, hb1, hx2⟩ : ∃ b q, a'.eval (.tmp 21) = .pointer (some ⟨b, q, none⟩) ∧ b ≠ g ∧ v.cell? ⟨b, q, none⟩ = some (.int .i64 v6) := (draw_of hnd 16 21 (by kernel_rfl) :)
          exact K.d_load 21 b q _ rfl e1 hx2 (hK _ _ rfl (K.refl _ _) (cur_stay (by rfl) hc))
        | 18, _, ho =>
          obtain rfl := Option.some.inj ho
          exact K.d_move 0 _ rfl ((hx 0 (by decide)).trans rfl) (hK _ _ rfl (K.refl _ _) (cur_stay (by rfl) hc))
        | 19, _, ho =>
          obtain rfl := Option.some.inj ho
          obtain rfl : 6 = m := hm 6 rfl
          have e1 : a'.eval (.tmp 23) = .pointer (some ⟨g, 0, none⟩) := (draw_of hnd 18 23 (by kernel_rfl) :)
          refine K.d_pick 23 _ _ g rfl e1 ((H7.out v g A c hc).mono ?_)
          rintro e v' ⟨rfl, hc2, hg2⟩
          exact ⟨_, rfl, hK _ _ rfl hg2 (cur_go (by rfl) hc2)⟩
        | 20, _, ho =>
          obtain rfl := Option.some.inj ho
          have e6 : a'.eval (.tmp 24) = .int .i64 x7 := (draw_of hnd 19 24 (by kernel_rfl) :)
          exact K.d_row7 _ _ _ _ _ _ _ (6 : Int) (17 : Int) (1 : Int) (47 : Int) (6 : Int) (17 : Int) x7 rfl rfl rfl rfl rfl rfl rfl e6 (hK _ _ (drawn_row v g _ hc.lt [(6 : Int), (17 : Int), (1 : Int), (47 : Int), (6 : Int), (17 : Int), x7] _ rfl _ _ rfl) (only_new (K.refl _ _) _) (cur_stay (by rfl) (hc.below (Joins.below_alloc1 v _))))
        | 21, _, ho =>
          obtain rfl := Option.some.inj ho
          exact K.d_move 0 _ rfl ((hx 0 (by decide)).trans rfl) (hK _ _ rfl (K.refl _ _) (cur_stay (by rfl) hc))
        | 22, _, ho =>
          obtain rfl := Option.some.inj ho
          obtain rfl : 7 = m := hm 7 rfl
          have e1 : a'.eval (.tmp 26) = .pointer (some ⟨g, 0, none⟩) := (draw_of hnd 21 26 (by kernel_rfl) :)
          refine K.d_pick 26 _ _ g rfl e1 ((H8.out v g A c hc).mono ?_)
          rintro e v' ⟨rfl, hc2, hg2⟩
          exact ⟨_, rfl, hK _ _ rfl hg2 (cur_go (by rfl) hc2)⟩
        | 23, _, ho =>
          obtain rfl := Option.some.inj ho
          obtain ⟨b, e1, hb1, hcs⟩ : ∃ b, a'.eval (.tmp 25) = .slice (some ⟨b, 0, none⟩) 7 7 ∧ b ≠ g ∧ ∀ j x, ([(6 : Int), (17 : Int), (1 : Int), (47 : Int), (6 : Int), (17 : Int), x7] : List Int)[j]? = some x → v.cell? ⟨b, j, none⟩ = some (.int .i64 x) := (draw_of hnd 20 25 (by kernel_rfl) :)
          have e2 : a'.eval (.tmp 27) = .int .i64 (y8 : Int) := (draw_of hnd 22 27 (by kernel_rfl) :)
          exact K.d_idx 25 27 b 7 y8 rfl e1 e2 (by omega) (hK _ _ ⟨b, y8, rfl, hb1, hcs _ _ Hv8.out⟩ (K.refl _ _) (cur_stay (by rfl) hc))
        | 24, _, ho =>
          obtain rfl := Option.some.inj ho
          obtain ⟨b, q, e1, hb1, hx2⟩ : ∃ b q, a'.eval (.tmp 28) = .pointer (some ⟨b, q, none⟩) ∧ b ≠ g ∧ v.cell? ⟨b, q, none⟩ = some (.int .i64 v8) := (draw_of hnd 23 28 (by kernel_rfl) :)
          exact K.d_load 28 b q _ rfl e1 hx2 (hK _ _ rfl (K.refl _ _) (cur_stay (by rfl) hc))
        | 25, _, ho =>
          obtain rfl := Option.some.inj ho
          have e0 : a'.eval (.tmp 6) = .int .i64 x1 := (draw_of hnd 1 6 (by kernel_rfl) :)
          have e1 : a'.eval (.tmp 8) = .int .i64 x2 := (draw_of hnd 3 8 (by kernel_rfl) :)
          have e2 : a'.eval (.tmp 10) = .int .i64 x3 := (draw_of hnd 5 10 (by kernel_rfl) :)
          have e3 : a'.eval (.tmp 15) = .int .i64 v4 := (draw_of hnd 10 15 (by kernel_rfl) :)
          have e4 : a'.eval (.tmp 22) = .int .i64 v6 := (draw_of hnd 17 22 (by kernel_rfl) :)
          have e5 : a'.eval (.tmp 29) = .int .i64 v8 := (draw_of hnd 24 29 (by kernel_rfl) :)
          exact d_four _ _ _ _ _ _ _ _ _ _ _ _ rfl e0 e1 e2 e3 e4 e5 (hK _ _ rfl (K.refl _ _) (cur_stay (by rfl) hc))
        | 26, _, ho =>
          obtain rfl := Option.some.inj ho
          exact d_allocF rfl (hK _ _ ⟨v.heap.size, rfl, hg.size, Nat.ne_of_gt hc.lt, K.new v _⟩ (only_new (K.refl _ _) _) (cur_stay (by rfl) (hc.below (Joins.below_alloc1 v _))))
        | j + 27, hj, _ => omega
      · intro f v hf hc hg
        have e0 : f 0 = .pointer (some ⟨g, 0, none⟩) := hf (0, 5) (by decide)
        have e1 : f 1 = .int .i64 x1 := hf (1, 6) (by decide)
        have e2 : f 2 = .pointer (some ⟨g, 0, none⟩) := hf (2, 7) (by decide)
        have e3 : f 3 = .int .i64 x2 := hf (3, 8) (by decide)
        have e4 : f 4 = .pointer (some ⟨g, 0, none⟩) := hf (4, 9) (by decide)
        have e5 : f 5 = .int .i64 x3 := hf (5, 10) (by decide)
        have e7 : f 7 = .pointer (some ⟨g, 0, none⟩) := hf (7, 12) (by decide)
        have e8 : f 8 = .int .i64 (y4 : Int) := hf (8, 13) (by decide)
        have e10 : f 10 = .int .i64 v4 := hf (10, 15) (by decide)
        have e11 : f 11 = .pointer (some ⟨g, 0, none⟩) := hf (11, 16) (by decide)
        have e12 : f 12 = .int .i64 x5 := hf (12, 17) (by decide)
        have e14 : f 14 = .pointer (some ⟨g, 0, none⟩) := hf (14, 19) (by decide)
        have e15 : f 15 = .int .i64 (y6 : Int) := hf (15, 20) (by decide)
        have e17 : f 17 = .int .i64 v6 := hf (17, 22) (by decide)
        have e18 : f 18 = .pointer (some ⟨g, 0, none⟩) := hf (18, 23) (by decide)
        have e19 : f 19 = .int .i64 x7 := hf (19, 24) (by decide)
        have e21 : f 21 = .pointer (some ⟨g, 0, none⟩) := hf (21, 26) (by decide)
        have e22 : f 22 = .int .i64 (y8 : Int) := hf (22, 27) (by decide)
        have e24 : f 24 = .int .i64 v8 := hf (24, 29) (by decide)
        have e25 : f 25 = (.agg #[.int .i64 x1, .int .i64 x2, .int .i64 x3, .int .i64 v4, .int .i64 0, .int .i64 v6, .int .i64 v8, .int .i64 0, .int .i64 0, .int .i64 0, .int .i64 0, .int .i64 0, .int .i64 0, .int .i64 0, .int .i64 0, .int .i64 0, .int .i64 0, .slice none 0 0, .slice none 0 0]) := hf (25, 30) (by decide)
        obtain ⟨b3, e26, hb3, hbg3, q26⟩ := hf (26, 3) (by decide)
        have QB3 := Lib.hid q26
        clear q26
        simp only [List.foldl_cons, List.foldl_nil, List.drop_succ_cons, List.drop_zero, e0, e1, e2, e3, e4, e5, e7, e8, e10, e11, e12, e14, e15, e17, e18, e19, e21, e22, e24, e25, e26]
        clear e0 e1 e2 e3 e4 e5 e7 e8 e10 e11 e12 e14 e15 e17 e18 e19 e21 e22 e24 e25 e26 hf
        go_simp
        have HC := Lib.hid hc
        have HG := Lib.hid hg
        clear hc hg
        have hb4 : w.heap.size + 1 ≤ b3 := by simpa using hb3
        clear hb3 hbg3
        have Rv := Lib.hid (K.kept HG.out r0.out (fun k hk => by cases hk; omega))
        have Gv := Lib.hid (grownBy_trans (only_new (K.refl w (some g)) (.cells #[.int .i64 0, .int .i64 0, .int .i64 0, .int .i64 0, .int .i64 0, .int .i64 0, .int .i64 0, .int .i64 0, .int .i64 0, .int .i64 0, .int .i64 0, .int .i64 0, .int .i64 0, .int .i64 0, .int .i64 0, .int .i64 0, .int .i64 0, .slice none 0 0, .slice none 0 0] 52)) HG.out)
        have Q1 : Hid ((v.setRow b3 #[.int .i64 x1, .int .i64 x2, .int .i64 x3, .int .i64 v4, .int .i64 0, .int .i64 v6, .int .i64 v8, .int .i64 0, .int .i64 0, .int .i64 0, .int .i64 0, .int .i64 0, .int .i64 0, .int .i64 0, .int .i64 0, .int .i64 0, .int .i64 0, .slice none 0 0, .slice none 0 0]).heap[b3]? = some (.cells #[.int .i64 x1, .int .i64 x2, .int .i64 x3, .int .i64 v4, .int .i64 0, .int .i64 v6, .int .i64 v8, .int .i64 0, .int .i64 0, .int .i64 0, .int .i64 0, .int .i64 0, .int .i64 0, .int .i64 0, .int .i64 0, .int .i64 0, .int .i64 0, .slice none 0 0, .slice none 0 0] 52 (0, 0))) := Lib.hid (setRow_heap _ _ _ _ _ _ QB3.out)
        have R1 := Lib.hid ((setRow_other v b3 w.heap.size #[.int .i64 x1, .int .i64 x2, .int .i64 x3, .int .i64 v4, .int .i64 0, .int .i64 v6, .int .i64 v8, .int .i64 0, .int .i64 0, .int .i64 0, .int .i64 0, .int .i64 0, .int .i64 0, .int .i64 0, .int .i64 0, .int .i64 0, .int .i64 0, .slice none 0 0, .slice none 0 0] (by omega)).trans Rv.out)
        have C1 := Lib.hid (HC.out.grownBy (K.setRow_grown v b3 #[.int .i64 x1, .int .i64 x2, .int .i64 x3, .int .i64 v4, .int .i64 0, .int .i64 v6, .int .i64 v8, .int .i64 0, .int .i64 0, .int .i64 0, .int .i64 0, .int .i64 0, .int .i64 0, .int .i64 0, .int .i64 0, .int .i64 0, .int .i64 0, .slice none 0 0, .slice none 0 0]) (fun u hu => by cases hu; omega))
        have G1 := Lib.hid (grown_other Gv.out (K.setRow_grown v b3 #[.int .i64 x1, .int .i64 x2, .int .i64 x3, .int .i64 v4, .int .i64 0, .int .i64 v6, .int .i64 v8, .int .i64 0, .int .i64 0, .int .i64 0, .int .i64 0, .int .i64 0, .int .i64 0, .int .i64 0, .int .i64 0, .int .i64 0, .int .i64 0, .slice none 0 0, .slice none 0 0]) (fun u hu => by cases hu; omega))
        go_wp2_with (with_reducible refine storeF rfl _ _ rfl b3 rfl rfl QB3.out ?_)
        clear QB3 Rv Gv HC HG
        refine Calls.mono (HA.out _ g A c C1.out) ?_
        rintro e w2 ⟨rfl, hc2, hg2⟩
        have Q2 := Lib.hid (K.kept hg2 Q1.out (fun k hk => by cases hk; omega))
        have R2 := Lib.hid (K.kept hg2 R1.out (fun k hk => by cases hk; omega))
        have C2 := Lib.hid hc2
        have G2 := Lib.hid (grownBy_trans G1.out hg2)
        clear hc2 hg2 Q1 R1 C1 G1
        have c7 := K.cell Q2.out 7 _ rfl
        have c8 := K.cell Q2.out 8 _ rfl
        have c9 := K.cell Q2.out 9 _ rfl
        have c10 := K.cell Q2.out 10 _ rfl
        have c11 := K.cell Q2.out 11 _ rfl
        have f7 := frozen_of_row _ _ 7 _ _ Q2.out
        have f8 := frozen_of_row _ _ 8 _ _ Q2.out
        have f9 := frozen_of_row _ _ 9 _ _ Q2.out
        have f10 := frozen_of_row _ _ 10 _ _ Q2.out
        have f11 := frozen_of_row _ _ 11 _ _ Q2.out
        have Q3 : Hid ((K.setFrom w2 b3 7 [.int .i64 4, .int .i64 0, .int .i64 0, .int .i64 0, .int .i64 da]).heap[b3]? = some (.cells #[.int .i64 x1, .int .i64 x2, .int .i64 x3, .int .i64 v4, .int .i64 0, .int .i64 v6, .int .i64 v8, .int .i64 4, .int .i64 0, .int .i64 0, .int .i64 0, .int .i64 da, .int .i64 0, .int .i64 0, .int .i64 0, .int .i64 0, .int .i64 0, .slice none 0 0, .slice none 0 0] 52 (0, 0))) := Lib.hid (K.set (K.set (K.set (K.set (K.set (Q2.out) 7 (.int .i64 4)) 8 (.int .i64 0)) 9 (.int .i64 0)) 10 (.int .i64 0)) 11 (.int .i64 da))
        have R3 := Lib.hid (K.setFrom_other [.int .i64 4, .int .i64 0, .int .i64 0, .int .i64 0, .int .i64 da] 7 R2.out (show w.heap.size ≠ b3 by omega))
        have C3 := Lib.hid (C2.out.grownBy (K.setFrom_selfE [.int .i64 4, .int .i64 0, .int .i64 0, .int .i64 0, .int .i64 da] w2 b3 7) (fun u hu => by cases hu; omega))
        have G3 := Lib.hid (K.setFrom_grown (g := b3) [.int .i64 4, .int .i64 0, .int .i64 0, .int .i64 0, .int .i64 da] 7 G2.out (by omega))
        go_wp2_with fail
        clear c7 f7 c8 f8 c9 f9 c10 f10 c11 f11 Q2 R2 C2 G2
        refine Calls.mono (HB.out _ g A c C3.out) ?_
        rintro e w4 ⟨rfl, hc2, hg2⟩
        have Q4 := Lib.hid (K.kept hg2 Q3.out (fun k hk => by cases hk; omega))
        have R4 := Lib.hid (K.kept hg2 R3.out (fun k hk => by cases hk; omega))
        have C4 := Lib.hid hc2
        have G4 := Lib.hid (grownBy_trans G3.out hg2)
        clear hc2 hg2 Q3 R3 C3 G3
        have c12 := K.cell Q4.out 12 _ rfl
        have c13 := K.cell Q4.out 13 _ rfl
        have c14 := K.cell Q4.out 14 _ rfl
        have c15 := K.cell Q4.out 15 _ rfl
        have c16 := K.cell Q4.out 16 _ rfl
        have f12 := frozen_of_row _ _ 12 _ _ Q4.out
        have f13 := frozen_of_row _ _ 13 _ _ Q4.out
        have f14 := frozen_of_row _ _ 14 _ _ Q4.out
        have f15 := frozen_of_row _ _ 15 _ _ Q4.out
        have f16 := frozen_of_row _ _ 16 _ _ Q4.out
        have Q5 : Hid ((K.setFrom w4 b3 12 [.int .i64 4, .int .i64 0, .int .i64 0, .int .i64 0, .int .i64 db]).heap[b3]? = some (.cells #[.int .i64 x1, .int .i64 x2, .int .i64 x3, .int .i64 v4, .int .i64 0, .int .i64 v6, .int .i64 v8, .int .i64 4, .int .i64 0, .int .i64 0, .int .i64 0, .int .i64 da, .int .i64 4, .int .i64 0, .int .i64 0, .int .i64 0, .int .i64 db, .slice none 0 0, .slice none 0 0] 52 (0, 0))) := Lib.hid (K.set (K.set (K.set (K.set (K.set (Q4.out) 12 (.int .i64 4)) 13 (.int .i64 0)) 14 (.int .i64 0)) 15 (.int .i64 0)) 16 (.int .i64 db))
        have R5 := Lib.hid (K.setFrom_other [.int .i64 4, .int .i64 0, .int .i64 0, .int .i64 0, .int .i64 db] 12 R4.out (show w.heap.size ≠ b3 by omega))
        have C5 := Lib.hid (C4.out.grownBy (K.setFrom_selfE [.int .i64 4, .int .i64 0, .int .i64 0, .int .i64 0, .int .i64 db] w4 b3 12) (fun u hu => by cases hu; omega))
        have G5 := Lib.hid (K.setFrom_grown (g := b3) [.int .i64 4, .int .i64 0, .int .i64 0, .int .i64 0, .int .i64 db] 12 G4.out (by omega))
        go_wp2_with fail
        clear c12 f12 c13 f13 c14 f14 c15 f15 c16 f16 Q4 R4 C4 G4
        refine Calls.mono (HO1.out _ g A c C5.out) ?_
        rintro e w6 ⟨rfl, hc2, hg2⟩
        have Q6 := Lib.hid (K.kept hg2 Q5.out (fun k hk => by cases hk; omega))
        have R6 := Lib.hid (K.kept hg2 R5.out (fun k hk => by cases hk; omega))
        have C6 := Lib.hid hc2
        have G6 := Lib.hid (grownBy_trans G5.out hg2)
        clear hc2 hg2 Q5 R5 C5 G5
        go_wp2_with fail
        refine Calls.mono (HO2.out _ g A c C6.out) ?_
        rintro e w7 ⟨rfl, hc2, hg2⟩
        have Q7 := Lib.hid (K.kept hg2 Q6.out (fun k hk => by cases hk; omega))
        have R7 := Lib.hid (K.kept hg2 R6.out (fun k hk => by cases hk; omega))
        have C7 := Lib.hid hc2
        have G7 := Lib.hid (grownBy_trans G6.out hg2)
        clear hc2 hg2 Q6 R6 C6 G6
        go_wp2_with (first | (with_reducible refine loadF rfl _ rfl b3 rfl Q7.out ?_) | (with_reducible refine storeF rfl _ _ rfl w.heap.size rfl rfl R7.out ?_))
        (try simp only [Exit.inBlock, Exit.then])
        refine bodyPost_ret (v := .agg #[.int .i64 x1, .int .i64 x2, .int .i64 x3, .int .i64 v4, .int .i64 0, .int .i64 v6, .int .i64 v8, .int .i64 4, .int .i64 0, .int .i64 0, .int .i64 0, .int .i64 da, .int .i64 4, .int .i64 0, .int .i64 0, .int .i64 0, .int .i64 db, .slice none 0 0, .slice none 0 0]) ?_ rfl ⟨none, 0, none, 0, rfl, ⟨rfl, .inl ⟨rfl, rfl⟩⟩, ⟨rfl, .inl ⟨rfl, rfl⟩⟩, ?_, ?_⟩
        · exact resF Try.results99 _ _ w.heap.size rfl (setRow_heap _ _ _ _ _ _ R7.out)
        · exact C7.out.grownBy (K.setRow_grown _ _ _) (fun u hu => by cases hu; omega)
        · exact grown_other G7.out (K.setRow_grown _ _ _) (fun u hu => by cases hu; omega)
    | true =>
      obtain ⟨xo, so, loo, upo, hdo⟩ := pickE bs (t + 1 + 1 + 3 + 1 + 1 + 1 + 1 + 1 + 9 + 9 + 1 + 1) sd 11 (by omega) (by omega) (by omega)
      have HP := Lib.hid hdo
      clear hdo
      obtain ⟨yo, rfl⟩ : ∃ k : Nat, xo = k := ⟨xo.toNat, by omega⟩
      refine ⟨⟨x1, x2, x3, v4, 0, v6, v8, ⟨4, 0, 0, 0, da⟩, ⟨4, 0, 0, 0, db⟩⟩, bytesL bs (t + 1 + 1 + 3 + 1 + 1 + 1 + 1 + 1 + 9 + 9 + 1 + 1 + 1) so (4 * yo), t + 1 + 1 + 3 + 1 + 1 + 1 + 1 + 1 + 9 + 9 + 1 + 1 + 1 + 4 * yo, seedAt bs (t + 1 + 1 + 3 + 1 + 1 + 1 + 1 + 1 + 9 + 9 + 1 + 1 + 1) so (4 * yo), by rw [bytesL_length]; omega, by omega, fun w g A c hc0 => ?_⟩
      have hgl := hc0.lt
      have CUR0 := hc0.below (Joins.below_alloc1 w (.cells #[.int .i64 0, .int .i64 0, .int .i64 0, .int .i64 0, .int .i64 0, .int .i64 0, .int .i64 0, .int .i64 0, .int .i64 0, .int .i64 0, .int .i64 0, .int .i64 0, .int .i64 0, .int .i64 0, .int .i64 0, .int .i64 0, .int .i64 0, .slice none 0 0, .slice none 0 0] 52))
      have r0 := Lib.hid (K.new w (.cells #[.int .i64 0, .int .i64 0, .int .i64 0, .int .i64 0, .int .i64 0, .int .i64 0, .int .i64 0, .int .i64 0, .int .i64 0, .int .i64 0, .int .i64 0, .int .i64 0, .int .i64 0, .int .i64 0, .int .i64 0, .int .i64 0, .int .i64 0, .slice none 0 0, .slice none 0 0] 52))
      clear hc0
      go_enter Try.func99, Try.ntmps99
      go_wp2_with fail
      refine wp_region_draws 27 67 [(0, 5), (1, 6), (2, 7), (3, 8), (4, 9), (5, 10), (6, 11), (7, 12), (8, 13), (9, 14), (10, 15), (11, 16), (12, 17), (13, 18), (14, 19), (15, 20), (16, 21), (17, 22), (18, 23), (19, 24), (20, 25), (21, 26), (22, 27), (23, 28), (24, 29), (25, 30), (26, 3)] [.cur, .int x1, .cur, .int x2, .cur, .int x3, .row [(0 : Int), (2 : Int), (2 : Int), (1 : Int), (4 : Int)], .cur, .int (y4 : Int), .cellp v4, .int v4, .cur, .int x5, .row [(64 : Int), (1 : Int), (2 : Int), (0 : Int), (255 : Int), x5], .cur, .int (y6 : Int), .cellp v6, .int v6, .cur, .int x7, .row [(6 : Int), (17 : Int), (1 : Int), (47 : Int), (6 : Int), (17 : Int), x7], .cur, .int (y8 : Int), .cellp v8, .int v8, .val (.agg #[.int .i64 x1, .int .i64 x2, .int .i64 x3, .int .i64 v4, .int .i64 0, .int .i64 v6, .int .i64 v8, .int .i64 0, .int .i64 0, .int .i64 0, .int .i64 0, .int .i64 0, .int .i64 0, .int .i64 0, .int .i64 0, .int .i64 0, .int .i64 0, .slice none 0 0, .slice none 0 0]), .blk (.cells #[.int .i64 0, .int .i64 0, .int .i64 0, .int .i64 0, .int .i64 0, .int .i64 0, .int .i64 0, .int .i64 0, .int .i64 0, .int .i64 0, .int .i64 0, .int .i64 0, .int .i64 0, .int .i64 0, .int .i64 0, .int .i64 0, .int .i64 0, .slice none 0 0, .slice none 0 0] 52)] [1, 3, 5, 8, 12, 15, 19, 22] g A c bs [t, t + 1, t + 1 + 1, t + 1 + 1 + 3, t + 1 + 1 + 3 + 1, t + 1 + 1 + 3 + 1 + 1, t + 1 + 1 + 3 + 1 + 1 + 1, t + 1 + 1 + 3 + 1 + 1 + 1 + 1, t + 1 + 1 + 3 + 1 + 1 + 1 + 1 + 1] [s, s1, s2, s3, s4, s5, s6, s7, s8] _ (by kernel_rfl) (by kernel_rfl) rfl (by kernel_rfl) (by kernel_rfl) rfl CUR0 ?_ ?_
      · intro j o hj ho m a' v K' hx hnd hm hc hg hK
        match j, hj, ho with
        | 0, _, ho =>
          obtain rfl := Option.some.inj ho
          exact K.d_move 0 _ rfl ((hx 0 (by decide)).trans rfl) (hK _ _ rfl (K.refl _ _) (cur_stay (by rfl) hc))
        | 1, _, ho =>
          obtain rfl := Option.some.inj ho
          obtain rfl : 0 = m := hm 0 rfl
          have e1 : a'.eval (.tmp 5) = .pointer (some ⟨g, 0, none⟩) := (draw_of hnd 0 5 (by kernel_rfl) :)
          refine K.d_pick 5 _ _ g rfl e1 ((H1.out v g A c hc).mono ?_)
          rintro e v' ⟨rfl, hc2, hg2⟩
          exact ⟨_, rfl, hK _ _ rfl hg2 (cur_go (by rfl) hc2)⟩
        | 2, _, ho =>
          obtain rfl := Option.some.inj ho
          exact K.d_move 0 _ rfl ((hx 0 (by decide)).trans rfl) (hK _ _ rfl (K.refl _ _) (cur_stay (by rfl) hc))
        | 3, _, ho =>
          obtain rfl := Option.some.inj ho
          obtain rfl : 1 = m := hm 1 rfl
          have e1 : a'.eval (.tmp 7) = .pointer (some ⟨g, 0, none⟩) := (draw_of hnd 2 7 (by kernel_rfl) :)
          refine K.d_pick 7 _ _ g rfl e1 ((H2.out v g A c hc).mono ?_)
          rintro e v' ⟨rfl, hc2, hg2⟩
          exact ⟨_, rfl, hK _ _ rfl hg2 (cur_go (by rfl) hc2)⟩
        | 4, _, ho =>
          obtain rfl := Option.some.inj ho
          exact K.d_move 0 _ rfl ((hx 0 (by decide)).trans rfl) (hK _ _ rfl (K.refl _ _) (cur_stay (by rfl) hc))
        | 5, _, ho =>
          obtain rfl := Option.some.inj ho
          obtain rfl : 2 = m := hm 2 rfl
          have e1 : a'.eval (.tmp 9) = .pointer (some ⟨g, 0, none⟩) := (draw_of hnd 4 9 (by kernel_rfl) :)
          refine K.d_wide 9 _ _ g rfl e1 ((H3.out v g A c hc).mono ?_)
          rintro e v' ⟨rfl, hc2, hg2⟩
          exact ⟨_, rfl, hK _ _ rfl hg2 (cur_go (by rfl) hc2)⟩
        | 6, _, ho =>
          obtain rfl := Option.some.inj ho
          exact K.d_row5 _ _ _ _ _ (0 : Int) (2 : Int) (2 : Int) (1 : Int) (4 : Int) rfl rfl rfl rfl rfl rfl (hK _ _ (drawn_row v g _ hc.lt [(0 : Int), (2 : Int), (2 : Int), (1 : Int), (4 : Int)] _ rfl _ _ rfl) (only_new (K.refl _ _) _) (cur_stay (by rfl) (hc.below (Joins.below_alloc1 v _))))
        | 7, _, ho =>
          obtain rfl := Option.some.inj ho
          exact K.d_move 0 _ rfl ((hx 0 (by decide)).trans rfl) (hK _ _ rfl (K.refl _ _) (cur_stay (by rfl) hc))
        | 8, _, ho =>
          obtain rfl := Option.some.inj ho
          obtain rfl : 3 = m := hm 3 rfl
          have e1 : a'.eval (.tmp 12) = .pointer (some ⟨g, 0, none⟩) := (draw_of hnd 7 12 (by kernel_rfl) :)
          refine K.d_pick 12 _ _ g rfl e1 ((H4.out v g A c hc).mono ?_)
          rintro e v' ⟨rfl, hc2, hg2⟩
          exact ⟨_, rfl, hK _ _ rfl hg2 (cur_go (by rfl) hc2)⟩
        | 9, _, ho =>
          obtain rfl := Option.some.inj ho
          obtain ⟨b, e1, hb1, hcs⟩ : ∃ b, a'.eval (.tmp 11) = .slice (some ⟨b, 0, none⟩) 5 5 ∧ b ≠ g ∧ ∀ j x, ([(0 : Int), (2 : Int), (2 : Int), (1 : Int), (4 : Int)] : List Int)[j]? = some x → v.cell? ⟨b, j, none⟩ = some (.int .i64 x) := (draw_of hnd 6 11 (by kernel_rfl) :)
          have e2 : a'.eval (.tmp 13) = .int .i64 (y4 : Int) := (draw_of hnd 8 13 (by kernel_rfl) :)
          exact K.d_idx 11 13 b 5 y4 rfl e1 e2 (by omega) (hK _ _ ⟨b, y4, rfl, hb1, hcs _ _ Hv4.out⟩ (K.refl _ _) (cur_stay (by rfl) hc))
        | 10, _, ho =>
          obtain rfl := Option.some.inj ho
          obtain ⟨b, q, e1, hb1, hx2⟩ : ∃ b q, a'.eval (.tmp 14) = .pointer (some ⟨b, q, none⟩) ∧ b ≠ g ∧ v.cell? ⟨b, q, none⟩ = some (.int .i64 v4) := (draw_of hnd 9 14 (by kernel_rfl) :)
          exact K.d_load 14 b q _ rfl e1 hx2 (hK _ _ rfl (K.refl _ _) (cur_stay (by rfl) hc))
        | 11, _, ho =>
          obtain rfl := Option.some.inj ho
          exact K.d_move 0 _ rfl ((hx 0 (by decide)).trans rfl) (hK _ _ rfl (K.refl _ _) (cur_stay (by rfl) hc))
        | 12, _, ho =>
          obtain rfl := Option.some.inj ho
          obtain rfl : 4 = m := hm 4 rfl
          have e1 : a'.eval (.tmp 16) = .pointer (some ⟨g, 0, none⟩) := (draw_of hnd 11 16 (by kernel_rfl) :)
          refine K.d_pick 16 _ _ g rfl e1 ((H5.out v g A c hc).mono ?_)
          rintro e v' ⟨rfl, hc2, hg2⟩
          exact ⟨_, rfl, hK _ _ rfl hg2 (cur_go (by rfl) hc2)⟩
        | 13, _, ho =>
          obtain rfl := Option.some.inj ho
          have e5 : a'.eval (.tmp 17) = .int .i64 x5 := (draw_of hnd 12 17 (by kernel_rfl) :)
          exact K.d_row6 _ _ _ _ _ _ (64 : Int) (1 : Int) (2 : Int) (0 : Int) (255 : Int) x5 rfl rfl rfl rfl rfl rfl e5 (hK _ _ (drawn_row v g _ hc.lt [(64 : Int), (1 : Int), (2 : Int), (0 : Int), (255 : Int), x5] _ rfl _ _ rfl) (only_new (K.refl _ _) _) (cur_stay (by rfl) (hc.below (Joins.below_alloc1 v _))))
        | 14, _, ho =>
          obtain rfl := Option.some.inj ho
          exact K.d_move 0 _ rfl ((hx 0 (by decide)).trans rfl) (hK _ _ rfl (K.refl _ _) (cur_stay (by rfl) hc))
        | 15, _, ho =>
          obtain rfl := Option.some.inj ho
          obtain rfl : 5 = m := hm 5 rfl
          have e1 : a'.eval (.tmp 19) = .pointer (some ⟨g, 0, none⟩) := (draw_of hnd 14 19 (by kernel_rfl) :)
          refine K.d_pick 19 _ _ g rfl e1 ((H6.out v g A c hc).mono ?_)
          rintro e v' ⟨rfl, hc2, hg2⟩
          exact ⟨_, rfl, hK _ _ rfl hg2 (cur_go (by rfl) hc2)⟩
        | 16, _, ho =>
          obtain rfl := Option.some.inj ho
          obtain ⟨b, e1, hb1, hcs⟩ : ∃ b, a'.eval (.tmp 18) = .slice (some ⟨b, 0, none⟩) 6 6 ∧ b ≠ g ∧ ∀ j x, ([(64 : Int), (1 : Int), (2 : Int), (0 : Int), (255 : Int), x5] : List Int)[j]? = some x → v.cell? ⟨b, j, none⟩ = some (.int .i64 x) := (draw_of hnd 13 18 (by kernel_rfl) :)
          have e2 : a'.eval (.tmp 20) = .int .i64 (y6 : Int) := (draw_of hnd 15 20 (by kernel_rfl) :)
          exact K.d_idx 18 20 b 6 y6 rfl e1 e2 (by omega) (hK _ _ ⟨b, y6, rfl, hb1, hcs _ _ Hv6.out⟩ (K.refl _ _) (cur_stay (by rfl) hc))
        | 17, _, ho =>
          obtain rfl := Option.some.inj ho
          obtain ⟨b, q, e1, hb1, hx2⟩ : ∃ b q, a'.eval (.tmp 21) = .pointer (some ⟨b, q, none⟩) ∧ b ≠ g ∧ v.cell? ⟨b, q, none⟩ = some (.int .i64 v6) := (draw_of hnd 16 21 (by kernel_rfl) :)
          exact K.d_load 21 b q _ rfl e1 hx2 (hK _ _ rfl (K.refl _ _) (cur_stay (by rfl) hc))
        | 18, _, ho =>
          obtain rfl := Option.some.inj ho
          exact K.d_move 0 _ rfl ((hx 0 (by decide)).trans rfl) (hK _ _ rfl (K.refl _ _) (cur_stay (by rfl) hc))
        | 19, _, ho =>
          obtain rfl := Option.some.inj ho
          obtain rfl : 6 = m := hm 6 rfl
          have e1 : a'.eval (.tmp 23) = .pointer (some ⟨g, 0, none⟩) := (draw_of hnd 18 23 (by kernel_rfl) :)
          refine K.d_pick 23 _ _ g rfl e1 ((H7.out v g A c hc).mono ?_)
          rintro e v' ⟨rfl, hc2, hg2⟩
          exact ⟨_, rfl, hK _ _ rfl hg2 (cur_go (by rfl) hc2)⟩
        | 20, _, ho =>
          obtain rfl := Option.some.inj ho
          have e6 : a'.eval (.tmp 24) = .int .i64 x7 := (draw_of hnd 19 24 (by kernel_rfl) :)
          exact K.d_row7 _ _ _ _ _ _ _ (6 : Int) (17 : Int) (1 : Int) (47 : Int) (6 : Int) (17 : Int) x7 rfl rfl rfl rfl rfl rfl rfl e6 (hK _ _ (drawn_row v g _ hc.lt [(6 : Int), (17 : Int), (1 : Int), (47 : Int), (6 : Int), (17 : Int), x7] _ rfl _ _ rfl) (only_new (K.refl _ _) _) (cur_stay (by rfl) (hc.below (Joins.below_alloc1 v _))))
        | 21, _, ho =>
          obtain rfl := Option.some.inj ho
          exact K.d_move 0 _ rfl ((hx 0 (by decide)).trans rfl) (hK _ _ rfl (K.refl _ _) (cur_stay (by rfl) hc))
        | 22, _, ho =>
          obtain rfl := Option.some.inj ho
          obtain rfl : 7 = m := hm 7 rfl
          have e1 : a'.eval (.tmp 26) = .pointer (some ⟨g, 0, none⟩) := (draw_of hnd 21 26 (by kernel_rfl) :)
          refine K.d_pick 26 _ _ g rfl e1 ((H8.out v g A c hc).mono ?_)
          rintro e v' ⟨rfl, hc2, hg2⟩
          exact ⟨_, rfl, hK _ _ rfl hg2 (cur_go (by rfl) hc2)⟩
        | 23, _, ho =>
          obtain rfl := Option.some.inj ho
          obtain ⟨b, e1, hb1, hcs⟩ : ∃ b, a'.eval (.tmp 25) = .slice (some ⟨b, 0, none⟩) 7 7 ∧ b ≠ g ∧ ∀ j x, ([(6 : Int), (17 : Int), (1 : Int), (47 : Int), (6 : Int), (17 : Int), x7] : List Int)[j]? = some x → v.cell? ⟨b, j, none⟩ = some (.int .i64 x) := (draw_of hnd 20 25 (by kernel_rfl) :)
          have e2 : a'.eval (.tmp 27) = .int .i64 (y8 : Int) := (draw_of hnd 22 27 (by kernel_rfl) :)
          exact K.d_idx 25 27 b 7 y8 rfl e1 e2 (by omega) (hK _ _ ⟨b, y8, rfl, hb1, hcs _ _ Hv8.out⟩ (K.refl _ _) (cur_stay (by rfl) hc))
        | 24, _, ho =>
          obtain rfl := Option.some.inj ho
          obtain ⟨b, q, e1, hb1, hx2⟩ : ∃ b q, a'.eval (.tmp 28) = .pointer (some ⟨b, q, none⟩) ∧ b ≠ g ∧ v.cell? ⟨b, q, none⟩ = some (.int .i64 v8) := (draw_of hnd 23 28 (by kernel_rfl) :)
          exact K.d_load 28 b q _ rfl e1 hx2 (hK _ _ rfl (K.refl _ _) (cur_stay (by rfl) hc))
        | 25, _, ho =>
          obtain rfl := Option.some.inj ho
          have e0 : a'.eval (.tmp 6) = .int .i64 x1 := (draw_of hnd 1 6 (by kernel_rfl) :)
          have e1 : a'.eval (.tmp 8) = .int .i64 x2 := (draw_of hnd 3 8 (by kernel_rfl) :)
          have e2 : a'.eval (.tmp 10) = .int .i64 x3 := (draw_of hnd 5 10 (by kernel_rfl) :)
          have e3 : a'.eval (.tmp 15) = .int .i64 v4 := (draw_of hnd 10 15 (by kernel_rfl) :)
          have e4 : a'.eval (.tmp 22) = .int .i64 v6 := (draw_of hnd 17 22 (by kernel_rfl) :)
          have e5 : a'.eval (.tmp 29) = .int .i64 v8 := (draw_of hnd 24 29 (by kernel_rfl) :)
          exact d_four _ _ _ _ _ _ _ _ _ _ _ _ rfl e0 e1 e2 e3 e4 e5 (hK _ _ rfl (K.refl _ _) (cur_stay (by rfl) hc))
        | 26, _, ho =>
          obtain rfl := Option.some.inj ho
          exact d_allocF rfl (hK _ _ ⟨v.heap.size, rfl, hg.size, Nat.ne_of_gt hc.lt, K.new v _⟩ (only_new (K.refl _ _) _) (cur_stay (by rfl) (hc.below (Joins.below_alloc1 v _))))
        | j + 27, hj, _ => omega
      · intro f v hf hc hg
        have e0 : f 0 = .pointer (some ⟨g, 0, none⟩) := hf (0, 5) (by decide)
        have e1 : f 1 = .int .i64 x1 := hf (1, 6) (by decide)
        have e2 : f 2 = .pointer (some ⟨g, 0, none⟩) := hf (2, 7) (by decide)
        have e3 : f 3 = .int .i64 x2 := hf (3, 8) (by decide)
        have e4 : f 4 = .pointer (some ⟨g, 0, none⟩) := hf (4, 9) (by decide)
        have e5 : f 5 = .int .i64 x3 := hf (5, 10) (by decide)
        have e7 : f 7 = .pointer (some ⟨g, 0, none⟩) := hf (7, 12) (by decide)
        have e8 : f 8 = .int .i64 (y4 : Int) := hf (8, 13) (by decide)
        have e10 : f 10 = .int .i64 v4 := hf (10, 15) (by decide)
        have e11 : f 11 = .pointer (some ⟨g, 0, none⟩) := hf (11, 16) (by decide)
        have e12 : f 12 = .int .i64 x5 := hf (12, 17) (by decide)
        have e14 : f 14 = .pointer (some ⟨g, 0, none⟩) := hf (14, 19) (by decide)
        have e15 : f 15 = .int .i64 (y6 : Int) := hf (15, 20) (by decide)
        have e17 : f 17 = .int .i64 v6 := hf (17, 22) (by decide)
        have e18 : f 18 = .pointer (some ⟨g, 0, none⟩) := hf (18, 23) (by decide)
        have e19 : f 19 = .int .i64 x7 := hf (19, 24) (by decide)
        have e21 : f 21 = .pointer (some ⟨g, 0, none⟩) := hf (21, 26) (by decide)
        have e22 : f 22 = .int .i64 (y8 : Int) := hf (22, 27) (by decide)
        have e24 : f 24 = .int .i64 v8 := hf (24, 29) (by decide)
        have e25 : f 25 = (.agg #[.int .i64 x1, .int .i64 x2, .int .i64 x3, .int .i64 v4, .int .i64 0, .int .i64 v6, .int .i64 v8, .int .i64 0, .int .i64 0, .int .i64 0, .int .i64 0, .int .i64 0, .int .i64 0, .int .i64 0, .int .i64 0, .int .i64 0, .int .i64 0, .slice none 0 0, .slice none 0 0]) := hf (25, 30) (by decide)
        obtain ⟨b3, e26, hb3, hbg3, q26⟩ := hf (26, 3) (by decide)
        have QB3 := Lib.hid q26
        clear q26
        simp only [List.foldl_cons, List.foldl_nil, List.drop_succ_cons, List.drop_zero, e0, e1, e2, e3, e4, e5, e7, e8, e10, e11, e12, e14, e15, e17, e18, e19, e21, e22, e24, e25, e26]
        clear e0 e1 e2 e3 e4 e5 e7 e8 e10 e11 e12 e14 e15 e17 e18 e19 e21 e22 e24 e25 e26 hf
        go_simp
        have HC := Lib.hid hc
        have HG := Lib.hid hg
        clear hc hg
        have hb4 : w.heap.size + 1 ≤ b3 := by simpa using hb3
        clear hb3 hbg3
        have Rv := Lib.hid (K.kept HG.out r0.out (fun k hk => by cases hk; omega))
        have Gv := Lib.hid (grownBy_trans (only_new (K.refl w (some g)) (.cells #[.int .i64 0, .int .i64 0, .int .i64 0, .int .i64 0, .int .i64 0, .int .i64 0, .int .i64 0, .int .i64 0, .int .i64 0, .int .i64 0, .int .i64 0, .int .i64 0, .int .i64 0, .int .i64 0, .int .i64 0, .int .i64 0, .int .i64 0, .slice none 0 0, .slice none 0 0] 52)) HG.out)
        have Q1 : Hid ((v.setRow b3 #[.int .i64 x1, .int .i64 x2, .int .i64 x3, .int .i64 v4, .int .i64 0, .int .i64 v6, .int .i64 v8, .int .i64 0, .int .i64 0, .int .i64 0, .int .i64 0, .int .i64 0, .int .i64 0, .int .i64 0, .int .i64 0, .int .i64 0, .int .i64 0, .slice none 0 0, .slice none 0 0]).heap[b3]? = some (.cells #[.int .i64 x1, .int .i64 x2, .int .i64 x3, .int .i64 v4, .int .i64 0, .int .i64 v6, .int .i64 v8, .int .i64 0, .int .i64 0, .int .i64 0, .int .i64 0, .int .i64 0, .int .i64 0, .int .i64 0, .int .i64 0, .int .i64 0, .int .i64 0, .slice none 0 0, .slice none 0 0] 52 (0, 0))) := Lib.hid (setRow_heap _ _ _ _ _ _ QB3.out)
        have R1 := Lib.hid ((setRow_other v b3 w.heap.size #[.int .i64 x1, .int .i64 x2, .int .i64 x3, .int .i64 v4, .int .i64 0, .int .i64 v6, .int .i64 v8, .int .i64 0, .int .i64 0, .int .i64 0, .int .i64 0, .int .i64 0, .int .i64 0, .int .i64 0, .int .i64 0, .int .i64 0, .int .i64 0, .slice none 0 0, .slice none 0 0] (by omega)).trans Rv.out)
        have C1 := Lib.hid (HC.out.grownBy (K.setRow_grown v b3 #[.int .i64 x1, .int .i64 x2, .int .i64 x3, .int .i64 v4, .int .i64 0, .int .i64 v6, .int .i64 v8, .int .i64 0, .int .i64 0, .int .i64 0, .int .i64 0, .int .i64 0, .int .i64 0, .int .i64 0, .int .i64 0, .int .i64 0, .int .i64 0, .slice none 0 0, .slice none 0 0]) (fun u hu => by cases hu; omega))
        have G1 := Lib.hid (grown_other Gv.out (K.setRow_grown v b3 #[.int .i64 x1, .int .i64 x2, .int .i64 x3, .int .i64 v4, .int .i64 0, .int .i64 v6, .int .i64 v8, .int .i64 0, .int .i64 0, .int .i64 0, .int .i64 0, .int .i64 0, .int .i64 0, .int .i64 0, .int .i64 0, .int .i64 0, .int .i64 0, .slice none 0 0, .slice none 0 0]) (fun u hu => by cases hu; omega))
        go_wp2_with (with_reducible refine storeF rfl _ _ rfl b3 rfl rfl QB3.out ?_)
        clear QB3 Rv Gv HC HG
        refine Calls.mono (HA.out _ g A c C1.out) ?_
        rintro e w2 ⟨rfl, hc2, hg2⟩
        have Q2 := Lib.hid (K.kept hg2 Q1.out (fun k hk => by cases hk; omega))
        have R2 := Lib.hid (K.kept hg2 R1.out (fun k hk => by cases hk; omega))
        have C2 := Lib.hid hc2
        have G2 := Lib.hid (grownBy_trans G1.out hg2)
        clear hc2 hg2 Q1 R1 C1 G1
        have c7 := K.cell Q2.out 7 _ rfl
        have c8 := K.cell Q2.out 8 _ rfl
        have c9 := K.cell Q2.out 9 _ rfl
        have c10 := K.cell Q2.out 10 _ rfl
        have c11 := K.cell Q2.out 11 _ rfl
        have f7 := frozen_of_row _ _ 7 _ _ Q2.out
        have f8 := frozen_of_row _ _ 8 _ _ Q2.out
        have f9 := frozen_of_row _ _ 9 _ _ Q2.out
        have f10 := frozen_of_row _ _ 10 _ _ Q2.out
        have f11 := frozen_of_row _ _ 11 _ _ Q2.out
        have Q3 : Hid ((K.setFrom w2 b3 7 [.int .i64 4, .int .i64 0, .int .i64 0, .int .i64 0, .int .i64 da]).heap[b3]? = some (.cells #[.int .i64 x1, .int .i64 x2, .int .i64 x3, .int .i64 v4, .int .i64 0, .int .i64 v6, .int .i64 v8, .int .i64 4, .int .i64 0, .int .i64 0, .int .i64 0, .int .i64 da, .int .i64 0, .int .i64 0, .int .i64 0, .int .i64 0, .int .i64 0, .slice none 0 0, .slice none 0 0] 52 (0, 0))) := Lib.hid (K.set (K.set (K.set (K.set (K.set (Q2.out) 7 (.int .i64 4)) 8 (.int .i64 0)) 9 (.int .i64 0)) 10 (.int .i64 0)) 11 (.int .i64 da))
        have R3 := Lib.hid (K.setFrom_other [.int .i64 4, .int .i64 0, .int .i64 0, .int .i64 0, .int .i64 da] 7 R2.out (show w.heap.size ≠ b3 by omega))
        have C3 := Lib.hid (C2.out.grownBy (K.setFrom_selfE [.int .i64 4, .int .i64 0, .int .i64 0, .int .i64 0, .int .i64 da] w2 b3 7) (fun u hu => by cases hu; omega))
        have G3 := Lib.hid (K.setFrom_grown (g := b3) [.int .i64 4, .int .i64 0, .int .i64 0, .int .i64 0, .int .i64 da] 7 G2.out (by omega))
        go_wp2_with fail
        clear c7 f7 c8 f8 c9 f9 c10 f10 c11 f11 Q2 R2 C2 G2
        refine Calls.mono (HB.out _ g A c C3.out) ?_
        rintro e w4 ⟨rfl, hc2, hg2⟩
        have Q4 := Lib.hid (K.kept hg2 Q3.out (fun k hk => by cases hk; omega))
        have R4 := Lib.hid (K.kept hg2 R3.out (fun k hk => by cases hk; omega))
        have C4 := Lib.hid hc2
        have G4 := Lib.hid (grownBy_trans G3.out hg2)
        clear hc2 hg2 Q3 R3 C3 G3
        have c12 := K.cell Q4.out 12 _ rfl
        have c13 := K.cell Q4.out 13 _ rfl
        have c14 := K.cell Q4.out 14 _ rfl
        have c15 := K.cell Q4.out 15 _ rfl
        have c16 := K.cell Q4.out 16 _ rfl
        have f12 := frozen_of_row _ _ 12 _ _ Q4.out
        have f13 := frozen_of_row _ _ 13 _ _ Q4.out
        have f14 := frozen_of_row _ _ 14 _ _ Q4.out
        have f15 := frozen_of_row _ _ 15 _ _ Q4.out
        have f16 := frozen_of_row _ _ 16 _ _ Q4.out
        have Q5 : Hid ((K.setFrom w4 b3 12 [.int .i64 4, .int .i64 0, .int .i64 0, .int .i64 0, .int .i64 db]).heap[b3]? = some (.cells #[.int .i64 x1, .int .i64 x2, .int .i64 x3, .int .i64 v4, .int .i64 0, .int .i64 v6, .int .i64 v8, .int .i64 4, .int .i64 0, .int .i64 0, .int .i64 0, .int .i64 da, .int .i64 4, .int .i64 0, .int .i64 0, .int .i64 0, .int .i64 db, .slice none 0 0, .slice none 0 0] 52 (0, 0))) := Lib.hid (K.set (K.set (K.set (K.set (K.set (Q4.out) 12 (.int .i64 4)) 13 (.int .i64 0)) 14 (.int .i64 0)) 15 (.int .i64 0)) 16 (.int .i64 db))
        have R5 := Lib.hid (K.setFrom_other [.int .i64 4, .int .i64 0, .int .i64 0, .int .i64 0, .int .i64 db] 12 R4.out (show w.heap.size ≠ b3 by omega))
        have C5 := Lib.hid (C4.out.grownBy (K.setFrom_selfE [.int .i64 4, .int .i64 0, .int .i64 0, .int .i64 0, .int .i64 db] w4 b3 12) (fun u hu => by cases hu; omega))
        have G5 := Lib.hid (K.setFrom_grown (g := b3) [.int .i64 4, .int .i64 0, .int .i64 0, .int .i64 0, .int .i64 db] 12 G4.out (by omega))
        go_wp2_with fail
        clear c12 f12 c13 f13 c14 f14 c15 f15 c16 f16 Q4 R4 C4 G4
        refine Calls.mono (HO1.out _ g A c C5.out) ?_
        rintro e w6 ⟨rfl, hc2, hg2⟩
        have Q6 := Lib.hid (K.kept hg2 Q5.out (fun k hk => by cases hk; omega))
        have R6 := Lib.hid (K.kept hg2 R5.out (fun k hk => by cases hk; omega))
        have C6 := Lib.hid hc2
        have G6 := Lib.hid (grownBy_trans G5.out hg2)
        clear hc2 hg2 Q5 R5 C5 G5
        go_wp2_with fail
        refine Calls.mono (HO2.out _ g A c C6.out) ?_
        rintro e w7 ⟨rfl, hc2, hg2⟩
        have Q7 := Lib.hid (K.kept hg2 Q6.out (fun k hk => by cases hk; omega))
        have R7 := Lib.hid (K.kept hg2 R6.out (fun k hk => by cases hk; omega))
        have C7 := Lib.hid hc2
        have G7 := Lib.hid (grownBy_trans G6.out hg2)
        clear hc2 hg2 Q6 R6 C6 G6
        go_wp2_with fail
        refine Calls.mono (HP.out _ g A c C7.out) ?_
        rintro e w8 ⟨rfl, hc2, hg2⟩
        have Q8 := Lib.hid (K.kept hg2 Q7.out (fun k hk => by cases hk; omega))
        have R8 := Lib.hid (K.kept hg2 R7.out (fun k hk => by cases hk; omega))
        have C8 := Lib.hid hc2
        have G8 := Lib.hid (grownBy_trans G7.out hg2)
        clear hc2 hg2 Q7 R7 C7 G7
        have hlt3 := K.lt Q8.out
        obtain ⟨i0, hi0, hz0, hz1, hz2⟩ := info_parts info_u8
        go_wp2_with (at_make; refine wpList_make_full _ rfl _ _ 28 rfl (b3 + 1) 5 i0 (.int .u8 0) 1 Try.underlying28 hi0 hz0 hz1 _ _ _ _ (4 * yo) rfl rfl rfl rfl (by rw [hz2]; omega) (by unfold maxLen; omega) (by omega) ?_; intro w9 hown hgm; have HOM := Lib.hid hown; have HGM := Lib.hid hgm; clear hown hgm; have c17 := K.cell (K.kept HGM.out Q8.out (fun k hk => by cases hk)) 17 _ rfl; have f17 := frozen_of_row _ _ 17 _ _ (K.kept HGM.out Q8.out (fun k hk => by cases hk)))
        have Q9 := Lib.hid (K.kept HGM.out Q8.out (fun k hk => by cases hk))
        have R9 := Lib.hid (K.kept HGM.out R8.out (fun k hk => by cases hk))
        have C9 := Lib.hid (C8.out.grownBy HGM.out (fun k hk => by cases hk))
        have G9 := Lib.hid (grown_other G8.out HGM.out (fun k hk => by cases hk))
        clear c17 f17 HGM Q8 R8 C8 G8
        have c17 := K.cell Q9.out 17 _ rfl
        have f17 := frozen_of_row _ _ 17 _ _ Q9.out
        have Q10 : Hid ((K.setFrom w9 b3 17 [.slice (some ⟨w8.heap.size, 0, none⟩) (4 * yo) (4 * yo)]).heap[b3]? = some (.cells #[.int .i64 x1, .int .i64 x2, .int .i64 x3, .int .i64 v4, .int .i64 0, .int .i64 v6, .int .i64 v8, .int .i64 4, .int .i64 0, .int .i64 0, .int .i64 0, .int .i64 da, .int .i64 4, .int .i64 0, .int .i64 0, .int .i64 0, .int .i64 db, .slice (some ⟨w8.heap.size, 0, none⟩) (4 * yo) (4 * yo), .slice none 0 0] 52 (0, 0))) := Lib.hid (K.set (Q9.out) 17 (.slice (some ⟨w8.heap.size, 0, none⟩) (4 * yo) (4 * yo)))
        have R10 := Lib.hid (K.setFrom_other [.slice (some ⟨w8.heap.size, 0, none⟩) (4 * yo) (4 * yo)] 17 R9.out (show w.heap.size ≠ b3 by omega))
        have C10 := Lib.hid (C9.out.grownBy (K.setFrom_selfE [.slice (some ⟨w8.heap.size, 0, none⟩) (4 * yo) (4 * yo)] w9 b3 17) (fun u hu => by cases hu; omega))
        have G10 := Lib.hid (K.setFrom_grown (g := b3) [.slice (some ⟨w8.heap.size, 0, none⟩) (4 * yo) (4 * yo)] 17 G9.out (by omega))
        clear c17 f17 Q9 R9 C9 G9
        have O0 : Hid ((K.setFrom w9 b3 17 [.slice (some ⟨w8.heap.size, 0, none⟩) (4 * yo) (4 * yo)]).ownsRow (b3 + 1) 5 1 (.slice (some ⟨w8.heap.size, 0, none⟩) (4 * yo) (4 * yo)) (4 * yo) (cellsOf (bytesL bs (t + 1 + 1 + 3 + 1 + 1 + 1 + 1 + 1 + 9 + 9 + 1 + 1 + 1) so 0 ++ List.replicate (4 * yo - 0) 0))) := by
          have e : (madeCells (Value.int IntKind.u8 0).cells (4 * yo * 1)).toList = cellsOf (bytesL bs (t + 1 + 1 + 3 + 1 + 1 + 1 + 1 + 1 + 9 + 9 + 1 + 1 + 1) so 0 ++ List.replicate (4 * yo - 0) 0) := by
            have := toList_madeCells_one (.int .u8 0) (4 * yo)
            simpa [Value.cells, cellsOf, bytesL] using this
          rw [← e]
          exact Lib.hid (K.setFrom_own _ _ HOM.out (by omega))
        clear HOM
        go_loopw [4] (fun i wr => ∃ k : Nat, k ≤ 4 * yo ∧ i = .int .i64 k ∧ Hid (wr.ownsRow (b3 + 1) 5 1 (.slice (some ⟨w8.heap.size, 0, none⟩) (4 * yo) (4 * yo)) (4 * yo) (cellsOf (bytesL bs (t + 1 + 1 + 3 + 1 + 1 + 1 + 1 + 1 + 9 + 9 + 1 + 1 + 1) so k ++ List.replicate (4 * yo - k) 0))) ∧ Hid (CurS wr g A c bs (t + 1 + 1 + 3 + 1 + 1 + 1 + 1 + 1 + 9 + 9 + 1 + 1 + 1 + k) (seedAt bs (t + 1 + 1 + 3 + 1 + 1 + 1 + 1 + 1 + 9 + 9 + 1 + 1 + 1) so k)) ∧ Hid (wr.heap[b3]? = some (.cells #[.int .i64 x1, .int .i64 x2, .int .i64 x3, .int .i64 v4, .int .i64 0, .int .i64 v6, .int .i64 v8, .int .i64 4, .int .i64 0, .int .i64 0, .int .i64 0, .int .i64 da, .int .i64 4, .int .i64 0, .int .i64 0, .int .i64 0, .int .i64 db, .slice (some ⟨w8.heap.size, 0, none⟩) (4 * yo) (4 * yo), .slice none 0 0] 52 (0, 0))) ∧ Hid (wr.heap[w.heap.size]? = some (.cells #[.int .i64 0, .int .i64 0, .int .i64 0, .int .i64 0, .int .i64 0, .int .i64 0, .int .i64 0, .int .i64 0, .int .i64 0, .int .i64 0, .int .i64 0, .int .i64 0, .int .i64 0, .int .i64 0, .int .i64 0, .int .i64 0, .int .i64 0, .slice none 0 0, .slice none 0 0] 52)) ∧ Hid (w.grownBy wr (some g))) (fun i _ => 4 * yo - (intOf i).toNat)
        case atStart => exact ⟨0, Nat.zero_le _, rfl, O0, C10, Q10, R10, G10⟩
        case round =>
          obtain ⟨k, hk, rfl, OK, CK, QK, RK, GK⟩ := hrel
          clear O0 Q10 R10 C10 G10
          have c17 := K.cell QK.out 17 _ rfl
          by_cases hlt : k < 4 * yo
          · have hxr := pickX_range bs (t + 1 + 1 + 3 + 1 + 1 + 1 + 1 + 1 + 9 + 9 + 1 + 1 + 1 + k) (seedAt bs (t + 1 + 1 + 3 + 1 + 1 + 1 + 1 + 1 + 9 + 9 + 1 + 1 + 1) so k) 256 (by omega)
            have PD := Lib.hid (fun v hc => pickD v g A c bs (t + 1 + 1 + 3 + 1 + 1 + 1 + 1 + 1 + 9 + 9 + 1 + 1 + 1 + k) (seedAt bs (t + 1 + 1 + 3 + 1 + 1 + 1 + 1 + 1 + 9 + 9 + 1 + 1 + 1) so k) 256 (by omega) (by omega) hc (by omega))
            have HSC := Lib.hid (bytesL_succ bs (t + 1 + 1 + 3 + 1 + 1 + 1 + 1 + 1 + 9 + 9 + 1 + 1 + 1) so k)
            obtain ⟨yk, hyk⟩ : ∃ q : Nat, pickX bs (t + 1 + 1 + 3 + 1 + 1 + 1 + 1 + 1 + 9 + 9 + 1 + 1 + 1 + k) (seedAt bs (t + 1 + 1 + 3 + 1 + 1 + 1 + 1 + 1 + 9 + 9 + 1 + 1 + 1) so k) 256 = q := ⟨(pickX bs (t + 1 + 1 + 3 + 1 + 1 + 1 + 1 + 1 + 9 + 9 + 1 + 1 + 1 + k) (seedAt bs (t + 1 + 1 + 3 + 1 + 1 + 1 + 1 + 1 + 9 + 9 + 1 + 1 + 1) so k) 256).toNat, by omega⟩
            rw [hyk] at PD HSC hxr
            clear hyk
            have CUR0 := CK.out
            have hobg : w8.heap.size ≠ g := by have := (OK.out.lt w8.heap.size rfl).1; omega
            go_wp2_with fail
            refine wp_region_draws 7 67 [(0, 59), (1, 60), (2, 61), (3, 62), (4, 63), (5, 64), (6, 65)] [.val (.pointer (some ⟨b3, 17, none⟩)), .val (.slice (some ⟨w8.heap.size, 0, none⟩) (4 * yo) (4 * yo)), .val (.int .i64 (k : Int)), .cur, .int (yk : Int), .val (.int .u8 (yk : Int)), .val (.pointer (some ⟨w8.heap.size, k, none⟩))] [4] g A c bs [t + 1 + 1 + 3 + 1 + 1 + 1 + 1 + 1 + 9 + 9 + 1 + 1 + 1 + k, t + 1 + 1 + 3 + 1 + 1 + 1 + 1 + 1 + 9 + 9 + 1 + 1 + 1 + k + 1] [seedAt bs (t + 1 + 1 + 3 + 1 + 1 + 1 + 1 + 1 + 9 + 9 + 1 + 1 + 1) so k, pickS bs (t + 1 + 1 + 3 + 1 + 1 + 1 + 1 + 1 + 9 + 9 + 1 + 1 + 1 + k) (seedAt bs (t + 1 + 1 + 3 + 1 + 1 + 1 + 1 + 1 + 9 + 9 + 1 + 1 + 1) so k)] _ (by kernel_rfl) (by kernel_rfl) rfl (by kernel_rfl) (by kernel_rfl) rfl CUR0 ?_ ?_
            · intro j o hj ho m a' v K' hx hnd hm hc hg hK
              match j, hj, ho with
              | 0, _, ho =>
                obtain rfl := Option.some.inj ho
                have e0 : a'.eval (.tmp 3) = .pointer (some ⟨b3, 0, none⟩) := (hx 3 (by decide)).trans rfl
                exact d_fldF9 _ _ rfl e0 (hK _ _ rfl (K.refl _ _) (cur_stay (by rfl) hc))
              | 1, _, ho =>
                obtain rfl := Option.some.inj ho
                have e0 : a'.eval (.tmp 59) = .pointer (some ⟨b3, 17, none⟩) := (draw_of hnd 0 59 (by kernel_rfl) :)
                exact d_bytes _ _ _ _ rfl e0 (K.cell (K.kept hg QK.out (fun k hk => by cases hk; omega)) 17 _ rfl) (hK _ _ rfl (K.refl _ _) (cur_stay (by rfl) hc))
              | 2, _, ho =>
                obtain rfl := Option.some.inj ho
                have e0 : a'.eval (.tmp 4) = .int .i64 (k : Int) := (hx 4 (by decide)).trans rfl
                exact K.d_move _ _ rfl e0 (hK _ _ rfl (K.refl _ _) (cur_stay (by rfl) hc))
              | 3, _, ho =>
                obtain rfl := Option.some.inj ho
                exact K.d_move 0 _ rfl ((hx 0 (by decide)).trans rfl) (hK _ _ rfl (K.refl _ _) (cur_stay (by rfl) hc))
              | 4, _, ho =>
                obtain rfl := Option.some.inj ho
                obtain rfl : 0 = m := hm 0 rfl
                have e1 : a'.eval (.tmp 62) = .pointer (some ⟨g, 0, none⟩) := (draw_of hnd 3 62 (by kernel_rfl) :)
                refine K.d_pick 62 _ _ g rfl e1 ((PD.out v hc).mono ?_)
                rintro e v' ⟨rfl, hc2, hg2⟩
                exact ⟨_, rfl, hK _ _ rfl hg2 (cur_go (by rfl) hc2)⟩
              | 5, _, ho =>
                obtain rfl := Option.some.inj ho
                have e0 : a'.eval (.tmp 63) = .int .i64 (yk : Int) := (draw_of hnd 4 63 (by kernel_rfl) :)
                exact d_byte _ _ rfl e0 (by omega) (by omega) (hK _ _ rfl (K.refl _ _) (cur_stay (by rfl) hc))
              | 6, _, ho =>
                obtain rfl := Option.some.inj ho
                have e0 : a'.eval (.tmp 60) = .slice (some ⟨w8.heap.size, 0, none⟩) (4 * yo) (4 * yo) := (draw_of hnd 1 60 (by kernel_rfl) :)
                have e1 : a'.eval (.tmp 61) = .int .i64 (k : Int) := (draw_of hnd 2 61 (by kernel_rfl) :)
                exact d_idxB _ _ _ _ _ _ rfl e0 e1 hlt (hK _ _ rfl (K.refl _ _) (cur_stay (by rfl) hc))
              | j + 7, hj, _ => omega
            · intro f v hf hc hg
              have e0 : f 0 = (.pointer (some ⟨b3, 17, none⟩)) := hf (0, 59) (by decide)
              have e1 : f 1 = (.slice (some ⟨w8.heap.size, 0, none⟩) (4 * yo) (4 * yo)) := hf (1, 60) (by decide)
              have e2 : f 2 = (.int .i64 (k : Int)) := hf (2, 61) (by decide)
              have e3 : f 3 = .pointer (some ⟨g, 0, none⟩) := hf (3, 62) (by decide)
              have e4 : f 4 = .int .i64 (yk : Int) := hf (4, 63) (by decide)
              have e5 : f 5 = (.int .u8 (yk : Int)) := hf (5, 64) (by decide)
              have e6 : f 6 = (.pointer (some ⟨w8.heap.size, k, none⟩)) := hf (6, 65) (by decide)
              simp only [List.foldl_cons, List.foldl_nil, List.drop_succ_cons, List.drop_zero, e0, e1, e2, e3, e4, e5, e6]
              clear e0 e1 e2 e3 e4 e5 e6 hf
              go_simp
              have HC := Lib.hid hc
              have HG := Lib.hid hg
              clear hc hg
              have OV := Lib.hid (own_grown OK.out HG.out (fun q hq e => by cases hq; exact hobg (Option.some.inj e).symm))
              have u0 := OV.out.cellAt k (by omega)
              have f0 := OV.out.frozenAt k
              obtain ⟨t0, ht0⟩ : ∃ z, (cellsOf (bytesL bs (t + 1 + 1 + 3 + 1 + 1 + 1 + 1 + 1 + 9 + 9 + 1 + 1 + 1) so k ++ List.replicate (4 * yo - k) 0))[k]? = some z := ⟨_, List.getElem?_eq_getElem (by rw [cellsOf_length, List.length_append, bytesL_length, List.length_replicate]; omega)⟩
              rw [ht0] at u0
              clear ht0
              have hE : (.int .u8 (yk : Int) : Value) = .int .u8 ((UInt8.ofNat yk).toNat : Int) := by simp; omega
              have OS := (OV.out.stored k (.int .u8 (yk : Int))).1
              rw [show 4 * yo - k = (4 * yo - (k + 1)) + 1 by omega, List.replicate_succ, hE, fill_step _ _ _ _ k (bytesL_length _ _ _ _), ← hE] at OS
              have OS2 := Lib.hid OS
              clear OS hE
              have hsz : w8.heap.size < v.heap.size := (OV.out.lt w8.heap.size rfl).2
              have QS := Lib.hid (K.other (K.kept HG.out QK.out (fun k hk => by cases hk; omega)) w8.heap.size k (.int .u8 (yk : Int)) (by have := (OK.out.lt w8.heap.size rfl).1; omega))
              have RS := Lib.hid (K.other (K.kept HG.out RK.out (fun k hk => by cases hk; omega)) w8.heap.size k (.int .u8 (yk : Int)) (by have := (OK.out.lt w8.heap.size rfl).1; omega))
              have CS := Lib.hid (HC.out.grownBy (grownBy_set v w8.heap.size k (.int .u8 (yk : Int))) (fun u hu => by cases hu; have := (OK.out.lt w8.heap.size rfl).1; omega))
              have GS := Lib.hid (grown_other (grownBy_trans GK.out HG.out) (grownBy_set v w8.heap.size k (.int .u8 (yk : Int))) (fun u hu => by cases hu; have := (OK.out.lt w8.heap.size rfl).1; omega))
              clear HC HG OK QK RK CK GK OV
              go_wp2
              go_roundw
              case rel =>
                refine ⟨k + 1, by omega, by go_num, Lib.hid ?_, CS, QS, RS, GS⟩
                rw [HSC.out]
                have := OS2.out
                simpa using this
              case measure => simp [intOf]; omega
          · obtain rfl : k = 4 * yo := by omega
            have HLN := Lib.hid (bytesL_length bs (t + 1 + 1 + 3 + 1 + 1 + 1 + 1 + 1 + 9 + 9 + 1 + 1 + 1) so (4 * yo))
            go_wp2_with (first | (with_reducible refine loadF rfl _ rfl b3 rfl QK.out ?_) | (with_reducible refine storeF rfl _ _ rfl w.heap.size rfl rfl RK.out ?_))
            (try simp only [Exit.inBlock, Exit.then])
            refine bodyPost_ret (v := .agg #[.int .i64 x1, .int .i64 x2, .int .i64 x3, .int .i64 v4, .int .i64 0, .int .i64 v6, .int .i64 v8, .int .i64 4, .int .i64 0, .int .i64 0, .int .i64 0, .int .i64 da, .int .i64 4, .int .i64 0, .int .i64 0, .int .i64 0, .int .i64 db, .slice (some ⟨w8.heap.size, 0, none⟩) (4 * yo) (4 * yo), .slice none 0 0]) ?_ rfl ⟨some ⟨w8.heap.size, 0, none⟩, 4 * yo, none, 0, by rw [HLN.out]; rfl, ?_, ⟨rfl, .inl ⟨rfl, rfl⟩⟩, ?_, ?_⟩
            · exact resF Try.results99 _ _ w.heap.size rfl (setRow_heap _ _ _ _ _ _ RK.out)
            · rw [HLN.out]
              have := OK.out
              rw [Nat.sub_self, List.replicate_zero, List.append_nil] at this
              exact own_base (K.setRow_own _ this (by omega)) (by omega)
            · exact CK.out.grownBy (K.setRow_grown _ _ _) (fun u hu => by cases hu; omega)
            · exact grown_other GK.out (K.setRow_grown _ _ _) (fun u hu => by cases hu; omega)
  | true =>
    obtain ⟨xf, sf, lof, upf, hdf⟩ := pickE bs (t + 1 + 1 + 3 + 1 + 1 + 1 + 1 + 1 + 9 + 9 + 1) sc 3 (by omega) (by omega) (by omega)
    have HF := Lib.hid hdf
    clear hdf
    obtain ⟨yf, rfl⟩ : ∃ k : Nat, xf = k := ⟨xf.toNat, by omega⟩
    obtain ⟨vf, hvf⟩ : ∃ z, ([(0 : Int), (1 : Int), (8191 : Int)] : List Int)[yf]? = some z := ⟨_, List.getElem?_eq_getElem (by simp; omega)⟩
    have Hvf := Lib.hid hvf
    clear hvf
    obtain ⟨o2, sd, hdd⟩ := onceE bs (t + 1 + 1 + 3 + 1 + 1 + 1 + 1 + 1 + 9 + 9 + 1 + 1) sf 5 (by omega) (by omega) (by omega)
    have HO2 := Lib.hid hdd
    clear hdd
    cases o2 with
    | false =>
      refine ⟨⟨x1, x2, x3, v4, vf, v6, v8, ⟨4, 0, 0, 0, da⟩, ⟨4, 0, 0, 0, db⟩⟩, [], t + 1 + 1 + 3 + 1 + 1 + 1 + 1 + 1 + 9 + 9 + 1 + 1 + 1, sd, by simp, by omega, fun w g A c hc0 => ?_⟩
      have hgl := hc0.lt
      have CUR0 := hc0.below (Joins.below_alloc1 w (.cells #[.int .i64 0, .int .i64 0, .int .i64 0, .int .i64 0, .int .i64 0, .int .i64 0, .int .i64 0, .int .i64 0, .int .i64 0, .int .i64 0, .int .i64 0, .int .i64 0, .int .i64 0, .int .i64 0, .int .i64 0, .int .i64 0, .int .i64 0, .slice none 0 0, .slice none 0 0] 52))
      have r0 := Lib.hid (K.new w (.cells #[.int .i64 0, .int .i64 0, .int .i64 0, .int .i64 0, .int .i64 0, .int .i64 0, .int .i64 0, .int .i64 0, .int .i64 0, .int .i64 0, .int .i64 0, .int .i64 0, .int .i64 0, .int .i64 0, .int .i64 0, .int .i64 0, .int .i64 0, .slice none 0 0, .slice none 0 0] 52))
      clear hc0
      go_enter Try.func99, Try.ntmps99
      go_wp2_with fail
      refine wp_region_draws 27 67 [(0, 5), (1, 6), (2, 7), (3, 8), (4, 9), (5, 10), (6, 11), (7, 12), (8, 13), (9, 14), (10, 15), (11, 16), (12, 17), (13, 18), (14, 19), (15, 20), (16, 21), (17, 22), (18, 23), (19, 24), (20, 25), (21, 26), (22, 27), (23, 28), (24, 29), (25, 30), (26, 3)] [.cur, .int x1, .cur, .int x2, .cur, .int x3, .row [(0 : Int), (2 : Int), (2 : Int), (1 : Int), (4 : Int)], .cur, .int (y4 : Int), .cellp v4, .int v4, .cur, .int x5, .row [(64 : Int), (1 : Int), (2 : Int), (0 : Int), (255 : Int), x5], .cur, .int (y6 : Int), .cellp v6, .int v6, .cur, .int x7, .row [(6 : Int), (17 : Int), (1 : Int), (47 : Int), (6 : Int), (17 : Int), x7], .cur, .int (y8 : Int), .cellp v8, .int v8, .val (.agg #[.int .i64 x1, .int .i64 x2, .int .i64 x3, .int .i64 v4, .int .i64 0, .int .i64 v6, .int .i64 v8, .int .i64 0, .int .i64 0, .int .i64 0, .int .i64 0, .int .i64 0, .int .i64 0, .int .i64 0, .int .i64 0, .int .i64 0, .int .i64 0, .slice none 0 0, .slice none 0 0]), .blk (.cells #[.int .i64 0, .int .i64 0, .int .i64 0, .int .i64 0, .int .i64 0, .int .i64 0, .int .i64 0, .int .i64 0, .int .i64 0, .int .i64 0, .int .i64 0, .int .i64 0, .int .i64 0, .int .i64 0, .int .i64 0, .int .i64 0, .int .i64 0, .slice none 0 0, .slice none 0 0] 52)] [1, 3, 5, 8, 12, 15, 19, 22] g A c bs [t, t + 1, t + 1 + 1, t + 1 + 1 + 3, t + 1 + 1 + 3 + 1, t + 1 + 1 + 3 + 1 + 1, t + 1 + 1 + 3 + 1 + 1 + 1, t + 1 + 1 + 3 + 1 + 1 + 1 + 1, t + 1 + 1 + 3 + 1 + 1 + 1 + 1 + 1] [s, s1, s2, s3, s4, s5, s6, s7, s8] _ (by kernel_rfl) (by kernel_rfl) rfl (by kernel_rfl) (by kernel_rfl) rfl CUR0 ?_ ?_
      · intro j o hj ho m a' v K' hx hnd hm hc hg hK
        match j, hj, ho with
        | 0, _, ho =>
          obtain rfl := Option.some.inj ho
          exact K.d_move 0 _ rfl ((hx 0 (by decide)).trans rfl) (hK _ _ rfl (K.refl _ _) (cur_stay (by rfl) hc))
        | 1, _, ho =>
          obtain rfl := Option.some.inj ho
          obtain rfl : 0 = m := hm 0 rfl
          have e1 : a'.eval (.tmp 5) = .pointer (some ⟨g, 0, none⟩) := (draw_of hnd 0 5 (by kernel_rfl) :)
          refine K.d_pick 5 _ _ g rfl e1 ((H1.out v g A c hc).mono ?_)
          rintro e v' ⟨rfl, hc2, hg2⟩
          exact ⟨_, rfl, hK _ _ rfl hg2 (cur_go (by rfl) hc2)⟩
        | 2, _, ho =>
          obtain rfl := Option.some.inj ho
          exact K.d_move 0 _ rfl ((hx 0 (by decide)).trans rfl) (hK _ _ rfl (K.refl _ _) (cur_stay (by rfl) hc))
        | 3, _, ho =>
          obtain rfl := Option.some.inj ho
          obtain rfl : 1 = m := hm 1 rfl
          have e1 : a'.eval (.tmp 7) = .pointer (some ⟨g, 0, none⟩) := (draw_of hnd 2 7 (by kernel_rfl) :)
          refine K.d_pick 7 _ _ g rfl e1 ((H2.out v g A c hc).mono ?_)
          rintro e v' ⟨rfl, hc2, hg2⟩
          exact ⟨_, rfl, hK _ _ rfl hg2 (cur_go (by rfl) hc2)⟩
        | 4, _, ho =>
          obtain rfl := Option.some.inj ho
          exact K.d_move 0 _ rfl ((hx 0 (by decide)).trans rfl) (hK _ _ rfl (K.refl _ _) (cur_stay (by rfl) hc))
        | 5, _, ho =>
          obtain rfl := Option.some.inj ho
          obtain rfl : 2 = m := hm 2 rfl
          have e1 : a'.eval (.tmp 9) = .pointer (some ⟨g, 0, none⟩) := (draw_of hnd 4 9 (by kernel_rfl) :)
          refine K.d_wide 9 _ _ g rfl e1 ((H3.out v g A c hc).mono ?_)
          rintro e v' ⟨rfl, hc2, hg2⟩
          exact ⟨_, rfl, hK _ _ rfl hg2 (cur_go (by rfl) hc2)⟩
        | 6, _, ho =>
          obtain rfl := Option.some.inj ho
          exact K.d_row5 _ _ _ _ _ (0 : Int) (2 : Int) (2 : Int) (1 : Int) (4 : Int) rfl rfl rfl rfl rfl rfl (hK _ _ (drawn_row v g _ hc.lt [(0 : Int), (2 : Int), (2 : Int), (1 : Int), (4 : Int)] _ rfl _ _ rfl) (only_new (K.refl _ _) _) (cur_stay (by rfl) (hc.below (Joins.below_alloc1 v _))))
        | 7, _, ho =>
          obtain rfl := Option.some.inj ho
          exact K.d_move 0 _ rfl ((hx 0 (by decide)).trans rfl) (hK _ _ rfl (K.refl _ _) (cur_stay (by rfl) hc))
        | 8, _, ho =>
          obtain rfl := Option.some.inj ho
          obtain rfl : 3 = m := hm 3 rfl
          have e1 : a'.eval (.tmp 12) = .pointer (some ⟨g, 0, none⟩) := (draw_of hnd 7 12 (by kernel_rfl) :)
          refine K.d_pick 12 _ _ g rfl e1 ((H4.out v g A c hc).mono ?_)
          rintro e v' ⟨rfl, hc2, hg2⟩
          exact ⟨_, rfl, hK _ _ rfl hg2 (cur_go (by rfl) hc2)⟩
        | 9, _, ho =>
          obtain rfl := Option.some.inj ho
          obtain ⟨b, e1, hb1, hcs⟩ : ∃ b, a'.eval (.tmp 11) = .slice (some ⟨b, 0, none⟩) 5 5 ∧ b ≠ g ∧ ∀ j x, ([(0 : Int), (2 : Int), (2 : Int), (1 : Int), (4 : Int)] : List Int)[j]? = some x → v.cell? ⟨b, j, none⟩ = some (.int .i64 x) := (draw_of hnd 6 11 (by kernel_rfl) :)
          have e2 : a'.eval (.tmp 13) = .int .i64 (y4 : Int) := (draw_of hnd 8 13 (by kernel_rfl) :)
          exact K.d_idx 11 13 b 5 y4 rfl e1 e2 (by omega) (hK _ _ ⟨b, y4, rfl, hb1, hcs _ _ Hv4.out⟩ (K.refl _ _) (cur_stay (by rfl) hc))
        | 10, _, ho =>
          obtain rfl := Option.some.inj ho
          obtain ⟨b, q, e1, hb1, hx2⟩ : ∃ b q, a'.eval (.tmp 14) = .pointer (some ⟨b, q, none⟩) ∧ b ≠ g ∧ v.cell? ⟨b, q, none⟩ = some (.int .i64 v4) := (draw_of hnd 9 14 (by kernel_rfl) :)
          exact K.d_load 14 b q _ rfl e1 hx2 (hK _ _ rfl (K.refl _ _) (cur_stay (by rfl) hc))
        | 11, _, ho =>
          obtain rfl := Option.some.inj ho
          exact K.d_move 0 _ rfl ((hx 0 (by decide)).trans rfl) (hK _ _ rfl (K.refl _ _) (cur_stay (by rfl) hc))
        | 12, _, ho =>
          obtain rfl := Option.some.inj ho
          obtain rfl : 4 = m := hm 4 rfl
          have e1 : a'.eval (.tmp 16) = .pointer (some ⟨g, 0, none⟩) := (draw_of hnd 11 16 (by kernel_rfl) :)
          refine K.d_pick 16 _ _ g rfl e1 ((H5.out v g A c hc).mono ?_)
          rintro e v' ⟨rfl, hc2, hg2⟩
          exact ⟨_, rfl, hK _ _ rfl hg2 (cur_go (by rfl) hc2)⟩
        | 13, _, ho =>
          obtain rfl := Option.some.inj ho
          have e5 : a'.eval (.tmp 17) = .int .i64 x5 := (draw_of hnd 12 17 (by kernel_rfl) :)
          exact K.d_row6 _ _ _ _ _ _ (64 : Int) (1 : Int) (2 : Int) (0 : Int) (255 : Int) x5 rfl rfl rfl rfl rfl rfl e5 (hK _ _ (drawn_row v g _ hc.lt [(64 : Int), (1 : Int), (2 : Int), (0 : Int), (255 : Int), x5] _ rfl _ _ rfl) (only_new (K.refl _ _) _) (cur_stay (by rfl) (hc.below (Joins.below_alloc1 v _))))
        | 14, _, ho =>
          obtain rfl := Option.some.inj ho
          exact K.d_move 0 _ rfl ((hx 0 (by decide)).trans rfl) (hK _ _ rfl (K.refl _ _) (cur_stay (by rfl) hc))
        | 15, _, ho =>
          obtain rfl := Option.some.inj ho
          obtain rfl : 5 = m := hm 5 rfl
          have e1 : a'.eval (.tmp 19) = .pointer (some ⟨g, 0, none⟩) := (draw_of hnd 14 19 (by kernel_rfl) :)
          refine K.d_pick 19 _ _ g rfl e1 ((H6.out v g A c hc).mono ?_)
          rintro e v' ⟨rfl, hc2, hg2⟩
          exact ⟨_, rfl, hK _ _ rfl hg2 (cur_go (by rfl) hc2)⟩
        | 16, _, ho =>
          obtain rfl := Option.some.inj ho
          obtain ⟨b, e1, hb1, hcs⟩ : ∃ b, a'.eval (.tmp 18) = .slice (some ⟨b, 0, none⟩) 6 6 ∧ b ≠ g ∧ ∀ j x, ([(64 : Int), (1 : Int), (2 : Int), (0 : Int), (255 : Int), x5] : List Int)[j]? = some x → v.cell? ⟨b, j, none⟩ = some (.int .i64 x) := (draw_of hnd 13 18 (by kernel_rfl) :)
          have e2 : a'.eval (.tmp 20) = .int .i64 (y6 : Int) := (draw_of hnd 15 20 (by kernel_rfl) :)
          exact K.d_idx 18 20 b 6 y6 rfl e1 e2 (by omega) (hK _ _ ⟨b, y6, rfl, hb1, hcs _ _ Hv6.out⟩ (K.refl _ _) (cur_stay (by rfl) hc))
        | 17, _, ho =>
          obtain rfl := Option.some.inj ho
          obtain ⟨b, q, e1, hb1, hx2⟩ : ∃ b q, a'.eval (.tmp 21) = .pointer (some ⟨b, q, none⟩) ∧ b ≠ g ∧ v.cell? ⟨b, q, none⟩ = some (.int .i64 v6) := (draw_of hnd 16 21 (by kernel_rfl) :)
          exact K.d_load 21 b q _ rfl e1 hx2 (hK _ _ rfl (K.refl _ _) (cur_stay (by rfl) hc))
        | 18, _, ho =>
          obtain rfl := Option.some.inj ho
          exact K.d_move 0 _ rfl ((hx 0 (by decide)).trans rfl) (hK _ _ rfl (K.refl _ _) (cur_stay (by rfl) hc))
        | 19, _, ho =>
          obtain rfl := Option.some.inj ho
          obtain rfl : 6 = m := hm 6 rfl
          have e1 : a'.eval (.tmp 23) = .pointer (some ⟨g, 0, none⟩) := (draw_of hnd 18 23 (by kernel_rfl) :)
          refine K.d_pick 23 _ _ g rfl e1 ((H7.out v g A c hc).mono ?_)
          rintro e v' ⟨rfl, hc2, hg2⟩
          exact ⟨_, rfl, hK _ _ rfl hg2 (cur_go (by rfl) hc2)⟩
        | 20, _, ho =>
          obtain rfl := Option.some.inj ho
          have e6 : a'.eval (.tmp 24) = .int .i64 x7 := (draw_of hnd 19 24 (by kernel_rfl) :)
          exact K.d_row7 _ _ _ _ _ _ _ (6 : Int) (17 : Int) (1 : Int) (47 : Int) (6 : Int) (17 : Int) x7 rfl rfl rfl rfl rfl rfl rfl e6 (hK _ _ (drawn_row v g _ hc.lt [(6 : Int), (17 : Int), (1 : Int), (47 : Int), (6 : Int), (17 : Int), x7] _ rfl _ _ rfl) (only_new (K.refl _ _) _) (cur_stay (by rfl) (hc.below (Joins.below_alloc1 v _))))
        | 21, _, ho =>
          obtain rfl := Option.some.inj ho
          exact K.d_move 0 _ rfl ((hx 0 (by decide)).trans rfl) (hK _ _ rfl (K.refl _ _) (cur_stay (by rfl) hc))
        | 22, _, ho =>
          obtain rfl := Option.some.inj ho
          obtain rfl : 7 = m := hm 7 rfl
          have e1 : a'.eval (.tmp 26) = .pointer (some ⟨g, 0, none⟩) := (draw_of hnd 21 26 (by kernel_rfl) :)
          refine K.d_pick 26 _ _ g rfl e1 ((H8.out v g A c hc).mono ?_)
          rintro e v' ⟨rfl, hc2, hg2⟩
          exact ⟨_, rfl, hK _ _ rfl hg2 (cur_go (by rfl) hc2)⟩
        | 23, _, ho =>
          obtain rfl := Option.some.inj ho
          obtain ⟨b, e1, hb1, hcs⟩ : ∃ b, a'.eval (.tmp 25) = .slice (some ⟨b, 0, none⟩) 7 7 ∧ b ≠ g ∧ ∀ j x, ([(6 : Int), (17 : Int), (1 : Int), (47 : Int), (6 : Int), (17 : Int), x7] : List Int)[j]? = some x → v.cell? ⟨b, j, none⟩ = some (.int .i64 x) := (draw_of hnd 20 25 (by kernel_rfl) :)
          have e2 : a'.eval (.tmp 27) = .int .i64 (y8 : Int) := (draw_of hnd 22 27 (by kernel_rfl) :)
          exact K.d_idx 25 27 b 7 y8 rfl e1 e2 (by omega) (hK _ _ ⟨b, y8, rfl, hb1, hcs _ _ Hv8.out⟩ (K.refl _ _) (cur_stay (by rfl) hc))
        | 24, _, ho =>
          obtain rfl := Option.some.inj ho
          obtain ⟨b, q, e1, hb1, hx2⟩ : ∃ b q, a'.eval (.tmp 28) = .pointer (some ⟨b, q, none⟩) ∧ b ≠ g ∧ v.cell? ⟨b, q, none⟩ = some (.int .i64 v8) := (draw_of hnd 23 28 (by kernel_rfl) :)
          exact K.d_load 28 b q _ rfl e1 hx2 (hK _ _ rfl (K.refl _ _) (cur_stay (by rfl) hc))
        | 25, _, ho =>
          obtain rfl := Option.some.inj ho
          have e0 : a'.eval (.tmp 6) = .int .i64 x1 := (draw_of hnd 1 6 (by kernel_rfl) :)
          have e1 : a'.eval (.tmp 8) = .int .i64 x2 := (draw_of hnd 3 8 (by kernel_rfl) :)
          have e2 : a'.eval (.tmp 10) = .int .i64 x3 := (draw_of hnd 5 10 (by kernel_rfl) :)
          have e3 : a'.eval (.tmp 15) = .int .i64 v4 := (draw_of hnd 10 15 (by kernel_rfl) :)
          have e4 : a'.eval (.tmp 22) = .int .i64 v6 := (draw_of hnd 17 22 (by kernel_rfl) :)
          have e5 : a'.eval (.tmp 29) = .int .i64 v8 := (draw_of hnd 24 29 (by kernel_rfl) :)
          exact d_four _ _ _ _ _ _ _ _ _ _ _ _ rfl e0 e1 e2 e3 e4 e5 (hK _ _ rfl (K.refl _ _) (cur_stay (by rfl) hc))
        | 26, _, ho =>
          obtain rfl := Option.some.inj ho
          exact d_allocF rfl (hK _ _ ⟨v.heap.size, rfl, hg.size, Nat.ne_of_gt hc.lt, K.new v _⟩ (only_new (K.refl _ _) _) (cur_stay (by rfl) (hc.below (Joins.below_alloc1 v _))))
        | j + 27, hj, _ => omega
      · intro f v hf hc hg
        have e0 : f 0 = .pointer (some ⟨g, 0, none⟩) := hf (0, 5) (by decide)
        have e1 : f 1 = .int .i64 x1 := hf (1, 6) (by decide)
        have e2 : f 2 = .pointer (some ⟨g, 0, none⟩) := hf (2, 7) (by decide)
        have e3 : f 3 = .int .i64 x2 := hf (3, 8) (by decide)
        have e4 : f 4 = .pointer (some ⟨g, 0, none⟩) := hf (4, 9) (by decide)
        have e5 : f 5 = .int .i64 x3 := hf (5, 10) (by decide)
        have e7 : f 7 = .pointer (some ⟨g, 0, none⟩) := hf (7, 12) (by decide)
        have e8 : f 8 = .int .i64 (y4 : Int) := hf (8, 13) (by decide)
        have e10 : f 10 = .int .i64 v4 := hf (10, 15) (by decide)
        have e11 : f 11 = .pointer (some ⟨g, 0, none⟩) := hf (11, 16) (by decide)
        have e12 : f 12 = .int .i64 x5 := hf (12, 17) (by decide)
        have e14 : f 14 = .pointer (some ⟨g, 0, none⟩) := hf (14, 19) (by decide)
        have e15 : f 15 = .int .i64 (y6 : Int) := hf (15, 20) (by decide)
        have e17 : f 17 = .int .i64 v6 := hf (17, 22) (by decide)
        have e18 : f 18 = .pointer (some ⟨g, 0, none⟩) := hf (18, 23) (by decide)
        have e19 : f 19 = .int .i64 x7 := hf (19, 24) (by decide)
        have e21 : f 21 = .pointer (some ⟨g, 0, none⟩) := hf (21, 26) (by decide)
        have e22 : f 22 = .int .i64 (y8 : Int) := hf (22, 27) (by decide)
        have e24 : f 24 = .int .i64 v8 := hf (24, 29) (by decide)
        have e25 : f 25 = (.agg #[.int .i64 x1, .int .i64 x2, .int .i64 x3, .int .i64 v4, .int .i64 0, .int .i64 v6, .int .i64 v8, .int .i64 0, .int .i64 0, .int .i64 0, .int .i64 0, .int .i64 0, .int .i64 0, .int .i64 0, .int .i64 0, .int .i64 0, .int .i64 0, .slice none 0 0, .slice none 0 0]) := hf (25, 30) (by decide)
        obtain ⟨b3, e26, hb3, hbg3, q26⟩ := hf (26, 3) (by decide)
        have QB3 := Lib.hid q26
        clear q26
        simp only [List.foldl_cons, List.foldl_nil, List.drop_succ_cons, List.drop_zero, e0, e1, e2, e3, e4, e5, e7, e8, e10, e11, e12, e14, e15, e17, e18, e19, e21, e22, e24, e25, e26]
        clear e0 e1 e2 e3 e4 e5 e7 e8 e10 e11 e12 e14 e15 e17 e18 e19 e21 e22 e24 e25 e26 hf
        go_simp
        have HC := Lib.hid hc
        have HG := Lib.hid hg
        clear hc hg
        have hb4 : w.heap.size + 1 ≤ b3 := by simpa using hb3
        clear hb3 hbg3
        have Rv := Lib.hid (K.kept HG.out r0.out (fun k hk => by cases hk; omega))
        have Gv := Lib.hid (grownBy_trans (only_new (K.refl w (some g)) (.cells #[.int .i64 0, .int .i64 0, .int .i64 0, .int .i64 0, .int .i64 0, .int .i64 0, .int .i64 0, .int .i64 0, .int .i64 0, .int .i64 0, .int .i64 0, .int .i64 0, .int .i64 0, .int .i64 0, .int .i64 0, .int .i64 0, .int .i64 0, .slice none 0 0, .slice none 0 0] 52)) HG.out)
        have Q1 : Hid ((v.setRow b3 #[.int .i64 x1, .int .i64 x2, .int .i64 x3, .int .i64 v4, .int .i64 0, .int .i64 v6, .int .i64 v8, .int .i64 0, .int .i64 0, .int .i64 0, .int .i64 0, .int .i64 0, .int .i64 0, .int .i64 0, .int .i64 0, .int .i64 0, .int .i64 0, .slice none 0 0, .slice none 0 0]).heap[b3]? = some (.cells #[.int .i64 x1, .int .i64 x2, .int .i64 x3, .int .i64 v4, .int .i64 0, .int .i64 v6, .int .i64 v8, .int .i64 0, .int .i64 0, .int .i64 0, .int .i64 0, .int .i64 0, .int .i64 0, .int .i64 0, .int .i64 0, .int .i64 0, .int .i64 0, .slice none 0 0, .slice none 0 0] 52 (0, 0))) := Lib.hid (setRow_heap _ _ _ _ _ _ QB3.out)
        have R1 := Lib.hid ((setRow_other v b3 w.heap.size #[.int .i64 x1, .int .i64 x2, .int .i64 x3, .int .i64 v4, .int .i64 0, .int .i64 v6, .int .i64 v8, .int .i64 0, .int .i64 0, .int .i64 0, .int .i64 0, .int .i64 0, .int .i64 0, .int .i64 0, .int .i64 0, .int .i64 0, .int .i64 0, .slice none 0 0, .slice none 0 0] (by omega)).trans Rv.out)
        have C1 := Lib.hid (HC.out.grownBy (K.setRow_grown v b3 #[.int .i64 x1, .int .i64 x2, .int .i64 x3, .int .i64 v4, .int .i64 0, .int .i64 v6, .int .i64 v8, .int .i64 0, .int .i64 0, .int .i64 0, .int .i64 0, .int .i64 0, .int .i64 0, .int .i64 0, .int .i64 0, .int .i64 0, .int .i64 0, .slice none 0 0, .slice none 0 0]) (fun u hu => by cases hu; omega))
        have G1 := Lib.hid (grown_other Gv.out (K.setRow_grown v b3 #[.int .i64 x1, .int .i64 x2, .int .i64 x3, .int .i64 v4, .int .i64 0, .int .i64 v6, .int .i64 v8, .int .i64 0, .int .i64 0, .int .i64 0, .int .i64 0, .int .i64 0, .int .i64 0, .int .i64 0, .int .i64 0, .int .i64 0, .int .i64 0, .slice none 0 0, .slice none 0 0]) (fun u hu => by cases hu; omega))
        go_wp2_with (with_reducible refine storeF rfl _ _ rfl b3 rfl rfl QB3.out ?_)
        clear QB3 Rv Gv HC HG
        refine Calls.mono (HA.out _ g A c C1.out) ?_
        rintro e w2 ⟨rfl, hc2, hg2⟩
        have Q2 := Lib.hid (K.kept hg2 Q1.out (fun k hk => by cases hk; omega))
        have R2 := Lib.hid (K.kept hg2 R1.out (fun k hk => by cases hk; omega))
        have C2 := Lib.hid hc2
        have G2 := Lib.hid (grownBy_trans G1.out hg2)
        clear hc2 hg2 Q1 R1 C1 G1
        have c7 := K.cell Q2.out 7 _ rfl
        have c8 := K.cell Q2.out 8 _ rfl
        have c9 := K.cell Q2.out 9 _ rfl
        have c10 := K.cell Q2.out 10 _ rfl
        have c11 := K.cell Q2.out 11 _ rfl
        have f7 := frozen_of_row _ _ 7 _ _ Q2.out
        have f8 := frozen_of_row _ _ 8 _ _ Q2.out
        have f9 := frozen_of_row _ _ 9 _ _ Q2.out
        have f10 := frozen_of_row _ _ 10 _ _ Q2.out
        have f11 := frozen_of_row _ _ 11 _ _ Q2.out
        have Q3 : Hid ((K.setFrom w2 b3 7 [.int .i64 4, .int .i64 0, .int .i64 0, .int .i64 0, .int .i64 da]).heap[b3]? = some (.cells #[.int .i64 x1, .int .i64 x2, .int .i64 x3, .int .i64 v4, .int .i64 0, .int .i64 v6, .int .i64 v8, .int .i64 4, .int .i64 0, .int .i64 0, .int .i64 0, .int .i64 da, .int .i64 0, .int .i64 0, .int .i64 0, .int .i64 0, .int .i64 0, .slice none 0 0, .slice none 0 0] 52 (0, 0))) := Lib.hid (K.set (K.set (K.set (K.set (K.set (Q2.out) 7 (.int .i64 4)) 8 (.int .i64 0)) 9 (.int .i64 0)) 10 (.int .i64 0)) 11 (.int .i64 da))
        have R3 := Lib.hid (K.setFrom_other [.int .i64 4, .int .i64 0, .int .i64 0, .int .i64 0, .int .i64 da] 7 R2.out (show w.heap.size ≠ b3 by omega))
        have C3 := Lib.hid (C2.out.grownBy (K.setFrom_selfE [.int .i64 4, .int .i64 0, .int .i64 0, .int .i64 0, .int .i64 da] w2 b3 7) (fun u hu => by cases hu; omega))
        have G3 := Lib.hid (K.setFrom_grown (g := b3) [.int .i64 4, .int .i64 0, .int .i64 0, .int .i64 0, .int .i64 da] 7 G2.out (by omega))
        go_wp2_with fail
        clear c7 f7 c8 f8 c9 f9 c10 f10 c11 f11 Q2 R2 C2 G2
        refine Calls.mono (HB.out _ g A c C3.out) ?_
        rintro e w4 ⟨rfl, hc2, hg2⟩
        have Q4 := Lib.hid (K.kept hg2 Q3.out (fun k hk => by cases hk; omega))
        have R4 := Lib.hid (K.kept hg2 R3.out (fun k hk => by cases hk; omega))
        have C4 := Lib.hid hc2
        have G4 := Lib.hid (grownBy_trans G3.out hg2)
        clear hc2 hg2 Q3 R3 C3 G3
        have c12 := K.cell Q4.out 12 _ rfl
        have c13 := K.cell Q4.out 13 _ rfl
        have c14 := K.cell Q4.out 14 _ rfl
        have c15 := K.cell Q4.out 15 _ rfl
        have c16 := K.cell Q4.out 16 _ rfl
        have f12 := frozen_of_row _ _ 12 _ _ Q4.out
        have f13 := frozen_of_row _ _ 13 _ _ Q4.out
        have f14 := frozen_of_row _ _ 14 _ _ Q4.out
        have f15 := frozen_of_row _ _ 15 _ _ Q4.out
        have f16 := frozen_of_row _ _ 16 _ _ Q4.out
        have Q5 : Hid ((K.setFrom w4 b3 12 [.int .i64 4, .int .i64 0, .int .i64 0, .int .i64 0, .int .i64 db]).heap[b3]? = some (.cells #[.int .i64 x1, .int .i64 x2, .int .i64 x3, .int .i64 v4, .int .i64 0, .int .i64 v6, .int .i64 v8, .int .i64 4, .int .i64 0, .int .i64 0, .int .i64 0, .int .i64 da, .int .i64 4, .int .i64 0, .int .i64 0, .int .i64 0, .int .i64 db, .slice none 0 0, .slice none 0 0] 52 (0, 0))) := Lib.hid (K.set (K.set (K.set (K.set (K.set (Q4.out) 12 (.int .i64 4)) 13 (.int .i64 0)) 14 (.int .i64 0)) 15 (.int .i64 0)) 16 (.int .i64 db))
        have R5 := Lib.hid (K.setFrom_other [.int .i64 4, .int .i64 0, .int .i64 0, .int .i64 0, .int .i64 db] 12 R4.out (show w.heap.size ≠ b3 by omega))
        have C5 := Lib.hid (C4.out.grownBy (K.setFrom_selfE [.int .i64 4, .int .i64 0, .int .i64 0, .int .i64 0, .int .i64 db] w4 b3 12) (fun u hu => by cases hu; omega))
        have G5 := Lib.hid (K.setFrom_grown (g := b3) [.int .i64 4, .int .i64 0, .int .i64 0, .int .i64 0, .int .i64 db] 12 G4.out (by omega))
        go_wp2_with fail
        clear c12 f12 c13 f13 c14 f14 c15 f15 c16 f16 Q4 R4 C4 G4
        refine Calls.mono (HO1.out _ g A c C5.out) ?_
        rintro e w6 ⟨rfl, hc2, hg2⟩
        have Q6 := Lib.hid (K.kept hg2 Q5.out (fun k hk => by cases hk; omega))
        have R6 := Lib.hid (K.kept hg2 R5.out (fun k hk => by cases hk; omega))
        have C6 := Lib.hid hc2
        have G6 := Lib.hid (grownBy_trans G5.out hg2)
        clear hc2 hg2 Q5 R5 C5 G5
        have Q7 := Lib.hid (K.old Q6.out (.cells #[.int .i64 0, .int .i64 1, .int .i64 8191] 3))
        have R7 := Lib.hid (K.old R6.out (.cells #[.int .i64 0, .int .i64 1, .int .i64 8191] 3))
        have C7 := Lib.hid (C6.out.below (Joins.below_alloc1 w6 (.cells #[.int .i64 0, .int .i64 1, .int .i64 8191] 3)))
        have G7 := Lib.hid (only_new G6.out (.cells #[.int .i64 0, .int .i64 1, .int .i64 8191] 3))
        have gk := C6.out.lt
        go_wp2_with fail
        clear Q6 R6 C6 G6
        refine Calls.mono (HF.out _ g A c C7.out) ?_
        rintro e w8 ⟨rfl, hc2, hg2⟩
        have Q8 := Lib.hid (K.kept hg2 Q7.out (fun k hk => by cases hk; omega))
        have R8 := Lib.hid (K.kept hg2 R7.out (fun k hk => by cases hk; omega))
        have C8 := Lib.hid hc2
        have G8 := Lib.hid (grownBy_trans G7.out hg2)
        have cf := hg2.cell (K.row_cells w6 [0, 1, 8191] _ rfl 3 yf vf Hvf.out) (fun e => by have e2 : w6.heap.size = g := Option.some.inj e; omega)
        clear hc2 hg2 Q7 R7 C7 G7
        have c4 := K.cell Q8.out 4 _ rfl
        have f4 := frozen_of_row _ _ 4 _ _ Q8.out
        have Q9 : Hid ((K.setFrom w8 b3 4 [.int .i64 vf]).heap[b3]? = some (.cells #[.int .i64 x1, .int .i64 x2, .int .i64 x3, .int .i64 v4, .int .i64 vf, .int .i64 v6, .int .i64 v8, .int .i64 4, .int .i64 0, .int .i64 0, .int .i64 0, .int .i64 da, .int .i64 4, .int .i64 0, .int .i64 0, .int .i64 0, .int .i64 db, .slice none 0 0, .slice none 0 0] 52 (0, 0))) := Lib.hid (K.set (Q8.out) 4 (.int .i64 vf))
        have R9 := Lib.hid (K.setFrom_other [.int .i64 vf] 4 R8.out (show w.heap.size ≠ b3 by omega))
        have C9 := Lib.hid (C8.out.grownBy (K.setFrom_selfE [.int .i64 vf] w8 b3 4) (fun u hu => by cases hu; omega))
        have G9 := Lib.hid (K.setFrom_grown (g := b3) [.int .i64 vf] 4 G8.out (by omega))
        go_wp2_with fail
        clear cf
        clear c4 f4 Q8 R8 C8 G8
        refine Calls.mono (HO2.out _ g A c C9.out) ?_
        rintro e w10 ⟨rfl, hc2, hg2⟩
        have Q10 := Lib.hid (K.kept hg2 Q9.out (fun k hk => by cases hk; omega))
        have R10 := Lib.hid (K.kept hg2 R9.out (fun k hk => by cases hk; omega))
        have C10 := Lib.hid hc2
        have G10 := Lib.hid (grownBy_trans G9.out hg2)
        clear hc2 hg2 Q9 R9 C9 G9
        go_wp2_with (first | (with_reducible refine loadF rfl _ rfl b3 rfl Q10.out ?_) | (with_reducible refine storeF rfl _ _ rfl w.heap.size rfl rfl R10.out ?_))
        (try simp only [Exit.inBlock, Exit.then])
        refine bodyPost_ret (v := .agg #[.int .i64 x1, .int .i64 x2, .int .i64 x3, .int .i64 v4, .int .i64 vf, .int .i64 v6, .int .i64 v8, .int .i64 4, .int .i64 0, .int .i64 0, .int .i64 0, .int .i64 da, .int .i64 4, .int .i64 0, .int .i64 0, .int .i64 0, .int .i64 db, .slice none 0 0, .slice none 0 0]) ?_ rfl ⟨none, 0, none, 0, rfl, ⟨rfl, .inl ⟨rfl, rfl⟩⟩, ⟨rfl, .inl ⟨rfl, rfl⟩⟩, ?_, ?_⟩
        · exact resF Try.results99 _ _ w.heap.size rfl (setRow_heap _ _ _ _ _ _ R10.out)
        · exact C10.out.grownBy (K.setRow_grown _ _ _) (fun u hu => by cases hu; omega)
        · exact grown_other G10.out (K.setRow_grown _ _ _) (fun u hu => by cases hu; omega)
    | true =>
      obtain ⟨xo, so, loo, upo, hdo⟩ := pickE bs (t + 1 + 1 + 3 + 1 + 1 + 1 + 1 + 1 + 9 + 9 + 1 + 1 + 1) sd 11 (by omega) (by omega) (by omega)
      have HP := Lib.hid hdo
      clear hdo
      obtain ⟨yo, rfl⟩ : ∃ k : Nat, xo = k := ⟨xo.toNat, by omega⟩
      refine ⟨⟨x1, x2, x3, v4, vf, v6, v8, ⟨4, 0, 0, 0, da⟩, ⟨4, 0, 0, 0, db⟩⟩, bytesL bs (t + 1 + 1 + 3 + 1 + 1 + 1 + 1 + 1 + 9 + 9 + 1 + 1 + 1 + 1) so (4 * yo), t + 1 + 1 + 3 + 1 + 1 + 1 + 1 + 1 + 9 + 9 + 1 + 1 + 1 + 1 + 4 * yo, seedAt bs (t + 1 + 1 + 3 + 1 + 1 + 1 + 1 + 1 + 9 + 9 + 1 + 1 + 1 + 1) so (4 * yo), by rw [bytesL_length]; omega, by omega, fun w g A c hc0 => ?_⟩
      have hgl := hc0.lt
      have CUR0 := hc0.below (Joins.below_alloc1 w (.cells #[.int .i64 0, .int .i64 0, .int .i64 0, .int .i64 0, .int .i64 0, .int .i64 0, .int .i64 0, .int .i64 0, .int .i64 0, .int .i64 0, .int .i64 0, .int .i64 0, .int .i64 0, .int .i64 0, .int .i64 0, .int .i64 0, .int .i64 0, .slice none 0 0, .slice none 0 0] 52))
      have r0 := Lib.hid (K.new w (.cells #[.int .i64 0, .int .i64 0, .int .i64 0, .int .i64 0, .int .i64 0, .int .i64 0, .int .i64 0, .int .i64 0, .int .i64 0, .int .i64 0, .int .i64 0, .int .i64 0, .int .i64 0, .int .i64 0, .int .i64 0, .int .i64 0, .int .i64 0, .slice none 0 0, .slice none 0 0] 52))
      clear hc0
      go_enter Try.func99, Try.ntmps99
      go_wp2_with fail
      refine wp_region_draws 27 67 [(0, 5), (1, 6), (2, 7), (3, 8), (4, 9), (5, 10), (6, 11), (7, 12), (8, 13), (9, 14), (10, 15), (11, 16), (12, 17), (13, 18), (14, 19), (15, 20), (16, 21), (17, 22), (18, 23), (19, 24), (20, 25), (21, 26), (22, 27), (23, 28), (24, 29), (25, 30), (26, 3)] [.cur, .int x1, .cur, .int x2, .cur, .int x3, .row [(0 : Int), (2 : Int), (2 : Int), (1 : Int), (4 : Int)], .cur, .int (y4 : Int), .cellp v4, .int v4, .cur, .int x5, .row [(64 : Int), (1 : Int), (2 : Int), (0 : Int), (255 : Int), x5], .cur, .int (y6 : Int), .cellp v6, .int v6, .cur, .int x7, .row [(6 : Int), (17 : Int), (1 : Int), (47 : Int), (6 : Int), (17 : Int), x7], .cur, .int (y8 : Int), .cellp v8, .int v8, .val (.agg #[.int .i64 x1, .int .i64 x2, .int .i64 x3, .int .i64 v4, .int .i64 0, .int .i64 v6, .int .i64 v8, .int .i64 0, .int .i64 0, .int .i64 0, .int .i64 0, .int .i64 0, .int .i64 0, .int .i64 0, .int .i64 0, .int .i64 0, .int .i64 0, .slice none 0 0, .slice none 0 0]), .blk (.cells #[.int .i64 0, .int .i64 0, .int .i64 0, .int .i64 0, .int .i64 0, .int .i64 0, .int .i64 0, .int .i64 0, .int .i64 0, .int .i64 0, .int .i64 0, .int .i64 0, .int .i64 0, .int .i64 0, .int .i64 0, .int .i64 0, .int .i64 0, .slice none 0 0, .slice none 0 0] 52)] [1, 3, 5, 8, 12, 15, 19, 22] g A c bs [t, t + 1, t + 1 + 1, t + 1 + 1 + 3, t + 1 + 1 + 3 + 1, t + 1 + 1 + 3 + 1 + 1, t + 1 + 1 + 3 + 1 + 1 + 1, t + 1 + 1 + 3 + 1 + 1 + 1 + 1, t + 1 + 1 + 3 + 1 + 1 + 1 + 1 + 1] [s, s1, s2, s3, s4, s5, s6, s7, s8] _ (by kernel_rfl) (by kernel_rfl) rfl (by kernel_rfl) (by kernel_rfl) rfl CUR0 ?_ ?_
      · intro j o hj ho m a' v K' hx hnd hm hc hg hK
        match j, hj, ho with
        | 0, _, ho =>
          obtain rfl := Option.some.inj ho
          exact K.d_move 0 _ rfl ((hx 0 (by decide)).trans rfl) (hK _ _ rfl (K.refl _ _) (cur_stay (by rfl) hc))
        | 1, _, ho =>
          obtain rfl := Option.some.inj ho
          obtain rfl : 0 = m := hm 0 rfl
          have e1 : a'.eval (.tmp 5) = .pointer (some ⟨g, 0, none⟩) := (draw_of hnd 0 5 (by kernel_rfl) :)
          refine K.d_pick 5 _ _ g rfl e1 ((H1.out v g A c hc).mono ?_)
          rintro e v' ⟨rfl, hc2, hg2⟩
          exact ⟨_, rfl, hK _ _ rfl hg2 (cur_go (by rfl) hc2)⟩
        | 2, _, ho =>
          obtain rfl := Option.some.inj ho
          exact K.d_move 0 _ rfl ((hx 0 (by decide)).trans rfl) (hK _ _ rfl (K.refl _ _) (cur_stay (by rfl) hc))
        | 3, _, ho =>
          obtain rfl := Option.some.inj ho
          obtain rfl : 1 = m := hm 1 rfl
          have e1 : a'.eval (.tmp 7) = .pointer (some ⟨g, 0, none⟩) := (draw_of hnd 2 7 (by kernel_rfl) :)
          refine K.d_pick 7 _ _ g rfl e1 ((H2.out v g A c hc).mono ?_)
          rintro e v' ⟨rfl, hc2, hg2⟩
          exact ⟨_, rfl, hK _ _ rfl hg2 (cur_go (by rfl) hc2)⟩
        | 4, _, ho =>
          obtain rfl := Option.some.inj ho
          exact K.d_move 0 _ rfl ((hx 0 (by decide)).trans rfl) (hK _ _ rfl (K.refl _ _) (cur_stay (by rfl) hc))
        | 5, _, ho =>
          obtain rfl := Option.some.inj ho
          obtain rfl : 2 = m := hm 2 rfl
          have e1 : a'.eval (.tmp 9) = .pointer (some ⟨g, 0, none⟩) := (draw_of hnd 4 9 (by kernel_rfl) :)
          refine K.d_wide 9 _ _ g rfl e1 ((H3.out v g A c hc).mono ?_)
          rintro e v' ⟨rfl, hc2, hg2⟩
          exact ⟨_, rfl, hK _ _ rfl hg2 (cur_go (by rfl) hc2)⟩
        | 6, _, ho =>
          obtain rfl := Option.some.inj ho
          exact K.d_row5 _ _ _ _ _ (0 : Int) (2 : Int) (2 : Int) (1 : Int) (4 : Int) rfl rfl rfl rfl rfl rfl (hK _ _ (drawn_row v g _ hc.lt [(0 : Int), (2 : Int), (2 : Int), (1 : Int), (4 : Int)] _ rfl _ _ rfl) (only_new (K.refl _ _) _) (cur_stay (by rfl) (hc.below (Joins.below_alloc1 v _))))
        | 7, _, ho =>
          obtain rfl := Option.some.inj ho
          exact K.d_move 0 _ rfl ((hx 0 (by decide)).trans rfl) (hK _ _ rfl (K.refl _ _) (cur_stay (by rfl) hc))
        | 8, _, ho =>
          obtain rfl := Option.some.inj ho
          obtain rfl : 3 = m := hm 3 rfl
          have e1 : a'.eval (.tmp 12) = .pointer (some ⟨g, 0, none⟩) := (draw_of hnd 7 12 (by kernel_rfl) :)
          refine K.d_pick 12 _ _ g rfl e1 ((H4.out v g A c hc).mono ?_)
          rintro e v' ⟨rfl, hc2, hg2⟩
          exact ⟨_, rfl, hK _ _ rfl hg2 (cur_go (by rfl) hc2)⟩
        | 9, _, ho =>
          obtain rfl := Option.some.inj ho
          obtain ⟨b, e1, hb1, hcs⟩ : ∃ b, a'.eval (.tmp 11) = .slice (some ⟨b, 0, none⟩) 5 5 ∧ b ≠ g ∧ ∀ j x, ([(0 : Int), (2 : Int), (2 : Int), (1 : Int), (4 : Int)] : List Int)[j]? = some x → v.cell? ⟨b, j, none⟩ = some (.int .i64 x) := (draw_of hnd 6 11 (by kernel_rfl) :)
          have e2 : a'.eval (.tmp 13) = .int .i64 (y4 : Int) := (draw_of hnd 8 13 (by kernel_rfl) :)
          exact K.d_idx 11 13 b 5 y4 rfl e1 e2 (by omega) (hK _ _ ⟨b, y4, rfl, hb1, hcs _ _ Hv4.out⟩ (K.refl _ _) (cur_stay (by rfl) hc))
        | 10, _, ho =>
          obtain rfl := Option.some.inj ho
          obtain ⟨b, q, e1, hb1, hx2⟩ : ∃ b q, a'.eval (.tmp 14) = .pointer (some ⟨b, q, none⟩) ∧ b ≠ g ∧ v.cell? ⟨b, q, none⟩ = some (.int .i64 v4) := (draw_of hnd 9 14 (by kernel_rfl) :)
          exact K.d_load 14 b q _ rfl e1 hx2 (hK _ _ rfl (K.refl _ _) (cur_stay (by rfl) hc))
        | 11, _, ho =>
          obtain rfl := Option.some.inj ho
          exact K.d_move 0 _ rfl ((hx 0 (by decide)).trans rfl) (hK _ _ rfl (K.refl _ _) (cur_stay (by rfl) hc))
        | 12, _, ho =>
          obtain rfl := Option.some.inj ho
          obtain rfl : 4 = m := hm 4 rfl
          have e1 : a'.eval (.tmp 16) = .pointer (some ⟨g, 0, none⟩) := (draw_of hnd 11 16 (by kernel_rfl) :)
          refine K.d_pick 16 _ _ g rfl e1 ((H5.out v g A c hc).mono ?_)
          rintro e v' ⟨rfl, hc2, hg2⟩
          exact ⟨_, rfl, hK _ _ rfl hg2 (cur_go (by rfl) hc2)⟩
        | 13, _, ho =>
          obtain rfl := Option.some.inj ho
          have e5 : a'.eval (.tmp 17) = .int .i64 x5 := (draw_of hnd 12 17 (by kernel_rfl) :)
          exact K.d_row6 _ _ _ _ _ _ (64 : Int) (1 : Int) (2 : Int) (0 : Int) (255 : Int) x5 rfl rfl rfl rfl rfl rfl e5 (hK _ _ (drawn_row v g _ hc.lt [(64 : Int), (1 : Int), (2 : Int), (0 : Int), (255 : Int), x5] _ rfl _ _ rfl) (only_new (K.refl _ _) _) (cur_stay (by rfl) (hc.below (Joins.below_alloc1 v _))))
        | 14, _, ho =>
          obtain rfl := Option.some.inj ho
          exact K.d_move 0 _ rfl ((hx 0 (by decide)).trans rfl) (hK _ _ rfl (K.refl _ _) (cur_stay (by rfl) hc))
        | 15, _, ho =>
          obtain rfl := Option.some.inj ho
          obtain rfl : 5 = m := hm 5 rfl
          have e1 : a'.eval (.tmp 19) = .pointer (some ⟨g, 0, none⟩) := (draw_of hnd 14 19 (by kernel_rfl) :)
          refine K.d_pick 19 _ _ g rfl e1 ((H6.out v g A c hc).mono ?_)
          rintro e v' ⟨rfl, hc2, hg2⟩
          exact ⟨_, rfl, hK _ _ rfl hg2 (cur_go (by rfl) hc2)⟩
        | 16, _, ho =>
          obtain rfl := Option.some.inj ho
          obtain ⟨b, e1, hb1, hcs⟩ : ∃ b, a'.eval (.tmp 18) = .slice (some ⟨b, 0, none⟩) 6 6 ∧ b ≠ g ∧ ∀ j x, ([(64 : Int), (1 : Int), (2 : Int), (0 : Int), (255 : Int), x5] : List Int)[j]? = some x → v.cell? ⟨b, j, none⟩ = some (.int .i64 x) := (draw_of hnd 13 18 (by kernel_rfl) :)
          have e2 : a'.eval (.tmp 20) = .int .i64 (y6 : Int) := (draw_of hnd 15 20 (by kernel_rfl) :)
          exact K.d_idx 18 20 b 6 y6 rfl e1 e2 (by omega) (hK _ _ ⟨b, y6, rfl, hb1, hcs _ _ Hv6.out⟩ (K.refl _ _) (cur_stay (by rfl) hc))
        | 17, _, ho =>
          obtain rfl := Option.some.inj ho
          obtain ⟨b, q, e1, hb1, hx2⟩ : ∃ b q, a'.eval (.tmp 21) = .pointer (some ⟨b, q, none⟩) ∧ b ≠ g ∧ v.cell? ⟨b, q, none⟩ = some (.int .i64 v6) := (draw_of hnd 16 21 (by kernel_rfl) :)
          exact K.d_load 21 b q _ rfl e1 hx2 (hK _ _ rfl (K.refl _ _) (cur_stay (by rfl) hc))
        | 18, _, ho =>
          obtain rfl := Option.some.inj ho
          exact K.d_move 0 _ rfl ((hx 0 (by decide)).trans rfl) (hK _ _ rfl (K.refl _ _) (cur_stay (by rfl) hc))
        | 19, _, ho =>
          obtain rfl := Option.some.inj ho
          obtain rfl : 6 = m := hm 6 rfl
          have e1 : a'.eval (.tmp 23) = .pointer (some ⟨g, 0, none⟩) := (draw_of hnd 18 23 (by kernel_rfl) :)
          refine K.d_pick 23 _ _ g rfl e1 ((H7.out v g A c hc).mono ?_)
          rintro e v' ⟨rfl, hc2, hg2⟩
          exact ⟨_, rfl, hK _ _ rfl hg2 (cur_go (by rfl) hc2)⟩
        | 20, _, ho =>
          obtain rfl := Option.some.inj ho
          have e6 : a'.eval (.tmp 24) = .int .i64 x7 := (draw_of hnd 19 24 (by kernel_rfl) :)
          exact K.d_row7 _ _ _ _ _ _ _ (6 : Int) (17 : Int) (1 : Int) (47 : Int) (6 : Int) (17 : Int) x7 rfl rfl rfl rfl rfl rfl rfl e6 (hK _ _ (drawn_row v g _ hc.lt [(6 : Int), (17 : Int), (1 : Int), (47 : Int), (6 : Int), (17 : Int), x7] _ rfl _ _ rfl) (only_new (K.refl _ _) _) (cur_stay (by rfl) (hc.below (Joins.below_alloc1 v _))))
        | 21, _, ho =>
          obtain rfl := Option.some.inj ho
          exact K.d_move 0 _ rfl ((hx 0 (by decide)).trans rfl) (hK _ _ rfl (K.refl _ _) (cur_stay (by rfl) hc))
        | 22, _, ho =>
          obtain rfl := Option.some.inj ho
          obtain rfl : 7 = m := hm 7 rfl
          have e1 : a'.eval (.tmp 26) = .pointer (some ⟨g, 0, none⟩) := (draw_of hnd 21 26 (by kernel_rfl) :)
          refine K.d_pick 26 _ _ g rfl e1 ((H8.out v g A c hc).mono ?_)
          rintro e v' ⟨rfl, hc2, hg2⟩
          exact ⟨_, rfl, hK _ _ rfl hg2 (cur_go (by rfl) hc2)⟩
        | 23, _, ho =>
          obtain rfl := Option.some.inj ho
          obtain ⟨b, e1, hb1, hcs⟩ : ∃ b, a'.eval (.tmp 25) = .slice (some ⟨b, 0, none⟩) 7 7 ∧ b ≠ g ∧ ∀ j x, ([(6 : Int), (17 : Int), (1 : Int), (47 : Int), (6 : Int), (17 : Int), x7] : List Int)[j]? = some x → v.cell? ⟨b, j, none⟩ = some (.int .i64 x) := (draw_of hnd 20 25 (by kernel_rfl) :)
          have e2 : a'.eval (.tmp 27) = .int .i64 (y8 : Int) := (draw_of hnd 22 27 (by kernel_rfl) :)
          exact K.d_idx 25 27 b 7 y8 rfl e1 e2 (by omega) (hK _ _ ⟨b, y8, rfl, hb1, hcs _ _ Hv8.out⟩ (K.refl _ _) (cur_stay (by rfl) hc))
        | 24, _, ho =>
          obtain rfl := Option.some.inj ho
          obtain ⟨b, q, e1, hb1, hx2⟩ : ∃ b q, a'.eval (.tmp 28) = .pointer (some ⟨b, q, none⟩) ∧ b ≠ g ∧ v.cell? ⟨b, q, none⟩ = some (.int .i64 v8) := (draw_of hnd 23 28 (by kernel_rfl) :)
          exact K.d_load 28 b q _ rfl e1 hx2 (hK _ _ rfl (K.refl _ _) (cur_stay (by rfl) hc))
        | 25, _, ho =>
          obtain rfl := Option.some.inj ho
          have e0 : a'.eval (.tmp 6) = .int .i64 x1 := (draw_of hnd 1 6 (by kernel_rfl) :)
          have e1 : a'.eval (.tmp 8) = .int .i64 x2 := (draw_of hnd 3 8 (by kernel_rfl) :)
          have e2 : a'.eval (.tmp 10) = .int .i64 x3 := (draw_of hnd 5 10 (by kernel_rfl) :)
          have e3 : a'.eval (.tmp 15) = .int .i64 v4 := (draw_of hnd 10 15 (by kernel_rfl) :)
          have e4 : a'.eval (.tmp 22) = .int .i64 v6 := (draw_of hnd 17 22 (by kernel_rfl) :)
          have e5 : a'.eval (.tmp 29) = .int .i64 v8 := (draw_of hnd 24 29 (by kernel_rfl) :)
          exact d_four _ _ _ _ _ _ _ _ _ _ _ _ rfl e0 e1 e2 e3 e4 e5 (hK _ _ rfl (K.refl _ _) (cur_stay (by rfl) hc))
        | 26, _, ho =>
          obtain rfl := Option.some.inj ho
          exact d_allocF rfl (hK _ _ ⟨v.heap.size, rfl, hg.size, Nat.ne_of_gt hc.lt, K.new v _⟩ (only_new (K.refl _ _) _) (cur_stay (by rfl) (hc.below (Joins.below_alloc1 v _))))
        | j + 27, hj, _ => omega
      · intro f v hf hc hg
        have e0 : f 0 = .pointer (some ⟨g, 0, none⟩) := hf (0, 5) (by decide)
        have e1 : f 1 = .int .i64 x1 := hf (1, 6) (by decide)
        have e2 : f 2 = .pointer (some ⟨g, 0, none⟩) := hf (2, 7) (by decide)
        have e3 : f 3 = .int .i64 x2 := hf (3, 8) (by decide)
        have e4 : f 4 = .pointer (some ⟨g, 0, none⟩) := hf (4, 9) (by decide)
        have e5 : f 5 = .int .i64 x3 := hf (5, 10) (by decide)
        have e7 : f 7 = .pointer (some ⟨g, 0, none⟩) := hf (7, 12) (by decide)
        have e8 : f 8 = .int .i64 (y4 : Int) := hf (8, 13) (by decide)
        have e10 : f 10 = .int .i64 v4 := hf (10, 15) (by decide)
        have e11 : f 11 = .pointer (some ⟨g, 0, none⟩) := hf (11, 16) (by decide)
        have e12 : f 12 = .int .i64 x5 := hf (12, 17) (by decide)
        have e14 : f 14 = .pointer (some ⟨g, 0, none⟩) := hf (14, 19) (by decide)
        have e15 : f 15 = .int .i64 (y6 : Int) := hf (15, 20) (by decide)
        have e17 : f 17 = .int .i64 v6 := hf (17, 22) (by decide)
        have e18 : f 18 = .pointer (some ⟨g, 0, none⟩) := hf (18, 23) (by decide)
        have e19 : f 19 = .int .i64 x7 := hf (19, 24) (by decide)
        have e21 : f 21 = .pointer (some ⟨g, 0, none⟩) := hf (21, 26) (by decide)
        have e22 : f 22 = .int .i64 (y8 : Int) := hf (22, 27) (by decide)
        have e24 : f 24 = .int .i64 v8 := hf (24, 29) (by decide)
        have e25 : f 25 = (.agg #[.int .i64 x1, .int .i64 x2, .int .i64 x3, .int .i64 v4, .int .i64 0, .int .i64 v6, .int .i64 v8, .int .i64 0, .int .i64 0, .int .i64 0, .int .i64 0, .int .i64 0, .int .i64 0, .int .i64 0, .int .i64 0, .int .i64 0, .int .i64 0, .slice none 0 0, .slice none 0 0]) := hf (25, 30) (by decide)
        obtain ⟨b3, e26, hb3, hbg3, q26⟩ := hf (26, 3) (by decide)
        have QB3 := Lib.hid q26
        clear q26
        simp only [List.foldl_cons, List.foldl_nil, List.drop_succ_cons, List.drop_zero, e0, e1, e2, e3, e4, e5, e7, e8, e10, e11, e12, e14, e15, e17, e18, e19, e21, e22, e24, e25, e26]
        clear e0 e1 e2 e3 e4 e5 e7 e8 e10 e11 e12 e14 e15 e17 e18 e19 e21 e22 e24 e25 e26 hf
        go_simp
        have HC := Lib.hid hc
        have HG := Lib.hid hg
        clear hc hg
        have hb4 : w.heap.size + 1 ≤ b3 := by simpa using hb3
        clear hb3 hbg3
        have Rv := Lib.hid (K.kept HG.out r0.out (fun k hk => by cases hk; omega))
        have Gv := Lib.hid (grownBy_trans (only_new (K.refl w (some g)) (.cells #[.int .i64 0, .int .i64 0, .int .i64 0, .int .i64 0, .int .i64 0, .int .i64 0, .int .i64 0, .int .i64 0, .int .i64 0, .int .i64 0, .int .i64 0, .int .i64 0, .int .i64 0, .int .i64 0, .int .i64 0, .int .i64 0, .int .i64 0, .slice none 0 0, .slice none 0 0] 52)) HG.out)
        have Q1 : Hid ((v.setRow b3 #[.int .i64 x1, .int .i64 x2, .int .i64 x3, .int .i64 v4, .int .i64 0, .int .i64 v6, .int .i64 v8, .int .i64 0, .int .i64 0, .int .i64 0, .int .i64 0, .int .i64 0, .int .i64 0, .int .i64 0, .int .i64 0, .int .i64 0, .int .i64 0, .slice none 0 0, .slice none 0 0]).heap[b3]? = some (.cells #[.int .i64 x1, .int .i64 x2, .int .i64 x3, .int .i64 v4, .int .i64 0, .int .i64 v6, .int .i64 v8, .int .i64 0, .int .i64 0, .int .i64 0, .int .i64 0, .int .i64 0, .int .i64 0, .int .i64 0, .int .i64 0, .int .i64 0, .int .i64 0, .slice none 0 0, .slice none 0 0] 52 (0, 0))) := Lib.hid (setRow_heap _ _ _ _ _ _ QB3.out)
        have R1 := Lib.hid ((setRow_other v b3 w.heap.size #[.int .i64 x1, .int .i64 x2, .int .i64 x3, .int .i64 v4, .int .i64 0, .int .i64 v6, .int .i64 v8, .int .i64 0, .int .i64 0, .int .i64 0, .int .i64 0, .int .i64 0, .int .i64 0, .int .i64 0, .int .i64 0, .int .i64 0, .int .i64 0, .slice none 0 0, .slice none 0 0] (by omega)).trans Rv.out)
        have C1 := Lib.hid (HC.out.grownBy (K.setRow_grown v b3 #[.int .i64 x1, .int .i64 x2, .int .i64 x3, .int .i64 v4, .int .i64 0, .int .i64 v6, .int .i64 v8, .int .i64 0, .int .i64 0, .int .i64 0, .int .i64 0, .int .i64 0, .int .i64 0, .int .i64 0, .int .i64 0, .int .i64 0, .int .i64 0, .slice none 0 0, .slice none 0 0]) (fun u hu => by cases hu; omega))
        have G1 := Lib.hid (grown_other Gv.out (K.setRow_grown v b3 #[.int .i64 x1, .int .i64 x2, .int .i64 x3, .int .i64 v4, .int .i64 0, .int .i64 v6, .int .i64 v8, .int .i64 0, .int .i64 0, .int .i64 0, .int .i64 0, .int .i64 0, .int .i64 0, .int .i64 0, .int .i64 0, .int .i64 0, .int .i64 0, .slice none 0 0, .slice none 0 0]) (fun u hu => by cases hu; omega))
        go_wp2_with (with_reducible refine storeF rfl _ _ rfl b3 rfl rfl QB3.out ?_)
        clear QB3 Rv Gv HC HG
        refine Calls.mono (HA.out _ g A c C1.out) ?_
        rintro e w2 ⟨rfl, hc2, hg2⟩
        have Q2 := Lib.hid (K.kept hg2 Q1.out (fun k hk => by cases hk; omega))
        have R2 := Lib.hid (K.kept hg2 R1.out (fun k hk => by cases hk; omega))
        have C2 := Lib.hid hc2
        have G2 := Lib.hid (grownBy_trans G1.out hg2)
        clear hc2 hg2 Q1 R1 C1 G1
        have c7 := K.cell Q2.out 7 _ rfl
        have c8 := K.cell Q2.out 8 _ rfl
        have c9 := K.cell Q2.out 9 _ rfl
        have c10 := K.cell Q2.out 10 _ rfl
        have c11 := K.cell Q2.out 11 _ rfl
        have f7 := frozen_of_row _ _ 7 _ _ Q2.out
        have f8 := frozen_of_row _ _ 8 _ _ Q2.out
        have f9 := frozen_of_row _ _ 9 _ _ Q2.out
        have f10 := frozen_of_row _ _ 10 _ _ Q2.out
        have f11 := frozen_of_row _ _ 11 _ _ Q2.out
        have Q3 : Hid ((K.setFrom w2 b3 7 [.int .i64 4, .int .i64 0, .int .i64 0, .int .i64 0, .int .i64 da]).heap[b3]? = some (.cells #[.int .i64 x1, .int .i64 x2, .int .i64 x3, .int .i64 v4, .int .i64 0, .int .i64 v6, .int .i64 v8, .int .i64 4, .int .i64 0, .int .i64 0, .int .i64 0, .int .i64 da, .int .i64 0, .int .i64 0, .int .i64 0, .int .i64 0, .int .i64 0, .slice none 0 0, .slice none 0 0] 52 (0, 0))) := Lib.hid (K.set (K.set (K.set (K.set (K.set (Q2.out) 7 (.int .i64 4)) 8 (.int .i64 0)) 9 (.int .i64 0)) 10 (.int .i64 0)) 11 (.int .i64 da))
        have R3 := Lib.hid (K.setFrom_other [.int .i64 4, .int .i64 0, .int .i64 0, .int .i64 0, .int .i64 da] 7 R2.out (show w.heap.size ≠ b3 by omega))
        have C3 := Lib.hid (C2.out.grownBy (K.setFrom_selfE [.int .i64 4, .int .i64 0, .int .i64 0, .int .i64 0, .int .i64 da] w2 b3 7) (fun u hu => by cases hu; omega))
        have G3 := Lib.hid (K.setFrom_grown (g := b3) [.int .i64 4, .int .i64 0, .int .i64 0, .int .i64 0, .int .i64 da] 7 G2.out (by omega))
        go_wp2_with fail
        clear c7 f7 c8 f8 c9 f9 c10 f10 c11 f11 Q2 R2 C2 G2
        refine Calls.mono (HB.out _ g A c C3.out) ?_
        rintro e w4 ⟨rfl, hc2, hg2⟩
        have Q4 := Lib.hid (K.kept hg2 Q3.out (fun k hk => by cases hk; omega))
        have R4 := Lib.hid (K.kept hg2 R3.out (fun k hk => by cases hk; omega))
        have C4 := Lib.hid hc2
        have G4 := Lib.hid (grownBy_trans G3.out hg2)
        clear hc2 hg2 Q3 R3 C3 G3
        have c12 := K.cell Q4.out 12 _ rfl
        have c13 := K.cell Q4.out 13 _ rfl
        have c14 := K.cell Q4.out 14 _ rfl
        have c15 := K.cell Q4.out 15 _ rfl
        have c16 := K.cell Q4.out 16 _ rfl
        have f12 := frozen_of_row _ _ 12 _ _ Q4.out
        have f13 := frozen_of_row _ _ 13 _ _ Q4.out
        have f14 := frozen_of_row _ _ 14 _ _ Q4.out
        have f15 := frozen_of_row _ _ 15 _ _ Q4.out
        have f16 := frozen_of_row _ _ 16 _ _ Q4.out
        have Q5 : Hid ((K.setFrom w4 b3 12 [.int .i64 4, .int .i64 0, .int .i64 0, .int .i64 0, .int .i64 db]).heap[b3]? = some (.cells #[.int .i64 x1, .int .i64 x2, .int .i64 x3, .int .i64 v4, .int .i64 0, .int .i64 v6, .int .i64 v8, .int .i64 4, .int .i64 0, .int .i64 0, .int .i64 0, .int .i64 da, .int .i64 4, .int .i64 0, .int .i64 0, .int .i64 0, .int .i64 db, .slice none 0 0, .slice none 0 0] 52 (0, 0))) := Lib.hid (K.set (K.set (K.set (K.set (K.set (Q4.out) 12 (.int .i64 4)) 13 (.int .i64 0)) 14 (.int .i64 0)) 15 (.int .i64 0)) 16 (.int .i64 db))
        have R5 := Lib.hid (K.setFrom_other [.int .i64 4, .int .i64 0, .int .i64 0, .int .i64 0, .int .i64 db] 12 R4.out (show w.heap.size ≠ b3 by omega))
        have C5 := Lib.hid (C4.out.grownBy (K.setFrom_selfE [.int .i64 4, .int .i64 0, .int .i64 0, .int .i64 0, .int .i64 db] w4 b3 12) (fun u hu => by cases hu; omega))
        have G5 := Lib.hid (K.setFrom_grown (g := b3) [.int .i64 4, .int .i64 0, .int .i64 0, .int .i64 0, .int .i64 db] 12 G4.out (by omega))
        go_wp2_with fail
        clear c12 f12 c13 f13 c14 f14 c15 f15 c16 f16 Q4 R4 C4 G4
        refine Calls.mono (HO1.out _ g A c C5.out) ?_
        rintro e w6 ⟨rfl, hc2, hg2⟩
        have Q6 := Lib.hid (K.kept hg2 Q5.out (fun k hk => by cases hk; omega))
        have R6 := Lib.hid (K.kept hg2 R5.out (fun k hk => by cases hk; omega))
        have C6 := Lib.hid hc2
        have G6 := Lib.hid (grownBy_trans G5.out hg2)
        clear hc2 hg2 Q5 R5 C5 G5
        have Q7 := Lib.hid (K.old Q6.out (.cells #[.int .i64 0, .int .i64 1, .int .i64 8191] 3))
        have R7 := Lib.hid (K.old R6.out (.cells #[.int .i64 0, .int .i64 1, .int .i64 8191] 3))
        have C7 := Lib.hid (C6.out.below (Joins.below_alloc1 w6 (.cells #[.int .i64 0, .int .i64 1, .int .i64 8191] 3)))
        have G7 := Lib.hid (only_new G6.out (.cells #[.int .i64 0, .int .i64 1, .int .i64 8191] 3))
        have gk := C6.out.lt
        go_wp2_with fail
        clear Q6 R6 C6 G6
        refine Calls.mono (HF.out _ g A c C7.out) ?_
        rintro e w8 ⟨rfl, hc2, hg2⟩
        have Q8 := Lib.hid (K.kept hg2 Q7.out (fun k hk => by cases hk; omega))
        have R8 := Lib.hid (K.kept hg2 R7.out (fun k hk => by cases hk; omega))
        have C8 := Lib.hid hc2
        have G8 := Lib.hid (grownBy_trans G7.out hg2)
        have cf := hg2.cell (K.row_cells w6 [0, 1, 8191] _ rfl 3 yf vf Hvf.out) (fun e => by have e2 : w6.heap.size = g := Option.some.inj e; omega)
        clear hc2 hg2 Q7 R7 C7 G7
        have c4 := K.cell Q8.out 4 _ rfl
        have f4 := frozen_of_row _ _ 4 _ _ Q8.out
        have Q9 : Hid ((K.setFrom w8 b3 4 [.int .i64 vf]).heap[b3]? = some (.cells #[.int .i64 x1, .int .i64 x2, .int .i64 x3, .int .i64 v4, .int .i64 vf, .int .i64 v6, .int .i64 v8, .int .i64 4, .int .i64 0, .int .i64 0, .int .i64 0, .int .i64 da, .int .i64 4, .int .i64 0, .int .i64 0, .int .i64 0, .int .i64 db, .slice none 0 0, .slice none 0 0] 52 (0, 0))) := Lib.hid (K.set (Q8.out) 4 (.int .i64 vf))
        have R9 := Lib.hid (K.setFrom_other [.int .i64 vf] 4 R8.out (show w.heap.size ≠ b3 by omega))
        have C9 := Lib.hid (C8.out.grownBy (K.setFrom_selfE [.int .i64 vf] w8 b3 4) (fun u hu => by cases hu; omega))
        have G9 := Lib.hid (K.setFrom_grown (g := b3) [.int .i64 vf] 4 G8.out (by omega))
        go_wp2_with fail
        clear cf
        clear c4 f4 Q8 R8 C8 G8
        refine Calls.mono (HO2.out _ g A c C9.out) ?_
        rintro e w10 ⟨rfl, hc2, hg2⟩
        have Q10 := Lib.hid (K.kept hg2 Q9.out (fun k hk => by cases hk; omega))
        have R10 := Lib.hid (K.kept hg2 R9.out (fun k hk => by cases hk; omega))
        have C10 := Lib.hid hc2
        have G10 := Lib.hid (grownBy_trans G9.out hg2)
        clear hc2 hg2 Q9 R9 C9 G9
        go_wp2_with fail
        refine Calls.mono (HP.out _ g A c C10.out) ?_
        rintro e w11 ⟨rfl, hc2, hg2⟩
        have Q11 := Lib.hid (K.kept hg2 Q10.out (fun k hk => by cases hk; omega))
        have R11 := Lib.hid (K.kept hg2 R10.out (fun k hk => by cases hk; omega))
        have C11 := Lib.hid hc2
        have G11 := Lib.hid (grownBy_trans G10.out hg2)
        clear hc2 hg2 Q10 R10 C10 G10
        have hlt3 := K.lt Q11.out
        obtain ⟨i0, hi0, hz0, hz1, hz2⟩ := info_parts info_u8
        go_wp2_with (at_make; refine wpList_make_full _ rfl _ _ 28 rfl (b3 + 1) 5 i0 (.int .u8 0) 1 Try.underlying28 hi0 hz0 hz1 _ _ _ _ (4 * yo) rfl rfl rfl rfl (by rw [hz2]; omega) (by unfold maxLen; omega) (by omega) ?_; intro w12 hown hgm; have HOM := Lib.hid hown; have HGM := Lib.hid hgm; clear hown hgm; have c17 := K.cell (K.kept HGM.out Q11.out (fun k hk => by cases hk)) 17 _ rfl; have f17 := frozen_of_row _ _ 17 _ _ (K.kept HGM.out Q11.out (fun k hk => by cases hk)))
        have Q12 := Lib.hid (K.kept HGM.out Q11.out (fun k hk => by cases hk))
        have R12 := Lib.hid (K.kept HGM.out R11.out (fun k hk => by cases hk))
        have C12 := Lib.hid (C11.out.grownBy HGM.out (fun k hk => by cases hk))
        have G12 := Lib.hid (grown_other G11.out HGM.out (fun k hk => by cases hk))
        clear c17 f17 HGM Q11 R11 C11 G11
        have c17 := K.cell Q12.out 17 _ rfl
        have f17 := frozen_of_row _ _ 17 _ _ Q12.out
        have Q13 : Hid ((K.setFrom w12 b3 17 [.slice (some ⟨w11.heap.size, 0, none⟩) (4 * yo) (4 * yo)]).heap[b3]? = some (.cells #[.int .i64 x1, .int .i64 x2, .int .i64 x3, .int .i64 v4, .int .i64 vf, .int .i64 v6, .int .i64 v8, .int .i64 4, .int .i64 0, .int .i64 0, .int .i64 0, .int .i64 da, .int .i64 4, .int .i64 0, .int .i64 0, .int .i64 0, .int .i64 db, .slice (some ⟨w11.heap.size, 0, none⟩) (4 * yo) (4 * yo), .slice none 0 0] 52 (0, 0))) := Lib.hid (K.set (Q12.out) 17 (.slice (some ⟨w11.heap.size, 0, none⟩) (4 * yo) (4 * yo)))
        have R13 := Lib.hid (K.setFrom_other [.slice (some ⟨w11.heap.size, 0, none⟩) (4 * yo) (4 * yo)] 17 R12.out (show w.heap.size ≠ b3 by omega))
        have C13 := Lib.hid (C12.out.grownBy (K.setFrom_selfE [.slice (some ⟨w11.heap.size, 0, none⟩) (4 * yo) (4 * yo)] w12 b3 17) (fun u hu => by cases hu; omega))
        have G13 := Lib.hid (K.setFrom_grown (g := b3) [.slice (some ⟨w11.heap.size, 0, none⟩) (4 * yo) (4 * yo)] 17 G12.out (by omega))
        clear c17 f17 Q12 R12 C12 G12
        have O0 : Hid ((K.setFrom w12 b3 17 [.slice (some ⟨w11.heap.size, 0, none⟩) (4 * yo) (4 * yo)]).ownsRow (b3 + 1) 5 1 (.slice (some ⟨w11.heap.size, 0, none⟩) (4 * yo) (4 * yo)) (4 * yo) (cellsOf (bytesL bs (t + 1 + 1 + 3 + 1 + 1 + 1 + 1 + 1 + 9 + 9 + 1 + 1 + 1 + 1) so 0 ++ List.replicate (4 * yo - 0) 0))) := by
          have e : (madeCells (Value.int IntKind.u8 0).cells (4 * yo * 1)).toList = cellsOf (bytesL bs (t + 1 + 1 + 3 + 1 + 1 + 1 + 1 + 1 + 9 + 9 + 1 + 1 + 1 + 1) so 0 ++ List.replicate (4 * yo - 0) 0) := by
            have := toList_madeCells_one (.int .u8 0) (4 * yo)
            simpa [Value.cells, cellsOf, bytesL] using this
          rw [← e]
          exact Lib.hid (K.setFrom_own _ _ HOM.out (by omega))
        clear HOM
        go_loopw [4] (fun i wr => ∃ k : Nat, k ≤ 4 * yo ∧ i = .int .i64 k ∧ Hid (wr.ownsRow (b3 + 1) 5 1 (.slice (some ⟨w11.heap.size, 0, none⟩) (4 * yo) (4 * yo)) (4 * yo) (cellsOf (bytesL bs (t + 1 + 1 + 3 + 1 + 1 + 1 + 1 + 1 + 9 + 9 + 1 + 1 + 1 + 1) so k ++ List.replicate (4 * yo - k) 0))) ∧ Hid (CurS wr g A c bs (t + 1 + 1 + 3 + 1 + 1 + 1 + 1 + 1 + 9 + 9 + 1 + 1 + 1 + 1 + k) (seedAt bs (t + 1 + 1 + 3 + 1 + 1 + 1 + 1 + 1 + 9 + 9 + 1 + 1 + 1 + 1) so k)) ∧ Hid (wr.heap[b3]? = some (.cells #[.int .i64 x1, .int .i64 x2, .int .i64 x3, .int .i64 v4, .int .i64 vf, .int .i64 v6, .int .i64 v8, .int .i64 4, .int .i64 0, .int .i64 0, .int .i64 0, .int .i64 da, .int .i64 4, .int .i64 0, .int .i64 0, .int .i64 0, .int .i64 db, .slice (some ⟨w11.heap.size, 0, none⟩) (4 * yo) (4 * yo), .slice none 0 0] 52 (0, 0))) ∧ Hid (wr.heap[w.heap.size]? = some (.cells #[.int .i64 0, .int .i64 0, .int .i64 0, .int .i64 0, .int .i64 0, .int .i64 0, .int .i64 0, .int .i64 0, .int .i64 0, .int .i64 0, .int .i64 0, .int .i64 0, .int .i64 0, .int .i64 0, .int .i64 0, .int .i64 0, .int .i64 0, .slice none 0 0, .slice none 0 0] 52)) ∧ Hid (w.grownBy wr (some g))) (fun i _ => 4 * yo - (intOf i).toNat)
        case atStart => exact ⟨0, Nat.zero_le _, rfl, O0, C13, Q13, R13, G13⟩
        case round =>
          obtain ⟨k, hk, rfl, OK, CK, QK, RK, GK⟩ := hrel
          clear O0 Q13 R13 C13 G13
          have c17 := K.cell QK.out 17 _ rfl
          by_cases hlt : k < 4 * yo
          · have hxr := pickX_range bs (t + 1 + 1 + 3 + 1 + 1 + 1 + 1 + 1 + 9 + 9 + 1 + 1 + 1 + 1 + k) (seedAt bs (t + 1 + 1 + 3 + 1 + 1 + 1 + 1 + 1 + 9 + 9 + 1 + 1 + 1 + 1) so k) 256 (by omega)
            have PD := Lib.hid (fun v hc => pickD v g A c bs (t + 1 + 1 + 3 + 1 + 1 + 1 + 1 + 1 + 9 + 9 + 1 + 1 + 1 + 1 + k) (seedAt bs (t + 1 + 1 + 3 + 1 + 1 + 1 + 1 + 1 + 9 + 9 + 1 + 1 + 1 + 1) so k) 256 (by omega) (by omega) hc (by omega))
            have HSC := Lib.hid (bytesL_succ bs (t + 1 + 1 + 3 + 1 + 1 + 1 + 1 + 1 + 9 + 9 + 1 + 1 + 1 + 1) so k)
            obtain ⟨yk, hyk⟩ : ∃ q : Nat, pickX bs (t + 1 + 1 + 3 + 1 + 1 + 1 + 1 + 1 + 9 + 9 + 1 + 1 + 1 + 1 + k) (seedAt bs (t + 1 + 1 + 3 + 1 + 1 + 1 + 1 + 1 + 9 + 9 + 1 + 1 + 1 + 1) so k) 256 = q := ⟨(pickX bs (t + 1 + 1 + 3 + 1 + 1 + 1 + 1 + 1 + 9 + 9 + 1 + 1 + 1 + 1 + k) (seedAt bs (t + 1 + 1 + 3 + 1 + 1 + 1 + 1 + 1 + 9 + 9 + 1 + 1 + 1 + 1) so k) 256).toNat, by omega⟩
            rw [hyk] at PD HSC hxr
            clear hyk
            have CUR0 := CK.out
            have hobg : w11.heap.size ≠ g := by have := (OK.out.lt w11.heap.size rfl).1; omega
            go_wp2_with fail
            refine wp_region_draws 7 67 [(0, 59), (1, 60), (2, 61), (3, 62), (4, 63), (5, 64), (6, 65)] [.val (.pointer (some ⟨b3, 17, none⟩)), .val (.slice (some ⟨w11.heap.size, 0, none⟩) (4 * yo) (4 * yo)), .val (.int .i64 (k : Int)), .cur, .int (yk : Int), .val (.int .u8 (yk : Int)), .val (.pointer (some ⟨w11.heap.size, k, none⟩))] [4] g A c bs [t + 1 + 1 + 3 + 1 + 1 + 1 + 1 + 1 + 9 + 9 + 1 + 1 + 1 + 1 + k, t + 1 + 1 + 3 + 1 + 1 + 1 + 1 + 1 + 9 + 9 + 1 + 1 + 1 + 1 + k + 1] [seedAt bs (t + 1 + 1 + 3 + 1 + 1 + 1 + 1 + 1 + 9 + 9 + 1 + 1 + 1 + 1) so k, pickS bs (t + 1 + 1 + 3 + 1 + 1 + 1 + 1 + 1 + 9 + 9 + 1 + 1 + 1 + 1 + k) (seedAt bs (t + 1 + 1 + 3 + 1 + 1 + 1 + 1 + 1 + 9 + 9 + 1 + 1 + 1 + 1) so k)] _ (by kernel_rfl) (by kernel_rfl) rfl (by kernel_rfl) (by kernel_rfl) rfl CUR0 ?_ ?_
            · intro j o hj ho m a' v K' hx hnd hm hc hg hK
              match j, hj, ho with
              | 0, _, ho =>
                obtain rfl := Option.some.inj ho
                have e0 : a'.eval (.tmp 3) = .pointer (some ⟨b3, 0, none⟩) := (hx 3 (by decide)).trans rfl
                exact d_fldF9 _ _ rfl e0 (hK _ _ rfl (K.refl _ _) (cur_stay (by rfl) hc))
              | 1, _, ho =>
                obtain rfl := Option.some.inj ho
                have e0 : a'.eval (.tmp 59) = .pointer (some ⟨b3, 17, none⟩) := (draw_of hnd 0 59 (by kernel_rfl) :)
                exact d_bytes _ _ _ _ rfl e0 (K.cell (K.kept hg QK.out (fun k hk => by cases hk; omega)) 17 _ rfl) (hK _ _ rfl (K.refl _ _) (cur_stay (by rfl) hc))
              | 2, _, ho =>
                obtain rfl := Option.some.inj ho
                have e0 : a'.eval (.tmp 4) = .int .i64 (k : Int) := (hx 4 (by decide)).trans rfl
                exact K.d_move _ _ rfl e0 (hK _ _ rfl (K.refl _ _) (cur_stay (by rfl) hc))
              | 3, _, ho =>
                obtain rfl := Option.some.inj ho
                exact K.d_move 0 _ rfl ((hx 0 (by decide)).trans rfl) (hK _ _ rfl (K.refl _ _) (cur_stay (by rfl) hc))
              | 4, _, ho =>
                obtain rfl := Option.some.inj ho
                obtain rfl : 0 = m := hm 0 rfl
                have e1 : a'.eval (.tmp 62) = .pointer (some ⟨g, 0, none⟩) := (draw_of hnd 3 62 (by kernel_rfl) :)
                refine K.d_pick 62 _ _ g rfl e1 ((PD.out v hc).mono ?_)
                rintro e v' ⟨rfl, hc2, hg2⟩
                exact ⟨_, rfl, hK _ _ rfl hg2 (cur_go (by rfl) hc2)⟩
              | 5, _, ho =>
                obtain rfl := Option.some.inj ho
                have e0 : a'.eval (.tmp 63) = .int .i64 (yk : Int) := (draw_of hnd 4 63 (by kernel_rfl) :)
                exact d_byte _ _ rfl e0 (by omega) (by omega) (hK _ _ rfl (K.refl _ _) (cur_stay (by rfl) hc))
              | 6, _, ho =>
                obtain rfl := Option.some.inj ho
                have e0 : a'.eval (.tmp 60) = .slice (some ⟨w11.heap.size, 0, none⟩) (4 * yo) (4 * yo) := (draw_of hnd 1 60 (by kernel_rfl) :)
                have e1 : a'.eval (.tmp 61) = .int .i64 (k : Int) := (draw_of hnd 2 61 (by kernel_rfl) :)
                exact d_idxB _ _ _ _ _ _ rfl e0 e1 hlt (hK _ _ rfl (K.refl _ _) (cur_stay (by rfl) hc))
              | j + 7, hj, _ => omega
            · intro f v hf hc hg
              have e0 : f 0 = (.pointer (some ⟨b3, 17, none⟩)) := hf (0, 59) (by decide)
              have e1 : f 1 = (.slice (some ⟨w11.heap.size, 0, none⟩) (4 * yo) (4 * yo)) := hf (1, 60) (by decide)
              have e2 : f 2 = (.int .i64 (k : Int)) := hf (2, 61) (by decide)
              have e3 : f 3 = .pointer (some ⟨g, 0, none⟩) := hf (3, 62) (by decide)
              have e4 : f 4 = .int .i64 (yk : Int) := hf (4, 63) (by decide)
              have e5 : f 5 = (.int .u8 (yk : Int)) := hf (5, 64) (by decide)
              have e6 : f 6 = (.pointer (some ⟨w11.heap.size, k, none⟩)) := hf (6, 65) (by decide)
              simp only [List.foldl_cons, List.foldl_nil, List.drop_succ_cons, List.drop_zero, e0, e1, e2, e3, e4, e5, e6]
              clear e0 e1 e2 e3 e4 e5 e6 hf
              go_simp
              have HC := Lib.hid hc
              have HG := Lib.hid hg
              clear hc hg
              have OV := Lib.hid (own_grown OK.out HG.out (fun q hq e => by cases hq; exact hobg (Option.some.inj e).symm))
              have u0 := OV.out.cellAt k (by omega)
              have f0 := OV.out.frozenAt k
              obtain ⟨t0, ht0⟩ : ∃ z, (cellsOf (bytesL bs (t + 1 + 1 + 3 + 1 + 1 + 1 + 1 + 1 + 9 + 9 + 1 + 1 + 1 + 1) so k ++ List.replicate (4 * yo - k) 0))[k]? = some z := ⟨_, List.getElem?_eq_getElem (by rw [cellsOf_length, List.length_append, bytesL_length, List.length_replicate]; omega)⟩
              rw [ht0] at u0
              clear ht0
              have hE : (.int .u8 (yk : Int) : Value) = .int .u8 ((UInt8.ofNat yk).toNat : Int) := by simp; omega
              have OS := (OV.out.stored k (.int .u8 (yk : Int))).1
              rw [show 4 * yo - k = (4 * yo - (k + 1)) + 1 by omega, List.replicate_succ, hE, fill_step _ _ _ _ k (bytesL_length _ _ _ _), ← hE] at OS
              have OS2 := Lib.hid OS
              clear OS hE
              have hsz : w11.heap.size < v.heap.size := (OV.out.lt w11.heap.size rfl).2
              have QS := Lib.hid (K.other (K.kept HG.out QK.out (fun k hk => by cases hk; omega)) w11.heap.size k (.int .u8 (yk : Int)) (by have := (OK.out.lt w11.heap.size rfl).1; omega))
              have RS := Lib.hid (K.other (K.kept HG.out RK.out (fun k hk => by cases hk; omega)) w11.heap.size k (.int .u8 (yk : Int)) (by have := (OK.out.lt w11.heap.size rfl).1; omega))
              have CS := Lib.hid (HC.out.grownBy (grownBy_set v w11.heap.size k (.int .u8 (yk : Int))) (fun u hu => by cases hu; have := (OK.out.lt w11.heap.size rfl).1; omega))
              have GS := Lib.hid (grown_other (grownBy_trans GK.out HG.out) (grownBy_set v w11.heap.size k (.int .u8 (yk : Int))) (fun u hu => by cases hu; have := (OK.out.lt w11.heap.size rfl).1; omega))
              clear HC HG OK QK RK CK GK OV
              go_wp2
              go_roundw
              case rel =>
                refine ⟨k + 1, by omega, by go_num, Lib.hid ?_, CS, QS, RS, GS⟩
                rw [HSC.out]
                have := OS2.out
                simpa using this
              case measure => simp [intOf]; omega
          · obtain rfl : k = 4 * yo := by omega
            have HLN := Lib.hid (bytesL_length bs (t + 1 + 1 + 3 + 1 + 1 + 1 + 1 + 1 + 9 + 9 + 1 + 1 + 1 + 1) so (4 * yo))
            go_wp2_with (first | (with_reducible refine loadF rfl _ rfl b3 rfl QK.out ?_) | (with_reducible refine storeF rfl _ _ rfl w.heap.size rfl rfl RK.out ?_))
            (try simp only [Exit.inBlock, Exit.then])
            refine bodyPost_ret (v := .agg #[.int .i64 x1, .int .i64 x2, .int .i64 x3, .int .i64 v4, .int .i64 vf, .int .i64 v6, .int .i64 v8, .int .i64 4, .int .i64 0, .int .i64 0, .int .i64 0, .int .i64 da, .int .i64 4, .int .i64 0, .int .i64 0, .int .i64 0, .int .i64 db, .slice (some ⟨w11.heap.size, 0, none⟩) (4 * yo) (4 * yo), .slice none 0 0]) ?_ rfl ⟨some ⟨w11.heap.size, 0, none⟩, 4 * yo, none, 0, by rw [HLN.out]; rfl, ?_, ⟨rfl, .inl ⟨rfl, rfl⟩⟩, ?_, ?_⟩
            · exact resF Try.results99 _ _ w.heap.size rfl (setRow_heap _ _ _ _ _ _ RK.out)
            · rw [HLN.out]
              have := OK.out
              rw [Nat.sub_self, List.replicate_zero, List.append_nil] at this
              exact own_base (K.setRow_own _ this (by omega)) (by omega)
            · exact CK.out.grownBy (K.setRow_grown _ _ _) (fun u hu => by cases hu; omega)
            · exact grown_other GK.out (K.setRow_grown _ _ _) (fun u hu => by cases hu; omega)
end Go.Proofs.Ytegpaocoepcemaa
