/-
  TableOk in the program. TableOk in the model.
-/
import Derived.Test.YtmfkpiclpkeemaaGA
import Derived.Deep.Cut
import Derived.Deep.CutRange
import Derived.Deep.DeepCutAuto
namespace Go.Proofs.Ytmfkpiclpkeemaa
set_option maxRecDepth 100000
open Go.RowKit

set_option maxHeartbeats 4000000 in
theorem tabOkI_1 (s : Int) (A : Option Addr) (n c : Nat) (cs : List Ce) (w : World) (hx : RV w w.heap.size A (fl Ce.cells cs)) (hl : cs.length = n) (_hn : n ≤ 1048576) (h1 : upTo s 4294967295 = false) : Calls Try.prog 30 #[.agg #[.int .i64 s, .slice A n c]] w fun e w' => e = .returned (.bool (tabOk s cs)) ∧ Below w.heap.size w w' := by
  have HR : Hid (tabOk s cs = false) := Lib.hid (tabOk_no1 h1)
  have HX := Lib.hid hx
  have HL := Lib.hid hl
  have p0 := Lib.hid (K.new w (.cells #[.int .i64 s, .slice A n c] 40))
  have HB := Lib.hid (Joins.below_alloc1 w (.cells #[.int .i64 s, .slice A n c] 40))
  have H1 := Lib.hid h1
  clear hx hl h1
  go_enter Try.func30, Try.ntmps30
  go_wp2_with fail
  refine wp_region_guards (by kernel_rfl) 17 45 [(0, 5), (1, 6), (2, 7), (3, 8), (4, 9), (5, 10), (6, 11), (7, 12), (8, 13), (9, 14), (10, 15), (11, 16), (12, 17), (13, 18), (14, 19), (15, 20), (16, 21)] _ ([.val (.pointer (some ⟨w.heap.size, 0, none⟩)), .val (.int .i64 s), .val (.bool false), .val (.bool true), .bit true, .skip, .skip, .skip, .skip, .skip, .val (.bool true), .bit true, .skip, .skip, .skip, .skip, .skip]) (by kernel_rfl) (by kernel_rfl) (by kernel_rfl) rfl rfl ?_ ?_
  · intro j o hj ho hr a' v K' hx hnd hB hK
    match j, hj, ho, hr with
    | 0, _, ho, _ =>
      obtain rfl := Option.some.inj ho
      have h0 : a'.eval (.tmp 1) = .pointer (some ⟨w.heap.size, 0, none⟩) := (hx 1 (by decide)).trans rfl
      exact f_tab0 _ _ rfl h0 (hK _ _ rfl (Below.refl _ _))
    | 1, _, ho, _ =>
      obtain rfl := Option.some.inj ho
      have h0 : a'.eval (.tmp 5) = .pointer (some ⟨w.heap.size, 0, none⟩) := (gds_of hnd 0 5 (by kernel_rfl) :)
      exact t_int _ _ _ _ rfl h0 (K.cell (K.below hB p0.out) 0 _ rfl) (hK _ _ rfl (Below.refl _ _))
    | 2, _, ho, _ =>
      obtain rfl := Option.some.inj ho
      have h0 : a'.eval (.tmp 6) = .int .i64 s := (gds_of hnd 1 6 (by kernel_rfl) :)
      refine u_withinI _ _ _ _ _ _ _ rfl h0 rfl rfl (Calls.mono (ruleW 0 s 4294967295 false H1.out _) ?_)
      rintro e' v' ⟨rfl, b6⟩
      exact ⟨_, rfl, hK _ _ rfl b6⟩
    | 3, _, ho, _ =>
      obtain rfl := Option.some.inj ho
      have h0 : a'.eval (.tmp 7) = .bool false := (gds_of hnd 2 7 (by kernel_rfl) :)
      exact t_not _ false rfl h0 (hK _ _ rfl (Below.refl _ _))
    | 4, _, ho, _ =>
      obtain rfl := Option.some.inj ho
      have h0 : a'.eval (.tmp 8) = .bool true := (gds_of hnd 3 8 (by kernel_rfl) :)
      exact t_mv _ _ rfl h0 (hK _ _ rfl (Below.refl _ _))
    | 5, _, ho, hr =>
      obtain rfl := Option.some.inj ho
      exact Bool.noConfusion (show false = true from hr)
    | 6, _, ho, hr =>
      obtain rfl := Option.some.inj ho
      exact Bool.noConfusion (show false = true from hr)
    | 7, _, ho, hr =>
      obtain rfl := Option.some.inj ho
      exact Bool.noConfusion (show false = true from hr)
    | 8, _, ho, hr =>
      obtain rfl := Option.some.inj ho
      exact Bool.noConfusion (show false = true from hr)
    | 9, _, ho, hr =>
      obtain rfl := Option.some.inj ho
      exact Bool.noConfusion (show false = true from hr)
    | 10, _, ho, _ =>
      obtain rfl := Option.some.inj ho
      have h0 : a'.eval (.tmp 9) = .bool true := (gds_of hnd 4 9 (by kernel_rfl) :)
      exact t_pk _ _ _ true _ rfl h0 rfl (hK _ _ rfl (Below.refl _ _))
    | 11, _, ho, _ =>
      obtain rfl := Option.some.inj ho
      have h0 : a'.eval (.tmp 15) = .bool true := (gds_of hnd 10 15 (by kernel_rfl) :)
      exact t_mv _ _ rfl h0 (hK _ _ rfl (Below.refl _ _))
    | 12, _, ho, hr =>
      obtain rfl := Option.some.inj ho
      exact Bool.noConfusion (show false = true from hr)
    | 13, _, ho, hr =>
      obtain rfl := Option.some.inj ho
      exact Bool.noConfusion (show false = true from hr)
    | 14, _, ho, hr =>
      obtain rfl := Option.some.inj ho
      exact Bool.noConfusion (show false = true from hr)
    | 15, _, ho, hr =>
      obtain rfl := Option.some.inj ho
      exact Bool.noConfusion (show false = true from hr)
    | 16, _, ho, hr =>
      obtain rfl := Option.some.inj ho
      exact Bool.noConfusion (show false = true from hr)
    | j + 17, hj, _, _ => omega
  · intro f v hf hB
    have e0 : f 0 = (.pointer (some ⟨w.heap.size, 0, none⟩)) := hf (0, 5) (by decide)
    have e1 : f 1 = (.int .i64 s) := hf (1, 6) (by decide)
    have e2 : f 2 = (.bool false) := hf (2, 7) (by decide)
    have e3 : f 3 = (.bool true) := hf (3, 8) (by decide)
    have e4 : f 4 = (.bool true) := hf (4, 9) (by decide)
    have e5 : f 5 = undef := hf (5, 10) (by decide)
    have e6 : f 6 = undef := hf (6, 11) (by decide)
    have e7 : f 7 = undef := hf (7, 12) (by decide)
    have e8 : f 8 = undef := hf (8, 13) (by decide)
    have e9 : f 9 = undef := hf (9, 14) (by decide)
    have e10 : f 10 = (.bool true) := hf (10, 15) (by decide)
    have e11 : f 11 = (.bool true) := hf (11, 16) (by decide)
    have e12 : f 12 = undef := hf (12, 17) (by decide)
    have e13 : f 13 = undef := hf (13, 18) (by decide)
    have e14 : f 14 = undef := hf (14, 19) (by decide)
    have e15 : f 15 = undef := hf (15, 20) (by decide)
    have e16 : f 16 = undef := hf (16, 21) (by decide)
    simp only [List.foldl_cons, List.foldl_nil, List.drop_succ_cons, List.drop_zero, e0, e1, e2, e3, e4, e5, e6, e7, e8, e9, e10, e11, e12, e13, e14, e15, e16]
    clear e0 e1 e2 e3 e4 e5 e6 e7 e8 e9 e10 e11 e12 e13 e14 e15 e16 hf
    go_simp
    have B1 := Lib.hid (bthen HB.out hB)
    clear hB
    go_wp2
    go_ret
    exact ⟨ret_bool HR.out.symm, B1.out⟩

set_option maxHeartbeats 4000000 in
theorem tabOkI_2 (s : Int) (A : Option Addr) (n c : Nat) (cs : List Ce) (w : World) (hx : RV w w.heap.size A (fl Ce.cells cs)) (hl : cs.length = n) (_hn : n ≤ 1048576) (h1 : upTo s 4294967295 = true) (h2 : sizeOk n = false) : Calls Try.prog 30 #[.agg #[.int .i64 s, .slice A n c]] w fun e w' => e = .returned (.bool (tabOk s cs)) ∧ Below w.heap.size w w' := by
  have HR : Hid (tabOk s cs = false) := Lib.hid (tabOk_no2 (by rw [hl]; exact h2))
  have HX := Lib.hid hx
  have HL := Lib.hid hl
  have p0 := Lib.hid (K.new w (.cells #[.int .i64 s, .slice A n c] 40))
  have HB := Lib.hid (Joins.below_alloc1 w (.cells #[.int .i64 s, .slice A n c] 40))
  have H1 := Lib.hid h1
  have H2 := Lib.hid h2
  clear hx hl h1 h2
  go_enter Try.func30, Try.ntmps30
  go_wp2_with fail
  refine wp_region_guards (by kernel_rfl) 17 45 [(0, 5), (1, 6), (2, 7), (3, 8), (4, 9), (5, 10), (6, 11), (7, 12), (8, 13), (9, 14), (10, 15), (11, 16), (12, 17), (13, 18), (14, 19), (15, 20), (16, 21)] _ ([.val (.pointer (some ⟨w.heap.size, 0, none⟩)), .val (.int .i64 s), .val (.bool true), .val (.bool false), .bit false, .val (.pointer (some ⟨w.heap.size, 1, none⟩)), .val (.slice A n c), .val (.int .i64 (n : Int)), .val (.bool false), .val (.bool true), .val (.bool true), .bit true, .skip, .skip, .skip, .skip, .skip]) (by kernel_rfl) (by kernel_rfl) (by kernel_rfl) rfl rfl ?_ ?_
  · intro j o hj ho hr a' v K' hx hnd hB hK
    match j, hj, ho, hr with
    | 0, _, ho, _ =>
      obtain rfl := Option.some.inj ho
      have h0 : a'.eval (.tmp 1) = .pointer (some ⟨w.heap.size, 0, none⟩) := (hx 1 (by decide)).trans rfl
      exact f_tab0 _ _ rfl h0 (hK _ _ rfl (Below.refl _ _))
    | 1, _, ho, _ =>
      obtain rfl := Option.some.inj ho
      have h0 : a'.eval (.tmp 5) = .pointer (some ⟨w.heap.size, 0, none⟩) := (gds_of hnd 0 5 (by kernel_rfl) :)
      exact t_int _ _ _ _ rfl h0 (K.cell (K.below hB p0.out) 0 _ rfl) (hK _ _ rfl (Below.refl _ _))
    | 2, _, ho, _ =>
      obtain rfl := Option.some.inj ho
      have h0 : a'.eval (.tmp 6) = .int .i64 s := (gds_of hnd 1 6 (by kernel_rfl) :)
      refine u_withinI _ _ _ _ _ _ _ rfl h0 rfl rfl (Calls.mono (ruleW 0 s 4294967295 true H1.out _) ?_)
      rintro e' v' ⟨rfl, b6⟩
      exact ⟨_, rfl, hK _ _ rfl b6⟩
    | 3, _, ho, _ =>
      obtain rfl := Option.some.inj ho
      have h0 : a'.eval (.tmp 7) = .bool true := (gds_of hnd 2 7 (by kernel_rfl) :)
      exact t_not _ true rfl h0 (hK _ _ rfl (Below.refl _ _))
    | 4, _, ho, _ =>
      obtain rfl := Option.some.inj ho
      have h0 : a'.eval (.tmp 8) = .bool false := (gds_of hnd 3 8 (by kernel_rfl) :)
      exact t_mv _ _ rfl h0 (hK _ _ rfl (Below.refl _ _))
    | 5, _, ho, _ =>
      obtain rfl := Option.some.inj ho
      have h0 : a'.eval (.tmp 1) = .pointer (some ⟨w.heap.size, 0, none⟩) := (hx 1 (by decide)).trans rfl
      exact f_tab1 _ _ rfl h0 (hK _ _ rfl (Below.refl _ _))
    | 6, _, ho, _ =>
      obtain rfl := Option.some.inj ho
      have h0 : a'.eval (.tmp 10) = .pointer (some ⟨w.heap.size, 1, none⟩) := (gds_of hnd 5 10 (by kernel_rfl) :)
      exact t_sl _ _ _ _ rfl h0 (K.cell (K.below hB p0.out) 1 _ rfl) (hK _ _ rfl (Below.refl _ _))
    | 7, _, ho, _ =>
      obtain rfl := Option.some.inj ho
      have h0 : a'.eval (.tmp 11) = .slice A n c := (gds_of hnd 6 11 (by kernel_rfl) :)
      exact t_len _ _ _ _ rfl h0 (hK _ _ rfl (Below.refl _ _))
    | 8, _, ho, _ =>
      obtain rfl := Option.some.inj ho
      have h0 : a'.eval (.tmp 12) = .int .i64 (n : Int) := (gds_of hnd 7 12 (by kernel_rfl) :)
      refine u_sizeOk _ _ _ rfl h0 (Calls.mono (sizeOkIB n false H2.out _) ?_)
      rintro e' v' ⟨rfl, b6⟩
      exact ⟨_, rfl, hK _ _ rfl b6⟩
    | 9, _, ho, _ =>
      obtain rfl := Option.some.inj ho
      have h0 : a'.eval (.tmp 13) = .bool false := (gds_of hnd 8 13 (by kernel_rfl) :)
      exact t_not _ false rfl h0 (hK _ _ rfl (Below.refl _ _))
    | 10, _, ho, _ =>
      obtain rfl := Option.some.inj ho
      have h0 : a'.eval (.tmp 9) = .bool false := (gds_of hnd 4 9 (by kernel_rfl) :)
      have h1 : a'.eval (.tmp 14) = .bool true := (gds_of hnd 9 14 (by kernel_rfl) :)
      exact t_pk _ _ _ false _ rfl h0 h1 (hK _ _ rfl (Below.refl _ _))
    | 11, _, ho, _ =>
      obtain rfl := Option.some.inj ho
      have h0 : a'.eval (.tmp 15) = .bool true := (gds_of hnd 10 15 (by kernel_rfl) :)
      exact t_mv _ _ rfl h0 (hK _ _ rfl (Below.refl _ _))
    | 12, _, ho, hr =>
      obtain rfl := Option.some.inj ho
      exact Bool.noConfusion (show false = true from hr)
    | 13, _, ho, hr =>
      obtain rfl := Option.some.inj ho
      exact Bool.noConfusion (show false = true from hr)
    | 14, _, ho, hr =>
      obtain rfl := Option.some.inj ho
      exact Bool.noConfusion (show false = true from hr)
    | 15, _, ho, hr =>
      obtain rfl := Option.some.inj ho
      exact Bool.noConfusion (show false = true from hr)
    | 16, _, ho, hr =>
      obtain rfl := Option.some.inj ho
      exact Bool.noConfusion (show false = true from hr)
    | j + 17, hj, _, _ => omega
  · intro f v hf hB
    have e0 : f 0 = (.pointer (some ⟨w.heap.size, 0, none⟩)) := hf (0, 5) (by decide)
    have e1 : f 1 = (.int .i64 s) := hf (1, 6) (by decide)
    have e2 : f 2 = (.bool true) := hf (2, 7) (by decide)
    have e3 : f 3 = (.bool false) := hf (3, 8) (by decide)
    have e4 : f 4 = (.bool false) := hf (4, 9) (by decide)
    have e5 : f 5 = (.pointer (some ⟨w.heap.size, 1, none⟩)) := hf (5, 10) (by decide)
    have e6 : f 6 = (.slice A n c) := hf (6, 11) (by decide)
    have e7 : f 7 = (.int .i64 (n : Int)) := hf (7, 12) (by decide)
    have e8 : f 8 = (.bool false) := hf (8, 13) (by decide)
    have e9 : f 9 = (.bool true) := hf (9, 14) (by decide)
    have e10 : f 10 = (.bool true) := hf (10, 15) (by decide)
    have e11 : f 11 = (.bool true) := hf (11, 16) (by decide)
    have e12 : f 12 = undef := hf (12, 17) (by decide)
    have e13 : f 13 = undef := hf (13, 18) (by decide)
    have e14 : f 14 = undef := hf (14, 19) (by decide)
    have e15 : f 15 = undef := hf (15, 20) (by decide)
    have e16 : f 16 = undef := hf (16, 21) (by decide)
    simp only [List.foldl_cons, List.foldl_nil, List.drop_succ_cons, List.drop_zero, e0, e1, e2, e3, e4, e5, e6, e7, e8, e9, e10, e11, e12, e13, e14, e15, e16]
    clear e0 e1 e2 e3 e4 e5 e6 e7 e8 e9 e10 e11 e12 e13 e14 e15 e16 hf
    go_simp
    have B1 := Lib.hid (bthen HB.out hB)
    clear hB
    go_wp2
    go_ret
    exact ⟨ret_bool HR.out.symm, B1.out⟩

set_option maxHeartbeats 4000000 in
theorem tabOkI_3 (s : Int) (A : Option Addr) (n c : Nat) (cs : List Ce) (w : World) (hx : RV w w.heap.size A (fl Ce.cells cs)) (hl : cs.length = n) (hn : n ≤ 1048576) (h1 : upTo s 4294967295 = true) (h2 : sizeOk n = true) (h3 : n / 4 * 3 < usedN cs) : Calls Try.prog 30 #[.agg #[.int .i64 s, .slice A n c]] w fun e w' => e = .returned (.bool (tabOk s cs)) ∧ Below w.heap.size w w' := by
  have HR : Hid (tabOk s cs = false) := Lib.hid (tabOk_no3 (by rw [hl]; omega))
  have HX := Lib.hid hx
  have HL := Lib.hid hl
  have p0 := Lib.hid (K.new w (.cells #[.int .i64 s, .slice A n c] 40))
  have HB := Lib.hid (Joins.below_alloc1 w (.cells #[.int .i64 s, .slice A n c] 40))
  have H1 := Lib.hid h1
  have H2 := Lib.hid h2
  have H3 := Lib.hid (show decide (((n / 4 * 3 : Nat) : Int) < (usedN cs : Int)) = true from decide_eq_true (by omega))
  clear hx hl h1 h2 h3
  go_enter Try.func30, Try.ntmps30
  go_wp2_with fail
  refine wp_region_guards (by kernel_rfl) 17 45 [(0, 5), (1, 6), (2, 7), (3, 8), (4, 9), (5, 10), (6, 11), (7, 12), (8, 13), (9, 14), (10, 15), (11, 16), (12, 17), (13, 18), (14, 19), (15, 20), (16, 21)] _ ([.val (.pointer (some ⟨w.heap.size, 0, none⟩)), .val (.int .i64 s), .val (.bool true), .val (.bool false), .bit false, .val (.pointer (some ⟨w.heap.size, 1, none⟩)), .val (.slice A n c), .val (.int .i64 (n : Int)), .val (.bool true), .val (.bool false), .val (.bool false), .bit false, .val (.agg #[.int .i64 s, .slice A n c]), .val (.int .i64 (usedN cs : Int)), .val (.agg #[.int .i64 s, .slice A n c]), .val (.int .i64 ((n / 4 * 3 : Nat) : Int)), .val (.bool true)]) (by kernel_rfl) (by kernel_rfl) (by kernel_rfl) rfl rfl ?_ ?_
  · intro j o hj ho hr a' v K' hx hnd hB hK
    match j, hj, ho, hr with
    | 0, _, ho, _ =>
      obtain rfl := Option.some.inj ho
      have h0 : a'.eval (.tmp 1) = .pointer (some ⟨w.heap.size, 0, none⟩) := (hx 1 (by decide)).trans rfl
      exact f_tab0 _ _ rfl h0 (hK _ _ rfl (Below.refl _ _))
    | 1, _, ho, _ =>
      obtain rfl := Option.some.inj ho
      have h0 : a'.eval (.tmp 5) = .pointer (some ⟨w.heap.size, 0, none⟩) := (gds_of hnd 0 5 (by kernel_rfl) :)
      exact t_int _ _ _ _ rfl h0 (K.cell (K.below hB p0.out) 0 _ rfl) (hK _ _ rfl (Below.refl _ _))
    | 2, _, ho, _ =>
      obtain rfl := Option.some.inj ho
      have h0 : a'.eval (.tmp 6) = .int .i64 s := (gds_of hnd 1 6 (by kernel_rfl) :)
      refine u_withinI _ _ _ _ _ _ _ rfl h0 rfl rfl (Calls.mono (ruleW 0 s 4294967295 true H1.out _) ?_)
      rintro e' v' ⟨rfl, b6⟩
      exact ⟨_, rfl, hK _ _ rfl b6⟩
    | 3, _, ho, _ =>
      obtain rfl := Option.some.inj ho
      have h0 : a'.eval (.tmp 7) = .bool true := (gds_of hnd 2 7 (by kernel_rfl) :)
      exact t_not _ true rfl h0 (hK _ _ rfl (Below.refl _ _))
    | 4, _, ho, _ =>
      obtain rfl := Option.some.inj ho
      have h0 : a'.eval (.tmp 8) = .bool false := (gds_of hnd 3 8 (by kernel_rfl) :)
      exact t_mv _ _ rfl h0 (hK _ _ rfl (Below.refl _ _))
    | 5, _, ho, _ =>
      obtain rfl := Option.some.inj ho
      have h0 : a'.eval (.tmp 1) = .pointer (some ⟨w.heap.size, 0, none⟩) := (hx 1 (by decide)).trans rfl
      exact f_tab1 _ _ rfl h0 (hK _ _ rfl (Below.refl _ _))
    | 6, _, ho, _ =>
      obtain rfl := Option.some.inj ho
      have h0 : a'.eval (.tmp 10) = .pointer (some ⟨w.heap.size, 1, none⟩) := (gds_of hnd 5 10 (by kernel_rfl) :)
      exact t_sl _ _ _ _ rfl h0 (K.cell (K.below hB p0.out) 1 _ rfl) (hK _ _ rfl (Below.refl _ _))
    | 7, _, ho, _ =>
      obtain rfl := Option.some.inj ho
      have h0 : a'.eval (.tmp 11) = .slice A n c := (gds_of hnd 6 11 (by kernel_rfl) :)
      exact t_len _ _ _ _ rfl h0 (hK _ _ rfl (Below.refl _ _))
    | 8, _, ho, _ =>
      obtain rfl := Option.some.inj ho
      have h0 : a'.eval (.tmp 12) = .int .i64 (n : Int) := (gds_of hnd 7 12 (by kernel_rfl) :)
      refine u_sizeOk _ _ _ rfl h0 (Calls.mono (sizeOkIB n true H2.out _) ?_)
      rintro e' v' ⟨rfl, b6⟩
      exact ⟨_, rfl, hK _ _ rfl b6⟩
    | 9, _, ho, _ =>
      obtain rfl := Option.some.inj ho
      have h0 : a'.eval (.tmp 13) = .bool true := (gds_of hnd 8 13 (by kernel_rfl) :)
      exact t_not _ true rfl h0 (hK _ _ rfl (Below.refl _ _))
    | 10, _, ho, _ =>
      obtain rfl := Option.some.inj ho
      have h0 : a'.eval (.tmp 9) = .bool false := (gds_of hnd 4 9 (by kernel_rfl) :)
      have h1 : a'.eval (.tmp 14) = .bool false := (gds_of hnd 9 14 (by kernel_rfl) :)
      exact t_pk _ _ _ false _ rfl h0 h1 (hK _ _ rfl (Below.refl _ _))
    | 11, _, ho, _ =>
      obtain rfl := Option.some.inj ho
      have h0 : a'.eval (.tmp 15) = .bool false := (gds_of hnd 10 15 (by kernel_rfl) :)
      exact t_mv _ _ rfl h0 (hK _ _ rfl (Below.refl _ _))
    | 12, _, ho, _ =>
      obtain rfl := Option.some.inj ho
      have h0 : a'.eval (.tmp 1) = .pointer (some ⟨w.heap.size, 0, none⟩) := (hx 1 (by decide)).trans rfl
      exact r_tab _ _ _ _ rfl h0 (K.below hB p0.out) (hK _ _ rfl (Below.refl _ _))
    | 13, _, ho, _ =>
      obtain rfl := Option.some.inj ho
      have h0 : a'.eval (.tmp 17) = .agg #[.int .i64 s, .slice A n c] := (gds_of hnd 12 17 (by kernel_rfl) :)
      refine u_usedIn _ _ _ rfl h0 (Calls.mono (usedInI s A n c cs _ (HX.out.on (bthen HB.out hB)) HL.out hn) ?_)
      rintro e' v' ⟨rfl, b6⟩
      exact ⟨_, rfl, hK _ _ rfl b6⟩
    | 14, _, ho, _ =>
      obtain rfl := Option.some.inj ho
      have h0 : a'.eval (.tmp 1) = .pointer (some ⟨w.heap.size, 0, none⟩) := (hx 1 (by decide)).trans rfl
      exact r_tab _ _ _ _ rfl h0 (K.below hB p0.out) (hK _ _ rfl (Below.refl _ _))
    | 15, _, ho, _ =>
      obtain rfl := Option.some.inj ho
      have h0 : a'.eval (.tmp 19) = .agg #[.int .i64 s, .slice A n c] := (gds_of hnd 14 19 (by kernel_rfl) :)
      refine u_roomOf _ _ _ rfl h0 (Calls.mono (roomOfI s A n c _ hn) ?_)
      rintro e' v' ⟨rfl, b6⟩
      exact ⟨_, rfl, hK _ _ rfl b6⟩
    | 16, _, ho, _ =>
      obtain rfl := Option.some.inj ho
      have h0 : a'.eval (.tmp 18) = .int .i64 (usedN cs : Int) := (gds_of hnd 13 18 (by kernel_rfl) :)
      have h1 : a'.eval (.tmp 20) = .int .i64 ((n / 4 * 3 : Nat) : Int) := (gds_of hnd 15 20 (by kernel_rfl) :)
      exact t_gtr _ _ _ _ true rfl h0 h1 H3.out (hK _ _ rfl (Below.refl _ _))
    | j + 17, hj, _, _ => omega
  · intro f v hf hB
    have e0 : f 0 = (.pointer (some ⟨w.heap.size, 0, none⟩)) := hf (0, 5) (by decide)
    have e1 : f 1 = (.int .i64 s) := hf (1, 6) (by decide)
    have e2 : f 2 = (.bool true) := hf (2, 7) (by decide)
    have e3 : f 3 = (.bool false) := hf (3, 8) (by decide)
    have e4 : f 4 = (.bool false) := hf (4, 9) (by decide)
    have e5 : f 5 = (.pointer (some ⟨w.heap.size, 1, none⟩)) := hf (5, 10) (by decide)
    have e6 : f 6 = (.slice A n c) := hf (6, 11) (by decide)
    have e7 : f 7 = (.int .i64 (n : Int)) := hf (7, 12) (by decide)
    have e8 : f 8 = (.bool true) := hf (8, 13) (by decide)
    have e9 : f 9 = (.bool false) := hf (9, 14) (by decide)
    have e10 : f 10 = (.bool false) := hf (10, 15) (by decide)
    have e11 : f 11 = (.bool false) := hf (11, 16) (by decide)
    have e12 : f 12 = (.agg #[.int .i64 s, .slice A n c]) := hf (12, 17) (by decide)
    have e13 : f 13 = (.int .i64 (usedN cs : Int)) := hf (13, 18) (by decide)
    have e14 : f 14 = (.agg #[.int .i64 s, .slice A n c]) := hf (14, 19) (by decide)
    have e15 : f 15 = (.int .i64 ((n / 4 * 3 : Nat) : Int)) := hf (15, 20) (by decide)
    have e16 : f 16 = (.bool true) := hf (16, 21) (by decide)
    simp only [List.foldl_cons, List.foldl_nil, List.drop_succ_cons, List.drop_zero, e0, e1, e2, e3, e4, e5, e6, e7, e8, e9, e10, e11, e12, e13, e14, e15, e16]
    clear e0 e1 e2 e3 e4 e5 e6 e7 e8 e9 e10 e11 e12 e13 e14 e15 e16 hf
    go_simp
    have B1 := Lib.hid (bthen HB.out hB)
    clear hB
    go_wp2
    go_ret
    exact ⟨ret_bool HR.out.symm, B1.out⟩

set_option maxHeartbeats 4000000 in
theorem tabOkI_4 (s : Int) (A : Option Addr) (n c : Nat) (cs : List Ce) (w : World) (hx : RV w w.heap.size A (fl Ce.cells cs)) (hl : cs.length = n) (hn : n ≤ 1048576) (h1 : upTo s 4294967295 = true) (h2 : sizeOk n = true) (h3 : ¬ n / 4 * 3 < usedN cs) : Calls Try.prog 30 #[.agg #[.int .i64 s, .slice A n c]] w fun e w' => e = .returned (.bool (tabOk s cs)) ∧ Below w.heap.size w w' := by
  have HX := Lib.hid hx
  have HL := Lib.hid hl
  have p0 := Lib.hid (K.new w (.cells #[.int .i64 s, .slice A n c] 40))
  have HB := Lib.hid (Joins.below_alloc1 w (.cells #[.int .i64 s, .slice A n c] 40))
  have H1 := Lib.hid h1
  have H2 := Lib.hid h2
  have H3 := Lib.hid (show decide (((n / 4 * 3 : Nat) : Int) < (usedN cs : Int)) = false from decide_eq_false (by omega))
  have H4 := Lib.hid (show usedN cs ≤ cs.length / 4 * 3 by rw [hl]; omega)
  have hsz := size_pos h2
  clear hx hl h1 h2 h3
  go_enter Try.func30, Try.ntmps30
  go_wp2_with fail
  refine wp_region_guards (by kernel_rfl) 17 45 [(0, 5), (1, 6), (2, 7), (3, 8), (4, 9), (5, 10), (6, 11), (7, 12), (8, 13), (9, 14), (10, 15), (11, 16), (12, 17), (13, 18), (14, 19), (15, 20), (16, 21)] _ ([.val (.pointer (some ⟨w.heap.size, 0, none⟩)), .val (.int .i64 s), .val (.bool true), .val (.bool false), .bit false, .val (.pointer (some ⟨w.heap.size, 1, none⟩)), .val (.slice A n c), .val (.int .i64 (n : Int)), .val (.bool true), .val (.bool false), .val (.bool false), .bit false, .val (.agg #[.int .i64 s, .slice A n c]), .val (.int .i64 (usedN cs : Int)), .val (.agg #[.int .i64 s, .slice A n c]), .val (.int .i64 ((n / 4 * 3 : Nat) : Int)), .val (.bool false)]) (by kernel_rfl) (by kernel_rfl) (by kernel_rfl) rfl rfl ?_ ?_
  · intro j o hj ho hr a' v K' hx hnd hB hK
    match j, hj, ho, hr with
    | 0, _, ho, _ =>
      obtain rfl := Option.some.inj ho
      have h0 : a'.eval (.tmp 1) = .pointer (some ⟨w.heap.size, 0, none⟩) := (hx 1 (by decide)).trans rfl
      exact f_tab0 _ _ rfl h0 (hK _ _ rfl (Below.refl _ _))
    | 1, _, ho, _ =>
      obtain rfl := Option.some.inj ho
      have h0 : a'.eval (.tmp 5) = .pointer (some ⟨w.heap.size, 0, none⟩) := (gds_of hnd 0 5 (by kernel_rfl) :)
      exact t_int _ _ _ _ rfl h0 (K.cell (K.below hB p0.out) 0 _ rfl) (hK _ _ rfl (Below.refl _ _))
    | 2, _, ho, _ =>
      obtain rfl := Option.some.inj ho
      have h0 : a'.eval (.tmp 6) = .int .i64 s := (gds_of hnd 1 6 (by kernel_rfl) :)
      refine u_withinI _ _ _ _ _ _ _ rfl h0 rfl rfl (Calls.mono (ruleW 0 s 4294967295 true H1.out _) ?_)
      rintro e' v' ⟨rfl, b6⟩
      exact ⟨_, rfl, hK _ _ rfl b6⟩
    | 3, _, ho, _ =>
      obtain rfl := Option.some.inj ho
      have h0 : a'.eval (.tmp 7) = .bool true := (gds_of hnd 2 7 (by kernel_rfl) :)
      exact t_not _ true rfl h0 (hK _ _ rfl (Below.refl _ _))
    | 4, _, ho, _ =>
      obtain rfl := Option.some.inj ho
      have h0 : a'.eval (.tmp 8) = .bool false := (gds_of hnd 3 8 (by kernel_rfl) :)
      exact t_mv _ _ rfl h0 (hK _ _ rfl (Below.refl _ _))
    | 5, _, ho, _ =>
      obtain rfl := Option.some.inj ho
      have h0 : a'.eval (.tmp 1) = .pointer (some ⟨w.heap.size, 0, none⟩) := (hx 1 (by decide)).trans rfl
      exact f_tab1 _ _ rfl h0 (hK _ _ rfl (Below.refl _ _))
    | 6, _, ho, _ =>
      obtain rfl := Option.some.inj ho
      have h0 : a'.eval (.tmp 10) = .pointer (some ⟨w.heap.size, 1, none⟩) := (gds_of hnd 5 10 (by kernel_rfl) :)
      exact t_sl _ _ _ _ rfl h0 (K.cell (K.below hB p0.out) 1 _ rfl) (hK _ _ rfl (Below.refl _ _))
    | 7, _, ho, _ =>
      obtain rfl := Option.some.inj ho
      have h0 : a'.eval (.tmp 11) = .slice A n c := (gds_of hnd 6 11 (by kernel_rfl) :)
      exact t_len _ _ _ _ rfl h0 (hK _ _ rfl (Below.refl _ _))
    | 8, _, ho, _ =>
      obtain rfl := Option.some.inj ho
      have h0 : a'.eval (.tmp 12) = .int .i64 (n : Int) := (gds_of hnd 7 12 (by kernel_rfl) :)
      refine u_sizeOk _ _ _ rfl h0 (Calls.mono (sizeOkIB n true H2.out _) ?_)
      rintro e' v' ⟨rfl, b6⟩
      exact ⟨_, rfl, hK _ _ rfl b6⟩
    | 9, _, ho, _ =>
      obtain rfl := Option.some.inj ho
      have h0 : a'.eval (.tmp 13) = .bool true := (gds_of hnd 8 13 (by kernel_rfl) :)
      exact t_not _ true rfl h0 (hK _ _ rfl (Below.refl _ _))
    | 10, _, ho, _ =>
      obtain rfl := Option.some.inj ho
      have h0 : a'.eval (.tmp 9) = .bool false := (gds_of hnd 4 9 (by kernel_rfl) :)
      have h1 : a'.eval (.tmp 14) = .bool false := (gds_of hnd 9 14 (by kernel_rfl) :)
      exact t_pk _ _ _ false _ rfl h0 h1 (hK _ _ rfl (Below.refl _ _))
    | 11, _, ho, _ =>
      obtain rfl := Option.some.inj ho
      have h0 : a'.eval (.tmp 15) = .bool false := (gds_of hnd 10 15 (by kernel_rfl) :)
      exact t_mv _ _ rfl h0 (hK _ _ rfl (Below.refl _ _))
    | 12, _, ho, _ =>
      obtain rfl := Option.some.inj ho
      have h0 : a'.eval (.tmp 1) = .pointer (some ⟨w.heap.size, 0, none⟩) := (hx 1 (by decide)).trans rfl
      exact r_tab _ _ _ _ rfl h0 (K.below hB p0.out) (hK _ _ rfl (Below.refl _ _))
    | 13, _, ho, _ =>
      obtain rfl := Option.some.inj ho
      have h0 : a'.eval (.tmp 17) = .agg #[.int .i64 s, .slice A n c] := (gds_of hnd 12 17 (by kernel_rfl) :)
      refine u_usedIn _ _ _ rfl h0 (Calls.mono (usedInI s A n c cs _ (HX.out.on (bthen HB.out hB)) HL.out hn) ?_)
      rintro e' v' ⟨rfl, b6⟩
      exact ⟨_, rfl, hK _ _ rfl b6⟩
    | 14, _, ho, _ =>
      obtain rfl := Option.some.inj ho
      have h0 : a'.eval (.tmp 1) = .pointer (some ⟨w.heap.size, 0, none⟩) := (hx 1 (by decide)).trans rfl
      exact r_tab _ _ _ _ rfl h0 (K.below hB p0.out) (hK _ _ rfl (Below.refl _ _))
    | 15, _, ho, _ =>
      obtain rfl := Option.some.inj ho
      have h0 : a'.eval (.tmp 19) = .agg #[.int .i64 s, .slice A n c] := (gds_of hnd 14 19 (by kernel_rfl) :)
      refine u_roomOf _ _ _ rfl h0 (Calls.mono (roomOfI s A n c _ hn) ?_)
      rintro e' v' ⟨rfl, b6⟩
      exact ⟨_, rfl, hK _ _ rfl b6⟩
    | 16, _, ho, _ =>
      obtain rfl := Option.some.inj ho
      have h0 : a'.eval (.tmp 18) = .int .i64 (usedN cs : Int) := (gds_of hnd 13 18 (by kernel_rfl) :)
      have h1 : a'.eval (.tmp 20) = .int .i64 ((n / 4 * 3 : Nat) : Int) := (gds_of hnd 15 20 (by kernel_rfl) :)
      exact t_gtr _ _ _ _ false rfl h0 h1 H3.out (hK _ _ rfl (Below.refl _ _))
    | j + 17, hj, _, _ => omega
  · intro f v hf hB
    have e0 : f 0 = (.pointer (some ⟨w.heap.size, 0, none⟩)) := hf (0, 5) (by decide)
    have e1 : f 1 = (.int .i64 s) := hf (1, 6) (by decide)
    have e2 : f 2 = (.bool true) := hf (2, 7) (by decide)
    have e3 : f 3 = (.bool false) := hf (3, 8) (by decide)
    have e4 : f 4 = (.bool false) := hf (4, 9) (by decide)
    have e5 : f 5 = (.pointer (some ⟨w.heap.size, 1, none⟩)) := hf (5, 10) (by decide)
    have e6 : f 6 = (.slice A n c) := hf (6, 11) (by decide)
    have e7 : f 7 = (.int .i64 (n : Int)) := hf (7, 12) (by decide)
    have e8 : f 8 = (.bool true) := hf (8, 13) (by decide)
    have e9 : f 9 = (.bool false) := hf (9, 14) (by decide)
    have e10 : f 10 = (.bool false) := hf (10, 15) (by decide)
    have e11 : f 11 = (.bool false) := hf (11, 16) (by decide)
    have e12 : f 12 = (.agg #[.int .i64 s, .slice A n c]) := hf (12, 17) (by decide)
    have e13 : f 13 = (.int .i64 (usedN cs : Int)) := hf (13, 18) (by decide)
    have e14 : f 14 = (.agg #[.int .i64 s, .slice A n c]) := hf (14, 19) (by decide)
    have e15 : f 15 = (.int .i64 ((n / 4 * 3 : Nat) : Int)) := hf (15, 20) (by decide)
    have e16 : f 16 = (.bool false) := hf (16, 21) (by decide)
    simp only [List.foldl_cons, List.foldl_nil, List.drop_succ_cons, List.drop_zero, e0, e1, e2, e3, e4, e5, e6, e7, e8, e9, e10, e11, e12, e13, e14, e15, e16]
    clear e0 e1 e2 e3 e4 e5 e6 e7 e8 e9 e10 e11 e12 e13 e14 e15 e16 hf
    go_simp
    have B1 := Lib.hid (bthen HB.out hB)
    have p1 := Lib.hid (K.below hB p0.out)
    clear hB
    have t1 := K.cell p1.out 1 _ rfl
    go_wp2
    clear t1
    go_loopw [26] (fun i wr => ∃ k : Nat, k ≤ n ∧ i = .int .i64 k ∧ Hid (∀ j, j < k → cellFine s cs j = true) ∧ Hid (Below v.heap.size v wr)) (fun i _ => n - (intOf i).toNat)
    case atStart => exact ⟨0, Nat.zero_le _, rfl, Lib.hid (fun j h => absurd h (by omega)), Lib.hid (Below.refl _ _)⟩
    case round =>
      obtain ⟨k, hk, rfl, HA, hb⟩ := hrel
      by_cases hlt : k < n
      · have hk1 : k < cs.length := by rw [HL.out]; exact hlt
        obtain ⟨g, o, rfl, hg, hc0⟩ := HX.out.flat Ce.cells_length (by omega) hk1
        have hBB := Lib.hid (bthen B1.out hb.out)
        have hc := Lib.hid (show wr.rangeAt g (o + k * 16) cs[k].cells from fun j u hu => (hBB.out.cell (p := ⟨g, o + k * 16 + j, none⟩) hg).trans (hc0 j u hu))
        have HC := Lib.hid (show ceAt cs k = cs[k] from ceAt_get hk1)
        clear hc0 hg
        generalize cs[k] = y at *
        have p2 := Lib.hid (K.old (K.below hb.out p1.out) (.cells #[.bool y.used, .int .i64 y.key.tenant, .int .i64 y.key.key.src.k, .int .i64 y.key.key.src.a, .int .i64 y.key.key.src.b, .int .i64 y.key.key.src.c, .int .i64 y.key.key.src.d, .int .i64 y.key.key.dst.k, .int .i64 y.key.key.dst.a, .int .i64 y.key.key.dst.b, .int .i64 y.key.key.dst.c, .int .i64 y.key.key.dst.d, .int .i64 y.key.key.proto, .int .i64 y.key.key.sport, .int .i64 y.key.key.dport, .int .i64 y.num] 93))
        have qy := Lib.hid (K.new wr (.cells #[.bool y.used, .int .i64 y.key.tenant, .int .i64 y.key.key.src.k, .int .i64 y.key.key.src.a, .int .i64 y.key.key.src.b, .int .i64 y.key.key.src.c, .int .i64 y.key.key.src.d, .int .i64 y.key.key.dst.k, .int .i64 y.key.key.dst.a, .int .i64 y.key.key.dst.b, .int .i64 y.key.key.dst.c, .int .i64 y.key.key.dst.d, .int .i64 y.key.key.proto, .int .i64 y.key.key.sport, .int .i64 y.key.key.dport, .int .i64 y.num] 93))
        have B2 := Lib.hid (bthen hb.out (Joins.below_alloc1 wr (.cells #[.bool y.used, .int .i64 y.key.tenant, .int .i64 y.key.key.src.k, .int .i64 y.key.key.src.a, .int .i64 y.key.key.src.b, .int .i64 y.key.key.src.c, .int .i64 y.key.key.src.d, .int .i64 y.key.key.dst.k, .int .i64 y.key.key.dst.a, .int .i64 y.key.key.dst.b, .int .i64 y.key.key.dst.c, .int .i64 y.key.key.dst.d, .int .i64 y.key.key.proto, .int .i64 y.key.key.sport, .int .i64 y.key.key.dport, .int .i64 y.num] 93)))
        have hf : y.fits = false ∨ y.fits = true := by cases y.fits <;> simp
        rcases hf with hf | hf
        · have HF := Lib.hid hf
          have HN := Lib.hid (tabOk_no4 (s := s) hk1 (cellFine_no1 (by rw [HC.out]; exact hf)))
          clear hf
          go_wp2_with (first | (with_reducible refine loadAtCe rfl _ rfl g (o + k * 16) rfl y hc.out ?_) | (with_reducible refine storeNewCe rfl _ _ rfl rfl rfl ?_) | (with_reducible refine loadCe rfl _ rfl wr.heap.size rfl qy.out ?_))
          refine Calls.mono (cellOkIB y false HF.out _) ?_
          rintro e w3 ⟨rfl, b3⟩
          have B3 := Lib.hid (bthen B2.out b3)
          clear b3
          go_wp2
          (try rw [Exit.noGoto_ret])
          go_ret
          exact ⟨ret_bool HN.out.symm, bthen B1.out B3.out⟩
        · have HF := Lib.hid hf
          go_wp2_with (first | (with_reducible refine loadAtCe rfl _ rfl g (o + k * 16) rfl y hc.out ?_) | (with_reducible refine storeNewCe rfl _ _ rfl rfl rfl ?_) | (with_reducible refine loadCe rfl _ rfl wr.heap.size rfl qy.out ?_))
          refine Calls.mono (cellOkIB y true HF.out _) ?_
          rintro e w3 ⟨rfl, b3⟩
          have B3 := Lib.hid (bthen B2.out b3)
          have p3 := Lib.hid (K.below b3 p2.out)
          have q3 := Lib.hid (K.below b3 qy.out)
          clear b3 B2 p2 qy
          have hu : y.used = false ∨ y.used = true := by cases y.used <;> simp
          rcases hu with hu | hu
          · have HN := Lib.hid (cellFine_yes (s := s) (by rw [HC.out]; exact hf) (.inl (by rw [HC.out]; exact hu)))
            have c0 := (K.cell q3.out 0 _ rfl).trans (congrArg some (congrArg Value.bool hu))
            clear hu hf
            go_wp2
            go_roundw
            case rel =>
              refine ⟨k + 1, by omega, by go_num, Lib.hid (fun i hi => ?_), B3⟩
              by_cases h : i < k
              · exact HA.out i h
              · obtain rfl : i = k := by omega
                exact HN.out
            case measure => simp [intOf]; omega
          · have c0 := (K.cell q3.out 0 _ rfl).trans (congrArg some (congrArg Value.bool hu))
            obtain ⟨_, x1, x2, x3, x4, x5, x6, x7, x8, x9, x10, x11, x12, x13, x14, _⟩ := K.ce q3.out
            obtain ⟨⟨t0, t1⟩, _⟩ := K.row2 p3.out
            have HK := Lib.hid (fits_used hf hu).1
            obtain ⟨r, hr⟩ : ∃ r, idx (probeT s cs y.key) = r := ⟨_, rfl⟩
            have PI := Lib.hid (hr ▸ probedI s (some ⟨g, o, none⟩) n c cs w3 (HX.out.on (bthen B1.out B3.out)) HL.out y.key H1.out HK.out (by omega) (by omega))
            by_cases hrk : r = (k : Int)
            · have HN := Lib.hid (cellFine_yes (s := s) (by rw [HC.out]; exact hf) (.inr (by rw [HC.out]; exact idx_probe (hr.trans hrk))))
              have hrb : (r == (k : Int)) = true := by rw [hrk]; exact beq_self_eq_true _
              clear hu hf hr hrk
              go_wp2_with fail
              refine Calls.mono PI.out ?_
              rintro e w4 ⟨rfl, b4⟩
              have B4 := Lib.hid (bthen B3.out b4)
              clear b4 c0 x1 x2 x3 x4 x5 x6 x7 x8 x9 x10 x11 x12 x13 x14 t0 t1
              go_wp2
              go_roundw
              case rel =>
                refine ⟨k + 1, by omega, by go_num, Lib.hid (fun i hi => ?_), B4⟩
                by_cases h : i < k
                · exact HA.out i h
                · obtain rfl : i = k := by omega
                  exact HN.out
              case measure => simp [intOf]; omega
            · have HN := Lib.hid (tabOk_no4 (s := s) hk1 (cellFine_no2 (by rw [HC.out]; exact hu) (by rw [HC.out]; intro e; rw [e] at hr; exact hrk hr.symm)))
              have hrb : (r == (k : Int)) = false := beq_false_of_ne hrk
              clear hu hf hr hrk
              go_wp2_with fail
              refine Calls.mono PI.out ?_
              rintro e w4 ⟨rfl, b4⟩
              have B4 := Lib.hid (bthen B3.out b4)
              clear b4 c0 x1 x2 x3 x4 x5 x6 x7 x8 x9 x10 x11 x12 x13 x14 t0 t1
              go_wp2
              (try rw [Exit.noGoto_ret])
              go_ret
              exact ⟨ret_bool HN.out.symm, bthen B1.out B4.out⟩
      · obtain rfl : k = n := by omega
        have HN := Lib.hid (tabOk_yes H1.out (by rw [HL.out]; exact H2.out) H4.out (by rw [HL.out]; exact HA.out))
        go_wp2
        (try rw [Exit.noGoto_ret])
        go_ret
        exact ⟨ret_bool HN.out.symm, bthen B1.out hb.out⟩

theorem tabOkI (s : Int) (A : Option Addr) (n c : Nat) (cs : List Ce) (w : World) (hx : RV w w.heap.size A (fl Ce.cells cs)) (hl : cs.length = n) (hn : n ≤ 1048576) : Calls Try.prog 30 #[.agg #[.int .i64 s, .slice A n c]] w fun e w' => e = .returned (.bool (tabOk s cs)) ∧ Below w.heap.size w w' := by
  cases h1 : upTo s 4294967295 with
  | false => exact tabOkI_1 s A n c cs w hx hl hn h1
  | true =>
    cases h2 : sizeOk n with
    | false => exact tabOkI_2 s A n c cs w hx hl hn h1 h2
    | true =>
      by_cases h3 : n / 4 * 3 < usedN cs
      · exact tabOkI_3 s A n c cs w hx hl hn h1 h2 h3
      · exact tabOkI_4 s A n c cs w hx hl hn h1 h2 h3
theorem tabOkIB (s : Int) (A : Option Addr) (n c : Nat) (cs : List Ce) (w : World) (hx : RV w w.heap.size A (fl Ce.cells cs)) (hl : cs.length = n) (hn : n ≤ 1048576) (b : Bool) (h : tabOk s cs = b) : Calls Try.prog 30 #[.agg #[.int .i64 s, .slice A n c]] w fun e w' => e = .returned (.bool b) ∧ Below w.heap.size w w' := h ▸ tabOkI s A n c cs w hx hl hn
end Go.Proofs.Ytmfkpiclpkeemaa

namespace Go.Proofs.Ytmfkpiclpkeemaa
set_option maxRecDepth 100000
open Go.RowKit

theorem size_ways {n : Nat} (h : sizeOk n = true) : (((n : Int) = 4 ↔ True) ∧ ((n : Int) != 4) = false) ∨ ((¬ ((n : Int) = 4)) ∧ ((n : Int) != 4) = true ∧ ((n : Int) = 8 ↔ True) ∧ ((n : Int) != 8) = false) ∨ ((¬ ((n : Int) = 4)) ∧ ((n : Int) != 4) = true ∧ (¬ ((n : Int) = 8)) ∧ ((n : Int) != 8) = true ∧ ((n : Int) = 16 ↔ True) ∧ ((n : Int) != 16) = false) ∨ ((¬ ((n : Int) = 4)) ∧ ((n : Int) != 4) = true ∧ (¬ ((n : Int) = 8)) ∧ ((n : Int) != 8) = true ∧ (¬ ((n : Int) = 16)) ∧ ((n : Int) != 16) = true ∧ ((n : Int) = 32 ↔ True) ∧ ((n : Int) != 32) = false) ∨ ((¬ ((n : Int) = 4)) ∧ ((n : Int) != 4) = true ∧ (¬ ((n : Int) = 8)) ∧ ((n : Int) != 8) = true ∧ (¬ ((n : Int) = 16)) ∧ ((n : Int) != 16) = true ∧ (¬ ((n : Int) = 32)) ∧ ((n : Int) != 32) = true ∧ ((n : Int) = 64 ↔ True) ∧ ((n : Int) != 64) = false) := by
  rw [sizeOk_iff] at h
  rcases h with rfl | rfl | rfl | rfl | rfl <;> simp
theorem size_none {n : Nat} (h : sizeOk n = false) : (¬ ((n : Int) = 4)) ∧ ((n : Int) != 4) = true ∧ (¬ ((n : Int) = 8)) ∧ ((n : Int) != 8) = true ∧ (¬ ((n : Int) = 16)) ∧ ((n : Int) != 16) = true ∧ (¬ ((n : Int) = 32)) ∧ ((n : Int) != 32) = true ∧ (¬ ((n : Int) = 64)) ∧ ((n : Int) != 64) = true := by
  have : ¬ (n = 4 ∨ n = 8 ∨ n = 16 ∨ n = 32 ∨ n = 64) := fun e => by rw [← sizeOk_iff, h] at e; cases e
  simp only [bne_iff_ne, ne_eq]
  omega
theorem bne_of_beq_false {a b : Int} (h : (a == b) = false) : (a != b) = true := by simp [bne, h]
theorem ne_of_beq_false {a b : Int} (h : (a == b) = false) : ¬ a = b := by simpa using h
/-- How many steps from h on a place is. -/
def stepBack (h n p : Nat) : Nat := if h ≤ p then p - h else p + n - h
theorem stepBack_at {h n j : Nat} (hh : h < n) (hj : j < n) : stepBack h n ((h + j) % n) = j := by
  unfold stepBack
  rcases Nat.lt_or_ge (h + j) n with e | e
  · rw [Nat.mod_eq_of_lt e, if_pos (by omega)]
    omega
  · rw [Nat.mod_eq_sub_mod e, Nat.mod_eq_of_lt (by omega), if_neg (by omega)]
    omega
theorem next_at (h j n : Nat) : ((((h + j) % n : Nat) : Int) + 1).tmod (n : Int) = (((h + (j + 1)) % n : Nat) : Int) := by
  rw [Int.tmod_eq_emod_of_nonneg (by omega), ← Nat.add_assoc, ← Nat.mod_add_mod (h + j) n 1]
  first | (simp; done) | omega

set_option maxHeartbeats 8000000 in
theorem tabOkS_1a (s : Int) (A : Option Addr) (n c : Nat) (cs : List Ce) (w : World) (_hx : RV w w.heap.size A (fl Ce.cells cs)) (_hl : cs.length = n) (_hn : n ≤ 1048576) (h1 : ¬ 0 ≤ s) : Calls Try.prog 28 #[.agg #[.int .i64 s, .slice A n c]] w fun e w' => e = .returned (.bool (tabOk s cs)) ∧ Below w.heap.size w w' := by
  have HR : Hid (tabOk s cs = false) := Lib.hid (tabOk_no1 (by simp [upTo, h1]))
  have p0 := Lib.hid (K.new w (.cells #[.int .i64 s, .slice A n c] 40))
  have t0 := K.cell p0.out 0 _ rfl
  have t1 := K.cell p0.out 1 _ rfl
  go_enter Try.func28, Try.ntmps28
  go_wp2
  go_ret
  exact ⟨ret_bool HR.out.symm, by go_grown⟩

set_option maxHeartbeats 8000000 in
theorem tabOkS_1b (s : Int) (A : Option Addr) (n c : Nat) (cs : List Ce) (w : World) (_hx : RV w w.heap.size A (fl Ce.cells cs)) (_hl : cs.length = n) (_hn : n ≤ 1048576) (h0 : 0 ≤ s) (h1 : ¬ s ≤ 4294967295) : Calls Try.prog 28 #[.agg #[.int .i64 s, .slice A n c]] w fun e w' => e = .returned (.bool (tabOk s cs)) ∧ Below w.heap.size w w' := by
  have HR : Hid (tabOk s cs = false) := Lib.hid (tabOk_no1 (by simp [upTo, h1]))
  have p0 := Lib.hid (K.new w (.cells #[.int .i64 s, .slice A n c] 40))
  have t0 := K.cell p0.out 0 _ rfl
  have t1 := K.cell p0.out 1 _ rfl
  go_enter Try.func28, Try.ntmps28
  go_wp2
  go_ret
  exact ⟨ret_bool HR.out.symm, by go_grown⟩

set_option maxHeartbeats 8000000 in
theorem tabOkS_2 (s : Int) (A : Option Addr) (n c : Nat) (cs : List Ce) (w : World) (_hx : RV w w.heap.size A (fl Ce.cells cs)) (hl : cs.length = n) (_hn : n ≤ 1048576) (h0 : 0 ≤ s) (h1 : s ≤ 4294967295) (h2 : sizeOk n = false) : Calls Try.prog 28 #[.agg #[.int .i64 s, .slice A n c]] w fun e w' => e = .returned (.bool (tabOk s cs)) ∧ Below w.heap.size w w' := by
  have HR : Hid (tabOk s cs = false) := Lib.hid (tabOk_no2 (by rw [hl]; exact h2))
  have p0 := Lib.hid (K.new w (.cells #[.int .i64 s, .slice A n c] 40))
  have t0 := K.cell p0.out 0 _ rfl
  have t1 := K.cell p0.out 1 _ rfl
  obtain ⟨e4, f4, e8, f8, e16, f16, e32, f32, e64, f64⟩ := size_none h2
  clear h2
  go_enter Try.func28, Try.ntmps28
  go_wp2
  go_ret
  exact ⟨ret_bool HR.out.symm, by go_grown⟩

set_option maxHeartbeats 8000000 in
theorem tabOkS_3 (s : Int) (A : Option Addr) (n c : Nat) (cs : List Ce) (w : World) (hx : RV w w.heap.size A (fl Ce.cells cs)) (hl : cs.length = n) (hn : n ≤ 1048576) (h1 : upTo s 4294967295 = true) (h2 : sizeOk n = true) (h3 : ¬ 4 * usedN cs ≤ 3 * n) : Calls Try.prog 28 #[.agg #[.int .i64 s, .slice A n c]] w fun e w' => e = .returned (.bool (tabOk s cs)) ∧ Below w.heap.size w w' := by
  have HX := Lib.hid hx
  have HL := Lib.hid hl
  have p0 := Lib.hid (K.new w (.cells #[.int .i64 s, .slice A n c] 40))
  have HB := Lib.hid (Joins.below_alloc1 w (.cells #[.int .i64 s, .slice A n c] 40))
  have t0 := K.cell p0.out 0 _ rfl
  have t1 := K.cell p0.out 1 _ rfl
  have h1b := h1
  simp only [upTo, decide_eq_true_eq] at h1b
  obtain ⟨hlo, hhi⟩ := h1b
  have hsz := size_pos h2
  have HN := Lib.hid (tabOk_full (s := s) (cs := cs) (by rw [hl]; exact h3))
  have CS := Lib.hid (fun (v : World) (hv : Below w.heap.size w v) => countS s A n c cs v (hx.on hv) hl hn)
  have hun := usedN_le cs
  rw [hl] at hun
  generalize usedN cs = U at CS hun h3
  clear h1 hx hl
  go_enter Try.func28, Try.ntmps28
  go_upto_region 2 with fail
  go_cut [37] (fun c37 wx => c37 = .bool false ∧ wx = w.alloc (.cells #[.int .i64 s, .slice A n c] 40))
  case first =>
    rcases size_ways h2 with ⟨e4, f4⟩ | ⟨e4, f4, e8, f8⟩ | ⟨e4, f4, e8, f8, e16, f16⟩ | ⟨e4, f4, e8, f8, e16, f16, e32, f32⟩ | ⟨e4, f4, e8, f8, e16, f16, e32, f32, e64, f64⟩
    all_goals (
      go_wp2_with fail
      go_meet
      exact ⟨by first | rfl | (rw [decide_eq_false (by omega), decide_eq_false (by omega)]; rfl), rfl⟩)
  case rest =>
    obtain ⟨rfl, rfl⟩ := hcut
    clear h2
    go_wp2_with fail
    refine Calls.mono (CS.out _ HB.out) ?_
    rintro e v ⟨rfl, hB⟩
    have B1 := Lib.hid (bthen HB.out hB)
    clear hB t0 t1
    go_wp2
    (try rw [Exit.noGoto_ret])
    go_ret
    exact ⟨ret_bool HN.out.symm, B1.out⟩

set_option maxHeartbeats 8000000 in
theorem tabOkS_4 (s : Int) (A : Option Addr) (n c : Nat) (cs : List Ce) (w : World) (hx : RV w w.heap.size A (fl Ce.cells cs)) (hl : cs.length = n) (hn : n ≤ 1048576) (h1 : upTo s 4294967295 = true) (h2 : sizeOk n = true) (h3 : 4 * usedN cs ≤ 3 * n) : Calls Try.prog 28 #[.agg #[.int .i64 s, .slice A n c]] w fun e w' => e = .returned (.bool (tabOk s cs)) ∧ Below w.heap.size w w' := by
  have HX := Lib.hid hx
  have HL := Lib.hid hl
  have p0 := Lib.hid (K.new w (.cells #[.int .i64 s, .slice A n c] 40))
  have HB := Lib.hid (Joins.below_alloc1 w (.cells #[.int .i64 s, .slice A n c] 40))
  have t0 := K.cell p0.out 0 _ rfl
  have t1 := K.cell p0.out 1 _ rfl
  have h1b := h1
  simp only [upTo, decide_eq_true_eq] at h1b
  obtain ⟨hlo, hhi⟩ := h1b
  have hsz := size_pos h2
  have H1 := Lib.hid h1
  have H2 := Lib.hid h2
  have H4 := Lib.hid h3
  have CS := Lib.hid (fun (v : World) (hv : Below w.heap.size w v) => countS s A n c cs v (hx.on hv) hl hn)
  have hun := usedN_le cs
  rw [hl] at hun
  obtain ⟨U, hU⟩ : ∃ U, usedN cs = U := ⟨_, rfl⟩
  rw [hU] at CS hun h3
  clear hU
  clear h1 hx hl
  go_enter Try.func28, Try.ntmps28
  go_upto_region 2 with fail
  go_cut [37] (fun c37 wx => c37 = .bool false ∧ wx = w.alloc (.cells #[.int .i64 s, .slice A n c] 40))
  case first =>
    rcases size_ways h2 with ⟨e4, f4⟩ | ⟨e4, f4, e8, f8⟩ | ⟨e4, f4, e8, f8, e16, f16⟩ | ⟨e4, f4, e8, f8, e16, f16, e32, f32⟩ | ⟨e4, f4, e8, f8, e16, f16, e32, f32, e64, f64⟩
    all_goals (
      go_wp2_with fail
      go_meet
      exact ⟨by first | rfl | (rw [decide_eq_false (by omega), decide_eq_false (by omega)]; rfl), rfl⟩)
  case rest =>
    obtain ⟨rfl, rfl⟩ := hcut
    clear h2
    go_wp2_with fail
    refine Calls.mono (CS.out _ HB.out) ?_
    rintro e v ⟨rfl, hB⟩
    have B1 := Lib.hid (bthen HB.out hB)
    have p1 := Lib.hid (K.below hB p0.out)
    clear hB t0 t1
    have t0 := K.cell p1.out 0 _ rfl
    have t1 := K.cell p1.out 1 _ rfl
    go_wp2
    clear t0 t1
    go_loopw [4] (fun i wr => ∃ k : Nat, k ≤ n ∧ i = .int .i64 k ∧ Hid (∀ j, j < k → (ceAt cs j).fits = true ∧ ((ceAt cs j).used = true → SureT s cs j)) ∧ Hid (Below v.heap.size v wr)) (fun i _ => n - (intOf i).toNat)
    case atStart => exact ⟨0, Nat.zero_le _, rfl, Lib.hid (fun j h => absurd h (by omega)), Lib.hid (Below.refl _ _)⟩
    case round =>
      obtain ⟨k, hk, rfl, HA, hb⟩ := hrel
      have hBB := Lib.hid (bthen B1.out hb.out)
      by_cases hlt : k < n
      · have hk1 : k < cs.length := by rw [HL.out]; exact hlt
        have t1 := K.cell (K.below hb.out p1.out) 1 _ rfl
        obtain ⟨g, o, rfl, hg, hc0⟩ := HX.out.flat Ce.cells_length (by omega) hk1
        have hc := Lib.hid (show wr.rangeAt g (o + k * 16) cs[k].cells from fun j u hu => (hBB.out.cell (p := ⟨g, o + k * 16 + j, none⟩) hg).trans (hc0 j u hu))
        have HC := Lib.hid (show ceAt cs k = cs[k] from ceAt_get hk1)
        clear hc0 hg
        generalize cs[k] = y at *
        have p2 := Lib.hid (K.old (K.below hb.out p1.out) (.cells #[.bool y.used, .int .i64 y.key.tenant, .int .i64 y.key.key.src.k, .int .i64 y.key.key.src.a, .int .i64 y.key.key.src.b, .int .i64 y.key.key.src.c, .int .i64 y.key.key.src.d, .int .i64 y.key.key.dst.k, .int .i64 y.key.key.dst.a, .int .i64 y.key.key.dst.b, .int .i64 y.key.key.dst.c, .int .i64 y.key.key.dst.d, .int .i64 y.key.key.proto, .int .i64 y.key.key.sport, .int .i64 y.key.key.dport, .int .i64 y.num] 93))
        have qy := Lib.hid (K.new wr (.cells #[.bool y.used, .int .i64 y.key.tenant, .int .i64 y.key.key.src.k, .int .i64 y.key.key.src.a, .int .i64 y.key.key.src.b, .int .i64 y.key.key.src.c, .int .i64 y.key.key.src.d, .int .i64 y.key.key.dst.k, .int .i64 y.key.key.dst.a, .int .i64 y.key.key.dst.b, .int .i64 y.key.key.dst.c, .int .i64 y.key.key.dst.d, .int .i64 y.key.key.proto, .int .i64 y.key.key.sport, .int .i64 y.key.key.dport, .int .i64 y.num] 93))
        have B2 := Lib.hid (bthen hb.out (Joins.below_alloc1 wr (.cells #[.bool y.used, .int .i64 y.key.tenant, .int .i64 y.key.key.src.k, .int .i64 y.key.key.src.a, .int .i64 y.key.key.src.b, .int .i64 y.key.key.src.c, .int .i64 y.key.key.src.d, .int .i64 y.key.key.dst.k, .int .i64 y.key.key.dst.a, .int .i64 y.key.key.dst.b, .int .i64 y.key.key.dst.c, .int .i64 y.key.key.dst.d, .int .i64 y.key.key.proto, .int .i64 y.key.key.sport, .int .i64 y.key.key.dport, .int .i64 y.num] 93)))
        have hu : y.used = false ∨ y.used = true := by cases y.used <;> simp
        rcases hu with hu | hu
        · have c0 := (K.cell qy.out 0 _ rfl).trans (congrArg some (congrArg Value.bool hu))
          by_cases hz : y = Ce.zero
          · have HN := Lib.hid (show (ceAt cs k).fits = true ∧ ((ceAt cs k).used = true → SureT s cs k) by rw [HC.out]; exact ⟨by rw [fits_0 hu]; exact decide_eq_true hz, fun h => by rw [hu] at h; cases h⟩)
            have ez : ∀ w, (Op.equalIn 10000 93 (.agg #[.bool y.used, .int .i64 y.key.tenant, .int .i64 y.key.key.src.k, .int .i64 y.key.key.src.a, .int .i64 y.key.key.src.b, .int .i64 y.key.key.src.c, .int .i64 y.key.key.src.d, .int .i64 y.key.key.dst.k, .int .i64 y.key.key.dst.a, .int .i64 y.key.key.dst.b, .int .i64 y.key.key.dst.c, .int .i64 y.key.key.dst.d, .int .i64 y.key.key.proto, .int .i64 y.key.key.sport, .int .i64 y.key.key.dport, .int .i64 y.num]) (.agg #[.bool false, .int .i64 0, .int .i64 0, .int .i64 0, .int .i64 0, .int .i64 0, .int .i64 0, .int .i64 0, .int .i64 0, .int .i64 0, .int .i64 0, .int .i64 0, .int .i64 0, .int .i64 0, .int .i64 0, .int .i64 0])).run Try.prog w = .ok true w := fun w => (eqv_ce y Ce.zero w).trans (by rw [decide_eq_true hz])
            clear hu hz
            go_wp2_with (first | (with_reducible refine loadAtCe rfl _ rfl g (o + k * 16) rfl y hc.out ?_) | (with_reducible refine storeNewCe rfl _ _ rfl rfl rfl ?_) | (with_reducible refine loadCe rfl _ rfl wr.heap.size rfl qy.out ?_))
            go_roundw
            case rel =>
              refine ⟨k + 1, by omega, by go_num, Lib.hid (fun i hi => ?_), B2⟩
              by_cases h : i < k
              · exact HA.out i h
              · obtain rfl : i = k := by omega
                exact HN.out
            case measure => simp [intOf]; omega
          · have HN := Lib.hid (tabOk_bad (s := s) hk1 (by rw [HC.out]; rintro ⟨h1, _⟩; rw [fits_0 hu] at h1; exact hz (of_decide_eq_true h1)))
            have ez : ∀ w, (Op.equalIn 10000 93 (.agg #[.bool y.used, .int .i64 y.key.tenant, .int .i64 y.key.key.src.k, .int .i64 y.key.key.src.a, .int .i64 y.key.key.src.b, .int .i64 y.key.key.src.c, .int .i64 y.key.key.src.d, .int .i64 y.key.key.dst.k, .int .i64 y.key.key.dst.a, .int .i64 y.key.key.dst.b, .int .i64 y.key.key.dst.c, .int .i64 y.key.key.dst.d, .int .i64 y.key.key.proto, .int .i64 y.key.key.sport, .int .i64 y.key.key.dport, .int .i64 y.num]) (.agg #[.bool false, .int .i64 0, .int .i64 0, .int .i64 0, .int .i64 0, .int .i64 0, .int .i64 0, .int .i64 0, .int .i64 0, .int .i64 0, .int .i64 0, .int .i64 0, .int .i64 0, .int .i64 0, .int .i64 0, .int .i64 0])).run Try.prog w = .ok false w := fun w => (eqv_ce y Ce.zero w).trans (by rw [decide_eq_false hz])
            clear hu hz
            go_wp2_with (first | (with_reducible refine loadAtCe rfl _ rfl g (o + k * 16) rfl y hc.out ?_) | (with_reducible refine storeNewCe rfl _ _ rfl rfl rfl ?_) | (with_reducible refine loadCe rfl _ rfl wr.heap.size rfl qy.out ?_))
            (try rw [Exit.noGoto_ret])
            go_ret
            exact ⟨ret_bool HN.out.symm, bthen B1.out B2.out⟩
        · have c0 := (K.cell qy.out 0 _ rfl).trans (congrArg some (congrArg Value.bool hu))
          obtain ⟨_, x1, x2, x3, x4, x5, x6, x7, x8, x9, x10, x11, x12, x13, x14, _⟩ := K.ce qy.out
          have hko : y.key.ok = false ∨ y.key.ok = true := by cases y.key.ok <;> simp
          rcases hko with hko | hko
          · have HN := Lib.hid (tabOk_bad (s := s) hk1 (by rw [HC.out]; rintro ⟨h1, _⟩; rw [fits_1 hu hko] at h1; cases h1))
            have HK := Lib.hid hko
            clear hu hko
            go_wp2_with (first | (with_reducible refine loadAtCe rfl _ rfl g (o + k * 16) rfl y hc.out ?_) | (with_reducible refine storeNewCe rfl _ _ rfl rfl rfl ?_) | (with_reducible refine loadCe rfl _ rfl wr.heap.size rfl qy.out ?_))
            refine Calls.mono (fkOkSB y.key false HK.out _) ?_
            rintro e w3 ⟨rfl, b3⟩
            have B3 := Lib.hid (bthen B2.out b3)
            clear b3 c0 x1 x2 x3 x4 x5 x6 x7 x8 x9 x10 x11 x12 x13 x14
            go_wp2
            (try rw [Exit.noGoto_ret])
            go_ret
            exact ⟨ret_bool HN.out.symm, bthen B1.out B3.out⟩
          · have HK := Lib.hid hko
            have HU := Lib.hid hu
            clear hu hko
            go_wp2_with (first | (with_reducible refine loadAtCe rfl _ rfl g (o + k * 16) rfl y hc.out ?_) | (with_reducible refine storeNewCe rfl _ _ rfl rfl rfl ?_) | (with_reducible refine loadCe rfl _ rfl wr.heap.size rfl qy.out ?_))
            refine Calls.mono (fkOkSB y.key true HK.out _) ?_
            rintro e w3 ⟨rfl, b3⟩
            have B3 := Lib.hid (bthen B2.out b3)
            have p3 := Lib.hid (K.below b3 p2.out)
            have q3 := Lib.hid (K.below b3 qy.out)
            clear b3 B2 p2 qy c0 t1 x1 x2 x3 x4 x5 x6 x7 x8 x9 x10 x11 x12 x13 x14
            have n0 := K.cell q3.out 15 _ rfl
            by_cases hm : 0 ≤ y.num
            · by_cases hM : y.num ≤ 1000000000000
              · have hfit : y.fits = true := by rw [fits_2 HU.out HK.out]; simp [btw, hm, hM]
                obtain ⟨_, x1, x2, x3, x4, x5, x6, x7, x8, x9, x10, x11, x12, x13, x14, _⟩ := K.ce q3.out
                obtain ⟨⟨t0, t1⟩, _⟩ := K.row2 p3.out
                obtain ⟨r, hr⟩ : ∃ r, idx (placeT cs y.key) = r := ⟨_, rfl⟩
                have PI := Lib.hid (hr ▸ placeS s (some ⟨g, o, none⟩) n c cs w3 (HX.out.on (bthen B1.out B3.out)) HL.out hn y.key)
                by_cases hrk : r = (k : Int)
                · have hpl := idx_place (hr.trans hrk)
                  have hrb : (r == (k : Int)) = true := by rw [hrk]; exact beq_self_eq_true _
                  have hrb2 : (r != (k : Int)) = false := by rw [hrk]; simp
                  have hrb3 : r = (k : Int) ↔ True := by simp [hrk]
                  have HPL := Lib.hid hpl
                  have HFT := Lib.hid hfit
                  clear hr hrk hpl hfit
                  go_wp2_with fail
                  refine Calls.mono PI.out ?_
                  rintro e w4 ⟨rfl, b4⟩
                  have B4 := Lib.hid (bthen B3.out b4)
                  have p4 := Lib.hid (K.below b4 p3.out)
                  have q4 := Lib.hid (K.below b4 q3.out)
                  clear b4 B3 p3 q3 n0 t0 t1 x1 x2 x3 x4 x5 x6 x7 x8 x9 x10 x11 x12 x13 x14
                  obtain ⟨_, x1, x2, x3, x4, x5, x6, x7, x8, x9, x10, x11, x12, x13, x14, _⟩ := K.ce q4.out
                  obtain ⟨⟨t0, t1⟩, _⟩ := K.row2 p4.out
                  obtain ⟨hm0, hh⟩ : ∃ h, homeOf s n y.key = h := ⟨_, rfl⟩
                  have hh0 : hm0 < n := by rw [← hh]; exact homeOf_lt s (by omega) _
                  obtain ⟨d, hd, hdk⟩ := step_of hh0 hlt
                  have HS := Lib.hid (hh ▸ homeS s (some ⟨g, o, none⟩) n c y.key w4 H1.out HK.out (by omega))
                  have HH := Lib.hid hh
                  have HDK := Lib.hid hdk
                  have h0m := Lib.hid (show (hm0 + 0) % n = hm0 by rw [Nat.add_zero]; exact Nat.mod_eq_of_lt hh0)
                  clear hh hdk
                  go_wp2_with fail
                  refine Calls.mono HS.out ?_
                  rintro e w5 ⟨rfl, b5⟩
                  have B5 := Lib.hid (bthen B4.out b5)
                  have p5 := Lib.hid (K.below b5 p4.out)
                  have t1 := K.cell p5.out 1 _ rfl
                  clear b5 B4 p4 q4 t0 x1 x2 x3 x4 x5 x6 x7 x8 x9 x10 x11 x12 x13 x14
                  go_wp2
                  go_loop [6] (fun at6 => ∃ j : Nat, j ≤ d ∧ at6 = .int .i64 (((hm0 + j) % n : Nat) : Int) ∧ Hid (∀ i, i < j → (ceAt cs ((hm0 + i) % n)).used = true)) (fun at6 => d - (stepBack hm0 n (intOf at6).toNat))
                  case atStart => exact ⟨0, Nat.zero_le _, by rw [h0m.out], Lib.hid (fun i h => absurd h (by omega))⟩
                  case round =>
                    obtain ⟨j, hj, rfl, HJ⟩ := hrel
                    have hP := Nat.mod_lt (hm0 + j) (show 0 < n by omega)
                    have HM1 := Lib.hid (stepBack_at hh0 (show j < n by omega))
                    by_cases hjd : j < d
                    · have HM2 := Lib.hid (stepBack_at hh0 (show j + 1 < n by omega))
                      have hne : ((((hm0 + j) % n : Nat) : Int) == (k : Int)) = false := beq_false_of_ne (fun e => by
                        have e2 : (hm0 + j) % n = (hm0 + d) % n := by rw [← HDK.out]; omega
                        have := step_inj (by omega) hd e2
                        omega)
                      have hne2 := bne_of_beq_false hne
                      have hne3 := ne_of_beq_false hne
                      have hnx : ((((hm0 + j) % n : Nat) : Int) + 1).tmod (n : Int) = (((hm0 + (j + 1)) % n : Nat) : Int) := next_at hm0 j n
                      obtain ⟨P, hPe⟩ : ∃ P, (hm0 + j) % n = P := ⟨_, rfl⟩
                      obtain ⟨P2, hPe2⟩ : ∃ P, (hm0 + (j + 1)) % n = P := ⟨_, rfl⟩
                      rw [hPe] at hP hne hne2 hne3 hnx HM1 ⊢
                      rw [hPe2] at hnx HM2
                      have HPe := Lib.hid hPe
                      have HPe2 := Lib.hid hPe2
                      clear hPe hPe2
                      have hP1 : P < cs.length := by rw [HL.out]; exact hP
                      obtain ⟨g', o', e', hg, hc0⟩ := HX.out.flat Ce.cells_length (by omega) hP1
                      obtain ⟨rfl, rfl⟩ : g = g' ∧ o = o' := by simpa using e'
                      have HC2 := Lib.hid (show ceAt cs P = cs[P] from ceAt_get hP1)
                      have cu := ((bthen B1.out B5.out).cell (p := ⟨g, o + P * 16, none⟩) hg).trans (by have := hc0 0 _ rfl; simpa using this)
                      clear hc0 hg e'
                      generalize cs[P] = z at *
                      have hz : z.used = false ∨ z.used = true := by cases z.used <;> simp
                      have hn0 : ¬ ((n : Int) = 0) := by omega
                      rcases hz with hz | hz
                      · have HN := Lib.hid (tabOk_bad (s := s) hk1 (by
                          rintro ⟨_, h2⟩
                          obtain ⟨_, d', hd', hdk', hall⟩ := h2 (by rw [HC.out]; exact HU.out)
                          rw [HC.out, HL.out, HH.out] at hdk' hall
                          rw [HL.out] at hd'
                          have e2 : d' = d := step_inj hd' hd (by rw [← hdk', ← HDK.out])
                          have := hall j (by omega)
                          rw [HPe.out, HC2.out, hz] at this
                          cases this))
                        rw [hz] at cu
                        clear hz
                        go_wp2
                        (try rw [Exit.noGoto_ret])
                        go_ret
                        exact ⟨ret_bool HN.out.symm, bthen B1.out B5.out⟩
                      · have HZ := Lib.hid hz
                        rw [hz] at cu
                        clear hz
                        go_wp2
                        go_round
                        case rel =>
                          refine ⟨j + 1, by omega, by rw [HPe2.out], Lib.hid (fun i hi => ?_)⟩
                          by_cases h : i < j
                          · exact HJ.out i h
                          · obtain rfl : i = j := by omega
                            rw [HPe.out, HC2.out]
                            exact HZ.out
                        case measure => simp only [intOf, Int.toNat_natCast]; rw [HM1.out, HM2.out]; omega
                    · obtain rfl : j = d := by omega
                      have hPk := Lib.hid (show (((hm0 + j) % n : Nat) : Int) = (k : Int) by rw [← HDK.out])
                      have hne : ((((hm0 + j) % n : Nat) : Int) == (k : Int)) = true := by rw [hPk.out]; exact beq_self_eq_true _
                      have hne2 : ((((hm0 + j) % n : Nat) : Int) != (k : Int)) = false := by rw [hPk.out]; simp
                      have hne3 : (((hm0 + j) % n : Nat) : Int) = (k : Int) ↔ True := by rw [hPk.out]; simp
                      have HN := Lib.hid (show (ceAt cs k).fits = true ∧ ((ceAt cs k).used = true → SureT s cs k) by
                        rw [HC.out]
                        refine ⟨HFT.out, fun _ => ⟨by rw [HC.out]; exact HPL.out, j, by rw [HL.out]; exact hd, by rw [HC.out, HL.out, HH.out]; exact HDK.out, fun i hi => by rw [HC.out, HL.out, HH.out]; exact HJ.out i hi⟩⟩)
                      generalize (hm0 + j) % n = P at *
                      go_wp2
                      go_roundw
                      case rel =>
                        refine ⟨k + 1, by omega, by go_num, Lib.hid (fun i hi => ?_), B5⟩
                        by_cases h : i < k
                        · exact HA.out i h
                        · obtain rfl : i = k := by omega
                          exact HN.out
                      case measure => simp [intOf]; omega
                · have HN := Lib.hid (tabOk_bad (s := s) hk1 (by
                    rintro ⟨_, h2⟩
                    have h3 := sure_place (h2 (by rw [HC.out]; exact HU.out))
                    rw [HC.out, hr] at h3
                    exact hrk h3))
                  have hrb : (r == (k : Int)) = false := beq_false_of_ne hrk
                  have hrb2 : (r != (k : Int)) = true := by simp [hrk]
                  have hrb3 : ¬ r = (k : Int) := hrk
                  clear hr hrk hfit
                  go_wp2_with fail
                  refine Calls.mono PI.out ?_
                  rintro e w4 ⟨rfl, b4⟩
                  have B4 := Lib.hid (bthen B3.out b4)
                  clear b4 n0 t0 t1 x1 x2 x3 x4 x5 x6 x7 x8 x9 x10 x11 x12 x13 x14
                  go_wp2
                  (try rw [Exit.noGoto_ret])
                  go_ret
                  exact ⟨ret_bool HN.out.symm, bthen B1.out B4.out⟩
              · have HN := Lib.hid (tabOk_bad (s := s) hk1 (by rw [HC.out]; rintro ⟨h1, _⟩; rw [fits_2 HU.out HK.out] at h1; simp [btw, hM] at h1))
                go_wp2
                (try rw [Exit.noGoto_ret])
                go_ret
                exact ⟨ret_bool HN.out.symm, bthen B1.out B3.out⟩
            · have HN := Lib.hid (tabOk_bad (s := s) hk1 (by rw [HC.out]; rintro ⟨h1, _⟩; rw [fits_2 HU.out HK.out] at h1; simp [btw, hm] at h1))
              go_wp2
              (try rw [Exit.noGoto_ret])
              go_ret
              exact ⟨ret_bool HN.out.symm, bthen B1.out B3.out⟩
      · obtain rfl : k = n := by omega
        have HN := Lib.hid (tabOk_iff.2 ⟨H1.out, by rw [HL.out]; exact H2.out, by rw [HL.out]; exact H4.out, by rw [HL.out]; exact HA.out⟩)
        go_wp2
        (try rw [Exit.noGoto_ret])
        go_ret
        exact ⟨ret_bool HN.out.symm, hBB.out⟩

theorem tabOkS (s : Int) (A : Option Addr) (n c : Nat) (cs : List Ce) (w : World) (hx : RV w w.heap.size A (fl Ce.cells cs)) (hl : cs.length = n) (hn : n ≤ 1048576) : Calls Try.prog 28 #[.agg #[.int .i64 s, .slice A n c]] w fun e w' => e = .returned (.bool (tabOk s cs)) ∧ Below w.heap.size w w' := by
  by_cases h0 : 0 ≤ s
  · by_cases h1 : s ≤ 4294967295
    · cases h2 : sizeOk n with
      | false => exact tabOkS_2 s A n c cs w hx hl hn h0 h1 h2
      | true =>
        by_cases h3 : 4 * usedN cs ≤ 3 * n
        · exact tabOkS_4 s A n c cs w hx hl hn (by simp [upTo, h0, h1]) h2 h3
        · exact tabOkS_3 s A n c cs w hx hl hn (by simp [upTo, h0, h1]) h2 h3
    · exact tabOkS_1b s A n c cs w hx hl hn h0 h1
  · exact tabOkS_1a s A n c cs w hx hl hn h0
theorem tabOkSB (s : Int) (A : Option Addr) (n c : Nat) (cs : List Ce) (w : World) (hx : RV w w.heap.size A (fl Ce.cells cs)) (hl : cs.length = n) (hn : n ≤ 1048576) (b : Bool) (h : tabOk s cs = b) : Calls Try.prog 28 #[.agg #[.int .i64 s, .slice A n c]] w fun e w' => e = .returned (.bool b) ∧ Below w.heap.size w w' := h ▸ tabOkS s A n c cs w hx hl hn
end Go.Proofs.Ytmfkpiclpkeemaa
