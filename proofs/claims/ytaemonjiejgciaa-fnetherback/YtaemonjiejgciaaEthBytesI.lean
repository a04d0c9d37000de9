/-
  EtherBytes in the program.
-/
import Derived.Test.YtaemonjiejgciaaEthBytesS
namespace Go.Proofs.Ytaemonjiejgciaa
open Go.RowKit

set_option maxHeartbeats 400000 in
theorem implMac (n : Int) (h : 0 ≤ n ∧ n ≤ 281474976710655) (w : World) :
    Calls Try.prog 35 #[.int .i64 n] w fun e w' => ∃ A c, e = .returned (.slice A 6 c) ∧ w'.ownsRow w.heap.size 5 1 (.slice A 6 c) 6 (cellsOf (mac n)) ∧ Below w.heap.size w w' := by
  obtain ⟨h0, h1⟩ := h
  have E := Lib.hid (show put16 (n / 4294967296) ++ put32 n = mac n from rfl)
  go_enter Try.func35, Try.ntmps35
  go_wp2_with fail
  refine (implPut16 _ _).mono ?_
  rintro e w1 ⟨rfl, o1, b1⟩
  go_wp2_with fail
  refine (implPut32 _ _).mono ?_
  rintro e w2 ⟨rfl, o2, b2⟩
  go_wp2_with (at_builtin; (refine wpList_append_b rfl (.tmp 5) (.tmp 7) rfl w.heap.size (.slice (some ⟨w.heap.size, 0, none⟩) 2 2) (put16 (n / 4294967296)) rfl (own_below o1 b2) w2.heap.size (some ⟨w1.heap.size, 0, none⟩) 4 4 (put32 n) rfl rfl (RB.of_own o2) (by simp [put16, put32]) (Nat.le_trans b1.size b2.size) ?_); intro v3 w3 o3 g3 _)
  rw [E.out, mac_length] at o3
  have B3 := Lib.hid ((bthen b1 b2).grown g3 (Nat.le_trans b1.size b2.size) (by simp [Value.ownBlock]))
  obtain ⟨A, c, rfl⟩ := own_form o3
  clear g3 b1 b2 o1 o2
  go_ret
  exact ⟨A, c, rfl, o3, B3.out⟩

theorem run_make_b (m : Nat) (hm : m ≤ 1048576) (w : World) : (Instr.makeSlice 22 (.int .i64 0) (.int .i64 (m : Int))).run Try.prog w = .ok (.slice (some ⟨w.heap.size, 0, none⟩) 0 m) (w.alloc (.cells (madeCells #[.int .u8 0] m) 5)) := by
  obtain ⟨i0, hi0, hz0, hz1, hz2⟩ := info_parts info_u8
  have := run_make (P := Try.prog) w 22 5 i0 (.int .u8 0) Try.underlying22 hi0 hz0 .i64 .i64 0 (m : Int) (Int.le_refl _) (by omega) (by rw [hz2]; omega) (by omega)
  simpa [hz1, Value.cells] using this
theorem own_made_b (w : World) (base m : Nat) (hb : base ≤ w.heap.size) (hm : m ≤ 1048576) : (w.alloc (.cells (madeCells #[.int .u8 0] m) 5)).ownsRow base 5 1 (.slice (some ⟨w.heap.size, 0, none⟩) 0 m) ([] : List UInt8).length (cellsOf []) :=
  World.ownsRow_made w _ m hb (by unfold maxLen; omega) (by rw [size_madeCells]; simp)

set_option maxHeartbeats 400000 in
theorem implEB_no (x : Eh) (A : Option Addr) (n c : Nat) (bs : List UInt8) (w : World) (hl : bs.length = n) (hok : x.ok n = false) : Calls Try.prog 16 #[.agg #[.int .i64 x.d, .int .i64 x.s, .int .i64 x.t, .int .i64 x.k, .slice A n c]] w (EBOut x bs w) := by
  subst hl
  have so := fun v => implEtherOk x A bs.length c v
  rw [hok] at so
  have SO := Lib.hid so
  have HO := Lib.hid hok
  clear so hok
  go_enter Try.func16, Try.ntmps16
  go_wp2_with fail
  refine (SO.out _).mono ?_
  rintro e w1 ⟨rfl, b1⟩
  go_wp2
  go_ret
  exact ebOut_no HO.out (bthen (Joins.below_alloc1 w _) b1)

set_option maxRecDepth 100000 in
set_option maxHeartbeats 2000000 in
theorem implEB_plain (x : Eh) (A : Option Addr) (n c : Nat) (bs : List UInt8) (w : World) (hr : RB w w.heap.size A bs) (hl : bs.length = n) (hok : x.ok n = true) (ht : x.t = -1) : Calls Try.prog 16 #[.agg #[.int .i64 x.d, .int .i64 x.s, .int .i64 x.t, .int .i64 x.k, .slice A n c]] w (EBOut x bs w) := by
  obtain ⟨⟨hd0, hd1⟩, ⟨hs0, hs1⟩, ⟨ht0, ht1⟩, ⟨hk0, hk1, _⟩, hb⟩ := (x.ok_iff n).1 hok
  have hh : 14 ≤ x.head ∧ x.head ≤ 18 := by unfold Eh.head; split <;> omega
  have hn : n ≤ 1600 := by omega
  obtain ⟨y, hy⟩ : ∃ y, x.head = y := ⟨_, rfl⟩
  rw [hy] at hh
  obtain ⟨m, hm⟩ : ∃ m : Nat, (m : Int) = y + n := ⟨(y + n).toNat, by omega⟩
  have hm2 : m ≤ 1048576 := by omega
  have hq : IntKind.i64.wrap (y + (n : Int)) = (m : Int) := by rw [IntKind.wrap_i64]; omega
  have hmk := run_make_b m hm2
  have so := fun v => implEtherOk x A n c v
  rw [hok] at so
  have SO := Lib.hid so
  have hc := fun v => headC x A n c v
  rw [hy] at hc
  have HC := Lib.hid hc
  have HB := Lib.hid (eb_plain (by rw [hl]; exact hok) ht)
  have HT := Lib.hid ht
  have HD := Lib.hid (And.intro (And.intro hd0 hd1) (And.intro hs0 hs1))
  have HL := Lib.hid hl
  have HR := Lib.hid hr
  have HQ := Lib.hid hq
  have HMK := Lib.hid hmk
  clear so hc hok hb ht hl hd0 hd1 hs0 hs1 ht0 ht1 hk0 hk1 hr hy hm hq hmk
  go_enter Try.func16, Try.ntmps16
  go_wp2_with fail
  refine (SO.out _).mono ?_
  rintro e w1 ⟨rfl, b1⟩
  have q1 := Lib.hid (K.newB b1)
  have B1 := Lib.hid (bthen (Joins.below_alloc1 w _) b1)
  have hlt : w.heap.size < w1.heap.size := by have := b1.size; simp at this; omega
  clear b1
  obtain ⟨⟨c0, c1, c2, c3, c4⟩, -⟩ := K.row5 q1.out
  go_wp2_with fail
  have hq := HQ.out
  have hmk := HMK.out
  go_region_held3 (fun w' => w'.cell? ⟨w.heap.size, 0, none⟩ = some (.int .i64 x.d) ∧ w'.cell? ⟨w.heap.size, 1, none⟩ = some (.int .i64 x.s) ∧ w'.cell? ⟨w.heap.size, 2, none⟩ = some (.int .i64 x.t) ∧ w'.cell? ⟨w.heap.size, 3, none⟩ = some (.int .i64 x.k) ∧ w'.cell? ⟨w.heap.size, 4, none⟩ = some (.slice A n c)) (first | exact ⟨c0, c1, c2, c3, c4⟩ | exact ⟨K.cellOn b2 c0, K.cellOn b2 c1, K.cellOn b2 c2, K.cellOn b2 c3, K.cellOn b2 c4⟩ | go_keep) (first | (go_at_call 32; with_reducible refine (HC.out _).mono ?_; rintro e w2 ⟨rfl, b2⟩))
  have q2 := Lib.hid (K.old (K.below (K.undrew b2) q1.out) (.cells (madeCells #[.int .u8 0] m) 5))
  have B2 := Lib.hid (bthen (bthen B1.out (K.undrew b2)) (Joins.below_alloc1 w2 (.cells (madeCells #[.int .u8 0] m) 5)))
  have lt2 : w.heap.size + 1 ≤ w2.heap.size := Nat.lt_of_lt_of_le hlt b2.size
  have o2 := own_made_b w2 (w.heap.size + 1) m lt2 hm2
  have r2 := Lib.hid (show ∀ k, (Value.slice (some ⟨w2.heap.size, 0, none⟩) 0 m).ownBlock = some k → w.heap.size < k from fun k hk => (o2.lt k hk).1)
  generalize hw3 : w2.alloc (.cells (madeCells #[.int .u8 0] m) 5) = w3 at *
  have lt3 : w.heap.size + 1 ≤ w3.heap.size := by rw [← hw3]; simp; omega
  clear c0 c1 c2 c3 c4 hq hmk b2 hw3
  obtain ⟨⟨c0, c1, c2, c3, c4⟩, -⟩ := K.row5 q2.out
  go_wp2_with fail
  refine (implMac x.d HD.out.1 w3).mono ?_
  rintro e w4 ⟨A4, k4, rfl, o4, b4⟩
  have q4 := Lib.hid (K.below b4 q2.out)
  have B4 := Lib.hid (bthen B2.out b4)
  clear c0 c1 c2 c3 c4
  go_wp2_with (at_builtin; (refine wpList_append_b rfl (.tmp 14) (.tmp 17) rfl (w.heap.size + 1) (.slice (some ⟨w2.heap.size, 0, none⟩) 0 m) ([]) rfl (own_below o2 b4) w4.heap.size A4 6 k4 (mac x.d) rfl rfl (RB.of_own o4) (by simp [mac_length]) (Nat.le_trans lt3 b4.size) ?_); intro v5 w5 o5 g5 a5; have q5 := Lib.hid (K.kept g5 q4.out (fun k hk => Nat.ne_of_lt (r2.out k hk))); have B5 := Lib.hid (bgrown B4.out g5 (fun k hk => Nat.le_of_lt (r2.out k hk))); have r5 := Lib.hid (show ∀ k, v5.ownBlock = some k → w.heap.size < k from fun k hk => (o5.lt k hk).1); have lt5 : w.heap.size + 1 ≤ w5.heap.size := Nat.le_trans (Nat.le_trans lt3 b4.size) g5.size; clear b4 g5 a5 o4; obtain ⟨⟨c0, c1, c2, c3, c4⟩, -⟩ := K.row5 q5.out)
  go_wp2_with fail
  refine (implMac x.s HD.out.2 w5).mono ?_
  rintro e w6 ⟨A6, k6, rfl, o6, b6⟩
  have q6 := Lib.hid (K.below b6 q5.out)
  have B6 := Lib.hid (bthen B5.out b6)
  clear c0 c1 c2 c3 c4
  go_wp2_with (at_builtin; (refine wpList_append_b rfl (.tmp 19) (.tmp 22) rfl (w.heap.size + 1) (v5) (mac x.d) rfl (own_below o5 b6) w6.heap.size A6 6 k6 (mac x.s) rfl rfl (RB.of_own o6) (by simp [mac_length]) (Nat.le_trans lt5 b6.size) ?_); intro v7 w7 o7 g7 a7; have q7 := Lib.hid (K.kept g7 q6.out (fun k hk => Nat.ne_of_lt (r5.out k hk))); have B7 := Lib.hid (bgrown B6.out g7 (fun k hk => Nat.le_of_lt (r5.out k hk))); have r7 := Lib.hid (show ∀ k, v7.ownBlock = some k → w.heap.size < k from fun k hk => (o7.lt k hk).1); have lt7 : w.heap.size + 1 ≤ w7.heap.size := Nat.le_trans (Nat.le_trans lt5 b6.size) g7.size; clear b6 g7 a7 o6; obtain ⟨⟨c0, c1, c2, c3, c4⟩, -⟩ := K.row5 q7.out; rw [HT.out] at c2)
  go_wp2_with fail
  refine (implPut16 x.k w7).mono ?_
  rintro e w8 ⟨rfl, o8, b8⟩
  have q8 := Lib.hid (K.below b8 q7.out)
  have B8 := Lib.hid (bthen B7.out b8)
  clear c0 c1 c2 c3 c4
  go_wp2_with (first | (at_builtin; (refine wpList_append_b rfl (.tmp 35) (.tmp 38) rfl (w.heap.size + 1) (v7) ((mac x.d ++ mac x.s)) rfl (own_below o7 b8) w8.heap.size (some ⟨w7.heap.size, 0, none⟩) 2 2 (put16 x.k) rfl rfl (RB.of_own o8) (by simp [mac_length, put16]) (Nat.le_trans lt7 b8.size) ?_); intro v9 w9 o9 g9 a9; have q9 := Lib.hid (K.kept g9 q8.out (fun k hk => Nat.ne_of_lt (r7.out k hk))); have B9 := Lib.hid (bgrown B8.out g9 (fun k hk => Nat.le_of_lt (r7.out k hk))); have r9 := Lib.hid (show ∀ k, v9.ownBlock = some k → w.heap.size < k from fun k hk => (o9.lt k hk).1); have lt9 : w.heap.size + 1 ≤ w9.heap.size := Nat.le_trans (Nat.le_trans lt7 b8.size) g9.size; clear b8 g9 a9 o8; obtain ⟨⟨c0, c1, c2, c3, c4⟩, -⟩ := K.row5 q9.out) | (at_builtin; (refine wpList_append_b rfl (.tmp 40) (.tmp 42) rfl (w.heap.size + 1) (v9) (((mac x.d ++ mac x.s) ++ put16 x.k)) rfl o9 _ A n c bs rfl HL.out (HR.out.below B9.out) (by simp [mac_length, put16, HL.out]; omega) lt9 ?_); intro v99 w99 o99 g99 a99))
  have B99 := Lib.hid (bgrown B9.out g99 (fun k hk => Nat.le_of_lt (r9.out k hk)))
  obtain ⟨A99, k99, rfl⟩ := own_form o99
  clear c0 c1 c2 c3 c4 g99 a99
  go_ret
  exact ebOut_yes HB.out rfl o99 (by omega) B99.out

set_option maxRecDepth 100000 in
set_option maxHeartbeats 2000000 in
theorem implEB_tag (x : Eh) (A : Option Addr) (n c : Nat) (bs : List UInt8) (w : World) (hr : RB w w.heap.size A bs) (hl : bs.length = n) (hok : x.ok n = true) (ht : ¬ x.t = -1) : Calls Try.prog 16 #[.agg #[.int .i64 x.d, .int .i64 x.s, .int .i64 x.t, .int .i64 x.k, .slice A n c]] w (EBOut x bs w) := by
  obtain ⟨⟨hd0, hd1⟩, ⟨hs0, hs1⟩, ⟨ht0, ht1⟩, ⟨hk0, hk1, _⟩, hb⟩ := (x.ok_iff n).1 hok
  have hh : 14 ≤ x.head ∧ x.head ≤ 18 := by unfold Eh.head; split <;> omega
  have hn : n ≤ 1600 := by omega
  obtain ⟨y, hy⟩ : ∃ y, x.head = y := ⟨_, rfl⟩
  rw [hy] at hh
  obtain ⟨m, hm⟩ : ∃ m : Nat, (m : Int) = y + n := ⟨(y + n).toNat, by omega⟩
  have hm2 : m ≤ 1048576 := by omega
  have hq : IntKind.i64.wrap (y + (n : Int)) = (m : Int) := by rw [IntKind.wrap_i64]; omega
  have hmk := run_make_b m hm2
  have so := fun v => implEtherOk x A n c v
  rw [hok] at so
  have SO := Lib.hid so
  have hc := fun v => headC x A n c v
  rw [hy] at hc
  have HC := Lib.hid hc
  have HB := Lib.hid (eb_tag (by rw [hl]; exact hok) ht)
  have HT := Lib.hid ht
  have HD := Lib.hid (And.intro (And.intro hd0 hd1) (And.intro hs0 hs1))
  have HL := Lib.hid hl
  have HR := Lib.hid hr
  have HQ := Lib.hid hq
  have HMK := Lib.hid hmk
  clear so hc hok hb ht hl hd0 hd1 hs0 hs1 ht0 ht1 hk0 hk1 hr hy hm hq hmk
  go_enter Try.func16, Try.ntmps16
  go_wp2_with fail
  refine (SO.out _).mono ?_
  rintro e w1 ⟨rfl, b1⟩
  have q1 := Lib.hid (K.newB b1)
  have B1 := Lib.hid (bthen (Joins.below_alloc1 w _) b1)
  have hlt : w.heap.size < w1.heap.size := by have := b1.size; simp at this; omega
  clear b1
  obtain ⟨⟨c0, c1, c2, c3, c4⟩, -⟩ := K.row5 q1.out
  go_wp2_with fail
  have hq := HQ.out
  have hmk := HMK.out
  go_region_held3 (fun w' => w'.cell? ⟨w.heap.size, 0, none⟩ = some (.int .i64 x.d) ∧ w'.cell? ⟨w.heap.size, 1, none⟩ = some (.int .i64 x.s) ∧ w'.cell? ⟨w.heap.size, 2, none⟩ = some (.int .i64 x.t) ∧ w'.cell? ⟨w.heap.size, 3, none⟩ = some (.int .i64 x.k) ∧ w'.cell? ⟨w.heap.size, 4, none⟩ = some (.slice A n c)) (first | exact ⟨c0, c1, c2, c3, c4⟩ | exact ⟨K.cellOn b2 c0, K.cellOn b2 c1, K.cellOn b2 c2, K.cellOn b2 c3, K.cellOn b2 c4⟩ | go_keep) (first | (go_at_call 32; with_reducible refine (HC.out _).mono ?_; rintro e w2 ⟨rfl, b2⟩))
  have q2 := Lib.hid (K.old (K.below (K.undrew b2) q1.out) (.cells (madeCells #[.int .u8 0] m) 5))
  have B2 := Lib.hid (bthen (bthen B1.out (K.undrew b2)) (Joins.below_alloc1 w2 (.cells (madeCells #[.int .u8 0] m) 5)))
  have lt2 : w.heap.size + 1 ≤ w2.heap.size := Nat.lt_of_lt_of_le hlt b2.size
  have o2 := own_made_b w2 (w.heap.size + 1) m lt2 hm2
  have r2 := Lib.hid (show ∀ k, (Value.slice (some ⟨w2.heap.size, 0, none⟩) 0 m).ownBlock = some k → w.heap.size < k from fun k hk => (o2.lt k hk).1)
  generalize hw3 : w2.alloc (.cells (madeCells #[.int .u8 0] m) 5) = w3 at *
  have lt3 : w.heap.size + 1 ≤ w3.heap.size := by rw [← hw3]; simp; omega
  clear c0 c1 c2 c3 c4 hq hmk b2 hw3
  obtain ⟨⟨c0, c1, c2, c3, c4⟩, -⟩ := K.row5 q2.out
  go_wp2_with fail
  refine (implMac x.d HD.out.1 w3).mono ?_
  rintro e w4 ⟨A4, k4, rfl, o4, b4⟩
  have q4 := Lib.hid (K.below b4 q2.out)
  have B4 := Lib.hid (bthen B2.out b4)
  clear c0 c1 c2 c3 c4
  go_wp2_with (at_builtin; (refine wpList_append_b rfl (.tmp 14) (.tmp 17) rfl (w.heap.size + 1) (.slice (some ⟨w2.heap.size, 0, none⟩) 0 m) ([]) rfl (own_below o2 b4) w4.heap.size A4 6 k4 (mac x.d) rfl rfl (RB.of_own o4) (by simp [mac_length]) (Nat.le_trans lt3 b4.size) ?_); intro v5 w5 o5 g5 a5; have q5 := Lib.hid (K.kept g5 q4.out (fun k hk => Nat.ne_of_lt (r2.out k hk))); have B5 := Lib.hid (bgrown B4.out g5 (fun k hk => Nat.le_of_lt (r2.out k hk))); have r5 := Lib.hid (show ∀ k, v5.ownBlock = some k → w.heap.size < k from fun k hk => (o5.lt k hk).1); have lt5 : w.heap.size + 1 ≤ w5.heap.size := Nat.le_trans (Nat.le_trans lt3 b4.size) g5.size; clear b4 g5 a5 o4; obtain ⟨⟨c0, c1, c2, c3, c4⟩, -⟩ := K.row5 q5.out)
  have hne : (x.t != -1) = true := by have := HT.out; simpa using this
  go_wp2_with fail
  refine (implMac x.s HD.out.2 w5).mono ?_
  rintro e w6 ⟨A6, k6, rfl, o6, b6⟩
  have q6 := Lib.hid (K.below b6 q5.out)
  have B6 := Lib.hid (bthen B5.out b6)
  clear c0 c1 c2 c3 c4
  go_wp2_with (at_builtin; (refine wpList_append_b rfl (.tmp 19) (.tmp 22) rfl (w.heap.size + 1) (v5) (mac x.d) rfl (own_below o5 b6) w6.heap.size A6 6 k6 (mac x.s) rfl rfl (RB.of_own o6) (by simp [mac_length]) (Nat.le_trans lt5 b6.size) ?_); intro v7 w7 o7 g7 a7; have q7 := Lib.hid (K.kept g7 q6.out (fun k hk => Nat.ne_of_lt (r5.out k hk))); have B7 := Lib.hid (bgrown B6.out g7 (fun k hk => Nat.le_of_lt (r5.out k hk))); have r7 := Lib.hid (show ∀ k, v7.ownBlock = some k → w.heap.size < k from fun k hk => (o7.lt k hk).1); have lt7 : w.heap.size + 1 ≤ w7.heap.size := Nat.le_trans (Nat.le_trans lt5 b6.size) g7.size; clear b6 g7 a7 o6; obtain ⟨⟨c0, c1, c2, c3, c4⟩, -⟩ := K.row5 q7.out)
  go_wp2_with fail
  refine (implPut16 33024 w7).mono ?_
  rintro e w8 ⟨rfl, o8, b8⟩
  have q8 := Lib.hid (K.below b8 q7.out)
  have B8 := Lib.hid (bthen B7.out b8)
  clear c0 c1 c2 c3 c4
  go_wp2_with (at_builtin; (refine wpList_append_b rfl (.tmp 27) (.tmp 28) rfl (w.heap.size + 1) (v7) ((mac x.d ++ mac x.s)) rfl (own_below o7 b8) w8.heap.size (some ⟨w7.heap.size, 0, none⟩) 2 2 (put16 33024) rfl rfl (RB.of_own o8) (by simp [mac_length, put16]) (Nat.le_trans lt7 b8.size) ?_); intro v9 w9 o9 g9 a9; have q9 := Lib.hid (K.kept g9 q8.out (fun k hk => Nat.ne_of_lt (r7.out k hk))); have B9 := Lib.hid (bgrown B8.out g9 (fun k hk => Nat.le_of_lt (r7.out k hk))); have r9 := Lib.hid (show ∀ k, v9.ownBlock = some k → w.heap.size < k from fun k hk => (o9.lt k hk).1); have lt9 : w.heap.size + 1 ≤ w9.heap.size := Nat.le_trans (Nat.le_trans lt7 b8.size) g9.size; clear b8 g9 a9 o8; obtain ⟨⟨c0, c1, c2, c3, c4⟩, -⟩ := K.row5 q9.out)
  go_wp2_with fail
  refine (implPut16 x.t w9).mono ?_
  rintro e w10 ⟨rfl, o10, b10⟩
  have q10 := Lib.hid (K.below b10 q9.out)
  have B10 := Lib.hid (bthen B9.out b10)
  clear c0 c1 c2 c3 c4
  go_wp2_with (at_builtin; (refine wpList_append_b rfl (.tmp 30) (.tmp 33) rfl (w.heap.size + 1) (v9) (((mac x.d ++ mac x.s) ++ put16 33024)) rfl (own_below o9 b10) w10.heap.size (some ⟨w9.heap.size, 0, none⟩) 2 2 (put16 x.t) rfl rfl (RB.of_own o10) (by simp [mac_length, put16]) (Nat.le_trans lt9 b10.size) ?_); intro v11 w11 o11 g11 a11; have q11 := Lib.hid (K.kept g11 q10.out (fun k hk => Nat.ne_of_lt (r9.out k hk))); have B11 := Lib.hid (bgrown B10.out g11 (fun k hk => Nat.le_of_lt (r9.out k hk))); have r11 := Lib.hid (show ∀ k, v11.ownBlock = some k → w.heap.size < k from fun k hk => (o11.lt k hk).1); have lt11 : w.heap.size + 1 ≤ w11.heap.size := Nat.le_trans (Nat.le_trans lt9 b10.size) g11.size; clear b10 g11 a11 o10; obtain ⟨⟨c0, c1, c2, c3, c4⟩, -⟩ := K.row5 q11.out)
  go_wp2_with fail
  refine (implPut16 x.k w11).mono ?_
  rintro e w12 ⟨rfl, o12, b12⟩
  have q12 := Lib.hid (K.below b12 q11.out)
  have B12 := Lib.hid (bthen B11.out b12)
  clear c0 c1 c2 c3 c4
  go_wp2_with (first | (at_builtin; (refine wpList_append_b rfl (.tmp 35) (.tmp 38) rfl (w.heap.size + 1) (v11) ((((mac x.d ++ mac x.s) ++ put16 33024) ++ put16 x.t)) rfl (own_below o11 b12) w12.heap.size (some ⟨w11.heap.size, 0, none⟩) 2 2 (put16 x.k) rfl rfl (RB.of_own o12) (by simp [mac_length, put16]) (Nat.le_trans lt11 b12.size) ?_); intro v13 w13 o13 g13 a13; have q13 := Lib.hid (K.kept g13 q12.out (fun k hk => Nat.ne_of_lt (r11.out k hk))); have B13 := Lib.hid (bgrown B12.out g13 (fun k hk => Nat.le_of_lt (r11.out k hk))); have r13 := Lib.hid (show ∀ k, v13.ownBlock = some k → w.heap.size < k from fun k hk => (o13.lt k hk).1); have lt13 : w.heap.size + 1 ≤ w13.heap.size := Nat.le_trans (Nat.le_trans lt11 b12.size) g13.size; clear b12 g13 a13 o12; obtain ⟨⟨c0, c1, c2, c3, c4⟩, -⟩ := K.row5 q13.out) | (at_builtin; (refine wpList_append_b rfl (.tmp 40) (.tmp 42) rfl (w.heap.size + 1) (v13) (((((mac x.d ++ mac x.s) ++ put16 33024) ++ put16 x.t) ++ put16 x.k)) rfl o13 _ A n c bs rfl HL.out (HR.out.below B13.out) (by simp [mac_length, put16, HL.out]; omega) lt13 ?_); intro v99 w99 o99 g99 a99))
  have B99 := Lib.hid (bgrown B13.out g99 (fun k hk => Nat.le_of_lt (r13.out k hk)))
  obtain ⟨A99, k99, rfl⟩ := own_form o99
  clear c0 c1 c2 c3 c4 g99 a99
  go_ret
  exact ebOut_yes HB.out rfl o99 (by omega) B99.out

theorem implEB (x : Eh) (A : Option Addr) (n c : Nat) (bs : List UInt8) (w : World) (hr : RB w w.heap.size A bs) (hl : bs.length = n) : Calls Try.prog 16 #[.agg #[.int .i64 x.d, .int .i64 x.s, .int .i64 x.t, .int .i64 x.k, .slice A n c]] w (EBOut x bs w) := by
  cases h : x.ok n
  · exact implEB_no x A n c bs w hl h
  · by_cases ht : x.t = -1
    · exact implEB_plain x A n c bs w hr hl h ht
    · exact implEB_tag x A n c bs w hr hl h ht
end Go.Proofs.Ytaemonjiejgciaa
