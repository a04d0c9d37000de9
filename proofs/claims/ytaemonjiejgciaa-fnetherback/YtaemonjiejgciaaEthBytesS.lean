/-
  EtherBytes in the model.
-/
import Derived.Test.YtaemonjiejgciaaEthOk
namespace Go.Proofs.Ytaemonjiejgciaa
open Go.RowKit

theorem put32_mod (n : Int) : put32 (n % 4294967296) = put32 n := by
  simp only [put32, byteOf]
  rw [show n % 4294967296 / 16777216 % 256 = n / 16777216 % 256 by omega, show n % 4294967296 / 65536 % 256 = n / 65536 % 256 by omega, show n % 4294967296 / 256 % 256 = n / 256 % 256 by omega, show n % 4294967296 % 256 = n % 256 by omega]

set_option maxHeartbeats 400000 in
theorem specMac (n : Int) (h : 0 ≤ n ∧ n ≤ 281474976710655) (w : World) :
    Calls Try.prog 33 #[.int .i64 n] w fun e w' => ∃ A c, e = .returned (.slice A 6 c) ∧ w'.ownsRow w.heap.size 5 1 (.slice A 6 c) 6 (cellsOf (mac n)) ∧ Below w.heap.size w w' := by
  obtain ⟨h0, h1⟩ := h
  have E := Lib.hid (show put16 (n / 4294967296) ++ put32 (n % 4294967296) = mac n by rw [put32_mod]; rfl)
  go_enter Try.func33, Try.ntmps33
  go_wp2_with fail
  refine (specPut16 _ _).mono ?_
  rintro e w1 ⟨rfl, o1, b1⟩
  go_wp2_with fail
  refine (specPut32 _ _).mono ?_
  rintro e w2 ⟨A2, k2, rfl, o2, b2⟩
  go_wp2_with (at_builtin; (refine wpList_append_b rfl (.tmp 5) (.tmp 8) rfl w.heap.size (.slice (some ⟨w.heap.size, 0, none⟩) 2 2) (put16 (n / 4294967296)) rfl (own_below o1 b2) w2.heap.size A2 4 k2 (put32 (n % 4294967296)) rfl rfl (RB.of_own o2) (by simp [put16, put32]) (Nat.le_trans b1.size b2.size) ?_); intro v3 w3 o3 g3 _)
  rw [E.out, mac_length] at o3
  have B3 := Lib.hid ((bthen b1 b2).grown g3 (Nat.le_trans b1.size b2.size) (by simp [Value.ownBlock]))
  obtain ⟨A, c, rfl⟩ := own_form o3
  clear g3 b1 b2 o1 o2
  go_ret
  exact ⟨A, c, rfl, o3, B3.out⟩

def EBOut (x : Eh) (bs : List UInt8) (w : World) (e : Ending) (w' : World) : Prop := ∃ A c, e = .returned (.slice A (x.bytes bs).length c) ∧ w'.ownsRow w.heap.size 5 1 (.slice A (x.bytes bs).length c) (x.bytes bs).length (cellsOf (x.bytes bs)) ∧ Below w.heap.size w w'
theorem ebOut_no {x : Eh} {bs : List UInt8} (h : x.ok bs.length = false) {w w' : World} (hb : Below w.heap.size w w') : EBOut x bs w (.returned (.slice none 0 0)) w' := by
  have e : x.bytes bs = [] := by simp [Eh.bytes, h]
  unfold EBOut
  rw [e]
  exact ⟨none, 0, rfl, ⟨rfl, .inl ⟨rfl, rfl⟩⟩, hb⟩
theorem ebOut_yes {x : Eh} {bs : List UInt8} {w w' : World} {A : Option Addr} {n c B : Nat} {ds : List UInt8} (he : x.bytes bs = ds) (hn : ds.length = n) (ho : w'.ownsRow B 5 1 (.slice A n c) n (cellsOf ds)) (hB : w.heap.size ≤ B) (hb : Below w.heap.size w w') :
    EBOut x bs w (.returned (.slice A n c)) w' := by
  unfold EBOut
  rw [he, hn]
  exact ⟨A, c, rfl, own_base ho hB, hb⟩
theorem eb_plain {x : Eh} {bs : List UInt8} (h : x.ok bs.length = true) (ht : x.t = -1) : x.bytes bs = ((mac x.d ++ mac x.s) ++ put16 x.k) ++ bs := by simp [Eh.bytes, h, Eh.top, ht]
theorem eb_tag {x : Eh} {bs : List UInt8} (h : x.ok bs.length = true) (ht : ¬ x.t = -1) : x.bytes bs = ((((mac x.d ++ mac x.s) ++ put16 33024) ++ put16 x.t) ++ put16 x.k) ++ bs := by simp [Eh.bytes, h, Eh.top, ht]

set_option maxHeartbeats 400000 in
theorem specEB_no (x : Eh) (A : Option Addr) (n c : Nat) (bs : List UInt8) (w : World) (hl : bs.length = n) (hn : n ≤ 1048576) (hok : x.ok n = false) : Calls Try.prog 15 #[.agg #[.int .i64 x.d, .int .i64 x.s, .int .i64 x.t, .int .i64 x.k, .slice A n c]] w (EBOut x bs w) := by
  subst hl
  have so := fun v => specEtherOk x A bs.length c v hn
  rw [hok] at so
  have SO := Lib.hid so
  have HO := Lib.hid hok
  clear so hok
  go_enter Try.func15, Try.ntmps15
  go_wp2_with fail
  refine (SO.out _).mono ?_
  rintro e w1 ⟨rfl, b1⟩
  go_wp2
  go_ret
  exact ebOut_no HO.out (bthen (Joins.below_alloc1 w _) b1)

set_option maxRecDepth 100000 in
set_option maxHeartbeats 1000000 in
theorem specEB_plain (x : Eh) (A : Option Addr) (n c : Nat) (bs : List UInt8) (w : World) (hr : RB w w.heap.size A bs) (hl : bs.length = n) (hok : x.ok n = true) (ht : x.t = -1) : Calls Try.prog 15 #[.agg #[.int .i64 x.d, .int .i64 x.s, .int .i64 x.t, .int .i64 x.k, .slice A n c]] w (EBOut x bs w) := by
  obtain ⟨⟨hd0, hd1⟩, ⟨hs0, hs1⟩, ⟨ht0, ht1⟩, ⟨hk0, hk1, _⟩, hb⟩ := (x.ok_iff n).1 hok
  have hn : n ≤ 1600 := by have : 14 ≤ x.head := by { unfold Eh.head; split <;> omega }; omega
  have so := fun v => specEtherOk x A n c v (by omega)
  rw [hok] at so
  have SO := Lib.hid so
  have HB := Lib.hid (eb_plain (by rw [hl]; exact hok) ht)
  have HT := Lib.hid (And.intro ht ht0)
  have HD := Lib.hid (And.intro (And.intro hd0 hd1) (And.intro hs0 hs1))
  have HL := Lib.hid hl
  have HR := Lib.hid hr
  clear so hok hb ht hl hd0 hd1 hs0 hs1 ht0 ht1 hk0 hk1 hr
  go_enter Try.func15, Try.ntmps15
  go_wp2_with fail
  refine (SO.out _).mono ?_
  rintro e w1 ⟨rfl, b1⟩
  obtain ⟨⟨c0, c1, c2, c3, c4⟩, -⟩ := K.row5 (K.newB b1)
  have bb := bthen (Joins.below_alloc1 w _) b1
  have hlt : w.heap.size < w1.heap.size := by have := b1.size; simp at this; omega
  clear b1
  go_wp2_with fail
  go_region_held3 (fun w' => w'.cell? ⟨w.heap.size, 0, none⟩ = some (.int .i64 x.d) ∧ w'.cell? ⟨w.heap.size, 1, none⟩ = some (.int .i64 x.s)) (first | exact ⟨c0, c1⟩ | exact ⟨K.cellOn b2 c0, K.cellOn b2 c1⟩ | exact ⟨K.cellOn b3 (K.cellOn b2 c0), K.cellOn b3 (K.cellOn b2 c1)⟩ | exact ⟨K.cellGrown hg4 hr4.out (K.cellOn b3 (K.cellOn b2 c0)), K.cellGrown hg4 hr4.out (K.cellOn b3 (K.cellOn b2 c1))⟩ | go_keep) (first | (go_at_call 33; with_reducible refine (specMac x.d HD.out.1 _).mono ?_; rintro e w2 ⟨A2, k2, rfl, o2, b2⟩) | (go_at_call 33; with_reducible refine (specMac x.s HD.out.2 _).mono ?_; rintro e w3 ⟨A3, k3, rfl, o3, b3⟩) | (refine step_append_b (by rfl) (.tmp 9) (.tmp 12) (by rfl) (w.heap.size + 1) (.slice A2 6 k2) (mac x.d) (by rfl) (own_below (own_base o2 (show w.heap.size + 1 ≤ w1.drew.heap.size from hlt)) b3) _ A3 6 k3 (mac x.s) (by rfl) rfl (RB.of_own o3) (by simp [mac_length]) (Nat.le_trans (show w.heap.size + 1 ≤ w1.drew.heap.size from hlt) (Nat.le_trans b2.size b3.size)) ?_; intro v4 w4 o4 hg4 ha4; have hr4 := Lib.hid (show ∀ k, (Value.slice A2 6 k2).ownBlock = some k → w.heap.size < k from fun k hk => Nat.lt_of_lt_of_le (show w.heap.size < w1.drew.heap.size from hlt) (o2.lt k hk).1)))
  obtain ⟨A4, k4, rfl⟩ := own_form o4
  have b4 := Lib.hid (bgrown (bthen bb (bthen (K.undrew b2) b3)) hg4 (fun k hk => Nat.le_of_lt (hr4.out k hk)))
  have lt4 : w.heap.size < w4.heap.size := Nat.lt_of_lt_of_le (Nat.lt_of_lt_of_le hlt (Nat.le_trans b2.size b3.size)) hg4.size
  have d2 := K.cellGrown hg4 hr4.out (K.cellOn b3 (K.cellOn b2 c2))
  have d3 := K.cellGrown hg4 hr4.out (K.cellOn b3 (K.cellOn b2 c3))
  have d4 := K.cellGrown hg4 hr4.out (K.cellOn b3 (K.cellOn b2 c4))
  have r4 := Lib.hid (show ∀ k, (Value.slice A4 (mac x.d ++ mac x.s).length k4).ownBlock = some k → w.heap.size < k from fun k hk => (o4.lt k hk).1)
  clear c0 c1 c2 c3 c4 o2 o3 b2 b3 ha4 hg4 hr4 bb
  rw [HT.out.1] at d2
  go_wp2_with fail
  go_region_held3 (fun w' => w'.cell? ⟨w.heap.size, 3, none⟩ = some (.int .i64 x.k) ∧ w'.cell? ⟨w.heap.size, 4, none⟩ = some (.slice A n c)) (first | exact ⟨d3, d4⟩ | exact ⟨K.cellOn b15 d3, K.cellOn b15 d4⟩ | exact ⟨K.cellGrown hg16 r4.out (K.cellOn b15 d3), K.cellGrown hg16 r4.out (K.cellOn b15 d4)⟩ | exact ⟨K.cellGrown hg17 r16.out (K.cellGrown hg16 r4.out (K.cellOn b15 d3)), K.cellGrown hg17 r16.out (K.cellGrown hg16 r4.out (K.cellOn b15 d4))⟩ | go_keep) (first | (go_at_call 34; with_reducible refine (specPut16 x.k _).mono ?_; rintro e w15 ⟨rfl, o15, b15⟩) | (refine step_append_b (by rfl) (.tmp 24) (.tmp 27) (by rfl) (w.heap.size + 1) (.slice A4 (mac x.d ++ mac x.s).length k4) (mac x.d ++ mac x.s) (by rfl) (own_below o4 (K.undrew b15)) _ (some ⟨w4.drew.heap.size, 0, none⟩) 2 2 (put16 x.k) (by rfl) rfl (RB.of_own o15) (by simp [mac_length, put16]) (Nat.le_trans (show w.heap.size + 1 ≤ w4.drew.heap.size from lt4) b15.size) ?_; intro v16 w16 o16 hg16 ha16; have r16 := Lib.hid (show ∀ k, v16.ownBlock = some k → w.heap.size < k from fun k hk => (o16.lt k hk).1); have B16 := Lib.hid (bgrown (bthen b4.out (K.undrew b15)) hg16 (fun k hk => Nat.le_of_lt (r4.out k hk)))) | (refine step_append_b (by rfl) (.tmp 28) (.tmp 30) (by rfl) (w.heap.size + 1) v16 ((mac x.d ++ mac x.s) ++ put16 x.k) (by rfl) o16 _ A n c bs (by rfl) HL.out (HR.out.below B16.out) (by simp [mac_length, put16, HL.out]; omega) (Nat.le_trans (Nat.le_trans (show w.heap.size + 1 ≤ w4.drew.heap.size from lt4) b15.size) hg16.size) ?_; intro v17 w17 o17 hg17 ha17))
  obtain ⟨A17, k17, rfl⟩ := own_form o17
  go_wp2
  go_ret
  exact ebOut_yes HB.out rfl o17 (by omega) (bgrown B16.out hg17 (fun k hk => Nat.le_of_lt (r16.out k hk)))

set_option maxRecDepth 100000 in
set_option maxHeartbeats 1000000 in
theorem specEB_tag (x : Eh) (A : Option Addr) (n c : Nat) (bs : List UInt8) (w : World) (hr : RB w w.heap.size A bs) (hl : bs.length = n) (hok : x.ok n = true) (ht : ¬ x.t = -1) : Calls Try.prog 15 #[.agg #[.int .i64 x.d, .int .i64 x.s, .int .i64 x.t, .int .i64 x.k, .slice A n c]] w (EBOut x bs w) := by
  obtain ⟨⟨hd0, hd1⟩, ⟨hs0, hs1⟩, ⟨ht0, ht1⟩, ⟨hk0, hk1, _⟩, hb⟩ := (x.ok_iff n).1 hok
  have hn : n ≤ 1600 := by have : 14 ≤ x.head := by { unfold Eh.head; split <;> omega }; omega
  have so := fun v => specEtherOk x A n c v (by omega)
  rw [hok] at so
  have SO := Lib.hid so
  have HB := Lib.hid (eb_tag (by rw [hl]; exact hok) ht)
  have HT := Lib.hid (And.intro ht ht0)
  have HD := Lib.hid (And.intro (And.intro hd0 hd1) (And.intro hs0 hs1))
  have HL := Lib.hid hl
  have HR := Lib.hid hr
  clear so hok hb ht hl hd0 hd1 hs0 hs1 ht0 ht1 hk0 hk1 hr
  go_enter Try.func15, Try.ntmps15
  go_wp2_with fail
  refine (SO.out _).mono ?_
  rintro e w1 ⟨rfl, b1⟩
  obtain ⟨⟨c0, c1, c2, c3, c4⟩, -⟩ := K.row5 (K.newB b1)
  have bb := bthen (Joins.below_alloc1 w _) b1
  have hlt : w.heap.size < w1.heap.size := by have := b1.size; simp at this; omega
  clear b1
  go_wp2_with fail
  go_region_held3 (fun w' => w'.cell? ⟨w.heap.size, 0, none⟩ = some (.int .i64 x.d) ∧ w'.cell? ⟨w.heap.size, 1, none⟩ = some (.int .i64 x.s)) (first | exact ⟨c0, c1⟩ | exact ⟨K.cellOn b2 c0, K.cellOn b2 c1⟩ | exact ⟨K.cellOn b3 (K.cellOn b2 c0), K.cellOn b3 (K.cellOn b2 c1)⟩ | exact ⟨K.cellGrown hg4 hr4.out (K.cellOn b3 (K.cellOn b2 c0)), K.cellGrown hg4 hr4.out (K.cellOn b3 (K.cellOn b2 c1))⟩ | go_keep) (first | (go_at_call 33; with_reducible refine (specMac x.d HD.out.1 _).mono ?_; rintro e w2 ⟨A2, k2, rfl, o2, b2⟩) | (go_at_call 33; with_reducible refine (specMac x.s HD.out.2 _).mono ?_; rintro e w3 ⟨A3, k3, rfl, o3, b3⟩) | (refine step_append_b (by rfl) (.tmp 9) (.tmp 12) (by rfl) (w.heap.size + 1) (.slice A2 6 k2) (mac x.d) (by rfl) (own_below (own_base o2 (show w.heap.size + 1 ≤ w1.drew.heap.size from hlt)) b3) _ A3 6 k3 (mac x.s) (by rfl) rfl (RB.of_own o3) (by simp [mac_length]) (Nat.le_trans (show w.heap.size + 1 ≤ w1.drew.heap.size from hlt) (Nat.le_trans b2.size b3.size)) ?_; intro v4 w4 o4 hg4 ha4; have hr4 := Lib.hid (show ∀ k, (Value.slice A2 6 k2).ownBlock = some k → w.heap.size < k from fun k hk => Nat.lt_of_lt_of_le (show w.heap.size < w1.drew.heap.size from hlt) (o2.lt k hk).1)))
  obtain ⟨A4, k4, rfl⟩ := own_form o4
  have b4 := Lib.hid (bgrown (bthen bb (bthen (K.undrew b2) b3)) hg4 (fun k hk => Nat.le_of_lt (hr4.out k hk)))
  have lt4 : w.heap.size < w4.heap.size := Nat.lt_of_lt_of_le (Nat.lt_of_lt_of_le hlt (Nat.le_trans b2.size b3.size)) hg4.size
  have d2 := K.cellGrown hg4 hr4.out (K.cellOn b3 (K.cellOn b2 c2))
  have d3 := K.cellGrown hg4 hr4.out (K.cellOn b3 (K.cellOn b2 c3))
  have d4 := K.cellGrown hg4 hr4.out (K.cellOn b3 (K.cellOn b2 c4))
  have r4 := Lib.hid (show ∀ k, (Value.slice A4 (mac x.d ++ mac x.s).length k4).ownBlock = some k → w.heap.size < k from fun k hk => (o4.lt k hk).1)
  clear c0 c1 c2 c3 c4 o2 o3 b2 b3 ha4 hg4 hr4 bb
  have hge : (0 : Int) ≤ x.t := by have := HT.out; omega
  go_wp2_with fail
  go_region_held3 (fun w' => w'.cell? ⟨w.heap.size, 2, none⟩ = some (.int .i64 x.t)) (first | exact d2 | exact K.cellOn b5 d2 | exact K.cellGrown hg6 r4.out (K.cellOn b5 d2) | exact K.cellOn b7 (K.cellGrown hg6 r4.out (K.cellOn b5 d2)) | exact K.cellGrown hg8 r6.out (K.cellOn b7 (K.cellGrown hg6 r4.out (K.cellOn b5 d2))) | go_keep) (first | (go_at_call 34; with_reducible refine (specPut16 33024 _).mono ?_; rintro e w5 ⟨rfl, o5, b5⟩) | (go_at_call 34; with_reducible refine (specPut16 x.t _).mono ?_; rintro e w7 ⟨rfl, o7, b7⟩) | (refine step_append_b (by rfl) (.tmp 17) (.tmp 18) (by rfl) (w.heap.size + 1) (.slice A4 (mac x.d ++ mac x.s).length k4) (mac x.d ++ mac x.s) (by rfl) (own_below o4 (K.undrew b5)) _ (some ⟨w4.drew.heap.size, 0, none⟩) 2 2 (put16 33024) (by rfl) rfl (RB.of_own o5) (by simp [mac_length, put16]) (Nat.le_trans (show w.heap.size + 1 ≤ w4.drew.heap.size from lt4) b5.size) ?_; intro v6 w6 o6 hg6 ha6; have r6 := Lib.hid (show ∀ k, v6.ownBlock = some k → w.heap.size < k from fun k hk => (o6.lt k hk).1)) | (refine step_append_b (by rfl) (.tmp 19) (.tmp 22) (by rfl) (w.heap.size + 1) v6 ((mac x.d ++ mac x.s) ++ put16 33024) (by rfl) (own_below o6 b7) _ (some ⟨w6.heap.size, 0, none⟩) 2 2 (put16 x.t) (by rfl) rfl (RB.of_own o7) (by simp [mac_length, put16]) (Nat.le_trans (Nat.le_trans (Nat.le_trans (show w.heap.size + 1 ≤ w4.drew.heap.size from lt4) b5.size) hg6.size) b7.size) ?_; intro v8 w8 o8 hg8 ha8))
  obtain ⟨A8, k8, rfl⟩ := own_form o8
  have b8 := Lib.hid (bgrown (bthen (bgrown (bthen b4.out (K.undrew b5)) hg6 (fun k hk => Nat.le_of_lt (r4.out k hk))) b7) hg8 (fun k hk => Nat.le_of_lt (r6.out k hk)))
  have lt8 : w.heap.size < w8.heap.size := Nat.lt_of_lt_of_le (Nat.lt_of_lt_of_le (Nat.lt_of_lt_of_le (Nat.lt_of_lt_of_le lt4 b5.size) hg6.size) b7.size) hg8.size
  have e3 := K.cellGrown hg8 r6.out (K.cellOn b7 (K.cellGrown hg6 r4.out (K.cellOn b5 d3)))
  have e4 := K.cellGrown hg8 r6.out (K.cellOn b7 (K.cellGrown hg6 r4.out (K.cellOn b5 d4)))
  have r8 := Lib.hid (show ∀ k, (Value.slice A8 (((mac x.d ++ mac x.s) ++ put16 33024) ++ put16 x.t).length k8).ownBlock = some k → w.heap.size < k from fun k hk => (o8.lt k hk).1)
  clear d2 d3 d4 o4 o5 o6 o7 b5 b7 ha6 ha8 hg6 hg8 r4 r6 hge
  go_wp2_with fail
  go_region_held3 (fun w' => w'.cell? ⟨w.heap.size, 3, none⟩ = some (.int .i64 x.k) ∧ w'.cell? ⟨w.heap.size, 4, none⟩ = some (.slice A n c)) (first | exact ⟨e3, e4⟩ | exact ⟨K.cellOn b15 e3, K.cellOn b15 e4⟩ | exact ⟨K.cellGrown hg16 r8.out (K.cellOn b15 e3), K.cellGrown hg16 r8.out (K.cellOn b15 e4)⟩ | exact ⟨K.cellGrown hg17 r16.out (K.cellGrown hg16 r8.out (K.cellOn b15 e3)), K.cellGrown hg17 r16.out (K.cellGrown hg16 r8.out (K.cellOn b15 e4))⟩ | go_keep) (first | (go_at_call 34; with_reducible refine (specPut16 x.k _).mono ?_; rintro e w15 ⟨rfl, o15, b15⟩) | (refine step_append_b (by rfl) (.tmp 24) (.tmp 27) (by rfl) (w.heap.size + 1) (.slice A8 (((mac x.d ++ mac x.s) ++ put16 33024) ++ put16 x.t).length k8) (((mac x.d ++ mac x.s) ++ put16 33024) ++ put16 x.t) (by rfl) (own_below o8 (K.undrew b15)) _ (some ⟨w8.drew.heap.size, 0, none⟩) 2 2 (put16 x.k) (by rfl) rfl (RB.of_own o15) (by simp [mac_length, put16]) (Nat.le_trans (show w.heap.size + 1 ≤ w8.drew.heap.size from lt8) b15.size) ?_; intro v16 w16 o16 hg16 ha16; have r16 := Lib.hid (show ∀ k, v16.ownBlock = some k → w.heap.size < k from fun k hk => (o16.lt k hk).1); have B16 := Lib.hid (bgrown (bthen b8.out (K.undrew b15)) hg16 (fun k hk => Nat.le_of_lt (r8.out k hk)))) | (refine step_append_b (by rfl) (.tmp 28) (.tmp 30) (by rfl) (w.heap.size + 1) v16 ((((mac x.d ++ mac x.s) ++ put16 33024) ++ put16 x.t) ++ put16 x.k) (by rfl) o16 _ A n c bs (by rfl) HL.out (HR.out.below B16.out) (by simp [mac_length, put16, HL.out]; omega) (Nat.le_trans (Nat.le_trans (show w.heap.size + 1 ≤ w8.drew.heap.size from lt8) b15.size) hg16.size) ?_; intro v17 w17 o17 hg17 ha17))
  obtain ⟨A17, k17, rfl⟩ := own_form o17
  go_wp2
  go_ret
  exact ebOut_yes HB.out rfl o17 (by omega) (bgrown B16.out hg17 (fun k hk => Nat.le_of_lt (r16.out k hk)))

theorem specEB (x : Eh) (A : Option Addr) (n c : Nat) (bs : List UInt8) (w : World) (hr : RB w w.heap.size A bs) (hl : bs.length = n) (hn : n ≤ 1048576) : Calls Try.prog 15 #[.agg #[.int .i64 x.d, .int .i64 x.s, .int .i64 x.t, .int .i64 x.k, .slice A n c]] w (EBOut x bs w) := by
  cases h : x.ok n
  · exact specEB_no x A n c bs w hl hn h
  · by_cases ht : x.t = -1
    · exact specEB_plain x A n c bs w hr hl h ht
    · exact specEB_tag x A n c bs w hr hl h ht
end Go.Proofs.Ytaemonjiejgciaa
