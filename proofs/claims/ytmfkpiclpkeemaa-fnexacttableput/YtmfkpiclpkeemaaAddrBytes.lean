/-
  AddrBytes in the model.
-/
import Derived.Test.YtmfkpiclpkeemaaAddr
namespace Go.Proofs.Ytmfkpiclpkeemaa
set_option maxRecDepth 100000
open Go.RowKit

def BytesOut (x : Ad) (w : World) (e : Ending) (w' : World) : Prop := ∃ A c, e = .returned (.slice A x.bytes.length c) ∧ w'.ownsRow w.heap.size 5 1 (.slice A x.bytes.length c) x.bytes.length (cellsOf x.bytes) ∧ Below w.heap.size w w'
theorem bytesOut_no {x : Ad} (h : x.ok = false) {w w' : World} (hb : Below w.heap.size w w') : BytesOut x w (.returned (.slice none 0 0)) w' := by
  have e : x.bytes = [] := by simp [Ad.bytes, h]
  unfold BytesOut
  rw [e]
  exact ⟨none, 0, rfl, ⟨rfl, .inl ⟨rfl, rfl⟩⟩, hb⟩
theorem bytesOut_yes {x : Ad} {w w' : World} {A : Option Addr} {n c B : Nat} {bs : List UInt8} (he : x.bytes = bs) (hn : bs.length = n) (ho : w'.ownsRow B 5 1 (.slice A n c) n (cellsOf bs)) (hB : w.heap.size ≤ B) (hb : Below w.heap.size w w') :
    BytesOut x w (.returned (.slice A n c)) w' := by
  unfold BytesOut
  rw [he, hn]
  exact ⟨A, c, rfl, own_base ho hB, hb⟩
theorem bytes_four {x : Ad} (h : x.ok = true) (hk : x.k = 4) : x.bytes = put32 x.d := by simp [Ad.bytes, h, hk]
theorem bytes_six {x : Ad} (h : x.ok = true) (hk : x.k = 6) : x.bytes = x.whole := by simp [Ad.bytes, h, hk]

theorem cell_on {a b : World} {p : Addr} {v : Value} (h : Below a.heap.size a b) (hc : a.cell? p = some v) : b.cell? p = some v := (h.cell (World.block_lt_of_cell? _ _ hc)).trans hc
theorem undrew {a b : World} (h : Below a.drew.heap.size a.drew b) : Below a.heap.size a b := ⟨h.os, h.tape, h.output, h.size, h.block⟩
theorem cell_grown {a b : World} {row : Option Nat} {g i : Nat} {v : Value} (h : a.grownBy b row) (hne : ∀ k, row = some k → g < k) (hc : a.cell? ⟨g, i, none⟩ = some v) : b.cell? ⟨g, i, none⟩ = some v :=
  h.cell hc (fun e => by have := hne g e.symm; omega)

set_option maxHeartbeats 400000 in
theorem specAddrBytes_no (x : Ad) (h : x.ok = false) (w : World) : Calls Try.prog 104 #[.agg #[.int .i64 x.k, .int .i64 x.a, .int .i64 x.b, .int .i64 x.c, .int .i64 x.d]] w (BytesOut x w) := by
  have H := Lib.hid h
  clear h
  go_enter Try.func104, Try.ntmps104
  go_wp2_with fail
  refine (specAddrOk x _).mono ?_
  rintro e w1 ⟨rfl, b1⟩
  have h := H.out
  go_wp2
  go_ret
  exact bytesOut_no H.out (bthen (Joins.below_alloc1 w _) b1)

set_option maxHeartbeats 400000 in
theorem specAddrBytes_four (x : Ad) (h : x.ok = true) (hk : x.k = 4) (w : World) : Calls Try.prog 104 #[.agg #[.int .i64 x.k, .int .i64 x.a, .int .i64 x.b, .int .i64 x.c, .int .i64 x.d]] w (BytesOut x w) := by
  have H := Lib.hid (bytes_four h hk)
  have HH := Lib.hid (And.intro h hk)
  clear h hk
  go_enter Try.func104, Try.ntmps104
  go_wp2_with fail
  refine (specAddrOk x _).mono ?_
  rintro e w1 ⟨rfl, b1⟩
  obtain ⟨c0, c1, c2, c3, c4⟩ := ad_box b1
  obtain ⟨h, hk⟩ := HH.out
  go_wp2_with fail
  refine (specPut32 x.d _).mono ?_
  rintro e w2 ⟨A, c, rfl, o2, b2⟩
  go_wp2
  go_ret
  have b12 := bthen (Joins.below_alloc1 w _) b1
  exact bytesOut_yes H.out rfl o2 b12.size (bthen b12 b2)

set_option maxHeartbeats 400000 in
theorem specAddrBytes_six (x : Ad) (h : x.ok = true) (hk : x.k = 6) (w : World) : Calls Try.prog 104 #[.agg #[.int .i64 x.k, .int .i64 x.a, .int .i64 x.b, .int .i64 x.c, .int .i64 x.d]] w (BytesOut x w) := by
  have H := Lib.hid (bytes_six h hk)
  have HH := Lib.hid (And.intro h hk)
  clear h hk
  go_enter Try.func104, Try.ntmps104
  go_wp2_with fail
  refine (specAddrOk x _).mono ?_
  rintro e w1 ⟨rfl, b1⟩
  obtain ⟨c0, c1, c2, c3, c4⟩ := ad_box b1
  have bb := bthen (Joins.below_alloc1 w _) b1
  have hlt : w.heap.size < w1.heap.size := by have := b1.size; simp at this; omega
  clear b1
  obtain ⟨h, hk⟩ := HH.out
  go_wp2_with fail
  go_region_held3 (fun w' => w'.cell? ⟨w.heap.size, 1, none⟩ = some (.int .i64 x.a) ∧ w'.cell? ⟨w.heap.size, 2, none⟩ = some (.int .i64 x.b)) (first | exact ⟨c1, c2⟩ | exact ⟨cell_on b2 c1, cell_on b2 c2⟩ | exact ⟨cell_on b3 (cell_on b2 c1), cell_on b3 (cell_on b2 c2)⟩ | exact ⟨cell_grown hg4 hr4.out (cell_on b3 (cell_on b2 c1)), cell_grown hg4 hr4.out (cell_on b3 (cell_on b2 c2))⟩ | go_keep)
    (first | (go_at_call 126; with_reducible refine (specPut32 x.a _).mono ?_; rintro e w2 ⟨A2, k2, rfl, o2, b2⟩) | (go_at_call 126; with_reducible refine (specPut32 x.b _).mono ?_; rintro e w3 ⟨A3, k3, rfl, o3, b3⟩) | (refine step_append_b (by rfl) (.tmp 15) (.tmp 18) (by rfl) (w.heap.size + 1) (.slice A2 4 k2) (put32 x.a) (by rfl) (own_below (own_base o2 (show w.heap.size + 1 ≤ w1.drew.heap.size from hlt)) b3) _ A3 4 k3 (put32 x.b) (by rfl) rfl (RB.of_own o3) (by simp [put32]) (Nat.le_trans (show w.heap.size + 1 ≤ w1.drew.heap.size from hlt) (Nat.le_trans b2.size b3.size)) ?_; intro v4 w4 o4 hg4 ha4; have hr4 := Lib.hid (show ∀ k, (Value.slice A2 4 k2).ownBlock = some k → w.heap.size < k from fun k hk => Nat.lt_of_lt_of_le (show w.heap.size < w1.drew.heap.size from hlt) (o2.lt k hk).1)))
  obtain ⟨A4, k4, rfl⟩ := own_form o4
  have b4 : Below w.heap.size w w4 := bgrown (bthen bb (bthen (undrew b2) b3)) hg4 (fun k hk => Nat.le_of_lt (hr4.out k hk))
  have lt4 : w.heap.size < w4.heap.size := Nat.lt_of_lt_of_le (Nat.lt_of_lt_of_le hlt (Nat.le_trans b2.size b3.size)) hg4.size
  have d3 := cell_grown hg4 hr4.out (cell_on b3 (cell_on b2 c3))
  have d4 := cell_grown hg4 hr4.out (cell_on b3 (cell_on b2 c4))
  have r4 := Lib.hid (show ∀ k, (Value.slice A4 (put32 x.a ++ put32 x.b).length k4).ownBlock = some k → w.heap.size < k from fun k hk => (o4.lt k hk).1)
  clear c0 c1 c2 c3 c4 o2 o3 b2 b3 ha4 hg4 hr4
  go_wp2_with fail
  go_region_held3 (fun w' => w'.cell? ⟨w.heap.size, 3, none⟩ = some (.int .i64 x.c) ∧ w'.cell? ⟨w.heap.size, 4, none⟩ = some (.int .i64 x.d)) (first | exact ⟨d3, d4⟩ | exact ⟨cell_on b5 d3, cell_on b5 d4⟩ | exact ⟨cell_grown hg6 r4.out (cell_on b5 d3), cell_grown hg6 r4.out (cell_on b5 d4)⟩ | exact ⟨cell_on b7 (cell_grown hg6 r4.out (cell_on b5 d3)), cell_on b7 (cell_grown hg6 r4.out (cell_on b5 d4))⟩ | exact ⟨cell_grown hg8 r6.out (cell_on b7 (cell_grown hg6 r4.out (cell_on b5 d3))), cell_grown hg8 r6.out (cell_on b7 (cell_grown hg6 r4.out (cell_on b5 d4)))⟩ | go_keep)
    (first | (go_at_call 126; with_reducible refine (specPut32 x.c _).mono ?_; rintro e w5 ⟨A5, k5, rfl, o5, b5⟩) | (go_at_call 126; with_reducible refine (specPut32 x.d _).mono ?_; rintro e w7 ⟨A7, k7, rfl, o7, b7⟩) | (refine step_append_b (by rfl) (.tmp 20) (.tmp 23) (by rfl) (w.heap.size + 1) (.slice A4 (put32 x.a ++ put32 x.b).length k4) (put32 x.a ++ put32 x.b) (by rfl) (own_below o4 (undrew b5)) _ A5 4 k5 (put32 x.c) (by rfl) rfl (RB.of_own o5) (by simp [put32]) (Nat.le_trans (show w.heap.size + 1 ≤ w4.drew.heap.size from lt4) b5.size) ?_; intro v6 w6 o6 hg6 ha6; have r6 := Lib.hid (show ∀ k, v6.ownBlock = some k → w.heap.size < k from fun k hk => (o6.lt k hk).1)) | (refine step_append_b (by rfl) (.tmp 24) (.tmp 27) (by rfl) (w.heap.size + 1) v6 ((put32 x.a ++ put32 x.b) ++ put32 x.c) (by rfl) (own_below o6 b7) _ A7 4 k7 (put32 x.d) (by rfl) rfl (RB.of_own o7) (by simp [put32]) (Nat.le_trans (Nat.le_trans (Nat.le_trans (show w.heap.size + 1 ≤ w4.drew.heap.size from lt4) b5.size) hg6.size) b7.size) ?_; intro v8 w8 o8 hg8 ha8))
  obtain ⟨A8, k8, rfl⟩ := own_form o8
  go_wp2
  go_ret
  exact bytesOut_yes H.out rfl o8 (by omega) (bgrown (bthen (bgrown (bthen b4 (undrew b5)) hg6 (fun k hk => Nat.le_of_lt (r4.out k hk))) b7) hg8 (fun k hk => Nat.le_of_lt (r6.out k hk)))

theorem specAddrBytes (x : Ad) (w : World) : Calls Try.prog 104 #[.agg #[.int .i64 x.k, .int .i64 x.a, .int .i64 x.b, .int .i64 x.c, .int .i64 x.d]] w (BytesOut x w) := by
  cases h : x.ok
  · exact specAddrBytes_no x h w
  · rcases x.ok_kind h with hk | hk
    · exact specAddrBytes_four x h hk w
    · exact specAddrBytes_six x h hk w
end Go.Proofs.Ytmfkpiclpkeemaa
