/-
  AddrBytes, AddrOf and Cut in the program.
-/
import Derived.Test.YtmfkpiclpkeemaaPacked2
import Derived.Deep.OwnRows
namespace Go.Proofs.Ytmfkpiclpkeemaa
set_option maxRecDepth 100000
open Go.RowKit

theorem own_of_row {w : World} {base g n : Nat} {e : TypeId} {xs : List Value} (h : w.heap[g]? = some (.cells xs.toArray e (0, 0))) (hb : base ≤ g) (hn : xs.length = n) (hm : n ≤ maxLen) : w.ownsRow base e 1 (.slice (some ⟨g, 0, none⟩) n n) n xs := by
  refine ⟨by omega, .inr ⟨g, n, xs.toArray, rfl, hb, h, Nat.le_refl _, hm, by simp; omega, ?_⟩⟩
  rw [List.take_of_length_le (by simp; omega)]

theorem cells_two {w : World} {c1 c2 : Array Value} {t1 t2 : TypeId} (j : Nat) (v : Value) (h : c1[j]? = some v) : ((w.alloc (.cells c1 t1)).alloc (.cells c2 t2)).cell? ⟨w.heap.size, j, none⟩ = some v := by
  rw [World.cell?_alloc_lt _ _ _ (by simp)]
  simp [h]

theorem whole_back4 {x : Ad} (h : x.a = 0 ∧ x.b = 0 ∧ x.c = 0) (j : Nat) (v : Value) (hv : (cellsOf (put32 x.d))[j]? = some v) : (cellsOf x.whole)[12 + j]? = some v := by
  rw [whole_four h, cellsOf_append, List.getElem?_append_right (by simp [cellsOf])]
  simpa [cellsOf] using hv

theorem make_bytes (n : Nat) (hn : n ≤ 1048576) (w : World) : (Instr.makeSlice 65 (.int .i64 (n : Int)) (.int .i64 (n : Int))).run Try.prog w = .ok (.slice (some ⟨w.heap.size, 0, none⟩) n n) (w.alloc (.cells (cellsOf (List.replicate n 0)).toArray 5)) := by
  have h := Go.run_make_row' (P := Try.prog) 65 5 (.int .u8 0) 1 Try.underlying65 info_u8 rfl .i64 .i64 n (by omega) (by omega) w
  have e : madeCells #[Value.int .u8 0] n = (cellsOf (List.replicate n 0)).toArray := by
    have := toList_madeCells_one (.int .u8 0) n
    apply Array.toList_inj.1
    simpa [cellsOf] using this
  rw [h, e]

set_option maxHeartbeats 400000 in
theorem implAddrBytes_no (x : Ad) (h : x.ok = false) (w : World) : Calls Try.prog 107 #[.agg #[.int .i64 x.k, .int .i64 x.a, .int .i64 x.b, .int .i64 x.c, .int .i64 x.d]] w (BytesOut x w) := by
  have H := Lib.hid h
  clear h
  go_enter Try.func107, Try.ntmps107
  go_wp2_with fail
  refine (implAddrOk x _).mono ?_
  rintro e w1 ⟨rfl, b1⟩
  have h := H.out
  go_wp2
  go_ret
  exact bytesOut_no H.out (bthen (Joins.below_alloc1 w _) b1)

set_option maxHeartbeats 400000 in
theorem implAddrBytes_four (x : Ad) (h : x.ok = true) (hk : x.k = 4) (w : World) : Calls Try.prog 107 #[.agg #[.int .i64 x.k, .int .i64 x.a, .int .i64 x.b, .int .i64 x.c, .int .i64 x.d]] w (BytesOut x w) := by
  have H := Lib.hid (bytes_four h hk)
  have HZ := Lib.hid (x.ok_four h hk)
  have HK := Lib.hid (bits_is x h)
  have HB := Lib.hid (show x.bits = 32 by simp [Ad.bits, hk])
  have HH := Lib.hid h
  clear h hk
  go_enter Try.func107, Try.ntmps107
  go_wp2_with fail
  refine (implAddrOk x _).mono ?_
  rintro e w1 ⟨rfl, b1⟩
  obtain ⟨c0, c1, c2, c3, c4⟩ := ad_box b1
  have bb := bthen (Joins.below_alloc1 w _) b1
  have h := HH.out
  clear b1
  go_wp2_with fail
  refine (packedC x _).mono ?_
  rintro e w2 ⟨rfl, b2⟩
  have hst := store_cells (w2.alloc (.cells (cellsOf (List.replicate 16 0)).toArray 147)) w2.heap.size 147 _ x.whole (Go.heap_alloc_last _ _) (by rw [x.whole_length]; rfl)
  have hz : (cellsOf (List.replicate 16 0)).toArray = #[Value.int .u8 0, .int .u8 0, .int .u8 0, .int .u8 0, .int .u8 0, .int .u8 0, .int .u8 0, .int .u8 0, .int .u8 0, .int .u8 0, .int .u8 0, .int .u8 0, .int .u8 0, .int .u8 0, .int .u8 0, .int .u8 0] := rfl
  rw [World.setRow_alloc_new, hz] at hst
  have cA : (w2.alloc (.cells (cellsOf x.whole).toArray 147)).cell? ⟨w.heap.size, 0, none⟩ = some (.int .i64 x.k) := cell_on (Joins.below_alloc1 w2 _) (cell_on b2 c0)
  have hl16 : (cellsOf x.whole).length = 16 := by rw [cellsOf_length, x.whole_length]
  have B2 := bthen bb b2
  clear hz c0 c1 c2 c3 c4
  have hmk : ∀ w, (Instr.makeSlice 65 (.int .i64 4) (.int .i64 4)).run Try.prog w = .ok (.slice (some ⟨w.heap.size, 0, none⟩) 4 4) (w.alloc (.cells (cellsOf (List.replicate 4 0)).toArray 5)) := make_bytes 4 (by omega)
  have hsl := slice_arr w2.heap.size 12 (by omega)
  go_wp2_with (first | (go_at_call 130; refine (HK.out _).mono ?_; rintro e w' ⟨rfl, rfl⟩; rw [HB.out]) | (with_reducible refine wpList_copy_splice rfl (.tmp 15) (.tmp 19) 65 65 rfl 5 Try.underlying65 info_u8s _ _ _ _ _ _ rfl rfl (w2.heap.size + 1) 0 (cellsOf (List.replicate 4 0)) 5 ?_ (cellsOf (put32 x.d)) ?_ ?_ ?_ (cellsOf_one _) (w2.heap.size + 1) _ (Below.refl _ _) (Nat.le_refl _) ?_))
  · exact heap_alloc2_new w2 _ _
  · rfl
  · exact fun _ j v hv => whole_back4 HZ.out j v hv
  · simp [cellsOf, put32]
  · intro w4 hg4 hb4
    have hg : w4.heap[w2.heap.size + 1]? = some (.cells (cellsOf (put32 x.d)).toArray 5 (0, 0)) := by simpa [splice, cellsOf, put32] using hg4.out
    have o4 := Lib.hid (own_of_row (base := w2.heap.size + 1) hg (Nat.le_refl _) (show _ = 4 from rfl) (by decide))
    clear hg
    go_wp2
    go_ret
    exact bytesOut_yes H.out rfl o4.out (by have := B2.size; omega) ((bthen B2 (Joins.below_alloc2 w2 _ _)).trans (hb4.mono (by have := B2.size; omega)))
set_option maxHeartbeats 400000 in
theorem implAddrBytes_six (x : Ad) (h : x.ok = true) (hk : x.k = 6) (w : World) : Calls Try.prog 107 #[.agg #[.int .i64 x.k, .int .i64 x.a, .int .i64 x.b, .int .i64 x.c, .int .i64 x.d]] w (BytesOut x w) := by
  have H := Lib.hid (bytes_six h hk)
  have HK := Lib.hid (bits_is x h)
  have HB := Lib.hid (show x.bits = 128 by simp [Ad.bits, hk])
  have HH := Lib.hid h
  clear h hk
  go_enter Try.func107, Try.ntmps107
  go_wp2_with fail
  refine (implAddrOk x _).mono ?_
  rintro e w1 ⟨rfl, b1⟩
  obtain ⟨c0, c1, c2, c3, c4⟩ := ad_box b1
  have bb := bthen (Joins.below_alloc1 w _) b1
  have h := HH.out
  clear b1
  go_wp2_with fail
  refine (packedC x _).mono ?_
  rintro e w2 ⟨rfl, b2⟩
  have hst := store_cells (w2.alloc (.cells (cellsOf (List.replicate 16 0)).toArray 147)) w2.heap.size 147 _ x.whole (Go.heap_alloc_last _ _) (by rw [x.whole_length]; rfl)
  have hz : (cellsOf (List.replicate 16 0)).toArray = #[Value.int .u8 0, .int .u8 0, .int .u8 0, .int .u8 0, .int .u8 0, .int .u8 0, .int .u8 0, .int .u8 0, .int .u8 0, .int .u8 0, .int .u8 0, .int .u8 0, .int .u8 0, .int .u8 0, .int .u8 0, .int .u8 0] := rfl
  rw [World.setRow_alloc_new, hz] at hst
  have cA : (w2.alloc (.cells (cellsOf x.whole).toArray 147)).cell? ⟨w.heap.size, 0, none⟩ = some (.int .i64 x.k) := cell_on (Joins.below_alloc1 w2 _) (cell_on b2 c0)
  have hl16 : (cellsOf x.whole).length = 16 := by rw [cellsOf_length, x.whole_length]
  have B2 := bthen bb b2
  clear hz c0 c1 c2 c3 c4
  have hmk : ∀ w, (Instr.makeSlice 65 (.int .i64 16) (.int .i64 16)).run Try.prog w = .ok (.slice (some ⟨w.heap.size, 0, none⟩) 16 16) (w.alloc (.cells (cellsOf (List.replicate 16 0)).toArray 5)) := make_bytes 16 (by omega)
  have hsl := slice_arr w2.heap.size 0 (by omega)
  go_wp2_with (first | (go_at_call 130; refine (HK.out _).mono ?_; rintro e w' ⟨rfl, rfl⟩; rw [HB.out]) | (with_reducible refine wpList_copy_splice rfl (.tmp 15) (.tmp 19) 65 65 rfl 5 Try.underlying65 info_u8s _ _ _ _ _ _ rfl rfl (w2.heap.size + 1) 0 (cellsOf (List.replicate 16 0)) 5 ?_ (cellsOf x.whole) ?_ ?_ ?_ (cellsOf_one _) (w2.heap.size + 1) _ (Below.refl _ _) (Nat.le_refl _) ?_))
  · exact heap_alloc2_new w2 _ _
  · rfl
  · simp [cellsOf, Ad.whole, put32]
  · intro w4 hg4 hb4
    have hg : w4.heap[w2.heap.size + 1]? = some (.cells (cellsOf x.whole).toArray 5 (0, 0)) := by simpa [splice, cellsOf, Ad.whole, put32] using hg4.out
    have o4 := Lib.hid (own_of_row (base := w2.heap.size + 1) hg (Nat.le_refl _) (show _ = 16 from rfl) (by decide))
    clear hg
    go_wp2
    go_ret
    exact bytesOut_yes H.out rfl o4.out (by have := B2.size; omega) ((bthen B2 (Joins.below_alloc2 w2 _ _)).trans (hb4.mono (by have := B2.size; omega)))
theorem implAddrBytes (x : Ad) (w : World) : Calls Try.prog 107 #[.agg #[.int .i64 x.k, .int .i64 x.a, .int .i64 x.b, .int .i64 x.c, .int .i64 x.d]] w (BytesOut x w) := by
  cases h : x.ok
  · exact implAddrBytes_no x h w
  · rcases x.ok_kind h with hk | hk
    · exact implAddrBytes_four x h hk w
    · exact implAddrBytes_six x h hk w
end Go.Proofs.Ytmfkpiclpkeemaa
