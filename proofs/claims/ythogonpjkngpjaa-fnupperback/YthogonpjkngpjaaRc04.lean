/-
  The program's sixteen bytes of an address: packed, unpacked, firstBits. The program's sixteen bytes of an address: unpacked, firstBits. AddrBytes, AddrOf and Cut in the program. AddrOf in the program and in the model. The steps of a region that draws numbers off a cursor and puts them together: what each operation leaves. The region in which the laws compare a packet with a new copy: it draws its order. The region in which a law compares a variable with a new copy of its argument: it draws its order. For any struct, any copy, any comparison. The laws' own helpers on upper layers: whole loads and stores, a size. The marking of an IPv4 packet whose options take up all the room that the laws allow.
-/
import Derived.Test.YthogonpjkngpjaaRc03
import Derived.Laws.CopyOwn
import Derived.Laws.Rows
import Derived.Deep.WholeRow
import Derived.Deep.OwnRows
import Derived.Laws.ResultCell
import Derived.Test.YthogonpjkngpjaaRc01
import Derived.Laws.Tables
namespace Go.Proofs.Ythogonpjkngpjaa
set_option maxRecDepth 100000
open Go.RowKit
def Ad.part (x : Ad) (i : Nat) : Int := match i with | 0 => x.a | 1 => x.b | 2 => x.c | _ => x.d
def Ad.fill (x : Ad) (i : Nat) : List UInt8 := x.whole.take (4 * i) ++ List.replicate (16 - 4 * i) 0
theorem four_cases {i : Nat} (h : i < 4) : i = 0 ∨ i = 1 ∨ i = 2 ∨ i = 3 := by omega
theorem index_part (x : Ad) (i : Nat) (h : i < 4) (w : World) :
    (Instr.index 130 (.agg #[.int .i64 x.a, .int .i64 x.b, .int .i64 x.c, .int .i64 x.d]) (.int .i64 (i : Int))).run Try.prog w = .ok (.int .i64 (x.part i)) w := by
  rcases four_cases h with rfl | rfl | rfl | rfl <;> rfl
theorem fill_splice (x : Ad) (i : Nat) (h : i < 4) : splice (cellsOf (x.fill i)) (4 * i) (cellsOf (put32 (x.part i))) = cellsOf (x.fill (i + 1)) := by
  rcases four_cases h with rfl | rfl | rfl | rfl <;> simp [splice, Ad.fill, Ad.whole, put32, cellsOf, Ad.part]
theorem fill_length (x : Ad) (i : Nat) (h : i ≤ 4) : (x.fill i).length = 16 := by
  simp [Ad.fill, Ad.whole_length]
  omega
theorem fill_end (x : Ad) : x.fill 4 = x.whole := by simp [Ad.fill, Ad.whole, put32]
theorem info_arr : (Try.prog.info? 124).map (·.size) = some 16 := by kernel_rfl
theorem info_u8s : (Try.prog.info? 5).map (·.size) = some 1 := by kernel_rfl
theorem slice_arr (g m : Nat) (h : m < 16) (w : World) : (Instr.sliceAt 124 (.pointer (some ⟨g, 0, none⟩)) (some (.int .i64 (m : Int))) none none).run Try.prog w = .ok (.slice (some ⟨g, m, none⟩) (16 - m) (16 - m)) w := by
  obtain ⟨i0, hi0, hz0, hz1, hz2⟩ := info_parts info_u8
  have e : Try.prog.elem 124 = 5 := by kernel_rfl
  have el : Try.prog.arrayLen 124 = 16 := by kernel_rfl
  rw [run_sliceAt_array_l w _ _ (by kernel_rfl) .i64 (m : Int) (by omega) (by rw [el]; omega)]
  simp [e, el, sizeOf, typeInfo, hi0, slicedAt, hz1, addr_add]
  omega
theorem row_on {a b : World} {B g : Nat} {o : Obj} (h : Below B a b) (hg : g < B) (hr : a.heap[g]? = some o) : b.heap[g]? = some o := (h.block g hg).trans hr
theorem row_lt {a : World} {g : Nat} {o : Obj} (h : a.heap[g]? = some o) : g < a.heap.size := (Array.getElem?_eq_some_iff.1 h).1
theorem row_new2 (w : World) (a b c : Obj) : (((w.alloc a).alloc b).alloc c).heap[w.heap.size + 1]? = some b := by
  have h := heap_alloc_new (w.alloc a) b
  have e : (w.alloc a).heap.size = w.heap.size + 1 := by simp
  have e2 : ((w.alloc a).alloc b).heap.size = w.heap.size + 1 + 1 := by simp
  rw [e] at h
  exact (Go.heap_alloc_old ((w.alloc a).alloc b) c (by omega)).trans h
theorem row_new3 (w : World) (a b c : Obj) : (((w.alloc a).alloc b).alloc c).heap[w.heap.size + 1 + 1]? = some c := by
  have h := heap_alloc_new ((w.alloc a).alloc b) c
  have e2 : ((w.alloc a).alloc b).heap.size = w.heap.size + 1 + 1 := by simp
  rwa [e2] at h
theorem own_src {w : World} {base : Nat} {e : TypeId} {g n c : Nat} {xs : List Value} (h : w.ownsRow base e 1 (.slice (some ⟨g, 0, none⟩) n c) n xs) : ∀ j v, xs[j]? = some v → w.cell? ((⟨g, 0, none⟩ : Addr).add j) = some v := by
  intro j v hv
  have hl := h.1
  have hj : j < xs.length := by
    rcases Nat.lt_or_ge j xs.length with hj | hj
    · exact hj
    · rw [List.getElem?_eq_none hj] at hv; cases hv
  rw [addr_add, Nat.zero_add, h.cellAt j (by omega)]
  exact hv
theorem cells_size (bs : List UInt8) : (cellsOf bs).toArray.size = bs.length := by simp [cellsOf]
theorem store_cells (w : World) (g : Nat) (t : TypeId) (old : Array Value) (bs : List UInt8) (hg : w.heap[g]? = some (.cells old t (0, 0))) (hl : old.size = bs.length) :
    (storeCells ⟨g, 0, none⟩ (cellsOf bs)).run Try.prog w = .ok () (w.setRow g (cellsOf bs).toArray) := by
  have := run_storeCells_from (P := Try.prog) g t (cellsOf bs) 0 old w hg (by rw [cellsOf_length]; omega) (cellsOf_one bs)
  simpa using this
set_option maxHeartbeats 400000 in
theorem packedC (x : Ad) (w : World) : Calls Try.prog 113 #[.agg #[.int .i64 x.k, .int .i64 x.a, .int .i64 x.b, .int .i64 x.c, .int .i64 x.d]] w fun e w' => e = .returned (.agg (cellsOf x.whole).toArray) ∧ Below w.heap.size w w' := by
  go_enter Try.func113, Try.ntmps113
  go_wp2_with fail
  go_loopw [15] (fun s wr => ∃ i : Nat, i ≤ 4 ∧ s = .int .i64 i ∧ wr.heap[w.heap.size + 1]? = some (.cells (cellsOf (List.replicate 16 0)).toArray 124 (0, 0)) ∧ wr.heap[w.heap.size + 1 + 1]? = some (.cells (cellsOf (x.fill i)).toArray 124 (0, 0)) ∧ Below w.heap.size w wr) (fun s _ => 4 - (intOf s).toNat)
  case atStart =>
    refine ⟨0, by omega, rfl, ?_, ?_, by go_grown⟩
    · exact row_new2 w _ _ _
    · exact row_new3 w _ _ _
  case round =>
    obtain ⟨i, hi, rfl, h1, h2, hb⟩ := hrel
    by_cases hlt : i < 4
    · have hidx := index_part x i hlt
      obtain ⟨y, hy⟩ : ∃ y, y = x.part i := ⟨_, rfl⟩
      rw [← hy] at hidx
      have HY := Lib.hid hy
      have H1 := Lib.hid h1
      have H2 := Lib.hid h2
      clear hy h1 h2
      obtain ⟨m, hm⟩ : ∃ m : Nat, m = 4 * i := ⟨_, rfl⟩
      have hm16 : m < 16 := by omega
      have hm12 : m ≤ 12 := by omega
      have hw : IntKind.i64.wrap (4 * (i : Int)) = (m : Int) := by rw [IntKind.wrap_i64]; omega
      have hsl := slice_arr (w.heap.size + 1 + 1) m hm16
      have HM := Lib.hid hm
      have hl : w.heap.size + 1 + 1 < wr.heap.size := row_lt H2.out
      clear hm
      go_wp2_with fail
      go_region_law (first | (go_simp; go_at_call 74; refine (implPut32 y _).mono ?_; rintro e w2 ⟨rfl, o2, b2⟩) | (refine step_copy_splice (by rfl) (.tmp 21) (.tmp 23) 34 34 (by rfl) 5 Try.underlying34 info_u8s (some ⟨w.heap.size + 1 + 1, m, none⟩) _ (16 - m) (16 - m) 4 4 (by rfl) (by rfl) (w.heap.size + 1 + 1) m (cellsOf (x.fill i)) 124 (row_on b2 (row_lt H2.out) H2.out) (cellsOf (put32 y)) (by rw [cellsOf_length, put32_length]; exact (Nat.min_eq_left (by omega)).symm) (fun _ => ⟨rfl, _, rfl, own_src o2⟩) (by rw [cellsOf_length, cellsOf_length, put32_length, fill_length x i hi]; omega) (cellsOf_one _) (w.heap.size + 1 + 1) wr ((undrew b2).mono (Nat.le_of_lt hl)) (Nat.le_refl _) ?_; intro w4 hg4 hb4))
      go_wp2
      go_roundw
      case rel =>
        refine ⟨i + 1, by omega, by go_num, row_on hb4 (by omega) H1.out, ?_, hb.trans (hb4.mono (by omega))⟩
        rw [← fill_splice x i hlt, ← HM.out, ← HY.out]
        exact hg4.out
      case measure => simp [intOf]; omega
    · obtain rfl : i = 4 := by omega
      rw [fill_end] at h2
      have H1 := Lib.hid h1
      have H2 := Lib.hid h2
      clear h1 h2
      have hs16 := cells_size x.whole
      rw [x.whole_length] at hs16
      have HS := Lib.hid hs16
      clear hs16
      have hst := store_cells wr (w.heap.size + 1) 124 _ x.whole H1.out (by rw [x.whole_length]; rfl)
      go_wp2_with (with_reducible refine wpList_load_row rfl 124 (.tmp 3) rfl (w.heap.size + 1 + 1) rfl 124 (cellsOf x.whole).toArray (0, 0) _ H2.out Try.underlying124 rfl (by rw [HS.out]; exact info_arr) ?_)
      (try simp only [Exit.inBlock, Exit.then])
      refine bodyPost_ret (v := .agg (cellsOf x.whole).toArray) ?_ rfl ⟨rfl, below_setRow hb (by omega) _⟩
      exact results_cell_row rfl _ _ (w.heap.size + 1) 124 (cellsOf x.whole).toArray (0, 0) _ rfl (setRow_heap _ _ _ _ _ _ H1.out) Try.underlying124 rfl (by rw [HS.out]; exact info_arr)
theorem bits_is (x : Ad) (h : x.ok = true) (w : World) : Calls Try.prog 114 #[.int .i64 x.k] w fun e w' => e = .returned (.int .i64 x.bits) ∧ w = w' := bitsOfC x.k (x.ok_kind h) w
theorem own_of_row {w : World} {base g n : Nat} {e : TypeId} {xs : List Value} (h : w.heap[g]? = some (.cells xs.toArray e (0, 0))) (hb : base ≤ g) (hn : xs.length = n) (hm : n ≤ maxLen) : w.ownsRow base e 1 (.slice (some ⟨g, 0, none⟩) n n) n xs := by
  refine ⟨by omega, .inr ⟨g, n, xs.toArray, rfl, hb, h, Nat.le_refl _, hm, by simp; omega, ?_⟩⟩
  rw [List.take_of_length_le (by simp; omega)]
theorem whole_back4 {x : Ad} (h : x.a = 0 ∧ x.b = 0 ∧ x.c = 0) (j : Nat) (v : Value) (hv : (cellsOf (put32 x.d))[j]? = some v) : (cellsOf x.whole)[12 + j]? = some v := by
  rw [whole_four h, cellsOf_append, List.getElem?_append_right (by simp [cellsOf])]
  simpa [cellsOf] using hv
theorem make_bytes (n : Nat) (hn : n ≤ 1048576) (w : World) : (Instr.makeSlice 34 (.int .i64 (n : Int)) (.int .i64 (n : Int))).run Try.prog w = .ok (.slice (some ⟨w.heap.size, 0, none⟩) n n) (w.alloc (.cells (cellsOf (List.replicate n 0)).toArray 5)) := by
  have h := Go.run_make_row' (P := Try.prog) 34 5 (.int .u8 0) 1 Try.underlying34 info_u8 rfl .i64 .i64 n (by omega) (by omega) w
  have e : madeCells #[Value.int .u8 0] n = (cellsOf (List.replicate n 0)).toArray := by
    have := toList_madeCells_one (.int .u8 0) n
    apply Array.toList_inj.1
    simpa [cellsOf] using this
  rw [h, e]
set_option maxHeartbeats 400000 in
theorem implAddrBytes_no (x : Ad) (h : x.ok = false) (w : World) : Calls Try.prog 77 #[.agg #[.int .i64 x.k, .int .i64 x.a, .int .i64 x.b, .int .i64 x.c, .int .i64 x.d]] w (BytesOut x w) := by
  have H := Lib.hid h
  clear h
  go_enter Try.func77, Try.ntmps77
  go_wp2_with fail
  refine (implAddrOk x _).mono ?_
  rintro e w1 ⟨rfl, b1⟩
  have h := H.out
  go_wp2
  go_ret
  exact bytesOut_no H.out (bthen (Joins.below_alloc1 w _) b1)
set_option maxHeartbeats 400000 in
theorem implAddrBytes_four (x : Ad) (h : x.ok = true) (hk : x.k = 4) (w : World) : Calls Try.prog 77 #[.agg #[.int .i64 x.k, .int .i64 x.a, .int .i64 x.b, .int .i64 x.c, .int .i64 x.d]] w (BytesOut x w) := by
  have H := Lib.hid (bytes_four h hk)
  have HZ := Lib.hid (x.ok_four h hk)
  have HK := Lib.hid (bits_is x h)
  have HB := Lib.hid (show x.bits = 32 by simp [Ad.bits, hk])
  have HH := Lib.hid h
  clear h hk
  go_enter Try.func77, Try.ntmps77
  go_wp2_with fail
  refine (implAddrOk x _).mono ?_
  rintro e w1 ⟨rfl, b1⟩
  obtain ⟨c0, c1, c2, c3, c4⟩ := ad_box b1
  have bb := bthen (Joins.below_alloc1 w _) b1
  have h := HH.out
  clear b1
  go_wp2_with fail
  refine (packedC x _).mono ?_
  rintro e w2 ⟨rfl, b2⟩
  have hst := store_cells (w2.alloc (.cells (cellsOf (List.replicate 16 0)).toArray 124)) w2.heap.size 124 _ x.whole (Go.heap_alloc_last _ _) (by rw [x.whole_length]; rfl)
  have hz : (cellsOf (List.replicate 16 0)).toArray = #[Value.int .u8 0, .int .u8 0, .int .u8 0, .int .u8 0, .int .u8 0, .int .u8 0, .int .u8 0, .int .u8 0, .int .u8 0, .int .u8 0, .int .u8 0, .int .u8 0, .int .u8 0, .int .u8 0, .int .u8 0, .int .u8 0] := rfl
  rw [World.setRow_alloc_new, hz] at hst
  have cA : (w2.alloc (.cells (cellsOf x.whole).toArray 124)).cell? ⟨w.heap.size, 0, none⟩ = some (.int .i64 x.k) := cell_on (Joins.below_alloc1 w2 _) (cell_on b2 c0)
  have hl16 : (cellsOf x.whole).length = 16 := by rw [cellsOf_length, x.whole_length]
  have B2 := bthen bb b2
  clear hz c0 c1 c2 c3 c4
  have hmk : ∀ w, (Instr.makeSlice 34 (.int .i64 4) (.int .i64 4)).run Try.prog w = .ok (.slice (some ⟨w.heap.size, 0, none⟩) 4 4) (w.alloc (.cells (cellsOf (List.replicate 4 0)).toArray 5)) := make_bytes 4 (by omega)
  have hsl := slice_arr w2.heap.size 12 (by omega)
  go_wp2_with (first | (go_at_call 114; refine (HK.out _).mono ?_; rintro e w' ⟨rfl, rfl⟩; rw [HB.out]) | (with_reducible refine wpList_copy_splice rfl (.tmp 15) (.tmp 19) 34 34 rfl 5 Try.underlying34 info_u8s _ _ _ _ _ _ rfl rfl (w2.heap.size + 1) 0 (cellsOf (List.replicate 4 0)) 5 ?_ (cellsOf (put32 x.d)) ?_ ?_ ?_ (cellsOf_one _) (w2.heap.size + 1) _ (Below.refl _ _) (Nat.le_refl _) ?_))
  · exact heap_alloc2_new w2 _ _
  · rfl
  · exact fun _ j v hv => whole_back4 HZ.out j v hv
  · simp [cellsOf, put32]
  · intro w4 hg4 hb4
    have hg : w4.heap[w2.heap.size + 1]? = some (.cells (cellsOf (put32 x.d)).toArray 5 (0, 0)) := by simpa [splice, cellsOf, put32] using hg4.out
    have o4 := Lib.hid (own_of_row (base := w2.heap.size + 1) hg (Nat.le_refl _) (show _ = 4 from rfl) (by decide))
    clear hg
    go_wp2
    go_ret
    exact bytesOut_yes H.out rfl o4.out (by have := B2.size; omega) ((bthen B2 (Joins.below_alloc2 w2 _ _)).trans (hb4.mono (by have := B2.size; omega)))
set_option maxHeartbeats 400000 in
theorem implAddrBytes_six (x : Ad) (h : x.ok = true) (hk : x.k = 6) (w : World) : Calls Try.prog 77 #[.agg #[.int .i64 x.k, .int .i64 x.a, .int .i64 x.b, .int .i64 x.c, .int .i64 x.d]] w (BytesOut x w) := by
  have H := Lib.hid (bytes_six h hk)
  have HK := Lib.hid (bits_is x h)
  have HB := Lib.hid (show x.bits = 128 by simp [Ad.bits, hk])
  have HH := Lib.hid h
  clear h hk
  go_enter Try.func77, Try.ntmps77
  go_wp2_with fail
  refine (implAddrOk x _).mono ?_
  rintro e w1 ⟨rfl, b1⟩
  obtain ⟨c0, c1, c2, c3, c4⟩ := ad_box b1
  have bb := bthen (Joins.below_alloc1 w _) b1
  have h := HH.out
  clear b1
  go_wp2_with fail
  refine (packedC x _).mono ?_
  rintro e w2 ⟨rfl, b2⟩
  have hst := store_cells (w2.alloc (.cells (cellsOf (List.replicate 16 0)).toArray 124)) w2.heap.size 124 _ x.whole (Go.heap_alloc_last _ _) (by rw [x.whole_length]; rfl)
  have hz : (cellsOf (List.replicate 16 0)).toArray = #[Value.int .u8 0, .int .u8 0, .int .u8 0, .int .u8 0, .int .u8 0, .int .u8 0, .int .u8 0, .int .u8 0, .int .u8 0, .int .u8 0, .int .u8 0, .int .u8 0, .int .u8 0, .int .u8 0, .int .u8 0, .int .u8 0] := rfl
  rw [World.setRow_alloc_new, hz] at hst
  have cA : (w2.alloc (.cells (cellsOf x.whole).toArray 124)).cell? ⟨w.heap.size, 0, none⟩ = some (.int .i64 x.k) := cell_on (Joins.below_alloc1 w2 _) (cell_on b2 c0)
  have hl16 : (cellsOf x.whole).length = 16 := by rw [cellsOf_length, x.whole_length]
  have B2 := bthen bb b2
  clear hz c0 c1 c2 c3 c4
  have hmk : ∀ w, (Instr.makeSlice 34 (.int .i64 16) (.int .i64 16)).run Try.prog w = .ok (.slice (some ⟨w.heap.size, 0, none⟩) 16 16) (w.alloc (.cells (cellsOf (List.replicate 16 0)).toArray 5)) := make_bytes 16 (by omega)
  have hsl := slice_arr w2.heap.size 0 (by omega)
  go_wp2_with (first | (go_at_call 114; refine (HK.out _).mono ?_; rintro e w' ⟨rfl, rfl⟩; rw [HB.out]) | (with_reducible refine wpList_copy_splice rfl (.tmp 15) (.tmp 19) 34 34 rfl 5 Try.underlying34 info_u8s _ _ _ _ _ _ rfl rfl (w2.heap.size + 1) 0 (cellsOf (List.replicate 16 0)) 5 ?_ (cellsOf x.whole) ?_ ?_ ?_ (cellsOf_one _) (w2.heap.size + 1) _ (Below.refl _ _) (Nat.le_refl _) ?_))
  · exact heap_alloc2_new w2 _ _
  · rfl
  · simp [cellsOf, Ad.whole, put32]
  · intro w4 hg4 hb4
    have hg : w4.heap[w2.heap.size + 1]? = some (.cells (cellsOf x.whole).toArray 5 (0, 0)) := by simpa [splice, cellsOf, Ad.whole, put32] using hg4.out
    have o4 := Lib.hid (own_of_row (base := w2.heap.size + 1) hg (Nat.le_refl _) (show _ = 16 from rfl) (by decide))
    clear hg
    go_wp2
    go_ret
    exact bytesOut_yes H.out rfl o4.out (by have := B2.size; omega) ((bthen B2 (Joins.below_alloc2 w2 _ _)).trans (hb4.mono (by have := B2.size; omega)))
theorem implAddrBytes (x : Ad) (w : World) : Calls Try.prog 77 #[.agg #[.int .i64 x.k, .int .i64 x.a, .int .i64 x.b, .int .i64 x.c, .int .i64 x.d]] w (BytesOut x w) := by
  cases h : x.ok
  · exact implAddrBytes_no x h w
  · rcases x.ok_kind h with hk | hk
    · exact implAddrBytes_four x h hk w
    · exact implAddrBytes_six x h hk w
theorem row5 {w : World} {g : Nat} {v0 v1 v2 v3 v4 : Value} {t : TypeId} (h : w.heap[g]? = some (.cells #[v0, v1, v2, v3, v4] t (0, 0))) :
    (w.cell? ⟨g, 0, none⟩ = some v0 ∧ w.cell? ⟨g, 1, none⟩ = some v1 ∧ w.cell? ⟨g, 2, none⟩ = some v2 ∧ w.cell? ⟨g, 3, none⟩ = some v3 ∧ w.cell? ⟨g, 4, none⟩ = some v4) ∧
      (w.frozen? ⟨g, 0, none⟩ = false ∧ w.frozen? ⟨g, 1, none⟩ = false ∧ w.frozen? ⟨g, 2, none⟩ = false ∧ w.frozen? ⟨g, 3, none⟩ = false ∧ w.frozen? ⟨g, 4, none⟩ = false) :=
  ⟨⟨cell_of_row w g 0 _ _ _ h, cell_of_row w g 1 _ _ _ h, cell_of_row w g 2 _ _ _ h, cell_of_row w g 3 _ _ _ h, cell_of_row w g 4 _ _ _ h⟩,
    ⟨frozen_of_row w g 0 _ _ h, frozen_of_row w g 1 _ _ h, frozen_of_row w g 2 _ _ h, frozen_of_row w g 3 _ _ h, frozen_of_row w g 4 _ _ h⟩⟩
theorem set5 {w : World} {g : Nat} {a0 a1 a2 a3 a4 : Value} {t : TypeId} (v0 v1 v2 v3 v4 : Value) (h : w.heap[g]? = some (.cells #[a0, a1, a2, a3, a4] t (0, 0))) :
    (((((w.setCell ⟨g, 0, none⟩ v0).setCell ⟨g, 1, none⟩ v1).setCell ⟨g, 2, none⟩ v2).setCell ⟨g, 3, none⟩ v3).setCell ⟨g, 4, none⟩ v4).heap[g]? = some (.cells #[v0, v1, v2, v3, v4] t (0, 0)) :=
  heap_setCell_same _ g 4 #[v0, v1, v2, v3, a4] t v4 (heap_setCell_same _ g 3 #[v0, v1, v2, a3, a4] t v3 (heap_setCell_same _ g 2 #[v0, v1, a2, a3, a4] t v2 (heap_setCell_same _ g 1 #[v0, a1, a2, a3, a4] t v1 (heap_setCell_same _ g 0 _ t v0 h))))
end Go.Proofs.Ythogonpjkngpjaa

namespace Go.Proofs.Ythogonpjkngpjaa
set_option maxRecDepth 100000
open Go.RowKit
inductive Av where
  | cur | res | int | idx (n : Nat) | row (n : Nat) | cellp | ad | any
def gam (g r : Nat) : Av → World → Value → Prop
  | .cur, _, v => v = .pointer (some ⟨g, 0, none⟩)
  | .res, _, v => v = .pointer (some ⟨r, 0, none⟩)
  | .int, _, v => ∃ x : Int, v = .int .i64 x
  | .idx n, _, v => ∃ x : Nat, v = .int .i64 (x : Int) ∧ x < n
  | .row n, w, v => ∃ b, v = .slice (some ⟨b, 0, none⟩) n n ∧ b ≠ g ∧ b ≠ r ∧ ∀ j, j < n → ∃ x : Int, w.cell? ⟨b, j, none⟩ = some (.int .i64 x)
  | .cellp, w, v => ∃ b j, v = .pointer (some ⟨b, j, none⟩) ∧ b ≠ g ∧ b ≠ r ∧ ∃ x : Int, w.cell? ⟨b, j, none⟩ = some (.int .i64 x)
  | .ad, _, v => ∃ x : Ad, v = .agg #[.int .i64 x.k, .int .i64 x.a, .int .i64 x.b, .int .i64 x.c, .int .i64 x.d]
  | .any, _, _ => True
def Turned (g r : Nat) (w w' : World) : Prop := w.heap.size ≤ w'.heap.size ∧ ∀ i, i < w.heap.size → i ≠ g → i ≠ r → w'.heap[i]? = w.heap[i]?
theorem Turned.cell {g r : Nat} {w w' : World} (h : Turned g r w w') {b j : Nat} {v : Value} (hg : b ≠ g) (hr : b ≠ r) (hc : w.cell? ⟨b, j, none⟩ = some v) : w'.cell? ⟨b, j, none⟩ = some v := by
  have hb : b < w.heap.size := World.block_lt_of_cell? _ _ hc
  rw [← hc]
  unfold World.cell?
  simp only [h.2 b hb hg hr]
theorem Turned.refl (g r : Nat) (w : World) : Turned g r w w := ⟨Nat.le_refl _, fun _ _ _ _ => rfl⟩
theorem Turned.of_grown {g r : Nat} {w w' : World} (h : w.grownBy w' (some g)) : Turned g r w w' := ⟨h.size, fun i hi h1 _ => h.block i hi (fun e => h1 (Option.some.inj e))⟩
theorem Turned.alloc (g r : Nat) (w : World) (o : Obj) : Turned g r w (w.alloc o) := ⟨by simp, fun i hi _ _ => Below.heap_alloc w o i hi⟩
theorem gam_on {g r : Nat} {w w' : World} (h : Turned g r w w') (t : Av) (v : Value) (hv : gam g r t w v) : gam g r t w' v := by
  cases t with
  | row n =>
    obtain ⟨b, h1, h2, h3, h4⟩ := hv
    refine ⟨b, h1, h2, h3, fun j hj => ?_⟩
    obtain ⟨x, hx⟩ := h4 j hj
    exact ⟨x, h.cell h2 h3 hx⟩
  | cellp =>
    obtain ⟨b, j, h1, h2, h3, x, hx⟩ := hv
    exact ⟨b, j, h1, h2, h3, x, h.cell h2 h3 hx⟩
  | _ => exact hv
section
variable {o : Oper} {a : Act} {w : World} {K : Act → World → Prop} {Q : Exit → Act → World → Prop}
end
def InReg (W : World) (g r : Nat) (A : Option Addr) (c : Nat) (bs : List UInt8) (t : Nat) (k : Nat) (w : World) : Prop :=
  (∃ t', t' ≤ t + 4 * k ∧ Cur w g A c bs t') ∧ (∃ x : Ad, w.heap[r]? = some (.cells #[.int .i64 x.k, .int .i64 x.a, .int .i64 x.b, .int .i64 x.c, .int .i64 x.d] 27 (0, 0))) ∧ W.grownBy w (some g)
section
variable {W w w' : World} {g r : Nat} {A : Option Addr} {c : Nat} {bs : List UInt8} {t k : Nat}
theorem InReg.more (h : InReg W g r A c bs t k w) : InReg W g r A c bs t (k + 1) w := by
  obtain ⟨⟨t', h1, h2⟩, h3, h4⟩ := h
  exact ⟨⟨t', by omega, h2⟩, h3, h4⟩
theorem InReg.alloc (h : InReg W g r A c bs t k w) (o : Obj) : InReg W g r A c bs t (k + 1) (w.alloc o) := by
  obtain ⟨⟨t', h1, h2⟩, ⟨x, hx⟩, h4⟩ := h
  refine ⟨⟨t', by omega, h2.below (Joins.below_alloc1 w o)⟩, ⟨x, (Below.heap_alloc w o r (Array.getElem?_eq_some_iff.1 hx).1).trans hx⟩, only_new h4 o⟩
theorem InReg.drawn (h : InReg W g r A c bs t k w) (hg : w.grownBy w' (some g)) (hrg : r ≠ g) {t' : Nat} (ht : t' ≤ t + 4 * (k + 1)) (hc : Cur w' g A c bs t') : InReg W g r A c bs t (k + 1) w' := by
  obtain ⟨_, ⟨x, hx⟩, h4⟩ := h
  exact ⟨⟨t', ht, hc⟩, ⟨x, (hg.block r (Array.getElem?_eq_some_iff.1 hx).1 (fun e => hrg (Option.some.inj e))).trans hx⟩, grownBy_trans h4 hg⟩
end
end Go.Proofs.Ythogonpjkngpjaa

namespace Go.Proofs.Ythogonpjkngpjaa
set_option maxRecDepth 100000
open Go.RowKit
section
variable {o : Oper} {a : Act} {w : World} {K : Act → World → Prop} {Q : Exit → Act → World → Prop}
end
end Go.Proofs.Ythogonpjkngpjaa

namespace Go.Proofs.Ythogonpjkngpjaa
set_option maxRecDepth 100000
open Go.RowKit
section
variable {o : Oper} {a : Act} {w : World} {K : Act → World → Prop} {Q : Exit → Act → World → Prop}
end
end Go.Proofs.Ythogonpjkngpjaa

namespace Go.Proofs.Ythogonpjkngpjaa
set_option maxRecDepth 100000
open Go.RowKit
theorem info_up : (Try.prog.info? 36).map (·.size) = some 14 := by kernel_rfl
theorem loadU {ops : Array Oper} {rest : List Oper} {o : Oper} {a : Act} {w : World} {Q : Exit → Act → World → Prop} (hgd : o.guard = none) (x : Operand) (ho : o.op = .load 36 x) (g : Nat) (hx : a.eval x = .pointer (some ⟨g, 0, none⟩)) {t : TypeId} {v0 v1 v2 v3 v4 v5 v6 v7 v8 v9 v10 v11 v12 v13 : Value}
    (hg : w.heap[g]? = some (.cells #[v0, v1, v2, v3, v4, v5, v6, v7, v8, v9, v10, v11, v12, v13] t (0, 0))) (h : wpList Try.prog ops Q rest (a.put o.dst (.agg #[v0, v1, v2, v3, v4, v5, v6, v7, v8, v9, v10, v11, v12, v13])) w) : wpList Try.prog ops Q (o :: rest) a w :=
  wpList_load_row hgd 36 x ho g hx t _ (0, 0) _ hg Try.underlying36 rfl info_up h
theorem storeU {ops : Array Oper} {rest : List Oper} {o : Oper} {a : Act} {w : World} {Q : Exit → Act → World → Prop} (hgd : o.guard = none) (x y : Operand) (ho : o.op = .store 36 x y) (g : Nat) {n0 n1 n2 n3 n4 n5 n6 n7 n8 n9 n10 : Int} {bb : Bool} {A D : Option Addr} {l c m d : Nat} (hx : a.eval x = .pointer (some ⟨g, 0, none⟩)) (hy : a.eval y = .agg #[.int .i64 n0, .int .i64 n1, .int .i64 n2, .int .i64 n3, .int .i64 n4, .int .i64 n5, .int .i64 n6, .int .i64 n7, .int .i64 n8, .int .i64 n9, .int .i64 n10, .bool bb, .slice A l c, .slice D m d]) {t : TypeId} {u0 u1 u2 u3 u4 u5 u6 u7 u8 u9 u10 u11 u12 u13 : Value}
    (hg : w.heap[g]? = some (.cells #[u0, u1, u2, u3, u4, u5, u6, u7, u8, u9, u10, u11, u12, u13] t (0, 0))) (h : wpList Try.prog ops Q rest (a.put o.dst undef) (w.setRow g #[.int .i64 n0, .int .i64 n1, .int .i64 n2, .int .i64 n3, .int .i64 n4, .int .i64 n5, .int .i64 n6, .int .i64 n7, .int .i64 n8, .int .i64 n9, .int .i64 n10, .bool bb, .slice A l c, .slice D m d])) : wpList Try.prog ops Q (o :: rest) a w :=
  wpList_store_row hgd 36 x y ho g _ hx hy t _ hg info_up rfl (by simp [Value.oneCell']) h
theorem storeNewU {ops : Array Oper} {rest : List Oper} {o : Oper} {a : Act} {w : World} {Q : Exit → Act → World → Prop} (hgd : o.guard = none) (x y : Operand) (ho : o.op = .store 36 x y) {n0 n1 n2 n3 n4 n5 n6 n7 n8 n9 n10 : Int} {bb : Bool} {A D : Option Addr} {l c m d : Nat} (hx : a.eval x = .pointer (some ⟨w.heap.size, 0, none⟩)) (hy : a.eval y = .agg #[.int .i64 n0, .int .i64 n1, .int .i64 n2, .int .i64 n3, .int .i64 n4, .int .i64 n5, .int .i64 n6, .int .i64 n7, .int .i64 n8, .int .i64 n9, .int .i64 n10, .bool bb, .slice A l c, .slice D m d])
    (h : wpList Try.prog ops Q rest (a.put o.dst undef) (w.alloc (.cells #[.int .i64 n0, .int .i64 n1, .int .i64 n2, .int .i64 n3, .int .i64 n4, .int .i64 n5, .int .i64 n6, .int .i64 n7, .int .i64 n8, .int .i64 n9, .int .i64 n10, .bool bb, .slice A l c, .slice D m d] 36))) : wpList Try.prog ops Q (o :: rest) a (w.alloc (.cells #[.int .i64 0, .int .i64 0, .int .i64 0, .int .i64 0, .int .i64 0, .int .i64 0, .int .i64 0, .int .i64 0, .int .i64 0, .int .i64 0, .int .i64 0, .bool false, .slice none 0 0, .slice none 0 0] 36)) := by
  refine storeU hgd x y ho w.heap.size hx hy (K.new w _) ?_
  rw [World.setRow_alloc_new]
  exact h
theorem resU {fn : Func} {p : Tmp} (h : fn.results = #[.cell p 36]) (tmps : Array Value) (w : World) (g : Nat) {t : TypeId} {v0 v1 v2 v3 v4 v5 v6 v7 v8 v9 v10 v11 v12 v13 : Value} (hp : tmps.getD p undef = .pointer (some ⟨g, 0, none⟩)) (hg : w.heap[g]? = some (.cells #[v0, v1, v2, v3, v4, v5, v6, v7, v8, v9, v10, v11, v12, v13] t (0, 0))) :
    (results fn tmps).run Try.prog w = .ok (.agg #[v0, v1, v2, v3, v4, v5, v6, v7, v8, v9, v10, v11, v12, v13]) w :=
  results_cell_row h tmps w g t _ (0, 0) _ hp hg Try.underlying36 rfl info_up
end Go.Proofs.Ythogonpjkngpjaa
