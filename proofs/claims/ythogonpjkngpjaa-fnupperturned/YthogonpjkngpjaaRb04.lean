/-
  The program's sixteen bytes of an address: packed, unpacked, firstBits. The program's sixteen bytes of an address: unpacked, firstBits. AddrBytes, AddrOf and Cut in the program. AddrOf in the program and in the model. The steps of a region that draws numbers off a cursor and puts them together: what each operation leaves. The region in which the laws compare a packet with a new copy: it draws its order. The region in which a law compares a variable with a new copy of its argument: it draws its order. For any struct, any copy, any comparison. The laws' own helpers on upper layers: whole loads and stores, a size. The marking of an IPv4 packet whose options take up all the room that the laws allow. The model's draw of an upper layer, number by number. The model's draw of an upper layer, number by number.
-/
import Derived.Test.YthogonpjkngpjaaRb03
import Derived.Laws.CopyOwn
import Derived.Laws.Rows
import Derived.Deep.WholeRow
import Derived.Deep.OwnRows
import Derived.Laws.ResultCell
import Derived.Test.YthogonpjkngpjaaRb01
import Derived.Laws.Tables
import Derived.Test.YthogonpjkngpjaaRb02
import Derived.Deep.Cut
namespace Go.Proofs.Ythogonpjkngpjaa
set_option maxRecDepth 100000
open Go.RowKit

def Ad.part (x : Ad) (i : Nat) : Int := match i with | 0 => x.a | 1 => x.b | 2 => x.c | _ => x.d
def Ad.fill (x : Ad) (i : Nat) : List UInt8 := x.whole.take (4 * i) ++ List.replicate (16 - 4 * i) 0
theorem four_cases {i : Nat} (h : i < 4) : i = 0 ∨ i = 1 ∨ i = 2 ∨ i = 3 := by omega
theorem index_part (x : Ad) (i : Nat) (h : i < 4) (w : World) :
    (Instr.index 130 (.agg #[.int .i64 x.a, .int .i64 x.b, .int .i64 x.c, .int .i64 x.d]) (.int .i64 (i : Int))).run Try.prog w = .ok (.int .i64 (x.part i)) w := by
  rcases four_cases h with rfl | rfl | rfl | rfl <;> rfl
theorem fill_splice (x : Ad) (i : Nat) (h : i < 4) : splice (cellsOf (x.fill i)) (4 * i) (cellsOf (put32 (x.part i))) = cellsOf (x.fill (i + 1)) := by
  rcases four_cases h with rfl | rfl | rfl | rfl <;> simp [splice, Ad.fill, Ad.whole, put32, cellsOf, Ad.part]
theorem fill_length (x : Ad) (i : Nat) (h : i ≤ 4) : (x.fill i).length = 16 := by
  simp [Ad.fill, Ad.whole_length]
  omega
theorem fill_end (x : Ad) : x.fill 4 = x.whole := by simp [Ad.fill, Ad.whole, put32]
theorem info_arr : (Try.prog.info? 124).map (·.size) = some 16 := by kernel_rfl
theorem info_u8s : (Try.prog.info? 5).map (·.size) = some 1 := by kernel_rfl

theorem slice_arr (g m : Nat) (h : m < 16) (w : World) : (Instr.sliceAt 124 (.pointer (some ⟨g, 0, none⟩)) (some (.int .i64 (m : Int))) none none).run Try.prog w = .ok (.slice (some ⟨g, m, none⟩) (16 - m) (16 - m)) w := by
  obtain ⟨i0, hi0, hz0, hz1, hz2⟩ := info_parts info_u8
  have e : Try.prog.elem 124 = 5 := by kernel_rfl
  have el : Try.prog.arrayLen 124 = 16 := by kernel_rfl
  rw [run_sliceAt_array_l w _ _ (by kernel_rfl) .i64 (m : Int) (by omega) (by rw [el]; omega)]
  simp [e, el, sizeOf, typeInfo, hi0, slicedAt, hz1, addr_add]
  omega
theorem row_on {a b : World} {B g : Nat} {o : Obj} (h : Below B a b) (hg : g < B) (hr : a.heap[g]? = some o) : b.heap[g]? = some o := (h.block g hg).trans hr
theorem row_lt {a : World} {g : Nat} {o : Obj} (h : a.heap[g]? = some o) : g < a.heap.size := (Array.getElem?_eq_some_iff.1 h).1

theorem row_new2 (w : World) (a b c : Obj) : (((w.alloc a).alloc b).alloc c).heap[w.heap.size + 1]? = some b := by
  have h := heap_alloc_new (w.alloc a) b
  have e : (w.alloc a).heap.size = w.heap.size + 1 := by simp
  have e2 : ((w.alloc a).alloc b).heap.size = w.heap.size + 1 + 1 := by simp
  rw [e] at h
  exact (Go.heap_alloc_old ((w.alloc a).alloc b) c (by omega)).trans h
theorem row_new3 (w : World) (a b c : Obj) : (((w.alloc a).alloc b).alloc c).heap[w.heap.size + 1 + 1]? = some c := by
  have h := heap_alloc_new ((w.alloc a).alloc b) c
  have e2 : ((w.alloc a).alloc b).heap.size = w.heap.size + 1 + 1 := by simp
  rwa [e2] at h
theorem own_src {w : World} {base : Nat} {e : TypeId} {g n c : Nat} {xs : List Value} (h : w.ownsRow base e 1 (.slice (some ⟨g, 0, none⟩) n c) n xs) : ∀ j v, xs[j]? = some v → w.cell? ((⟨g, 0, none⟩ : Addr).add j) = some v := by
  intro j v hv
  have hl := h.1
  have hj : j < xs.length := by
    rcases Nat.lt_or_ge j xs.length with hj | hj
    · exact hj
    · rw [List.getElem?_eq_none hj] at hv; cases hv
  rw [addr_add, Nat.zero_add, h.cellAt j (by omega)]
  exact hv
theorem cells_size (bs : List UInt8) : (cellsOf bs).toArray.size = bs.length := by simp [cellsOf]
theorem store_cells (w : World) (g : Nat) (t : TypeId) (old : Array Value) (bs : List UInt8) (hg : w.heap[g]? = some (.cells old t (0, 0))) (hl : old.size = bs.length) :
    (storeCells ⟨g, 0, none⟩ (cellsOf bs)).run Try.prog w = .ok () (w.setRow g (cellsOf bs).toArray) := by
  have := run_storeCells_from (P := Try.prog) g t (cellsOf bs) 0 old w hg (by rw [cellsOf_length]; omega) (cellsOf_one bs)
  simpa using this
set_option maxHeartbeats 400000 in
theorem packedC (x : Ad) (w : World) : Calls Try.prog 113 #[.agg #[.int .i64 x.k, .int .i64 x.a, .int .i64 x.b, .int .i64 x.c, .int .i64 x.d]] w fun e w' => e = .returned (.agg (cellsOf x.whole).toArray) ∧ Below w.heap.size w w' := by
  go_enter Try.func113, Try.ntmps113
  go_wp2_with fail
  go_loopw [15] (fun s wr => ∃ i : Nat, i ≤ 4 ∧ s = .int .i64 i ∧ wr.heap[w.heap.size + 1]? = some (.cells (cellsOf (List.replicate 16 0)).toArray 124 (0, 0)) ∧ wr.heap[w.heap.size + 1 + 1]? = some (.cells (cellsOf (x.fill i)).toArray 124 (0, 0)) ∧ Below w.heap.size w wr) (fun s _ => 4 - (intOf s).toNat)
  case atStart =>
    refine ⟨0, by omega, rfl, ?_, ?_, by go_grown⟩
    · exact row_new2 w _ _ _
    · exact row_new3 w _ _ _
  case round =>
    obtain ⟨i, hi, rfl, h1, h2, hb⟩ := hrel
    by_cases hlt : i < 4
    · have hidx := index_part x i hlt
      obtain ⟨y, hy⟩ : ∃ y, y = x.part i := ⟨_, rfl⟩
      rw [← hy] at hidx
      have HY := Lib.hid hy
      have H1 := Lib.hid h1
      have H2 := Lib.hid h2
      clear hy h1 h2
      obtain ⟨m, hm⟩ : ∃ m : Nat, m = 4 * i := ⟨_, rfl⟩
      have hm16 : m < 16 := by omega
      have hm12 : m ≤ 12 := by omega
      have hw : IntKind.i64.wrap (4 * (i : Int)) = (m : Int) := by rw [IntKind.wrap_i64]; omega
      have hsl := slice_arr (w.heap.size + 1 + 1) m hm16
      have HM := Lib.hid hm
      have hl : w.heap.size + 1 + 1 < wr.heap.size := row_lt H2.out
      clear hm
      go_wp2_with fail
      go_region_law (first | (go_simp; go_at_call 74; refine (implPut32 y _).mono ?_; rintro e w2 ⟨rfl, o2, b2⟩) | (refine step_copy_splice (by rfl) (.tmp 21) (.tmp 23) 34 34 (by rfl) 5 Try.underlying34 info_u8s (some ⟨w.heap.size + 1 + 1, m, none⟩) _ (16 - m) (16 - m) 4 4 (by rfl) (by rfl) (w.heap.size + 1 + 1) m (cellsOf (x.fill i)) 124 (row_on b2 (row_lt H2.out) H2.out) (cellsOf (put32 y)) (by rw [cellsOf_length, put32_length]; exact (Nat.min_eq_left (by omega)).symm) (fun _ => ⟨rfl, _, rfl, own_src o2⟩) (by rw [cellsOf_length, cellsOf_length, put32_length, fill_length x i hi]; omega) (cellsOf_one _) (w.heap.size + 1 + 1) wr ((undrew b2).mono (Nat.le_of_lt hl)) (Nat.le_refl _) ?_; intro w4 hg4 hb4))
      go_wp2
      go_roundw
      case rel =>
        refine ⟨i + 1, by omega, by go_num, row_on hb4 (by omega) H1.out, ?_, hb.trans (hb4.mono (by omega))⟩
        rw [← fill_splice x i hlt, ← HM.out, ← HY.out]
        exact hg4.out
      case measure => simp [intOf]; omega
    · obtain rfl : i = 4 := by omega
      rw [fill_end] at h2
      have H1 := Lib.hid h1
      have H2 := Lib.hid h2
      clear h1 h2
      have hs16 := cells_size x.whole
      rw [x.whole_length] at hs16
      have HS := Lib.hid hs16
      clear hs16
      have hst := store_cells wr (w.heap.size + 1) 124 _ x.whole H1.out (by rw [x.whole_length]; rfl)
      go_wp2_with (with_reducible refine wpList_load_row rfl 124 (.tmp 3) rfl (w.heap.size + 1 + 1) rfl 124 (cellsOf x.whole).toArray (0, 0) _ H2.out Try.underlying124 rfl (by rw [HS.out]; exact info_arr) ?_)
      (try simp only [Exit.inBlock, Exit.then])
      refine bodyPost_ret (v := .agg (cellsOf x.whole).toArray) ?_ rfl ⟨rfl, below_setRow hb (by omega) _⟩
      exact results_cell_row rfl _ _ (w.heap.size + 1) 124 (cellsOf x.whole).toArray (0, 0) _ rfl (setRow_heap _ _ _ _ _ _ H1.out) Try.underlying124 rfl (by rw [HS.out]; exact info_arr)
end Go.Proofs.Ythogonpjkngpjaa

namespace Go.Proofs.Ythogonpjkngpjaa
set_option maxRecDepth 100000
open Go.RowKit

theorem bits_is (x : Ad) (h : x.ok = true) (w : World) : Calls Try.prog 114 #[.int .i64 x.k] w fun e w' => e = .returned (.int .i64 x.bits) ∧ w = w' := bitsOfC x.k (x.ok_kind h) w
end Go.Proofs.Ythogonpjkngpjaa

namespace Go.Proofs.Ythogonpjkngpjaa
set_option maxRecDepth 100000
open Go.RowKit

theorem own_of_row {w : World} {base g n : Nat} {e : TypeId} {xs : List Value} (h : w.heap[g]? = some (.cells xs.toArray e (0, 0))) (hb : base ≤ g) (hn : xs.length = n) (hm : n ≤ maxLen) : w.ownsRow base e 1 (.slice (some ⟨g, 0, none⟩) n n) n xs := by
  refine ⟨by omega, .inr ⟨g, n, xs.toArray, rfl, hb, h, Nat.le_refl _, hm, by simp; omega, ?_⟩⟩
  rw [List.take_of_length_le (by simp; omega)]

theorem whole_back4 {x : Ad} (h : x.a = 0 ∧ x.b = 0 ∧ x.c = 0) (j : Nat) (v : Value) (hv : (cellsOf (put32 x.d))[j]? = some v) : (cellsOf x.whole)[12 + j]? = some v := by
  rw [whole_four h, cellsOf_append, List.getElem?_append_right (by simp [cellsOf])]
  simpa [cellsOf] using hv

theorem make_bytes (n : Nat) (hn : n ≤ 1048576) (w : World) : (Instr.makeSlice 34 (.int .i64 (n : Int)) (.int .i64 (n : Int))).run Try.prog w = .ok (.slice (some ⟨w.heap.size, 0, none⟩) n n) (w.alloc (.cells (cellsOf (List.replicate n 0)).toArray 5)) := by
  have h := Go.run_make_row' (P := Try.prog) 34 5 (.int .u8 0) 1 Try.underlying34 info_u8 rfl .i64 .i64 n (by omega) (by omega) w
  have e : madeCells #[Value.int .u8 0] n = (cellsOf (List.replicate n 0)).toArray := by
    have := toList_madeCells_one (.int .u8 0) n
    apply Array.toList_inj.1
    simpa [cellsOf] using this
  rw [h, e]

set_option maxHeartbeats 400000 in
theorem implAddrBytes_no (x : Ad) (h : x.ok = false) (w : World) : Calls Try.prog 77 #[.agg #[.int .i64 x.k, .int .i64 x.a, .int .i64 x.b, .int .i64 x.c, .int .i64 x.d]] w (BytesOut x w) := by
  have H := Lib.hid h
  clear h
  go_enter Try.func77, Try.ntmps77
  go_wp2_with fail
  refine (implAddrOk x _).mono ?_
  rintro e w1 ⟨rfl, b1⟩
  have h := H.out
  go_wp2
  go_ret
  exact bytesOut_no H.out (bthen (Joins.below_alloc1 w _) b1)

set_option maxHeartbeats 400000 in
theorem implAddrBytes_four (x : Ad) (h : x.ok = true) (hk : x.k = 4) (w : World) : Calls Try.prog 77 #[.agg #[.int .i64 x.k, .int .i64 x.a, .int .i64 x.b, .int .i64 x.c, .int .i64 x.d]] w (BytesOut x w) := by
  have H := Lib.hid (bytes_four h hk)
  have HZ := Lib.hid (x.ok_four h hk)
  have HK := Lib.hid (bits_is x h)
  have HB := Lib.hid (show x.bits = 32 by simp [Ad.bits, hk])
  have HH := Lib.hid h
  clear h hk
  go_enter Try.func77, Try.ntmps77
  go_wp2_with fail
  refine (implAddrOk x _).mono ?_
  rintro e w1 ⟨rfl, b1⟩
  obtain ⟨c0, c1, c2, c3, c4⟩ := ad_box b1
  have bb := bthen (Joins.below_alloc1 w _) b1
  have h := HH.out
  clear b1
  go_wp2_with fail
  refine (packedC x _).mono ?_
  rintro e w2 ⟨rfl, b2⟩
  have hst := store_cells (w2.alloc (.cells (cellsOf (List.replicate 16 0)).toArray 124)) w2.heap.size 124 _ x.whole (Go.heap_alloc_last _ _) (by rw [x.whole_length]; rfl)
  have hz : (cellsOf (List.replicate 16 0)).toArray = #[Value.int .u8 0, .int .u8 0, .int .u8 0, .int .u8 0, .int .u8 0, .int .u8 0, .int .u8 0, .int .u8 0, .int .u8 0, .int .u8 0, .int .u8 0, .int .u8 0, .int .u8 0, .int .u8 0, .int .u8 0, .int .u8 0] := rfl
  rw [World.setRow_alloc_new, hz] at hst
  have cA : (w2.alloc (.cells (cellsOf x.whole).toArray 124)).cell? ⟨w.heap.size, 0, none⟩ = some (.int .i64 x.k) := cell_on (Joins.below_alloc1 w2 _) (cell_on b2 c0)
  have hl16 : (cellsOf x.whole).length = 16 := by rw [cellsOf_length, x.whole_length]
  have B2 := bthen bb b2
  clear hz c0 c1 c2 c3 c4
  have hmk : ∀ w, (Instr.makeSlice 34 (.int .i64 4) (.int .i64 4)).run Try.prog w = .ok (.slice (some ⟨w.heap.size, 0, none⟩) 4 4) (w.alloc (.cells (cellsOf (List.replicate 4 0)).toArray 5)) := make_bytes 4 (by omega)
  have hsl := slice_arr w2.heap.size 12 (by omega)
  go_wp2_with (first | (go_at_call 114; refine (HK.out _).mono ?_; rintro e w' ⟨rfl, rfl⟩; rw [HB.out]) | (with_reducible refine wpList_copy_splice rfl (.tmp 15) (.tmp 19) 34 34 rfl 5 Try.underlying34 info_u8s _ _ _ _ _ _ rfl rfl (w2.heap.size + 1) 0 (cellsOf (List.replicate 4 0)) 5 ?_ (cellsOf (put32 x.d)) ?_ ?_ ?_ (cellsOf_one _) (w2.heap.size + 1) _ (Below.refl _ _) (Nat.le_refl _) ?_))
  · exact heap_alloc2_new w2 _ _
  · rfl
  · exact fun _ j v hv => whole_back4 HZ.out j v hv
  · simp [cellsOf, put32]
  · intro w4 hg4 hb4
    have hg : w4.heap[w2.heap.size + 1]? = some (.cells (cellsOf (put32 x.d)).toArray 5 (0, 0)) := by simpa [splice, cellsOf, put32] using hg4.out
    have o4 := Lib.hid (own_of_row (base := w2.heap.size + 1) hg (Nat.le_refl _) (show _ = 4 from rfl) (by decide))
    clear hg
    go_wp2
    go_ret
    exact bytesOut_yes H.out rfl o4.out (by have := B2.size; omega) ((bthen B2 (Joins.below_alloc2 w2 _ _)).trans (hb4.mono (by have := B2.size; omega)))
set_option maxHeartbeats 400000 in
theorem implAddrBytes_six (x : Ad) (h : x.ok = true) (hk : x.k = 6) (w : World) : Calls Try.prog 77 #[.agg #[.int .i64 x.k, .int .i64 x.a, .int .i64 x.b, .int .i64 x.c, .int .i64 x.d]] w (BytesOut x w) := by
  have H := Lib.hid (bytes_six h hk)
  have HK := Lib.hid (bits_is x h)
  have HB := Lib.hid (show x.bits = 128 by simp [Ad.bits, hk])
  have HH := Lib.hid h
  clear h hk
  go_enter Try.func77, Try.ntmps77
  go_wp2_with fail
  refine (implAddrOk x _).mono ?_
  rintro e w1 ⟨rfl, b1⟩
  obtain ⟨c0, c1, c2, c3, c4⟩ := ad_box b1
  have bb := bthen (Joins.below_alloc1 w _) b1
  have h := HH.out
  clear b1
  go_wp2_with fail
  refine (packedC x _).mono ?_
  rintro e w2 ⟨rfl, b2⟩
  have hst := store_cells (w2.alloc (.cells (cellsOf (List.replicate 16 0)).toArray 124)) w2.heap.size 124 _ x.whole (Go.heap_alloc_last _ _) (by rw [x.whole_length]; rfl)
  have hz : (cellsOf (List.replicate 16 0)).toArray = #[Value.int .u8 0, .int .u8 0, .int .u8 0, .int .u8 0, .int .u8 0, .int .u8 0, .int .u8 0, .int .u8 0, .int .u8 0, .int .u8 0, .int .u8 0, .int .u8 0, .int .u8 0, .int .u8 0, .int .u8 0, .int .u8 0] := rfl
  rw [World.setRow_alloc_new, hz] at hst
  have cA : (w2.alloc (.cells (cellsOf x.whole).toArray 124)).cell? ⟨w.heap.size, 0, none⟩ = some (.int .i64 x.k) := cell_on (Joins.below_alloc1 w2 _) (cell_on b2 c0)
  have hl16 : (cellsOf x.whole).length = 16 := by rw [cellsOf_length, x.whole_length]
  have B2 := bthen bb b2
  clear hz c0 c1 c2 c3 c4
  have hmk : ∀ w, (Instr.makeSlice 34 (.int .i64 16) (.int .i64 16)).run Try.prog w = .ok (.slice (some ⟨w.heap.size, 0, none⟩) 16 16) (w.alloc (.cells (cellsOf (List.replicate 16 0)).toArray 5)) := make_bytes 16 (by omega)
  have hsl := slice_arr w2.heap.size 0 (by omega)
  go_wp2_with (first | (go_at_call 114; refine (HK.out _).mono ?_; rintro e w' ⟨rfl, rfl⟩; rw [HB.out]) | (with_reducible refine wpList_copy_splice rfl (.tmp 15) (.tmp 19) 34 34 rfl 5 Try.underlying34 info_u8s _ _ _ _ _ _ rfl rfl (w2.heap.size + 1) 0 (cellsOf (List.replicate 16 0)) 5 ?_ (cellsOf x.whole) ?_ ?_ ?_ (cellsOf_one _) (w2.heap.size + 1) _ (Below.refl _ _) (Nat.le_refl _) ?_))
  · exact heap_alloc2_new w2 _ _
  · rfl
  · simp [cellsOf, Ad.whole, put32]
  · intro w4 hg4 hb4
    have hg : w4.heap[w2.heap.size + 1]? = some (.cells (cellsOf x.whole).toArray 5 (0, 0)) := by simpa [splice, cellsOf, Ad.whole, put32] using hg4.out
    have o4 := Lib.hid (own_of_row (base := w2.heap.size + 1) hg (Nat.le_refl _) (show _ = 16 from rfl) (by decide))
    clear hg
    go_wp2
    go_ret
    exact bytesOut_yes H.out rfl o4.out (by have := B2.size; omega) ((bthen B2 (Joins.below_alloc2 w2 _ _)).trans (hb4.mono (by have := B2.size; omega)))
theorem implAddrBytes (x : Ad) (w : World) : Calls Try.prog 77 #[.agg #[.int .i64 x.k, .int .i64 x.a, .int .i64 x.b, .int .i64 x.c, .int .i64 x.d]] w (BytesOut x w) := by
  cases h : x.ok
  · exact implAddrBytes_no x h w
  · rcases x.ok_kind h with hk | hk
    · exact implAddrBytes_four x h hk w
    · exact implAddrBytes_six x h hk w
end Go.Proofs.Ythogonpjkngpjaa

namespace Go.Proofs.Ythogonpjkngpjaa
set_option maxRecDepth 100000
open Go.RowKit

/-- The cells of a block of five that may be written. -/
theorem row5 {w : World} {g : Nat} {v0 v1 v2 v3 v4 : Value} {t : TypeId} (h : w.heap[g]? = some (.cells #[v0, v1, v2, v3, v4] t (0, 0))) :
    (w.cell? ⟨g, 0, none⟩ = some v0 ∧ w.cell? ⟨g, 1, none⟩ = some v1 ∧ w.cell? ⟨g, 2, none⟩ = some v2 ∧ w.cell? ⟨g, 3, none⟩ = some v3 ∧ w.cell? ⟨g, 4, none⟩ = some v4) ∧
      (w.frozen? ⟨g, 0, none⟩ = false ∧ w.frozen? ⟨g, 1, none⟩ = false ∧ w.frozen? ⟨g, 2, none⟩ = false ∧ w.frozen? ⟨g, 3, none⟩ = false ∧ w.frozen? ⟨g, 4, none⟩ = false) :=
  ⟨⟨cell_of_row w g 0 _ _ _ h, cell_of_row w g 1 _ _ _ h, cell_of_row w g 2 _ _ _ h, cell_of_row w g 3 _ _ _ h, cell_of_row w g 4 _ _ _ h⟩,
    ⟨frozen_of_row w g 0 _ _ h, frozen_of_row w g 1 _ _ h, frozen_of_row w g 2 _ _ h, frozen_of_row w g 3 _ _ h, frozen_of_row w g 4 _ _ h⟩⟩
theorem set5 {w : World} {g : Nat} {a0 a1 a2 a3 a4 : Value} {t : TypeId} (v0 v1 v2 v3 v4 : Value) (h : w.heap[g]? = some (.cells #[a0, a1, a2, a3, a4] t (0, 0))) :
    (((((w.setCell ⟨g, 0, none⟩ v0).setCell ⟨g, 1, none⟩ v1).setCell ⟨g, 2, none⟩ v2).setCell ⟨g, 3, none⟩ v3).setCell ⟨g, 4, none⟩ v4).heap[g]? = some (.cells #[v0, v1, v2, v3, v4] t (0, 0)) :=
  heap_setCell_same _ g 4 #[v0, v1, v2, v3, a4] t v4 (heap_setCell_same _ g 3 #[v0, v1, v2, a3, a4] t v3 (heap_setCell_same _ g 2 #[v0, v1, a2, a3, a4] t v2 (heap_setCell_same _ g 1 #[v0, a1, a2, a3, a4] t v1 (heap_setCell_same _ g 0 _ t v0 h))))
end Go.Proofs.Ythogonpjkngpjaa

namespace Go.Proofs.Ythogonpjkngpjaa
set_option maxRecDepth 100000
open Go.RowKit

/-- What a slot may hold: the cursor's pointer, the result's pointer, an integer, an index below n, a row of n integers, a pointer to an integer. -/
inductive Av where
  | cur | res | int | idx (n : Nat) | row (n : Nat) | cellp | ad | any
def gam (g r : Nat) : Av → World → Value → Prop
  | .cur, _, v => v = .pointer (some ⟨g, 0, none⟩)
  | .res, _, v => v = .pointer (some ⟨r, 0, none⟩)
  | .int, _, v => ∃ x : Int, v = .int .i64 x
  | .idx n, _, v => ∃ x : Nat, v = .int .i64 (x : Int) ∧ x < n
  | .row n, w, v => ∃ b, v = .slice (some ⟨b, 0, none⟩) n n ∧ b ≠ g ∧ b ≠ r ∧ ∀ j, j < n → ∃ x : Int, w.cell? ⟨b, j, none⟩ = some (.int .i64 x)
  | .cellp, w, v => ∃ b j, v = .pointer (some ⟨b, j, none⟩) ∧ b ≠ g ∧ b ≠ r ∧ ∃ x : Int, w.cell? ⟨b, j, none⟩ = some (.int .i64 x)
  | .ad, _, v => ∃ x : Ad, v = .agg #[.int .i64 x.k, .int .i64 x.a, .int .i64 x.b, .int .i64 x.c, .int .i64 x.d]
  | .any, _, _ => True
/-- Nothing has turned but the blocks g and r; there may be new ones. -/
def Turned (g r : Nat) (w w' : World) : Prop := w.heap.size ≤ w'.heap.size ∧ ∀ i, i < w.heap.size → i ≠ g → i ≠ r → w'.heap[i]? = w.heap[i]?
theorem Turned.cell {g r : Nat} {w w' : World} (h : Turned g r w w') {b j : Nat} {v : Value} (hg : b ≠ g) (hr : b ≠ r) (hc : w.cell? ⟨b, j, none⟩ = some v) : w'.cell? ⟨b, j, none⟩ = some v := by
  have hb : b < w.heap.size := World.block_lt_of_cell? _ _ hc
  rw [← hc]
  unfold World.cell?
  simp only [h.2 b hb hg hr]
theorem Turned.refl (g r : Nat) (w : World) : Turned g r w w := ⟨Nat.le_refl _, fun _ _ _ _ => rfl⟩
theorem Turned.of_grown {g r : Nat} {w w' : World} (h : w.grownBy w' (some g)) : Turned g r w w' := ⟨h.size, fun i hi h1 _ => h.block i hi (fun e => h1 (Option.some.inj e))⟩
theorem Turned.alloc (g r : Nat) (w : World) (o : Obj) : Turned g r w (w.alloc o) := ⟨by simp, fun i hi _ _ => Below.heap_alloc w o i hi⟩
theorem gam_on {g r : Nat} {w w' : World} (h : Turned g r w w') (t : Av) (v : Value) (hv : gam g r t w v) : gam g r t w' v := by
  cases t with
  | row n =>
    obtain ⟨b, h1, h2, h3, h4⟩ := hv
    refine ⟨b, h1, h2, h3, fun j hj => ?_⟩
    obtain ⟨x, hx⟩ := h4 j hj
    exact ⟨x, h.cell h2 h3 hx⟩
  | cellp =>
    obtain ⟨b, j, h1, h2, h3, x, hx⟩ := hv
    exact ⟨b, j, h1, h2, h3, x, h.cell h2 h3 hx⟩
  | _ => exact hv

section
variable {o : Oper} {a : Act} {w : World} {K : Act → World → Prop} {Q : Exit → Act → World → Prop}
end

/-- What stands in a region that draws numbers off the cursor in block g and lays an address into block r: W is the world at the call's begin. -/
def InReg (W : World) (g r : Nat) (A : Option Addr) (c : Nat) (bs : List UInt8) (t : Nat) (k : Nat) (w : World) : Prop :=
  (∃ t', t' ≤ t + 4 * k ∧ Cur w g A c bs t') ∧ (∃ x : Ad, w.heap[r]? = some (.cells #[.int .i64 x.k, .int .i64 x.a, .int .i64 x.b, .int .i64 x.c, .int .i64 x.d] 27 (0, 0))) ∧ W.grownBy w (some g)
section
variable {W w w' : World} {g r : Nat} {A : Option Addr} {c : Nat} {bs : List UInt8} {t k : Nat}
theorem InReg.more (h : InReg W g r A c bs t k w) : InReg W g r A c bs t (k + 1) w := by
  obtain ⟨⟨t', h1, h2⟩, h3, h4⟩ := h
  exact ⟨⟨t', by omega, h2⟩, h3, h4⟩
theorem InReg.alloc (h : InReg W g r A c bs t k w) (o : Obj) : InReg W g r A c bs t (k + 1) (w.alloc o) := by
  obtain ⟨⟨t', h1, h2⟩, ⟨x, hx⟩, h4⟩ := h
  refine ⟨⟨t', by omega, h2.below (Joins.below_alloc1 w o)⟩, ⟨x, (Below.heap_alloc w o r (Array.getElem?_eq_some_iff.1 hx).1).trans hx⟩, only_new h4 o⟩
theorem InReg.drawn (h : InReg W g r A c bs t k w) (hg : w.grownBy w' (some g)) (hrg : r ≠ g) {t' : Nat} (ht : t' ≤ t + 4 * (k + 1)) (hc : Cur w' g A c bs t') : InReg W g r A c bs t (k + 1) w' := by
  obtain ⟨_, ⟨x, hx⟩, h4⟩ := h
  exact ⟨⟨t', ht, hc⟩, ⟨x, (hg.block r (Array.getElem?_eq_some_iff.1 hx).1 (fun e => hrg (Option.some.inj e))).trans hx⟩, grownBy_trans h4 hg⟩
end
end Go.Proofs.Ythogonpjkngpjaa

namespace Go.Proofs.Ythogonpjkngpjaa
set_option maxRecDepth 100000
open Go.RowKit



section
variable {o : Oper} {a : Act} {w : World} {K : Act → World → Prop} {Q : Exit → Act → World → Prop}
end

end Go.Proofs.Ythogonpjkngpjaa

namespace Go.Proofs.Ythogonpjkngpjaa
set_option maxRecDepth 100000
open Go.RowKit

section
variable {o : Oper} {a : Act} {w : World} {K : Act → World → Prop} {Q : Exit → Act → World → Prop}
end

end Go.Proofs.Ythogonpjkngpjaa

namespace Go.Proofs.Ythogonpjkngpjaa
set_option maxRecDepth 100000
open Go.RowKit

theorem info_up : (Try.prog.info? 36).map (·.size) = some 14 := by kernel_rfl





theorem loadU {ops : Array Oper} {rest : List Oper} {o : Oper} {a : Act} {w : World} {Q : Exit → Act → World → Prop} (hgd : o.guard = none) (x : Operand) (ho : o.op = .load 36 x) (g : Nat) (hx : a.eval x = .pointer (some ⟨g, 0, none⟩)) {t : TypeId} {v0 v1 v2 v3 v4 v5 v6 v7 v8 v9 v10 v11 v12 v13 : Value}
    (hg : w.heap[g]? = some (.cells #[v0, v1, v2, v3, v4, v5, v6, v7, v8, v9, v10, v11, v12, v13] t (0, 0))) (h : wpList Try.prog ops Q rest (a.put o.dst (.agg #[v0, v1, v2, v3, v4, v5, v6, v7, v8, v9, v10, v11, v12, v13])) w) : wpList Try.prog ops Q (o :: rest) a w :=
  wpList_load_row hgd 36 x ho g hx t _ (0, 0) _ hg Try.underlying36 rfl info_up h

theorem storeU {ops : Array Oper} {rest : List Oper} {o : Oper} {a : Act} {w : World} {Q : Exit → Act → World → Prop} (hgd : o.guard = none) (x y : Operand) (ho : o.op = .store 36 x y) (g : Nat) {n0 n1 n2 n3 n4 n5 n6 n7 n8 n9 n10 : Int} {bb : Bool} {A D : Option Addr} {l c m d : Nat} (hx : a.eval x = .pointer (some ⟨g, 0, none⟩)) (hy : a.eval y = .agg #[.int .i64 n0, .int .i64 n1, .int .i64 n2, .int .i64 n3, .int .i64 n4, .int .i64 n5, .int .i64 n6, .int .i64 n7, .int .i64 n8, .int .i64 n9, .int .i64 n10, .bool bb, .slice A l c, .slice D m d]) {t : TypeId} {u0 u1 u2 u3 u4 u5 u6 u7 u8 u9 u10 u11 u12 u13 : Value}
    (hg : w.heap[g]? = some (.cells #[u0, u1, u2, u3, u4, u5, u6, u7, u8, u9, u10, u11, u12, u13] t (0, 0))) (h : wpList Try.prog ops Q rest (a.put o.dst undef) (w.setRow g #[.int .i64 n0, .int .i64 n1, .int .i64 n2, .int .i64 n3, .int .i64 n4, .int .i64 n5, .int .i64 n6, .int .i64 n7, .int .i64 n8, .int .i64 n9, .int .i64 n10, .bool bb, .slice A l c, .slice D m d])) : wpList Try.prog ops Q (o :: rest) a w :=
  wpList_store_row hgd 36 x y ho g _ hx hy t _ hg info_up rfl (by simp [Value.oneCell']) h

/-- An upper layer is stored into a variable that was just made. -/
theorem storeNewU {ops : Array Oper} {rest : List Oper} {o : Oper} {a : Act} {w : World} {Q : Exit → Act → World → Prop} (hgd : o.guard = none) (x y : Operand) (ho : o.op = .store 36 x y) {n0 n1 n2 n3 n4 n5 n6 n7 n8 n9 n10 : Int} {bb : Bool} {A D : Option Addr} {l c m d : Nat} (hx : a.eval x = .pointer (some ⟨w.heap.size, 0, none⟩)) (hy : a.eval y = .agg #[.int .i64 n0, .int .i64 n1, .int .i64 n2, .int .i64 n3, .int .i64 n4, .int .i64 n5, .int .i64 n6, .int .i64 n7, .int .i64 n8, .int .i64 n9, .int .i64 n10, .bool bb, .slice A l c, .slice D m d])
    (h : wpList Try.prog ops Q rest (a.put o.dst undef) (w.alloc (.cells #[.int .i64 n0, .int .i64 n1, .int .i64 n2, .int .i64 n3, .int .i64 n4, .int .i64 n5, .int .i64 n6, .int .i64 n7, .int .i64 n8, .int .i64 n9, .int .i64 n10, .bool bb, .slice A l c, .slice D m d] 36))) : wpList Try.prog ops Q (o :: rest) a (w.alloc (.cells #[.int .i64 0, .int .i64 0, .int .i64 0, .int .i64 0, .int .i64 0, .int .i64 0, .int .i64 0, .int .i64 0, .int .i64 0, .int .i64 0, .int .i64 0, .bool false, .slice none 0 0, .slice none 0 0] 36)) := by
  refine storeU hgd x y ho w.heap.size hx hy (K.new w _) ?_
  rw [World.setRow_alloc_new]
  exact h

theorem resU {fn : Func} {p : Tmp} (h : fn.results = #[.cell p 36]) (tmps : Array Value) (w : World) (g : Nat) {t : TypeId} {v0 v1 v2 v3 v4 v5 v6 v7 v8 v9 v10 v11 v12 v13 : Value} (hp : tmps.getD p undef = .pointer (some ⟨g, 0, none⟩)) (hg : w.heap[g]? = some (.cells #[v0, v1, v2, v3, v4, v5, v6, v7, v8, v9, v10, v11, v12, v13] t (0, 0))) :
    (results fn tmps).run Try.prog w = .ok (.agg #[v0, v1, v2, v3, v4, v5, v6, v7, v8, v9, v10, v11, v12, v13]) w :=
  results_cell_row h tmps w g t _ (0, 0) _ hp hg Try.underlying36 rfl info_up







end Go.Proofs.Ythogonpjkngpjaa

namespace Go.Proofs.Ythogonpjkngpjaa
set_option maxRecDepth 100000
open Go.RowKit

end Go.Proofs.Ythogonpjkngpjaa

namespace Go.Proofs.Ythogonpjkngpjaa
set_option maxRecDepth 100000
open Go.RowKit

theorem arr_U (l : List Int) (y : Nat) (u : Int) (h : l[y]? = some u) : (l.map fun z => Value.int .i64 z).toArray[y]? = some (.int .i64 u) := by simp [h]
/-- What a draw of an upper layer leaves. -/
def GivesUp (w : World) (g : Nat) (A : Option Addr) (c : Nat) (bs : List UInt8) (t' s' : Nat) (x : Uh) (os ds : List UInt8) (e : Ending) (w' : World) : Prop :=
  ∃ O oc D dc, e = .returned (.agg #[.int .i64 x.kind, .int .i64 x.sport, .int .i64 x.dport, .int .i64 x.seq, .int .i64 x.ack, .int .i64 x.bits, .int .i64 x.window, .int .i64 x.urgent, .int .i64 x.ty, .int .i64 x.code, .int .i64 x.rest, .bool x.nosum, .slice O os.length oc, .slice D ds.length dc]) ∧ w'.ownsRow w.heap.size 5 1 (.slice O os.length oc) os.length (cellsOf os) ∧ w'.ownsRow w.heap.size 5 1 (.slice D ds.length dc) ds.length (cellsOf ds) ∧ (∀ k, (Value.slice O os.length oc).ownBlock = some k → (Value.slice D ds.length dc).ownBlock ≠ some k) ∧ CurS w' g A c bs t' s' ∧ w.grownBy w' (some g)

set_option maxHeartbeats 8000000 in
theorem upE_0 (k : Int) (bs : List UInt8) (t s : Nat) (ht : t ≤ 700000000000) (ds : List UInt8) (t0 s0 : Nat) (hds : ds.length ≤ 40) (ht0 : t0 ≤ t + 40 + 1) (HB : Hid (∀ (w : World) (g : Nat) (A : Option Addr) (c : Nat), CurS w g A c bs t s → Calls Try.prog 109 #[.pointer (some ⟨g, 0, none⟩), .int .i64 (40 : Int)] w (GivesB w g A c bs t0 s0 ds))) : ∃ (x : Uh) (os ds : List UInt8) (t' s' : Nat), os.length ≤ 40 ∧ ds.length ≤ 40 ∧ t' ≤ t + 100 ∧ ∀ (w : World) (g : Nat) (A : Option Addr) (c : Nat), CurS w g A c bs t s → Calls Try.prog 95 #[.pointer (some ⟨g, 0, none⟩), .int .i64 0, .int .i64 k] w (GivesUp w g A c bs t' s' x os ds) := by
  obtain ⟨x1, s11, lo1, up1, hd1⟩ := pickE bs (t0) s0 3 (by omega) (by omega) (by omega)
  have H1 := Lib.hid hd1
  clear hd1
  obtain ⟨y1, rfl⟩ : ∃ k : Nat, x1 = k := ⟨x1.toNat, by omega⟩
  refine ⟨⟨0, 0, 0, 0, 0, 0, 0, 0, 0, 0, 0, false⟩, [], ds, t0 + 1, s11, by simp, by omega, by omega, fun w g A c hc0 => ?_⟩
  have hgl := hc0.lt
  have HC0 := Lib.hid (hc0.below (Joins.below_alloc1 w (.cells #[.int .i64 0, .int .i64 0, .int .i64 0, .int .i64 0, .int .i64 0, .int .i64 0, .int .i64 0, .int .i64 0, .int .i64 0, .int .i64 0, .int .i64 0, .bool false, .slice none 0 0, .slice none 0 0] 36)))
  have R0_ := Lib.hid (K.new w (.cells #[.int .i64 0, .int .i64 0, .int .i64 0, .int .i64 0, .int .i64 0, .int .i64 0, .int .i64 0, .int .i64 0, .int .i64 0, .int .i64 0, .int .i64 0, .bool false, .slice none 0 0, .slice none 0 0] 36))
  clear hc0
  have hy1 : (y1 : Int) < 3 := by omega
  go_enter Try.func95, Try.ntmps95
  go_wp2_with fail
  refine Calls.mono (HB.out _ g A c HC0.out) ?_
  rintro e w1 ⟨D0, d0, rfl, od, hc2, hg2⟩
  have hb : w.heap.size < w1.heap.size := by have := hg2.size; simp at this; omega
  have q1 := Lib.hid (K.new w1 (.cells #[.int .i64 0, .int .i64 0, .int .i64 0, .int .i64 0, .int .i64 0, .int .i64 0, .int .i64 0, .int .i64 0, .int .i64 0, .int .i64 0, .int .i64 0, .bool false, .slice none 0 0, .slice D0 ds.length d0] 36))
  have R1 := Lib.hid (K.old (K.kept hg2 R0_.out (fun k hk => by cases hk; omega)) (.cells #[.int .i64 0, .int .i64 0, .int .i64 0, .int .i64 0, .int .i64 0, .int .i64 0, .int .i64 0, .int .i64 0, .int .i64 0, .int .i64 0, .int .i64 0, .bool false, .slice none 0 0, .slice D0 ds.length d0] 36))
  have C1 := Lib.hid (hc2.below (Joins.below_alloc1 w1 (.cells #[.int .i64 0, .int .i64 0, .int .i64 0, .int .i64 0, .int .i64 0, .int .i64 0, .int .i64 0, .int .i64 0, .int .i64 0, .int .i64 0, .int .i64 0, .bool false, .slice none 0 0, .slice D0 ds.length d0] 36)))
  have G1 := Lib.hid (only_new (grownBy_trans (only_new (K.refl w (some g)) (.cells #[.int .i64 0, .int .i64 0, .int .i64 0, .int .i64 0, .int .i64 0, .int .i64 0, .int .i64 0, .int .i64 0, .int .i64 0, .int .i64 0, .int .i64 0, .bool false, .slice none 0 0, .slice none 0 0] 36)) hg2) (.cells #[.int .i64 0, .int .i64 0, .int .i64 0, .int .i64 0, .int .i64 0, .int .i64 0, .int .i64 0, .int .i64 0, .int .i64 0, .int .i64 0, .int .i64 0, .bool false, .slice none 0 0, .slice D0 ds.length d0] 36))
  have B1 := Lib.hid (World.ownsRow.alloc (own_base od (show w.heap.size + 1 ≤ _ by simp)) (.cells #[.int .i64 0, .int .i64 0, .int .i64 0, .int .i64 0, .int .i64 0, .int .i64 0, .int .i64 0, .int .i64 0, .int .i64 0, .int .i64 0, .int .i64 0, .bool false, .slice none 0 0, .slice D0 ds.length d0] 36))
  have NB := Lib.hid (fun k (hk : (Value.slice D0 ds.length d0).ownBlock = some k) => show k ≠ w1.heap.size by have := (od.lt k hk).2; omega)
  clear od hc2 hg2 HC0 R0_
  go_wp2_with (with_reducible refine storeNewU rfl _ _ rfl rfl rfl ?_)
  generalize (w1.alloc (.cells #[.int .i64 0, .int .i64 0, .int .i64 0, .int .i64 0, .int .i64 0, .int .i64 0, .int .i64 0, .int .i64 0, .int .i64 0, .int .i64 0, .int .i64 0, .bool false, .slice none 0 0, .slice D0 ds.length d0] 36)) = w2 at q1 R1 C1 G1 B1 ⊢
  refine Calls.mono (H1.out _ g A c C1.out) ?_
  rintro e w3 ⟨rfl, hc2, hg2⟩
  have q2 := Lib.hid (K.kept hg2 q1.out (fun k hk => by cases hk; omega))
  have R2 := Lib.hid (K.kept hg2 R1.out (fun k hk => by cases hk; omega))
  have C2 := Lib.hid hc2
  have G2 := Lib.hid (grownBy_trans G1.out hg2)
  have B2 := Lib.hid (own_grown B1.out hg2 (fun k h1 h2 => by cases h2; have := (B1.out.lt _ h1).1; omega))
  clear hc2 hg2 q1 R1 C1 G1 B1
  go_wp2_with (first | (with_reducible refine loadU rfl _ rfl w1.heap.size rfl q2.out ?_) | (with_reducible refine storeU rfl _ _ rfl w.heap.size rfl rfl R2.out ?_))
  (try simp only [Exit.inBlock, Exit.then])
  refine bodyPost_ret (v := .agg #[.int .i64 0, .int .i64 0, .int .i64 0, .int .i64 0, .int .i64 0, .int .i64 0, .int .i64 0, .int .i64 0, .int .i64 0, .int .i64 0, .int .i64 0, .bool false, .slice none 0 0, .slice D0 ds.length d0]) ?_ rfl ⟨none, 0, D0, d0, rfl, ?_, ?_, (fun _ h => by cases h), ?_, ?_⟩
  · exact resU Try.results95 _ _ w.heap.size rfl (setRow_heap _ _ _ _ _ _ R2.out)
  · exact ⟨rfl, .inl ⟨rfl, rfl⟩⟩
  · exact own_base (own_grown B2.out (K.setRow_grown _ _ _) (fun k h1 h2 => by cases h2; have := (B2.out.lt _ h1).1; omega)) (by omega)
  · exact C2.out.grownBy (K.setRow_grown _ _ _) (fun u hu => by cases hu; omega)
  · exact grown_other G2.out (K.setRow_grown _ _ _) (fun u hu => by cases hu; omega)

set_option maxHeartbeats 8000000 in
theorem upE_3 (k : Int) (bs : List UInt8) (t s : Nat) (ht : t ≤ 700000000000) (ds : List UInt8) (t0 s0 : Nat) (hds : ds.length ≤ 40) (ht0 : t0 ≤ t + 40 + 1) (HB : Hid (∀ (w : World) (g : Nat) (A : Option Addr) (c : Nat), CurS w g A c bs t s → Calls Try.prog 109 #[.pointer (some ⟨g, 0, none⟩), .int .i64 (40 : Int)] w (GivesB w g A c bs t0 s0 ds))) : ∃ (x : Uh) (os ds : List UInt8) (t' s' : Nat), os.length ≤ 40 ∧ ds.length ≤ 40 ∧ t' ≤ t + 100 ∧ ∀ (w : World) (g : Nat) (A : Option Addr) (c : Nat), CurS w g A c bs t s → Calls Try.prog 95 #[.pointer (some ⟨g, 0, none⟩), .int .i64 3, .int .i64 k] w (GivesUp w g A c bs t' s' x os ds) := by
  obtain ⟨x1, s11, lo1, up1, hd1⟩ := pickE bs (t0) s0 3 (by omega) (by omega) (by omega)
  have H1 := Lib.hid hd1
  clear hd1
  obtain ⟨y1, rfl⟩ : ∃ k : Nat, x1 = k := ⟨x1.toNat, by omega⟩
  obtain ⟨x2, s12, lo2, up2, hd2⟩ := pickE bs (t0 + 1) s11 5 (by omega) (by omega) (by omega)
  have H2 := Lib.hid hd2
  clear hd2
  obtain ⟨y2, rfl⟩ : ∃ k : Nat, x2 = k := ⟨x2.toNat, by omega⟩
  obtain ⟨u2, hu2⟩ : ∃ a, ([0, 8, 3, 128, 255] : List Int)[y2]? = some a := ⟨_, List.getElem?_eq_getElem (by simp; omega)⟩
  have HU2 := Lib.hid hu2
  clear hu2
  obtain ⟨x3, s13, lo3, up3, hd3⟩ := pickE bs (t0 + 1 + 1) s12 4 (by omega) (by omega) (by omega)
  have H3 := Lib.hid hd3
  clear hd3
  obtain ⟨x4, s14, lo4, up4, hd4⟩ := wideE bs (t0 + 1 + 1 + 1) s13 16777216 (by omega) (by omega) (by omega)
  have H4 := Lib.hid hd4
  clear hd4
  refine ⟨⟨3, 0, 0, 0, 0, 0, 0, 0, u2, x3, (x4 * 3), false⟩, [], ds, t0 + 1 + 1 + 1 + 3, s14, by simp, by omega, by omega, fun w g A c hc0 => ?_⟩
  have hgl := hc0.lt
  have HC0 := Lib.hid (hc0.below (Joins.below_alloc1 w (.cells #[.int .i64 0, .int .i64 0, .int .i64 0, .int .i64 0, .int .i64 0, .int .i64 0, .int .i64 0, .int .i64 0, .int .i64 0, .int .i64 0, .int .i64 0, .bool false, .slice none 0 0, .slice none 0 0] 36)))
  have R0_ := Lib.hid (K.new w (.cells #[.int .i64 0, .int .i64 0, .int .i64 0, .int .i64 0, .int .i64 0, .int .i64 0, .int .i64 0, .int .i64 0, .int .i64 0, .int .i64 0, .int .i64 0, .bool false, .slice none 0 0, .slice none 0 0] 36))
  clear hc0
  have m1 : IntKind.i64.wrap (x4 * 3) = x4 * 3 := by rw [IntKind.wrap_i64]; omega
  have hy1 : (y1 : Int) < 3 := by omega
  go_enter Try.func95, Try.ntmps95
  go_wp2_with fail
  refine Calls.mono (HB.out _ g A c HC0.out) ?_
  rintro e w1 ⟨D0, d0, rfl, od, hc2, hg2⟩
  have hb : w.heap.size < w1.heap.size := by have := hg2.size; simp at this; omega
  have q1 := Lib.hid (K.new w1 (.cells #[.int .i64 3, .int .i64 0, .int .i64 0, .int .i64 0, .int .i64 0, .int .i64 0, .int .i64 0, .int .i64 0, .int .i64 0, .int .i64 0, .int .i64 0, .bool false, .slice none 0 0, .slice D0 ds.length d0] 36))
  have R1 := Lib.hid (K.old (K.kept hg2 R0_.out (fun k hk => by cases hk; omega)) (.cells #[.int .i64 3, .int .i64 0, .int .i64 0, .int .i64 0, .int .i64 0, .int .i64 0, .int .i64 0, .int .i64 0, .int .i64 0, .int .i64 0, .int .i64 0, .bool false, .slice none 0 0, .slice D0 ds.length d0] 36))
  have C1 := Lib.hid (hc2.below (Joins.below_alloc1 w1 (.cells #[.int .i64 3, .int .i64 0, .int .i64 0, .int .i64 0, .int .i64 0, .int .i64 0, .int .i64 0, .int .i64 0, .int .i64 0, .int .i64 0, .int .i64 0, .bool false, .slice none 0 0, .slice D0 ds.length d0] 36)))
  have G1 := Lib.hid (only_new (grownBy_trans (only_new (K.refl w (some g)) (.cells #[.int .i64 0, .int .i64 0, .int .i64 0, .int .i64 0, .int .i64 0, .int .i64 0, .int .i64 0, .int .i64 0, .int .i64 0, .int .i64 0, .int .i64 0, .bool false, .slice none 0 0, .slice none 0 0] 36)) hg2) (.cells #[.int .i64 3, .int .i64 0, .int .i64 0, .int .i64 0, .int .i64 0, .int .i64 0, .int .i64 0, .int .i64 0, .int .i64 0, .int .i64 0, .int .i64 0, .bool false, .slice none 0 0, .slice D0 ds.length d0] 36))
  have B1 := Lib.hid (World.ownsRow.alloc (own_base od (show w.heap.size + 1 ≤ _ by simp)) (.cells #[.int .i64 3, .int .i64 0, .int .i64 0, .int .i64 0, .int .i64 0, .int .i64 0, .int .i64 0, .int .i64 0, .int .i64 0, .int .i64 0, .int .i64 0, .bool false, .slice none 0 0, .slice D0 ds.length d0] 36))
  have NB := Lib.hid (fun k (hk : (Value.slice D0 ds.length d0).ownBlock = some k) => show k ≠ w1.heap.size by have := (od.lt k hk).2; omega)
  clear od hc2 hg2 HC0 R0_
  go_wp2_with (with_reducible refine storeNewU rfl _ _ rfl rfl rfl ?_)
  generalize (w1.alloc (.cells #[.int .i64 3, .int .i64 0, .int .i64 0, .int .i64 0, .int .i64 0, .int .i64 0, .int .i64 0, .int .i64 0, .int .i64 0, .int .i64 0, .int .i64 0, .bool false, .slice none 0 0, .slice D0 ds.length d0] 36)) = w2 at q1 R1 C1 G1 B1 ⊢
  refine Calls.mono (H1.out _ g A c C1.out) ?_
  rintro e w3 ⟨rfl, hc2, hg2⟩
  have q2 := Lib.hid (K.kept hg2 q1.out (fun k hk => by cases hk; omega))
  have R2 := Lib.hid (K.kept hg2 R1.out (fun k hk => by cases hk; omega))
  have C2 := Lib.hid hc2
  have G2 := Lib.hid (grownBy_trans G1.out hg2)
  have B2 := Lib.hid (own_grown B1.out hg2 (fun k h1 h2 => by cases h2; have := (B1.out.lt _ h1).1; omega))
  clear hc2 hg2 q1 R1 C1 G1 B1
  have gk := C2.out.lt
  have q3 := Lib.hid (K.old q2.out (.cells #[.int .i64 0, .int .i64 8, .int .i64 3, .int .i64 128, .int .i64 255] 3))
  have R3 := Lib.hid (K.old R2.out (.cells #[.int .i64 0, .int .i64 8, .int .i64 3, .int .i64 128, .int .i64 255] 3))
  have C3 := Lib.hid (C2.out.below (Joins.below_alloc1 w3 (.cells #[.int .i64 0, .int .i64 8, .int .i64 3, .int .i64 128, .int .i64 255] 3)))
  have G3 := Lib.hid (only_new G2.out (.cells #[.int .i64 0, .int .i64 8, .int .i64 3, .int .i64 128, .int .i64 255] 3))
  have B3 := Lib.hid (World.ownsRow.alloc B2.out (.cells #[.int .i64 0, .int .i64 8, .int .i64 3, .int .i64 128, .int .i64 255] 3))
  go_wp2_with fail
  clear q2 R2 C2 G2 B2
  refine Calls.mono (H2.out _ g A c C3.out) ?_
  rintro e w4 ⟨rfl, hc2, hg2⟩
  have q4 := Lib.hid (K.kept hg2 q3.out (fun k hk => by cases hk; omega))
  have R4 := Lib.hid (K.kept hg2 R3.out (fun k hk => by cases hk; omega))
  have C4 := Lib.hid hc2
  have G4 := Lib.hid (grownBy_trans G3.out hg2)
  have B4 := Lib.hid (own_grown B3.out hg2 (fun k h1 h2 => by cases h2; have := (B3.out.lt _ h1).1; omega))
  have cf := hg2.cell (K.row_cells w3 [0, 8, 3, 128, 255] _ rfl 3 y2 u2 HU2.out) (fun e => by have e2 : w3.heap.size = g := Option.some.inj e; omega)
  clear hc2 hg2 q3 R3 C3 G3 B3
  have uu := K.cell q4.out 8 _ rfl
  have yy := frozen_of_row _ _ 8 _ _ q4.out
  have hyt : (y2 : Int) < 5 := by omega
  have q5 : Hid ((w4.setCell ⟨w1.heap.size, 8, none⟩ (.int .i64 u2)).heap[w1.heap.size]? = some (.cells #[.int .i64 3, .int .i64 0, .int .i64 0, .int .i64 0, .int .i64 0, .int .i64 0, .int .i64 0, .int .i64 0, .int .i64 u2, .int .i64 0, .int .i64 0, .bool false, .slice none 0 0, .slice D0 ds.length d0] 36 (0, 0))) := Lib.hid (K.set q4.out 8 _)
  have R5 := Lib.hid (K.other R4.out w1.heap.size 8 (.int .i64 u2) (by omega))
  have C5 := Lib.hid (C4.out.grownBy (grownBy_set w4 w1.heap.size 8 (.int .i64 u2)) (fun u hu => by cases hu; omega))
  have G5 := Lib.hid (grown_other G4.out (grownBy_set w4 w1.heap.size 8 (.int .i64 u2)) (fun u hu => by cases hu; omega))
  have B5 := Lib.hid (own_grown B4.out (grownBy_set w4 w1.heap.size 8 (.int .i64 u2)) (fun k h1 h2 => by cases h2; exact NB.out _ h1 rfl))
  go_wp2_with fail
  clear uu yy cf gk q4 R4 C4 G4 B4
  generalize (w4.setCell ⟨w1.heap.size, 8, none⟩ (.int .i64 u2)) = w5 at q5 R5 C5 G5 B5 ⊢
  refine Calls.mono (H3.out _ g A c C5.out) ?_
  rintro e w6 ⟨rfl, hc2, hg2⟩
  have q6 := Lib.hid (K.kept hg2 q5.out (fun k hk => by cases hk; omega))
  have R6 := Lib.hid (K.kept hg2 R5.out (fun k hk => by cases hk; omega))
  have C6 := Lib.hid hc2
  have G6 := Lib.hid (grownBy_trans G5.out hg2)
  have B6 := Lib.hid (own_grown B5.out hg2 (fun k h1 h2 => by cases h2; have := (B5.out.lt _ h1).1; omega))
  clear hc2 hg2 q5 R5 C5 G5 B5
  have uu := K.cell q6.out 9 _ rfl
  have yy := frozen_of_row _ _ 9 _ _ q6.out
  have q7 : Hid ((w6.setCell ⟨w1.heap.size, 9, none⟩ (.int .i64 x3)).heap[w1.heap.size]? = some (.cells #[.int .i64 3, .int .i64 0, .int .i64 0, .int .i64 0, .int .i64 0, .int .i64 0, .int .i64 0, .int .i64 0, .int .i64 u2, .int .i64 x3, .int .i64 0, .bool false, .slice none 0 0, .slice D0 ds.length d0] 36 (0, 0))) := Lib.hid (K.set q6.out 9 _)
  have R7 := Lib.hid (K.other R6.out w1.heap.size 9 (.int .i64 x3) (by omega))
  have C7 := Lib.hid (C6.out.grownBy (grownBy_set w6 w1.heap.size 9 (.int .i64 x3)) (fun u hu => by cases hu; omega))
  have G7 := Lib.hid (grown_other G6.out (grownBy_set w6 w1.heap.size 9 (.int .i64 x3)) (fun u hu => by cases hu; omega))
  have B7 := Lib.hid (own_grown B6.out (grownBy_set w6 w1.heap.size 9 (.int .i64 x3)) (fun k h1 h2 => by cases h2; exact NB.out _ h1 rfl))
  go_wp2_with fail
  clear uu yy q6 R6 C6 G6 B6
  generalize (w6.setCell ⟨w1.heap.size, 9, none⟩ (.int .i64 x3)) = w7 at q7 R7 C7 G7 B7 ⊢
  refine Calls.mono (H4.out _ g A c C7.out) ?_
  rintro e w8 ⟨rfl, hc2, hg2⟩
  have q8 := Lib.hid (K.kept hg2 q7.out (fun k hk => by cases hk; omega))
  have R8 := Lib.hid (K.kept hg2 R7.out (fun k hk => by cases hk; omega))
  have C8 := Lib.hid hc2
  have G8 := Lib.hid (grownBy_trans G7.out hg2)
  have B8 := Lib.hid (own_grown B7.out hg2 (fun k h1 h2 => by cases h2; have := (B7.out.lt _ h1).1; omega))
  clear hc2 hg2 q7 R7 C7 G7 B7
  have uu := K.cell q8.out 10 _ rfl
  have yy := frozen_of_row _ _ 10 _ _ q8.out
  have q9 : Hid ((w8.setCell ⟨w1.heap.size, 10, none⟩ (.int .i64 (x4 * 3))).heap[w1.heap.size]? = some (.cells #[.int .i64 3, .int .i64 0, .int .i64 0, .int .i64 0, .int .i64 0, .int .i64 0, .int .i64 0, .int .i64 0, .int .i64 u2, .int .i64 x3, .int .i64 (x4 * 3), .bool false, .slice none 0 0, .slice D0 ds.length d0] 36 (0, 0))) := Lib.hid (K.set q8.out 10 _)
  have R9 := Lib.hid (K.other R8.out w1.heap.size 10 (.int .i64 (x4 * 3)) (by omega))
  have C9 := Lib.hid (C8.out.grownBy (grownBy_set w8 w1.heap.size 10 (.int .i64 (x4 * 3))) (fun u hu => by cases hu; omega))
  have G9 := Lib.hid (grown_other G8.out (grownBy_set w8 w1.heap.size 10 (.int .i64 (x4 * 3))) (fun u hu => by cases hu; omega))
  have B9 := Lib.hid (own_grown B8.out (grownBy_set w8 w1.heap.size 10 (.int .i64 (x4 * 3))) (fun k h1 h2 => by cases h2; exact NB.out _ h1 rfl))
  go_upto_region 18 with fail
  clear uu yy q8 R8 C8 G8 B8
  generalize (w8.setCell ⟨w1.heap.size, 10, none⟩ (.int .i64 (x4 * 3))) = w9 at q9 R9 C9 G9 B9 ⊢
  go_wp2_with (first | (with_reducible refine loadU rfl _ rfl w1.heap.size rfl q9.out ?_) | (with_reducible refine storeU rfl _ _ rfl w.heap.size rfl rfl R9.out ?_))
  (try simp only [Exit.inBlock, Exit.then])
  refine bodyPost_ret (v := .agg #[.int .i64 3, .int .i64 0, .int .i64 0, .int .i64 0, .int .i64 0, .int .i64 0, .int .i64 0, .int .i64 0, .int .i64 u2, .int .i64 x3, .int .i64 (x4 * 3), .bool false, .slice none 0 0, .slice D0 ds.length d0]) ?_ rfl ⟨none, 0, D0, d0, rfl, ?_, ?_, (fun _ h => by cases h), ?_, ?_⟩
  · exact resU Try.results95 _ _ w.heap.size rfl (setRow_heap _ _ _ _ _ _ R9.out)
  · exact ⟨rfl, .inl ⟨rfl, rfl⟩⟩
  · exact own_base (own_grown B9.out (K.setRow_grown _ _ _) (fun k h1 h2 => by cases h2; have := (B9.out.lt _ h1).1; omega)) (by omega)
  · exact C9.out.grownBy (K.setRow_grown _ _ _) (fun u hu => by cases hu; omega)
  · exact grown_other G9.out (K.setRow_grown _ _ _) (fun u hu => by cases hu; omega)

set_option maxHeartbeats 8000000 in
theorem upE_2_6 (bs : List UInt8) (t s : Nat) (ht : t ≤ 700000000000) (ds : List UInt8) (t0 s0 : Nat) (hds : ds.length ≤ 40) (ht0 : t0 ≤ t + 40 + 1) (HB : Hid (∀ (w : World) (g : Nat) (A : Option Addr) (c : Nat), CurS w g A c bs t s → Calls Try.prog 109 #[.pointer (some ⟨g, 0, none⟩), .int .i64 (40 : Int)] w (GivesB w g A c bs t0 s0 ds))) : ∃ (x : Uh) (os ds : List UInt8) (t' s' : Nat), os.length ≤ 40 ∧ ds.length ≤ 40 ∧ t' ≤ t + 100 ∧ ∀ (w : World) (g : Nat) (A : Option Addr) (c : Nat), CurS w g A c bs t s → Calls Try.prog 95 #[.pointer (some ⟨g, 0, none⟩), .int .i64 2, .int .i64 6] w (GivesUp w g A c bs t' s' x os ds) := by
  obtain ⟨x1, s11, lo1, up1, hd1⟩ := pickE bs (t0) s0 3 (by omega) (by omega) (by omega)
  have H1 := Lib.hid hd1
  clear hd1
  obtain ⟨y1, rfl⟩ : ∃ k : Nat, x1 = k := ⟨x1.toNat, by omega⟩
  obtain ⟨x2, s12, lo2, up2, hd2⟩ := wideE bs (t0 + 1) s11 65536 (by omega) (by omega) (by omega)
  have H2 := Lib.hid hd2
  clear hd2
  obtain ⟨x3, s13, lo3, up3, hd3⟩ := pickE bs (t0 + 1 + 3) s12 9 (by omega) (by omega) (by omega)
  have H3 := Lib.hid hd3
  clear hd3
  obtain ⟨u3, hu3⟩ : ∃ a, ([x2, 1024 + x3, 53] : List Int)[y1]? = some a := ⟨_, List.getElem?_eq_getElem (by simp; omega)⟩
  have HU3 := Lib.hid hu3
  clear hu3
  obtain ⟨x4, s14, lo4, up4, hd4⟩ := pickE bs (t0 + 1 + 3 + 1) s13 9 (by omega) (by omega) (by omega)
  have H4 := Lib.hid hd4
  clear hd4
  obtain ⟨x5, s15, lo5, up5, hd5⟩ := wideE bs (t0 + 1 + 3 + 1 + 1) s14 65536 (by omega) (by omega) (by omega)
  have H5 := Lib.hid hd5
  clear hd5
  obtain ⟨x6, s16, lo6, up6, hd6⟩ := pickE bs (t0 + 1 + 3 + 1 + 1 + 3) s15 5 (by omega) (by omega) (by omega)
  have H6 := Lib.hid hd6
  clear hd6
  obtain ⟨y6, rfl⟩ : ∃ k : Nat, x6 = k := ⟨x6.toNat, by omega⟩
  obtain ⟨u6, hu6⟩ : ∃ a, ([80, 443, 53, 8000 + x4, x5] : List Int)[y6]? = some a := ⟨_, List.getElem?_eq_getElem (by simp; omega)⟩
  have HU6 := Lib.hid hu6
  clear hu6
  refine ⟨⟨2, u3, u6, 0, 0, 0, 0, 0, 0, 0, 0, false⟩, [], ds, t0 + 1 + 3 + 1 + 1 + 3 + 1, s16, by simp, by omega, by omega, fun w g A c hc0 => ?_⟩
  have hgl := hc0.lt
  have HC0 := Lib.hid (hc0.below (Joins.below_alloc1 w (.cells #[.int .i64 0, .int .i64 0, .int .i64 0, .int .i64 0, .int .i64 0, .int .i64 0, .int .i64 0, .int .i64 0, .int .i64 0, .int .i64 0, .int .i64 0, .bool false, .slice none 0 0, .slice none 0 0] 36)))
  have R0_ := Lib.hid (K.new w (.cells #[.int .i64 0, .int .i64 0, .int .i64 0, .int .i64 0, .int .i64 0, .int .i64 0, .int .i64 0, .int .i64 0, .int .i64 0, .int .i64 0, .int .i64 0, .bool false, .slice none 0 0, .slice none 0 0] 36))
  clear hc0
  have m3 : IntKind.i64.wrap (1024 + x3) = 1024 + x3 := by rw [IntKind.wrap_i64]; omega
  have m4 : IntKind.i64.wrap (8000 + x4) = 8000 + x4 := by rw [IntKind.wrap_i64]; omega
  have hy1 : (y1 : Int) < 3 := by omega
  go_enter Try.func95, Try.ntmps95
  go_wp2_with fail
  refine Calls.mono (HB.out _ g A c HC0.out) ?_
  rintro e w1 ⟨D0, d0, rfl, od, hc2, hg2⟩
  have hb : w.heap.size < w1.heap.size := by have := hg2.size; simp at this; omega
  have q1 := Lib.hid (K.new w1 (.cells #[.int .i64 2, .int .i64 0, .int .i64 0, .int .i64 0, .int .i64 0, .int .i64 0, .int .i64 0, .int .i64 0, .int .i64 0, .int .i64 0, .int .i64 0, .bool false, .slice none 0 0, .slice D0 ds.length d0] 36))
  have R1 := Lib.hid (K.old (K.kept hg2 R0_.out (fun k hk => by cases hk; omega)) (.cells #[.int .i64 2, .int .i64 0, .int .i64 0, .int .i64 0, .int .i64 0, .int .i64 0, .int .i64 0, .int .i64 0, .int .i64 0, .int .i64 0, .int .i64 0, .bool false, .slice none 0 0, .slice D0 ds.length d0] 36))
  have C1 := Lib.hid (hc2.below (Joins.below_alloc1 w1 (.cells #[.int .i64 2, .int .i64 0, .int .i64 0, .int .i64 0, .int .i64 0, .int .i64 0, .int .i64 0, .int .i64 0, .int .i64 0, .int .i64 0, .int .i64 0, .bool false, .slice none 0 0, .slice D0 ds.length d0] 36)))
  have G1 := Lib.hid (only_new (grownBy_trans (only_new (K.refl w (some g)) (.cells #[.int .i64 0, .int .i64 0, .int .i64 0, .int .i64 0, .int .i64 0, .int .i64 0, .int .i64 0, .int .i64 0, .int .i64 0, .int .i64 0, .int .i64 0, .bool false, .slice none 0 0, .slice none 0 0] 36)) hg2) (.cells #[.int .i64 2, .int .i64 0, .int .i64 0, .int .i64 0, .int .i64 0, .int .i64 0, .int .i64 0, .int .i64 0, .int .i64 0, .int .i64 0, .int .i64 0, .bool false, .slice none 0 0, .slice D0 ds.length d0] 36))
  have B1 := Lib.hid (World.ownsRow.alloc (own_base od (show w.heap.size + 1 ≤ _ by simp)) (.cells #[.int .i64 2, .int .i64 0, .int .i64 0, .int .i64 0, .int .i64 0, .int .i64 0, .int .i64 0, .int .i64 0, .int .i64 0, .int .i64 0, .int .i64 0, .bool false, .slice none 0 0, .slice D0 ds.length d0] 36))
  have NB := Lib.hid (fun k (hk : (Value.slice D0 ds.length d0).ownBlock = some k) => show k ≠ w1.heap.size by have := (od.lt k hk).2; omega)
  clear od hc2 hg2 HC0 R0_
  go_wp2_with (with_reducible refine storeNewU rfl _ _ rfl rfl rfl ?_)
  generalize (w1.alloc (.cells #[.int .i64 2, .int .i64 0, .int .i64 0, .int .i64 0, .int .i64 0, .int .i64 0, .int .i64 0, .int .i64 0, .int .i64 0, .int .i64 0, .int .i64 0, .bool false, .slice none 0 0, .slice D0 ds.length d0] 36)) = w2 at q1 R1 C1 G1 B1 ⊢
  refine Calls.mono (H1.out _ g A c C1.out) ?_
  rintro e w3 ⟨rfl, hc2, hg2⟩
  have q2 := Lib.hid (K.kept hg2 q1.out (fun k hk => by cases hk; omega))
  have R2 := Lib.hid (K.kept hg2 R1.out (fun k hk => by cases hk; omega))
  have C2 := Lib.hid hc2
  have G2 := Lib.hid (grownBy_trans G1.out hg2)
  have B2 := Lib.hid (own_grown B1.out hg2 (fun k h1 h2 => by cases h2; have := (B1.out.lt _ h1).1; omega))
  clear hc2 hg2 q1 R1 C1 G1 B1
  have uu := K.cell q2.out 11 _ rfl
  have yy := frozen_of_row _ _ 11 _ _ q2.out
  have q3 : Hid ((w3.setCell ⟨w1.heap.size, 11, none⟩ (.bool false)).heap[w1.heap.size]? = some (.cells #[.int .i64 2, .int .i64 0, .int .i64 0, .int .i64 0, .int .i64 0, .int .i64 0, .int .i64 0, .int .i64 0, .int .i64 0, .int .i64 0, .int .i64 0, .bool false, .slice none 0 0, .slice D0 ds.length d0] 36 (0, 0))) := Lib.hid (K.set q2.out 11 _)
  have R3 := Lib.hid (K.other R2.out w1.heap.size 11 (.bool false) (by omega))
  have C3 := Lib.hid (C2.out.grownBy (grownBy_set w3 w1.heap.size 11 (.bool false)) (fun u hu => by cases hu; omega))
  have G3 := Lib.hid (grown_other G2.out (grownBy_set w3 w1.heap.size 11 (.bool false)) (fun u hu => by cases hu; omega))
  have B3 := Lib.hid (own_grown B2.out (grownBy_set w3 w1.heap.size 11 (.bool false)) (fun k h1 h2 => by cases h2; exact NB.out _ h1 rfl))
  go_upto_region 18 with fail
  clear uu yy q2 R2 C2 G2 B2
  generalize (w3.setCell ⟨w1.heap.size, 11, none⟩ (.bool false)) = w4 at q3 R3 C3 G3 B3 ⊢
  go_wp2_with fail
  refine Calls.mono (H2.out _ g A c C3.out) ?_
  rintro e w5 ⟨rfl, hc2, hg2⟩
  have q4 := Lib.hid (K.kept hg2 q3.out (fun k hk => by cases hk; omega))
  have R4 := Lib.hid (K.kept hg2 R3.out (fun k hk => by cases hk; omega))
  have C4 := Lib.hid hc2
  have G4 := Lib.hid (grownBy_trans G3.out hg2)
  have B4 := Lib.hid (own_grown B3.out hg2 (fun k h1 h2 => by cases h2; have := (B3.out.lt _ h1).1; omega))
  clear hc2 hg2 q3 R3 C3 G3 B3
  go_wp2_with fail
  refine Calls.mono (H3.out _ g A c C4.out) ?_
  rintro e w6 ⟨rfl, hc2, hg2⟩
  have q5 := Lib.hid (K.kept hg2 q4.out (fun k hk => by cases hk; omega))
  have R5 := Lib.hid (K.kept hg2 R4.out (fun k hk => by cases hk; omega))
  have C5 := Lib.hid hc2
  have G5 := Lib.hid (grownBy_trans G4.out hg2)
  have B5 := Lib.hid (own_grown B4.out hg2 (fun k h1 h2 => by cases h2; have := (B4.out.lt _ h1).1; omega))
  clear hc2 hg2 q4 R4 C4 G4 B4
  have q6 := Lib.hid (K.old q5.out (.cells #[.int .i64 x2, .int .i64 (1024 + x3), .int .i64 53] 3))
  have R6 := Lib.hid (K.old R5.out (.cells #[.int .i64 x2, .int .i64 (1024 + x3), .int .i64 53] 3))
  have C6 := Lib.hid (C5.out.below (Joins.below_alloc1 w6 (.cells #[.int .i64 x2, .int .i64 (1024 + x3), .int .i64 53] 3)))
  have G6 := Lib.hid (only_new G5.out (.cells #[.int .i64 x2, .int .i64 (1024 + x3), .int .i64 53] 3))
  have B6 := Lib.hid (World.ownsRow.alloc B5.out (.cells #[.int .i64 x2, .int .i64 (1024 + x3), .int .i64 53] 3))
  clear q5 R5 C5 G5 B5
  have cf := K.row_cells w6 [x2, (1024 + x3), 53] _ rfl 3 y1 u3 HU3.out
  have cfa : (#[.int .i64 x2, .int .i64 (1024 + x3), .int .i64 53] : Array Value)[y1]? = some (.int .i64 u3) := by have := arr_U [x2, (1024 + x3), 53] y1 u3 HU3.out; simpa using this
  have uu := K.cell q6.out 1 _ rfl
  have yy := frozen_of_row _ _ 1 _ _ q6.out
  have q7 : Hid (((w6.alloc (.cells #[.int .i64 x2, .int .i64 (1024 + x3), .int .i64 53] 3)).setCell ⟨w1.heap.size, 1, none⟩ (.int .i64 u3)).heap[w1.heap.size]? = some (.cells #[.int .i64 2, .int .i64 u3, .int .i64 0, .int .i64 0, .int .i64 0, .int .i64 0, .int .i64 0, .int .i64 0, .int .i64 0, .int .i64 0, .int .i64 0, .bool false, .slice none 0 0, .slice D0 ds.length d0] 36 (0, 0))) := Lib.hid (K.set q6.out 1 _)
  have R7 := Lib.hid (K.other R6.out w1.heap.size 1 (.int .i64 u3) (by omega))
  have C7 := Lib.hid (C6.out.grownBy (grownBy_set (w6.alloc (.cells #[.int .i64 x2, .int .i64 (1024 + x3), .int .i64 53] 3)) w1.heap.size 1 (.int .i64 u3)) (fun u hu => by cases hu; omega))
  have G7 := Lib.hid (grown_other G6.out (grownBy_set (w6.alloc (.cells #[.int .i64 x2, .int .i64 (1024 + x3), .int .i64 53] 3)) w1.heap.size 1 (.int .i64 u3)) (fun u hu => by cases hu; omega))
  have B7 := Lib.hid (own_grown B6.out (grownBy_set (w6.alloc (.cells #[.int .i64 x2, .int .i64 (1024 + x3), .int .i64 53] 3)) w1.heap.size 1 (.int .i64 u3)) (fun k h1 h2 => by cases h2; exact NB.out _ h1 rfl))
  go_upto_region 20 with fail
  clear uu yy cf cfa q6 R6 C6 G6 B6
  generalize ((w6.alloc (.cells #[.int .i64 x2, .int .i64 (1024 + x3), .int .i64 53] 3)).setCell ⟨w1.heap.size, 1, none⟩ (.int .i64 u3)) = w7 at q7 R7 C7 G7 B7 ⊢
  go_wp2_with fail
  refine Calls.mono (H4.out _ g A c C7.out) ?_
  rintro e w8 ⟨rfl, hc2, hg2⟩
  have q8 := Lib.hid (K.kept hg2 q7.out (fun k hk => by cases hk; omega))
  have R8 := Lib.hid (K.kept hg2 R7.out (fun k hk => by cases hk; omega))
  have C8 := Lib.hid hc2
  have G8 := Lib.hid (grownBy_trans G7.out hg2)
  have B8 := Lib.hid (own_grown B7.out hg2 (fun k h1 h2 => by cases h2; have := (B7.out.lt _ h1).1; omega))
  clear hc2 hg2 q7 R7 C7 G7 B7
  go_wp2_with fail
  refine Calls.mono (H5.out _ g A c C8.out) ?_
  rintro e w9 ⟨rfl, hc2, hg2⟩
  have q9 := Lib.hid (K.kept hg2 q8.out (fun k hk => by cases hk; omega))
  have R9 := Lib.hid (K.kept hg2 R8.out (fun k hk => by cases hk; omega))
  have C9 := Lib.hid hc2
  have G9 := Lib.hid (grownBy_trans G8.out hg2)
  have B9 := Lib.hid (own_grown B8.out hg2 (fun k h1 h2 => by cases h2; have := (B8.out.lt _ h1).1; omega))
  clear hc2 hg2 q8 R8 C8 G8 B8
  have gk := C9.out.lt
  have q10 := Lib.hid (K.old q9.out (.cells #[.int .i64 80, .int .i64 443, .int .i64 53, .int .i64 (8000 + x4), .int .i64 x5] 3))
  have R10 := Lib.hid (K.old R9.out (.cells #[.int .i64 80, .int .i64 443, .int .i64 53, .int .i64 (8000 + x4), .int .i64 x5] 3))
  have C10 := Lib.hid (C9.out.below (Joins.below_alloc1 w9 (.cells #[.int .i64 80, .int .i64 443, .int .i64 53, .int .i64 (8000 + x4), .int .i64 x5] 3)))
  have G10 := Lib.hid (only_new G9.out (.cells #[.int .i64 80, .int .i64 443, .int .i64 53, .int .i64 (8000 + x4), .int .i64 x5] 3))
  have B10 := Lib.hid (World.ownsRow.alloc B9.out (.cells #[.int .i64 80, .int .i64 443, .int .i64 53, .int .i64 (8000 + x4), .int .i64 x5] 3))
  go_wp2_with fail
  clear q9 R9 C9 G9 B9
  refine Calls.mono (H6.out _ g A c C10.out) ?_
  rintro e w10 ⟨rfl, hc2, hg2⟩
  have q11 := Lib.hid (K.kept hg2 q10.out (fun k hk => by cases hk; omega))
  have R11 := Lib.hid (K.kept hg2 R10.out (fun k hk => by cases hk; omega))
  have C11 := Lib.hid hc2
  have G11 := Lib.hid (grownBy_trans G10.out hg2)
  have B11 := Lib.hid (own_grown B10.out hg2 (fun k h1 h2 => by cases h2; have := (B10.out.lt _ h1).1; omega))
  have cf := hg2.cell (K.row_cells w9 [80, 443, 53, (8000 + x4), x5] _ rfl 3 y6 u6 HU6.out) (fun e => by have e2 : w9.heap.size = g := Option.some.inj e; omega)
  clear hc2 hg2 q10 R10 C10 G10 B10
  have uu := K.cell q11.out 2 _ rfl
  have yy := frozen_of_row _ _ 2 _ _ q11.out
  have hyd : (y6 : Int) < 5 := by omega
  have q12 : Hid ((w10.setCell ⟨w1.heap.size, 2, none⟩ (.int .i64 u6)).heap[w1.heap.size]? = some (.cells #[.int .i64 2, .int .i64 u3, .int .i64 u6, .int .i64 0, .int .i64 0, .int .i64 0, .int .i64 0, .int .i64 0, .int .i64 0, .int .i64 0, .int .i64 0, .bool false, .slice none 0 0, .slice D0 ds.length d0] 36 (0, 0))) := Lib.hid (K.set q11.out 2 _)
  have R12 := Lib.hid (K.other R11.out w1.heap.size 2 (.int .i64 u6) (by omega))
  have C12 := Lib.hid (C11.out.grownBy (grownBy_set w10 w1.heap.size 2 (.int .i64 u6)) (fun u hu => by cases hu; omega))
  have G12 := Lib.hid (grown_other G11.out (grownBy_set w10 w1.heap.size 2 (.int .i64 u6)) (fun u hu => by cases hu; omega))
  have B12 := Lib.hid (own_grown B11.out (grownBy_set w10 w1.heap.size 2 (.int .i64 u6)) (fun k h1 h2 => by cases h2; exact NB.out _ h1 rfl))
  go_upto_region 21 with fail
  clear uu yy cf gk q11 R11 C11 G11 B11
  generalize (w10.setCell ⟨w1.heap.size, 2, none⟩ (.int .i64 u6)) = w11 at q12 R12 C12 G12 B12 ⊢
  go_wp2_with (first | (with_reducible refine loadU rfl _ rfl w1.heap.size rfl q12.out ?_) | (with_reducible refine storeU rfl _ _ rfl w.heap.size rfl rfl R12.out ?_))
  (try simp only [Exit.inBlock, Exit.then])
  refine bodyPost_ret (v := .agg #[.int .i64 2, .int .i64 u3, .int .i64 u6, .int .i64 0, .int .i64 0, .int .i64 0, .int .i64 0, .int .i64 0, .int .i64 0, .int .i64 0, .int .i64 0, .bool false, .slice none 0 0, .slice D0 ds.length d0]) ?_ rfl ⟨none, 0, D0, d0, rfl, ?_, ?_, (fun _ h => by cases h), ?_, ?_⟩
  · exact resU Try.results95 _ _ w.heap.size rfl (setRow_heap _ _ _ _ _ _ R12.out)
  · exact ⟨rfl, .inl ⟨rfl, rfl⟩⟩
  · exact own_base (own_grown B12.out (K.setRow_grown _ _ _) (fun k h1 h2 => by cases h2; have := (B12.out.lt _ h1).1; omega)) (by omega)
  · exact C12.out.grownBy (K.setRow_grown _ _ _) (fun u hu => by cases hu; omega)
  · exact grown_other G12.out (K.setRow_grown _ _ _) (fun u hu => by cases hu; omega)
end Go.Proofs.Ythogonpjkngpjaa

namespace Go.Proofs.Ythogonpjkngpjaa
set_option maxRecDepth 100000
open Go.RowKit

set_option maxHeartbeats 8000000 in
theorem upE_2_4 (bs : List UInt8) (t s : Nat) (ht : t ≤ 700000000000) (ds : List UInt8) (t0 s0 : Nat) (hds : ds.length ≤ 40) (ht0 : t0 ≤ t + 40 + 1) (HB : Hid (∀ (w : World) (g : Nat) (A : Option Addr) (c : Nat), CurS w g A c bs t s → Calls Try.prog 109 #[.pointer (some ⟨g, 0, none⟩), .int .i64 (40 : Int)] w (GivesB w g A c bs t0 s0 ds))) : ∃ (x : Uh) (os ds : List UInt8) (t' s' : Nat), os.length ≤ 40 ∧ ds.length ≤ 40 ∧ t' ≤ t + 100 ∧ ∀ (w : World) (g : Nat) (A : Option Addr) (c : Nat), CurS w g A c bs t s → Calls Try.prog 95 #[.pointer (some ⟨g, 0, none⟩), .int .i64 2, .int .i64 4] w (GivesUp w g A c bs t' s' x os ds) := by
  obtain ⟨x1, s11, lo1, up1, hd1⟩ := pickE bs (t0) s0 3 (by omega) (by omega) (by omega)
  have H1 := Lib.hid hd1
  clear hd1
  obtain ⟨y1, rfl⟩ : ∃ k : Nat, x1 = k := ⟨x1.toNat, by omega⟩
  obtain ⟨o1, so, hdo⟩ := onceE bs (t0 + 1) s11 4 (by omega) (by omega) (by omega)
  have HO := Lib.hid hdo
  clear hdo
  cases o1 with
  | false =>
    obtain ⟨x2, s12, lo2, up2, hd2⟩ := wideE bs (t0 + 1 + 1) so 65536 (by omega) (by omega) (by omega)
    have H2 := Lib.hid hd2
    clear hd2
    obtain ⟨x3, s13, lo3, up3, hd3⟩ := pickE bs (t0 + 1 + 1 + 3) s12 9 (by omega) (by omega) (by omega)
    have H3 := Lib.hid hd3
    clear hd3
    obtain ⟨u3, hu3⟩ : ∃ a, ([x2, 1024 + x3, 53] : List Int)[y1]? = some a := ⟨_, List.getElem?_eq_getElem (by simp; omega)⟩
    have HU3 := Lib.hid hu3
    clear hu3
    obtain ⟨x4, s14, lo4, up4, hd4⟩ := pickE bs (t0 + 1 + 1 + 3 + 1) s13 9 (by omega) (by omega) (by omega)
    have H4 := Lib.hid hd4
    clear hd4
    obtain ⟨x5, s15, lo5, up5, hd5⟩ := wideE bs (t0 + 1 + 1 + 3 + 1 + 1) s14 65536 (by omega) (by omega) (by omega)
    have H5 := Lib.hid hd5
    clear hd5
    obtain ⟨x6, s16, lo6, up6, hd6⟩ := pickE bs (t0 + 1 + 1 + 3 + 1 + 1 + 3) s15 5 (by omega) (by omega) (by omega)
    have H6 := Lib.hid hd6
    clear hd6
    obtain ⟨y6, rfl⟩ : ∃ k : Nat, x6 = k := ⟨x6.toNat, by omega⟩
    obtain ⟨u6, hu6⟩ : ∃ a, ([80, 443, 53, 8000 + x4, x5] : List Int)[y6]? = some a := ⟨_, List.getElem?_eq_getElem (by simp; omega)⟩
    have HU6 := Lib.hid hu6
    clear hu6
    refine ⟨⟨2, u3, u6, 0, 0, 0, 0, 0, 0, 0, 0, false⟩, [], ds, t0 + 1 + 1 + 3 + 1 + 1 + 3 + 1, s16, by simp, by omega, by omega, fun w g A c hc0 => ?_⟩
    have hgl := hc0.lt
    have HC0 := Lib.hid (hc0.below (Joins.below_alloc1 w (.cells #[.int .i64 0, .int .i64 0, .int .i64 0, .int .i64 0, .int .i64 0, .int .i64 0, .int .i64 0, .int .i64 0, .int .i64 0, .int .i64 0, .int .i64 0, .bool false, .slice none 0 0, .slice none 0 0] 36)))
    have R0_ := Lib.hid (K.new w (.cells #[.int .i64 0, .int .i64 0, .int .i64 0, .int .i64 0, .int .i64 0, .int .i64 0, .int .i64 0, .int .i64 0, .int .i64 0, .int .i64 0, .int .i64 0, .bool false, .slice none 0 0, .slice none 0 0] 36))
    clear hc0
    have m3 : IntKind.i64.wrap (1024 + x3) = 1024 + x3 := by rw [IntKind.wrap_i64]; omega
    have m4 : IntKind.i64.wrap (8000 + x4) = 8000 + x4 := by rw [IntKind.wrap_i64]; omega
    have hy1 : (y1 : Int) < 3 := by omega
    go_enter Try.func95, Try.ntmps95
    go_wp2_with fail
    refine Calls.mono (HB.out _ g A c HC0.out) ?_
    rintro e w1 ⟨D0, d0, rfl, od, hc2, hg2⟩
    have hb : w.heap.size < w1.heap.size := by have := hg2.size; simp at this; omega
    have q1 := Lib.hid (K.new w1 (.cells #[.int .i64 2, .int .i64 0, .int .i64 0, .int .i64 0, .int .i64 0, .int .i64 0, .int .i64 0, .int .i64 0, .int .i64 0, .int .i64 0, .int .i64 0, .bool false, .slice none 0 0, .slice D0 ds.length d0] 36))
    have R1 := Lib.hid (K.old (K.kept hg2 R0_.out (fun k hk => by cases hk; omega)) (.cells #[.int .i64 2, .int .i64 0, .int .i64 0, .int .i64 0, .int .i64 0, .int .i64 0, .int .i64 0, .int .i64 0, .int .i64 0, .int .i64 0, .int .i64 0, .bool false, .slice none 0 0, .slice D0 ds.length d0] 36))
    have C1 := Lib.hid (hc2.below (Joins.below_alloc1 w1 (.cells #[.int .i64 2, .int .i64 0, .int .i64 0, .int .i64 0, .int .i64 0, .int .i64 0, .int .i64 0, .int .i64 0, .int .i64 0, .int .i64 0, .int .i64 0, .bool false, .slice none 0 0, .slice D0 ds.length d0] 36)))
    have G1 := Lib.hid (only_new (grownBy_trans (only_new (K.refl w (some g)) (.cells #[.int .i64 0, .int .i64 0, .int .i64 0, .int .i64 0, .int .i64 0, .int .i64 0, .int .i64 0, .int .i64 0, .int .i64 0, .int .i64 0, .int .i64 0, .bool false, .slice none 0 0, .slice none 0 0] 36)) hg2) (.cells #[.int .i64 2, .int .i64 0, .int .i64 0, .int .i64 0, .int .i64 0, .int .i64 0, .int .i64 0, .int .i64 0, .int .i64 0, .int .i64 0, .int .i64 0, .bool false, .slice none 0 0, .slice D0 ds.length d0] 36))
    have B1 := Lib.hid (World.ownsRow.alloc (own_base od (show w.heap.size + 1 ≤ _ by simp)) (.cells #[.int .i64 2, .int .i64 0, .int .i64 0, .int .i64 0, .int .i64 0, .int .i64 0, .int .i64 0, .int .i64 0, .int .i64 0, .int .i64 0, .int .i64 0, .bool false, .slice none 0 0, .slice D0 ds.length d0] 36))
    have NB := Lib.hid (fun k (hk : (Value.slice D0 ds.length d0).ownBlock = some k) => show k ≠ w1.heap.size by have := (od.lt k hk).2; omega)
    clear od hc2 hg2 HC0 R0_
    go_wp2_with (with_reducible refine storeNewU rfl _ _ rfl rfl rfl ?_)
    generalize (w1.alloc (.cells #[.int .i64 2, .int .i64 0, .int .i64 0, .int .i64 0, .int .i64 0, .int .i64 0, .int .i64 0, .int .i64 0, .int .i64 0, .int .i64 0, .int .i64 0, .bool false, .slice none 0 0, .slice D0 ds.length d0] 36)) = w2 at q1 R1 C1 G1 B1 ⊢
    refine Calls.mono (H1.out _ g A c C1.out) ?_
    rintro e w3 ⟨rfl, hc2, hg2⟩
    have q2 := Lib.hid (K.kept hg2 q1.out (fun k hk => by cases hk; omega))
    have R2 := Lib.hid (K.kept hg2 R1.out (fun k hk => by cases hk; omega))
    have C2 := Lib.hid hc2
    have G2 := Lib.hid (grownBy_trans G1.out hg2)
    have B2 := Lib.hid (own_grown B1.out hg2 (fun k h1 h2 => by cases h2; have := (B1.out.lt _ h1).1; omega))
    clear hc2 hg2 q1 R1 C1 G1 B1
    go_wp2_with fail
    refine Calls.mono (HO.out _ g A c C2.out) ?_
    rintro e w4 ⟨rfl, hc2, hg2⟩
    have q3 := Lib.hid (K.kept hg2 q2.out (fun k hk => by cases hk; omega))
    have R3 := Lib.hid (K.kept hg2 R2.out (fun k hk => by cases hk; omega))
    have C3 := Lib.hid hc2
    have G3 := Lib.hid (grownBy_trans G2.out hg2)
    have B3 := Lib.hid (own_grown B2.out hg2 (fun k h1 h2 => by cases h2; have := (B2.out.lt _ h1).1; omega))
    clear hc2 hg2 q2 R2 C2 G2 B2
    have uu := K.cell q3.out 11 _ rfl
    have yy := frozen_of_row _ _ 11 _ _ q3.out
    have q4 : Hid ((w4.setCell ⟨w1.heap.size, 11, none⟩ (.bool false)).heap[w1.heap.size]? = some (.cells #[.int .i64 2, .int .i64 0, .int .i64 0, .int .i64 0, .int .i64 0, .int .i64 0, .int .i64 0, .int .i64 0, .int .i64 0, .int .i64 0, .int .i64 0, .bool false, .slice none 0 0, .slice D0 ds.length d0] 36 (0, 0))) := Lib.hid (K.set q3.out 11 _)
    have R4 := Lib.hid (K.other R3.out w1.heap.size 11 (.bool false) (by omega))
    have C4 := Lib.hid (C3.out.grownBy (grownBy_set w4 w1.heap.size 11 (.bool false)) (fun u hu => by cases hu; omega))
    have G4 := Lib.hid (grown_other G3.out (grownBy_set w4 w1.heap.size 11 (.bool false)) (fun u hu => by cases hu; omega))
    have B4 := Lib.hid (own_grown B3.out (grownBy_set w4 w1.heap.size 11 (.bool false)) (fun k h1 h2 => by cases h2; exact NB.out _ h1 rfl))
    go_upto_region 18 with fail
    clear uu yy q3 R3 C3 G3 B3
    generalize (w4.setCell ⟨w1.heap.size, 11, none⟩ (.bool false)) = w5 at q4 R4 C4 G4 B4 ⊢
    go_wp2_with fail
    refine Calls.mono (H2.out _ g A c C4.out) ?_
    rintro e w6 ⟨rfl, hc2, hg2⟩
    have q5 := Lib.hid (K.kept hg2 q4.out (fun k hk => by cases hk; omega))
    have R5 := Lib.hid (K.kept hg2 R4.out (fun k hk => by cases hk; omega))
    have C5 := Lib.hid hc2
    have G5 := Lib.hid (grownBy_trans G4.out hg2)
    have B5 := Lib.hid (own_grown B4.out hg2 (fun k h1 h2 => by cases h2; have := (B4.out.lt _ h1).1; omega))
    clear hc2 hg2 q4 R4 C4 G4 B4
    go_wp2_with fail
    refine Calls.mono (H3.out _ g A c C5.out) ?_
    rintro e w7 ⟨rfl, hc2, hg2⟩
    have q6 := Lib.hid (K.kept hg2 q5.out (fun k hk => by cases hk; omega))
    have R6 := Lib.hid (K.kept hg2 R5.out (fun k hk => by cases hk; omega))
    have C6 := Lib.hid hc2
    have G6 := Lib.hid (grownBy_trans G5.out hg2)
    have B6 := Lib.hid (own_grown B5.out hg2 (fun k h1 h2 => by cases h2; have := (B5.out.lt _ h1).1; omega))
    clear hc2 hg2 q5 R5 C5 G5 B5
    have q7 := Lib.hid (K.old q6.out (.cells #[.int .i64 x2, .int .i64 (1024 + x3), .int .i64 53] 3))
    have R7 := Lib.hid (K.old R6.out (.cells #[.int .i64 x2, .int .i64 (1024 + x3), .int .i64 53] 3))
    have C7 := Lib.hid (C6.out.below (Joins.below_alloc1 w7 (.cells #[.int .i64 x2, .int .i64 (1024 + x3), .int .i64 53] 3)))
    have G7 := Lib.hid (only_new G6.out (.cells #[.int .i64 x2, .int .i64 (1024 + x3), .int .i64 53] 3))
    have B7 := Lib.hid (World.ownsRow.alloc B6.out (.cells #[.int .i64 x2, .int .i64 (1024 + x3), .int .i64 53] 3))
    clear q6 R6 C6 G6 B6
    have cf := K.row_cells w7 [x2, (1024 + x3), 53] _ rfl 3 y1 u3 HU3.out
    have cfa : (#[.int .i64 x2, .int .i64 (1024 + x3), .int .i64 53] : Array Value)[y1]? = some (.int .i64 u3) := by have := arr_U [x2, (1024 + x3), 53] y1 u3 HU3.out; simpa using this
    have uu := K.cell q7.out 1 _ rfl
    have yy := frozen_of_row _ _ 1 _ _ q7.out
    have q8 : Hid (((w7.alloc (.cells #[.int .i64 x2, .int .i64 (1024 + x3), .int .i64 53] 3)).setCell ⟨w1.heap.size, 1, none⟩ (.int .i64 u3)).heap[w1.heap.size]? = some (.cells #[.int .i64 2, .int .i64 u3, .int .i64 0, .int .i64 0, .int .i64 0, .int .i64 0, .int .i64 0, .int .i64 0, .int .i64 0, .int .i64 0, .int .i64 0, .bool false, .slice none 0 0, .slice D0 ds.length d0] 36 (0, 0))) := Lib.hid (K.set q7.out 1 _)
    have R8 := Lib.hid (K.other R7.out w1.heap.size 1 (.int .i64 u3) (by omega))
    have C8 := Lib.hid (C7.out.grownBy (grownBy_set (w7.alloc (.cells #[.int .i64 x2, .int .i64 (1024 + x3), .int .i64 53] 3)) w1.heap.size 1 (.int .i64 u3)) (fun u hu => by cases hu; omega))
    have G8 := Lib.hid (grown_other G7.out (grownBy_set (w7.alloc (.cells #[.int .i64 x2, .int .i64 (1024 + x3), .int .i64 53] 3)) w1.heap.size 1 (.int .i64 u3)) (fun u hu => by cases hu; omega))
    have B8 := Lib.hid (own_grown B7.out (grownBy_set (w7.alloc (.cells #[.int .i64 x2, .int .i64 (1024 + x3), .int .i64 53] 3)) w1.heap.size 1 (.int .i64 u3)) (fun k h1 h2 => by cases h2; exact NB.out _ h1 rfl))
    go_upto_region 20 with fail
    clear uu yy cf cfa q7 R7 C7 G7 B7
    generalize ((w7.alloc (.cells #[.int .i64 x2, .int .i64 (1024 + x3), .int .i64 53] 3)).setCell ⟨w1.heap.size, 1, none⟩ (.int .i64 u3)) = w8 at q8 R8 C8 G8 B8 ⊢
    go_wp2_with fail
    refine Calls.mono (H4.out _ g A c C8.out) ?_
    rintro e w9 ⟨rfl, hc2, hg2⟩
    have q9 := Lib.hid (K.kept hg2 q8.out (fun k hk => by cases hk; omega))
    have R9 := Lib.hid (K.kept hg2 R8.out (fun k hk => by cases hk; omega))
    have C9 := Lib.hid hc2
    have G9 := Lib.hid (grownBy_trans G8.out hg2)
    have B9 := Lib.hid (own_grown B8.out hg2 (fun k h1 h2 => by cases h2; have := (B8.out.lt _ h1).1; omega))
    clear hc2 hg2 q8 R8 C8 G8 B8
    go_wp2_with fail
    refine Calls.mono (H5.out _ g A c C9.out) ?_
    rintro e w10 ⟨rfl, hc2, hg2⟩
    have q10 := Lib.hid (K.kept hg2 q9.out (fun k hk => by cases hk; omega))
    have R10 := Lib.hid (K.kept hg2 R9.out (fun k hk => by cases hk; omega))
    have C10 := Lib.hid hc2
    have G10 := Lib.hid (grownBy_trans G9.out hg2)
    have B10 := Lib.hid (own_grown B9.out hg2 (fun k h1 h2 => by cases h2; have := (B9.out.lt _ h1).1; omega))
    clear hc2 hg2 q9 R9 C9 G9 B9
    have gk := C10.out.lt
    have q11 := Lib.hid (K.old q10.out (.cells #[.int .i64 80, .int .i64 443, .int .i64 53, .int .i64 (8000 + x4), .int .i64 x5] 3))
    have R11 := Lib.hid (K.old R10.out (.cells #[.int .i64 80, .int .i64 443, .int .i64 53, .int .i64 (8000 + x4), .int .i64 x5] 3))
    have C11 := Lib.hid (C10.out.below (Joins.below_alloc1 w10 (.cells #[.int .i64 80, .int .i64 443, .int .i64 53, .int .i64 (8000 + x4), .int .i64 x5] 3)))
    have G11 := Lib.hid (only_new G10.out (.cells #[.int .i64 80, .int .i64 443, .int .i64 53, .int .i64 (8000 + x4), .int .i64 x5] 3))
    have B11 := Lib.hid (World.ownsRow.alloc B10.out (.cells #[.int .i64 80, .int .i64 443, .int .i64 53, .int .i64 (8000 + x4), .int .i64 x5] 3))
    go_wp2_with fail
    clear q10 R10 C10 G10 B10
    refine Calls.mono (H6.out _ g A c C11.out) ?_
    rintro e w11 ⟨rfl, hc2, hg2⟩
    have q12 := Lib.hid (K.kept hg2 q11.out (fun k hk => by cases hk; omega))
    have R12 := Lib.hid (K.kept hg2 R11.out (fun k hk => by cases hk; omega))
    have C12 := Lib.hid hc2
    have G12 := Lib.hid (grownBy_trans G11.out hg2)
    have B12 := Lib.hid (own_grown B11.out hg2 (fun k h1 h2 => by cases h2; have := (B11.out.lt _ h1).1; omega))
    have cf := hg2.cell (K.row_cells w10 [80, 443, 53, (8000 + x4), x5] _ rfl 3 y6 u6 HU6.out) (fun e => by have e2 : w10.heap.size = g := Option.some.inj e; omega)
    clear hc2 hg2 q11 R11 C11 G11 B11
    have uu := K.cell q12.out 2 _ rfl
    have yy := frozen_of_row _ _ 2 _ _ q12.out
    have hyd : (y6 : Int) < 5 := by omega
    have q13 : Hid ((w11.setCell ⟨w1.heap.size, 2, none⟩ (.int .i64 u6)).heap[w1.heap.size]? = some (.cells #[.int .i64 2, .int .i64 u3, .int .i64 u6, .int .i64 0, .int .i64 0, .int .i64 0, .int .i64 0, .int .i64 0, .int .i64 0, .int .i64 0, .int .i64 0, .bool false, .slice none 0 0, .slice D0 ds.length d0] 36 (0, 0))) := Lib.hid (K.set q12.out 2 _)
    have R13 := Lib.hid (K.other R12.out w1.heap.size 2 (.int .i64 u6) (by omega))
    have C13 := Lib.hid (C12.out.grownBy (grownBy_set w11 w1.heap.size 2 (.int .i64 u6)) (fun u hu => by cases hu; omega))
    have G13 := Lib.hid (grown_other G12.out (grownBy_set w11 w1.heap.size 2 (.int .i64 u6)) (fun u hu => by cases hu; omega))
    have B13 := Lib.hid (own_grown B12.out (grownBy_set w11 w1.heap.size 2 (.int .i64 u6)) (fun k h1 h2 => by cases h2; exact NB.out _ h1 rfl))
    go_upto_region 21 with fail
    clear uu yy cf gk q12 R12 C12 G12 B12
    generalize (w11.setCell ⟨w1.heap.size, 2, none⟩ (.int .i64 u6)) = w12 at q13 R13 C13 G13 B13 ⊢
    go_wp2_with (first | (with_reducible refine loadU rfl _ rfl w1.heap.size rfl q13.out ?_) | (with_reducible refine storeU rfl _ _ rfl w.heap.size rfl rfl R13.out ?_))
    (try simp only [Exit.inBlock, Exit.then])
    refine bodyPost_ret (v := .agg #[.int .i64 2, .int .i64 u3, .int .i64 u6, .int .i64 0, .int .i64 0, .int .i64 0, .int .i64 0, .int .i64 0, .int .i64 0, .int .i64 0, .int .i64 0, .bool false, .slice none 0 0, .slice D0 ds.length d0]) ?_ rfl ⟨none, 0, D0, d0, rfl, ?_, ?_, (fun _ h => by cases h), ?_, ?_⟩
    · exact resU Try.results95 _ _ w.heap.size rfl (setRow_heap _ _ _ _ _ _ R13.out)
    · exact ⟨rfl, .inl ⟨rfl, rfl⟩⟩
    · exact own_base (own_grown B13.out (K.setRow_grown _ _ _) (fun k h1 h2 => by cases h2; have := (B13.out.lt _ h1).1; omega)) (by omega)
    · exact C13.out.grownBy (K.setRow_grown _ _ _) (fun u hu => by cases hu; omega)
    · exact grown_other G13.out (K.setRow_grown _ _ _) (fun u hu => by cases hu; omega)
  | true =>
    obtain ⟨x2, s12, lo2, up2, hd2⟩ := wideE bs (t0 + 1 + 1) so 65536 (by omega) (by omega) (by omega)
    have H2 := Lib.hid hd2
    clear hd2
    obtain ⟨x3, s13, lo3, up3, hd3⟩ := pickE bs (t0 + 1 + 1 + 3) s12 9 (by omega) (by omega) (by omega)
    have H3 := Lib.hid hd3
    clear hd3
    obtain ⟨u3, hu3⟩ : ∃ a, ([x2, 1024 + x3, 53] : List Int)[y1]? = some a := ⟨_, List.getElem?_eq_getElem (by simp; omega)⟩
    have HU3 := Lib.hid hu3
    clear hu3
    obtain ⟨x4, s14, lo4, up4, hd4⟩ := pickE bs (t0 + 1 + 1 + 3 + 1) s13 9 (by omega) (by omega) (by omega)
    have H4 := Lib.hid hd4
    clear hd4
    obtain ⟨x5, s15, lo5, up5, hd5⟩ := wideE bs (t0 + 1 + 1 + 3 + 1 + 1) s14 65536 (by omega) (by omega) (by omega)
    have H5 := Lib.hid hd5
    clear hd5
    obtain ⟨x6, s16, lo6, up6, hd6⟩ := pickE bs (t0 + 1 + 1 + 3 + 1 + 1 + 3) s15 5 (by omega) (by omega) (by omega)
    have H6 := Lib.hid hd6
    clear hd6
    obtain ⟨y6, rfl⟩ : ∃ k : Nat, x6 = k := ⟨x6.toNat, by omega⟩
    obtain ⟨u6, hu6⟩ : ∃ a, ([80, 443, 53, 8000 + x4, x5] : List Int)[y6]? = some a := ⟨_, List.getElem?_eq_getElem (by simp; omega)⟩
    have HU6 := Lib.hid hu6
    clear hu6
    refine ⟨⟨2, u3, u6, 0, 0, 0, 0, 0, 0, 0, 0, true⟩, [], ds, t0 + 1 + 1 + 3 + 1 + 1 + 3 + 1, s16, by simp, by omega, by omega, fun w g A c hc0 => ?_⟩
    have hgl := hc0.lt
    have HC0 := Lib.hid (hc0.below (Joins.below_alloc1 w (.cells #[.int .i64 0, .int .i64 0, .int .i64 0, .int .i64 0, .int .i64 0, .int .i64 0, .int .i64 0, .int .i64 0, .int .i64 0, .int .i64 0, .int .i64 0, .bool false, .slice none 0 0, .slice none 0 0] 36)))
    have R0_ := Lib.hid (K.new w (.cells #[.int .i64 0, .int .i64 0, .int .i64 0, .int .i64 0, .int .i64 0, .int .i64 0, .int .i64 0, .int .i64 0, .int .i64 0, .int .i64 0, .int .i64 0, .bool false, .slice none 0 0, .slice none 0 0] 36))
    clear hc0
    have m3 : IntKind.i64.wrap (1024 + x3) = 1024 + x3 := by rw [IntKind.wrap_i64]; omega
    have m4 : IntKind.i64.wrap (8000 + x4) = 8000 + x4 := by rw [IntKind.wrap_i64]; omega
    have hy1 : (y1 : Int) < 3 := by omega
    go_enter Try.func95, Try.ntmps95
    go_wp2_with fail
    refine Calls.mono (HB.out _ g A c HC0.out) ?_
    rintro e w1 ⟨D0, d0, rfl, od, hc2, hg2⟩
    have hb : w.heap.size < w1.heap.size := by have := hg2.size; simp at this; omega
    have q1 := Lib.hid (K.new w1 (.cells #[.int .i64 2, .int .i64 0, .int .i64 0, .int .i64 0, .int .i64 0, .int .i64 0, .int .i64 0, .int .i64 0, .int .i64 0, .int .i64 0, .int .i64 0, .bool false, .slice none 0 0, .slice D0 ds.length d0] 36))
    have R1 := Lib.hid (K.old (K.kept hg2 R0_.out (fun k hk => by cases hk; omega)) (.cells #[.int .i64 2, .int .i64 0, .int .i64 0, .int .i64 0, .int .i64 0, .int .i64 0, .int .i64 0, .int .i64 0, .int .i64 0, .int .i64 0, .int .i64 0, .bool false, .slice none 0 0, .slice D0 ds.length d0] 36))
    have C1 := Lib.hid (hc2.below (Joins.below_alloc1 w1 (.cells #[.int .i64 2, .int .i64 0, .int .i64 0, .int .i64 0, .int .i64 0, .int .i64 0, .int .i64 0, .int .i64 0, .int .i64 0, .int .i64 0, .int .i64 0, .bool false, .slice none 0 0, .slice D0 ds.length d0] 36)))
    have G1 := Lib.hid (only_new (grownBy_trans (only_new (K.refl w (some g)) (.cells #[.int .i64 0, .int .i64 0, .int .i64 0, .int .i64 0, .int .i64 0, .int .i64 0, .int .i64 0, .int .i64 0, .int .i64 0, .int .i64 0, .int .i64 0, .bool false, .slice none 0 0, .slice none 0 0] 36)) hg2) (.cells #[.int .i64 2, .int .i64 0, .int .i64 0, .int .i64 0, .int .i64 0, .int .i64 0, .int .i64 0, .int .i64 0, .int .i64 0, .int .i64 0, .int .i64 0, .bool false, .slice none 0 0, .slice D0 ds.length d0] 36))
    have B1 := Lib.hid (World.ownsRow.alloc (own_base od (show w.heap.size + 1 ≤ _ by simp)) (.cells #[.int .i64 2, .int .i64 0, .int .i64 0, .int .i64 0, .int .i64 0, .int .i64 0, .int .i64 0, .int .i64 0, .int .i64 0, .int .i64 0, .int .i64 0, .bool false, .slice none 0 0, .slice D0 ds.length d0] 36))
    have NB := Lib.hid (fun k (hk : (Value.slice D0 ds.length d0).ownBlock = some k) => show k ≠ w1.heap.size by have := (od.lt k hk).2; omega)
    clear od hc2 hg2 HC0 R0_
    go_wp2_with (with_reducible refine storeNewU rfl _ _ rfl rfl rfl ?_)
    generalize (w1.alloc (.cells #[.int .i64 2, .int .i64 0, .int .i64 0, .int .i64 0, .int .i64 0, .int .i64 0, .int .i64 0, .int .i64 0, .int .i64 0, .int .i64 0, .int .i64 0, .bool false, .slice none 0 0, .slice D0 ds.length d0] 36)) = w2 at q1 R1 C1 G1 B1 ⊢
    refine Calls.mono (H1.out _ g A c C1.out) ?_
    rintro e w3 ⟨rfl, hc2, hg2⟩
    have q2 := Lib.hid (K.kept hg2 q1.out (fun k hk => by cases hk; omega))
    have R2 := Lib.hid (K.kept hg2 R1.out (fun k hk => by cases hk; omega))
    have C2 := Lib.hid hc2
    have G2 := Lib.hid (grownBy_trans G1.out hg2)
    have B2 := Lib.hid (own_grown B1.out hg2 (fun k h1 h2 => by cases h2; have := (B1.out.lt _ h1).1; omega))
    clear hc2 hg2 q1 R1 C1 G1 B1
    go_wp2_with fail
    refine Calls.mono (HO.out _ g A c C2.out) ?_
    rintro e w4 ⟨rfl, hc2, hg2⟩
    have q3 := Lib.hid (K.kept hg2 q2.out (fun k hk => by cases hk; omega))
    have R3 := Lib.hid (K.kept hg2 R2.out (fun k hk => by cases hk; omega))
    have C3 := Lib.hid hc2
    have G3 := Lib.hid (grownBy_trans G2.out hg2)
    have B3 := Lib.hid (own_grown B2.out hg2 (fun k h1 h2 => by cases h2; have := (B2.out.lt _ h1).1; omega))
    clear hc2 hg2 q2 R2 C2 G2 B2
    have uu := K.cell q3.out 11 _ rfl
    have yy := frozen_of_row _ _ 11 _ _ q3.out
    have q4 : Hid ((w4.setCell ⟨w1.heap.size, 11, none⟩ (.bool true)).heap[w1.heap.size]? = some (.cells #[.int .i64 2, .int .i64 0, .int .i64 0, .int .i64 0, .int .i64 0, .int .i64 0, .int .i64 0, .int .i64 0, .int .i64 0, .int .i64 0, .int .i64 0, .bool true, .slice none 0 0, .slice D0 ds.length d0] 36 (0, 0))) := Lib.hid (K.set q3.out 11 _)
    have R4 := Lib.hid (K.other R3.out w1.heap.size 11 (.bool true) (by omega))
    have C4 := Lib.hid (C3.out.grownBy (grownBy_set w4 w1.heap.size 11 (.bool true)) (fun u hu => by cases hu; omega))
    have G4 := Lib.hid (grown_other G3.out (grownBy_set w4 w1.heap.size 11 (.bool true)) (fun u hu => by cases hu; omega))
    have B4 := Lib.hid (own_grown B3.out (grownBy_set w4 w1.heap.size 11 (.bool true)) (fun k h1 h2 => by cases h2; exact NB.out _ h1 rfl))
    go_upto_region 18 with fail
    clear uu yy q3 R3 C3 G3 B3
    generalize (w4.setCell ⟨w1.heap.size, 11, none⟩ (.bool true)) = w5 at q4 R4 C4 G4 B4 ⊢
    go_wp2_with fail
    refine Calls.mono (H2.out _ g A c C4.out) ?_
    rintro e w6 ⟨rfl, hc2, hg2⟩
    have q5 := Lib.hid (K.kept hg2 q4.out (fun k hk => by cases hk; omega))
    have R5 := Lib.hid (K.kept hg2 R4.out (fun k hk => by cases hk; omega))
    have C5 := Lib.hid hc2
    have G5 := Lib.hid (grownBy_trans G4.out hg2)
    have B5 := Lib.hid (own_grown B4.out hg2 (fun k h1 h2 => by cases h2; have := (B4.out.lt _ h1).1; omega))
    clear hc2 hg2 q4 R4 C4 G4 B4
    go_wp2_with fail
    refine Calls.mono (H3.out _ g A c C5.out) ?_
    rintro e w7 ⟨rfl, hc2, hg2⟩
    have q6 := Lib.hid (K.kept hg2 q5.out (fun k hk => by cases hk; omega))
    have R6 := Lib.hid (K.kept hg2 R5.out (fun k hk => by cases hk; omega))
    have C6 := Lib.hid hc2
    have G6 := Lib.hid (grownBy_trans G5.out hg2)
    have B6 := Lib.hid (own_grown B5.out hg2 (fun k h1 h2 => by cases h2; have := (B5.out.lt _ h1).1; omega))
    clear hc2 hg2 q5 R5 C5 G5 B5
    have q7 := Lib.hid (K.old q6.out (.cells #[.int .i64 x2, .int .i64 (1024 + x3), .int .i64 53] 3))
    have R7 := Lib.hid (K.old R6.out (.cells #[.int .i64 x2, .int .i64 (1024 + x3), .int .i64 53] 3))
    have C7 := Lib.hid (C6.out.below (Joins.below_alloc1 w7 (.cells #[.int .i64 x2, .int .i64 (1024 + x3), .int .i64 53] 3)))
    have G7 := Lib.hid (only_new G6.out (.cells #[.int .i64 x2, .int .i64 (1024 + x3), .int .i64 53] 3))
    have B7 := Lib.hid (World.ownsRow.alloc B6.out (.cells #[.int .i64 x2, .int .i64 (1024 + x3), .int .i64 53] 3))
    clear q6 R6 C6 G6 B6
    have cf := K.row_cells w7 [x2, (1024 + x3), 53] _ rfl 3 y1 u3 HU3.out
    have cfa : (#[.int .i64 x2, .int .i64 (1024 + x3), .int .i64 53] : Array Value)[y1]? = some (.int .i64 u3) := by have := arr_U [x2, (1024 + x3), 53] y1 u3 HU3.out; simpa using this
    have uu := K.cell q7.out 1 _ rfl
    have yy := frozen_of_row _ _ 1 _ _ q7.out
    have q8 : Hid (((w7.alloc (.cells #[.int .i64 x2, .int .i64 (1024 + x3), .int .i64 53] 3)).setCell ⟨w1.heap.size, 1, none⟩ (.int .i64 u3)).heap[w1.heap.size]? = some (.cells #[.int .i64 2, .int .i64 u3, .int .i64 0, .int .i64 0, .int .i64 0, .int .i64 0, .int .i64 0, .int .i64 0, .int .i64 0, .int .i64 0, .int .i64 0, .bool true, .slice none 0 0, .slice D0 ds.length d0] 36 (0, 0))) := Lib.hid (K.set q7.out 1 _)
    have R8 := Lib.hid (K.other R7.out w1.heap.size 1 (.int .i64 u3) (by omega))
    have C8 := Lib.hid (C7.out.grownBy (grownBy_set (w7.alloc (.cells #[.int .i64 x2, .int .i64 (1024 + x3), .int .i64 53] 3)) w1.heap.size 1 (.int .i64 u3)) (fun u hu => by cases hu; omega))
    have G8 := Lib.hid (grown_other G7.out (grownBy_set (w7.alloc (.cells #[.int .i64 x2, .int .i64 (1024 + x3), .int .i64 53] 3)) w1.heap.size 1 (.int .i64 u3)) (fun u hu => by cases hu; omega))
    have B8 := Lib.hid (own_grown B7.out (grownBy_set (w7.alloc (.cells #[.int .i64 x2, .int .i64 (1024 + x3), .int .i64 53] 3)) w1.heap.size 1 (.int .i64 u3)) (fun k h1 h2 => by cases h2; exact NB.out _ h1 rfl))
    go_upto_region 20 with fail
    clear uu yy cf cfa q7 R7 C7 G7 B7
    generalize ((w7.alloc (.cells #[.int .i64 x2, .int .i64 (1024 + x3), .int .i64 53] 3)).setCell ⟨w1.heap.size, 1, none⟩ (.int .i64 u3)) = w8 at q8 R8 C8 G8 B8 ⊢
    go_wp2_with fail
    refine Calls.mono (H4.out _ g A c C8.out) ?_
    rintro e w9 ⟨rfl, hc2, hg2⟩
    have q9 := Lib.hid (K.kept hg2 q8.out (fun k hk => by cases hk; omega))
    have R9 := Lib.hid (K.kept hg2 R8.out (fun k hk => by cases hk; omega))
    have C9 := Lib.hid hc2
    have G9 := Lib.hid (grownBy_trans G8.out hg2)
    have B9 := Lib.hid (own_grown B8.out hg2 (fun k h1 h2 => by cases h2; have := (B8.out.lt _ h1).1; omega))
    clear hc2 hg2 q8 R8 C8 G8 B8
    go_wp2_with fail
    refine Calls.mono (H5.out _ g A c C9.out) ?_
    rintro e w10 ⟨rfl, hc2, hg2⟩
    have q10 := Lib.hid (K.kept hg2 q9.out (fun k hk => by cases hk; omega))
    have R10 := Lib.hid (K.kept hg2 R9.out (fun k hk => by cases hk; omega))
    have C10 := Lib.hid hc2
    have G10 := Lib.hid (grownBy_trans G9.out hg2)
    have B10 := Lib.hid (own_grown B9.out hg2 (fun k h1 h2 => by cases h2; have := (B9.out.lt _ h1).1; omega))
    clear hc2 hg2 q9 R9 C9 G9 B9
    have gk := C10.out.lt
    have q11 := Lib.hid (K.old q10.out (.cells #[.int .i64 80, .int .i64 443, .int .i64 53, .int .i64 (8000 + x4), .int .i64 x5] 3))
    have R11 := Lib.hid (K.old R10.out (.cells #[.int .i64 80, .int .i64 443, .int .i64 53, .int .i64 (8000 + x4), .int .i64 x5] 3))
    have C11 := Lib.hid (C10.out.below (Joins.below_alloc1 w10 (.cells #[.int .i64 80, .int .i64 443, .int .i64 53, .int .i64 (8000 + x4), .int .i64 x5] 3)))
    have G11 := Lib.hid (only_new G10.out (.cells #[.int .i64 80, .int .i64 443, .int .i64 53, .int .i64 (8000 + x4), .int .i64 x5] 3))
    have B11 := Lib.hid (World.ownsRow.alloc B10.out (.cells #[.int .i64 80, .int .i64 443, .int .i64 53, .int .i64 (8000 + x4), .int .i64 x5] 3))
    go_wp2_with fail
    clear q10 R10 C10 G10 B10
    refine Calls.mono (H6.out _ g A c C11.out) ?_
    rintro e w11 ⟨rfl, hc2, hg2⟩
    have q12 := Lib.hid (K.kept hg2 q11.out (fun k hk => by cases hk; omega))
    have R12 := Lib.hid (K.kept hg2 R11.out (fun k hk => by cases hk; omega))
    have C12 := Lib.hid hc2
    have G12 := Lib.hid (grownBy_trans G11.out hg2)
    have B12 := Lib.hid (own_grown B11.out hg2 (fun k h1 h2 => by cases h2; have := (B11.out.lt _ h1).1; omega))
    have cf := hg2.cell (K.row_cells w10 [80, 443, 53, (8000 + x4), x5] _ rfl 3 y6 u6 HU6.out) (fun e => by have e2 : w10.heap.size = g := Option.some.inj e; omega)
    clear hc2 hg2 q11 R11 C11 G11 B11
    have uu := K.cell q12.out 2 _ rfl
    have yy := frozen_of_row _ _ 2 _ _ q12.out
    have hyd : (y6 : Int) < 5 := by omega
    have q13 : Hid ((w11.setCell ⟨w1.heap.size, 2, none⟩ (.int .i64 u6)).heap[w1.heap.size]? = some (.cells #[.int .i64 2, .int .i64 u3, .int .i64 u6, .int .i64 0, .int .i64 0, .int .i64 0, .int .i64 0, .int .i64 0, .int .i64 0, .int .i64 0, .int .i64 0, .bool true, .slice none 0 0, .slice D0 ds.length d0] 36 (0, 0))) := Lib.hid (K.set q12.out 2 _)
    have R13 := Lib.hid (K.other R12.out w1.heap.size 2 (.int .i64 u6) (by omega))
    have C13 := Lib.hid (C12.out.grownBy (grownBy_set w11 w1.heap.size 2 (.int .i64 u6)) (fun u hu => by cases hu; omega))
    have G13 := Lib.hid (grown_other G12.out (grownBy_set w11 w1.heap.size 2 (.int .i64 u6)) (fun u hu => by cases hu; omega))
    have B13 := Lib.hid (own_grown B12.out (grownBy_set w11 w1.heap.size 2 (.int .i64 u6)) (fun k h1 h2 => by cases h2; exact NB.out _ h1 rfl))
    go_upto_region 21 with fail
    clear uu yy cf gk q12 R12 C12 G12 B12
    generalize (w11.setCell ⟨w1.heap.size, 2, none⟩ (.int .i64 u6)) = w12 at q13 R13 C13 G13 B13 ⊢
    go_wp2_with (first | (with_reducible refine loadU rfl _ rfl w1.heap.size rfl q13.out ?_) | (with_reducible refine storeU rfl _ _ rfl w.heap.size rfl rfl R13.out ?_))
    (try simp only [Exit.inBlock, Exit.then])
    refine bodyPost_ret (v := .agg #[.int .i64 2, .int .i64 u3, .int .i64 u6, .int .i64 0, .int .i64 0, .int .i64 0, .int .i64 0, .int .i64 0, .int .i64 0, .int .i64 0, .int .i64 0, .bool true, .slice none 0 0, .slice D0 ds.length d0]) ?_ rfl ⟨none, 0, D0, d0, rfl, ?_, ?_, (fun _ h => by cases h), ?_, ?_⟩
    · exact resU Try.results95 _ _ w.heap.size rfl (setRow_heap _ _ _ _ _ _ R13.out)
    · exact ⟨rfl, .inl ⟨rfl, rfl⟩⟩
    · exact own_base (own_grown B13.out (K.setRow_grown _ _ _) (fun k h1 h2 => by cases h2; have := (B13.out.lt _ h1).1; omega)) (by omega)
    · exact C13.out.grownBy (K.setRow_grown _ _ _) (fun u hu => by cases hu; omega)
    · exact grown_other G13.out (K.setRow_grown _ _ _) (fun u hu => by cases hu; omega)
end Go.Proofs.Ythogonpjkngpjaa
