/-
  AddrBytes in the model. The program's sixteen bytes of an address: packed, unpacked, firstBits. The program's sixteen bytes of an address: unpacked, firstBits. AddrBytes, AddrOf and Cut in the program. AddrOf in the program and in the model. The steps of a region that draws numbers off a cursor and puts them together: what each operation leaves. The region in which the laws compare a packet with a new copy: it draws its order. The region in which a law compares a variable with a new copy of its argument: it draws its order. For any struct, any copy, any comparison. The laws' own helpers on upper layers: whole loads and stores, a size. The marking of an IPv4 packet whose options take up all the room that the laws allow. The laws' own comparison of upper layers, their marking and a look at the marks. A region that draws its order, the first k operations of which may come up in any order, and the others only behind all of them and in their own order: the first ones by what each of them leaves, the others as a list. Plain: any program.
-/
import Derived.Test.YthogonpjkngpjaaRa02
import Derived.Laws.CopyOwn
import Derived.Laws.Rows
import Derived.Deep.WholeRow
import Derived.Deep.OwnRows
import Derived.Laws.ResultCell
import Derived.Test.YthogonpjkngpjaaRa01
import Derived.Laws.Tables
namespace Go.Proofs.Ythogonpjkngpjaa
set_option maxRecDepth 100000
open Go.RowKit

def BytesOut (x : Ad) (w : World) (e : Ending) (w' : World) : Prop := ∃ A c, e = .returned (.slice A x.bytes.length c) ∧ w'.ownsRow w.heap.size 5 1 (.slice A x.bytes.length c) x.bytes.length (cellsOf x.bytes) ∧ Below w.heap.size w w'
theorem bytesOut_no {x : Ad} (h : x.ok = false) {w w' : World} (hb : Below w.heap.size w w') : BytesOut x w (.returned (.slice none 0 0)) w' := by
  have e : x.bytes = [] := by simp [Ad.bytes, h]
  unfold BytesOut
  rw [e]
  exact ⟨none, 0, rfl, ⟨rfl, .inl ⟨rfl, rfl⟩⟩, hb⟩
theorem bytesOut_yes {x : Ad} {w w' : World} {A : Option Addr} {n c B : Nat} {bs : List UInt8} (he : x.bytes = bs) (hn : bs.length = n) (ho : w'.ownsRow B 5 1 (.slice A n c) n (cellsOf bs)) (hB : w.heap.size ≤ B) (hb : Below w.heap.size w w') :
    BytesOut x w (.returned (.slice A n c)) w' := by
  unfold BytesOut
  rw [he, hn]
  exact ⟨A, c, rfl, own_base ho hB, hb⟩
theorem bytes_four {x : Ad} (h : x.ok = true) (hk : x.k = 4) : x.bytes = put32 x.d := by simp [Ad.bytes, h, hk]
theorem bytes_six {x : Ad} (h : x.ok = true) (hk : x.k = 6) : x.bytes = x.whole := by simp [Ad.bytes, h, hk]

theorem cell_on {a b : World} {p : Addr} {v : Value} (h : Below a.heap.size a b) (hc : a.cell? p = some v) : b.cell? p = some v := (h.cell (World.block_lt_of_cell? _ _ hc)).trans hc
theorem undrew {a b : World} (h : Below a.drew.heap.size a.drew b) : Below a.heap.size a b := ⟨h.os, h.tape, h.output, h.size, h.block⟩
theorem cell_grown {a b : World} {row : Option Nat} {g i : Nat} {v : Value} (h : a.grownBy b row) (hne : ∀ k, row = some k → g < k) (hc : a.cell? ⟨g, i, none⟩ = some v) : b.cell? ⟨g, i, none⟩ = some v :=
  h.cell hc (fun e => by have := hne g e.symm; omega)

set_option maxHeartbeats 400000 in
theorem specAddrBytes_no (x : Ad) (h : x.ok = false) (w : World) : Calls Try.prog 98 #[.agg #[.int .i64 x.k, .int .i64 x.a, .int .i64 x.b, .int .i64 x.c, .int .i64 x.d]] w (BytesOut x w) := by
  have H := Lib.hid h
  clear h
  go_enter Try.func98, Try.ntmps98
  go_wp2_with fail
  refine (specAddrOk x _).mono ?_
  rintro e w1 ⟨rfl, b1⟩
  have h := H.out
  go_wp2
  go_ret
  exact bytesOut_no H.out (bthen (Joins.below_alloc1 w _) b1)

set_option maxHeartbeats 400000 in
theorem specAddrBytes_four (x : Ad) (h : x.ok = true) (hk : x.k = 4) (w : World) : Calls Try.prog 98 #[.agg #[.int .i64 x.k, .int .i64 x.a, .int .i64 x.b, .int .i64 x.c, .int .i64 x.d]] w (BytesOut x w) := by
  have H := Lib.hid (bytes_four h hk)
  have HH := Lib.hid (And.intro h hk)
  clear h hk
  go_enter Try.func98, Try.ntmps98
  go_wp2_with fail
  refine (specAddrOk x _).mono ?_
  rintro e w1 ⟨rfl, b1⟩
  obtain ⟨c0, c1, c2, c3, c4⟩ := ad_box b1
  obtain ⟨h, hk⟩ := HH.out
  go_wp2_with fail
  refine (specPut32 x.d _).mono ?_
  rintro e w2 ⟨A, c, rfl, o2, b2⟩
  go_wp2
  go_ret
  have b12 := bthen (Joins.below_alloc1 w _) b1
  exact bytesOut_yes H.out rfl o2 b12.size (bthen b12 b2)

set_option maxHeartbeats 400000 in
theorem specAddrBytes_six (x : Ad) (h : x.ok = true) (hk : x.k = 6) (w : World) : Calls Try.prog 98 #[.agg #[.int .i64 x.k, .int .i64 x.a, .int .i64 x.b, .int .i64 x.c, .int .i64 x.d]] w (BytesOut x w) := by
  have H := Lib.hid (bytes_six h hk)
  have HH := Lib.hid (And.intro h hk)
  clear h hk
  go_enter Try.func98, Try.ntmps98
  go_wp2_with fail
  refine (specAddrOk x _).mono ?_
  rintro e w1 ⟨rfl, b1⟩
  obtain ⟨c0, c1, c2, c3, c4⟩ := ad_box b1
  have bb := bthen (Joins.below_alloc1 w _) b1
  have hlt : w.heap.size < w1.heap.size := by have := b1.size; simp at this; omega
  clear b1
  obtain ⟨h, hk⟩ := HH.out
  go_wp2_with fail
  go_region_held3 (fun w' => w'.cell? ⟨w.heap.size, 1, none⟩ = some (.int .i64 x.a) ∧ w'.cell? ⟨w.heap.size, 2, none⟩ = some (.int .i64 x.b)) (first | exact ⟨c1, c2⟩ | exact ⟨cell_on b2 c1, cell_on b2 c2⟩ | exact ⟨cell_on b3 (cell_on b2 c1), cell_on b3 (cell_on b2 c2)⟩ | exact ⟨cell_grown hg4 hr4.out (cell_on b3 (cell_on b2 c1)), cell_grown hg4 hr4.out (cell_on b3 (cell_on b2 c2))⟩ | go_keep)
    (first | (go_at_call 99; with_reducible refine (specPut32 x.a _).mono ?_; rintro e w2 ⟨A2, k2, rfl, o2, b2⟩) | (go_at_call 99; with_reducible refine (specPut32 x.b _).mono ?_; rintro e w3 ⟨A3, k3, rfl, o3, b3⟩) | (refine step_append_b (by rfl) (.tmp 15) (.tmp 18) (by rfl) (w.heap.size + 1) (.slice A2 4 k2) (put32 x.a) (by rfl) (own_below (own_base o2 (show w.heap.size + 1 ≤ w1.drew.heap.size from hlt)) b3) _ A3 4 k3 (put32 x.b) (by rfl) rfl (RB.of_own o3) (by simp [put32]) (Nat.le_trans (show w.heap.size + 1 ≤ w1.drew.heap.size from hlt) (Nat.le_trans b2.size b3.size)) ?_; intro v4 w4 o4 hg4 ha4; have hr4 := Lib.hid (show ∀ k, (Value.slice A2 4 k2).ownBlock = some k → w.heap.size < k from fun k hk => Nat.lt_of_lt_of_le (show w.heap.size < w1.drew.heap.size from hlt) (o2.lt k hk).1)))
  obtain ⟨A4, k4, rfl⟩ := own_form o4
  have b4 : Below w.heap.size w w4 := bgrown (bthen bb (bthen (undrew b2) b3)) hg4 (fun k hk => Nat.le_of_lt (hr4.out k hk))
  have lt4 : w.heap.size < w4.heap.size := Nat.lt_of_lt_of_le (Nat.lt_of_lt_of_le hlt (Nat.le_trans b2.size b3.size)) hg4.size
  have d3 := cell_grown hg4 hr4.out (cell_on b3 (cell_on b2 c3))
  have d4 := cell_grown hg4 hr4.out (cell_on b3 (cell_on b2 c4))
  have r4 := Lib.hid (show ∀ k, (Value.slice A4 (put32 x.a ++ put32 x.b).length k4).ownBlock = some k → w.heap.size < k from fun k hk => (o4.lt k hk).1)
  clear c0 c1 c2 c3 c4 o2 o3 b2 b3 ha4 hg4 hr4
  go_wp2_with fail
  go_region_held3 (fun w' => w'.cell? ⟨w.heap.size, 3, none⟩ = some (.int .i64 x.c) ∧ w'.cell? ⟨w.heap.size, 4, none⟩ = some (.int .i64 x.d)) (first | exact ⟨d3, d4⟩ | exact ⟨cell_on b5 d3, cell_on b5 d4⟩ | exact ⟨cell_grown hg6 r4.out (cell_on b5 d3), cell_grown hg6 r4.out (cell_on b5 d4)⟩ | exact ⟨cell_on b7 (cell_grown hg6 r4.out (cell_on b5 d3)), cell_on b7 (cell_grown hg6 r4.out (cell_on b5 d4))⟩ | exact ⟨cell_grown hg8 r6.out (cell_on b7 (cell_grown hg6 r4.out (cell_on b5 d3))), cell_grown hg8 r6.out (cell_on b7 (cell_grown hg6 r4.out (cell_on b5 d4)))⟩ | go_keep)
    (first | (go_at_call 99; with_reducible refine (specPut32 x.c _).mono ?_; rintro e w5 ⟨A5, k5, rfl, o5, b5⟩) | (go_at_call 99; with_reducible refine (specPut32 x.d _).mono ?_; rintro e w7 ⟨A7, k7, rfl, o7, b7⟩) | (refine step_append_b (by rfl) (.tmp 20) (.tmp 23) (by rfl) (w.heap.size + 1) (.slice A4 (put32 x.a ++ put32 x.b).length k4) (put32 x.a ++ put32 x.b) (by rfl) (own_below o4 (undrew b5)) _ A5 4 k5 (put32 x.c) (by rfl) rfl (RB.of_own o5) (by simp [put32]) (Nat.le_trans (show w.heap.size + 1 ≤ w4.drew.heap.size from lt4) b5.size) ?_; intro v6 w6 o6 hg6 ha6; have r6 := Lib.hid (show ∀ k, v6.ownBlock = some k → w.heap.size < k from fun k hk => (o6.lt k hk).1)) | (refine step_append_b (by rfl) (.tmp 24) (.tmp 27) (by rfl) (w.heap.size + 1) v6 ((put32 x.a ++ put32 x.b) ++ put32 x.c) (by rfl) (own_below o6 b7) _ A7 4 k7 (put32 x.d) (by rfl) rfl (RB.of_own o7) (by simp [put32]) (Nat.le_trans (Nat.le_trans (Nat.le_trans (show w.heap.size + 1 ≤ w4.drew.heap.size from lt4) b5.size) hg6.size) b7.size) ?_; intro v8 w8 o8 hg8 ha8))
  obtain ⟨A8, k8, rfl⟩ := own_form o8
  go_wp2
  go_ret
  exact bytesOut_yes H.out rfl o8 (by omega) (bgrown (bthen (bgrown (bthen b4 (undrew b5)) hg6 (fun k hk => Nat.le_of_lt (r4.out k hk))) b7) hg8 (fun k hk => Nat.le_of_lt (r6.out k hk)))

theorem specAddrBytes (x : Ad) (w : World) : Calls Try.prog 98 #[.agg #[.int .i64 x.k, .int .i64 x.a, .int .i64 x.b, .int .i64 x.c, .int .i64 x.d]] w (BytesOut x w) := by
  cases h : x.ok
  · exact specAddrBytes_no x h w
  · rcases x.ok_kind h with hk | hk
    · exact specAddrBytes_four x h hk w
    · exact specAddrBytes_six x h hk w
end Go.Proofs.Ythogonpjkngpjaa

namespace Go.Proofs.Ythogonpjkngpjaa
set_option maxRecDepth 100000
open Go.RowKit

def Ad.part (x : Ad) (i : Nat) : Int := match i with | 0 => x.a | 1 => x.b | 2 => x.c | _ => x.d
def Ad.fill (x : Ad) (i : Nat) : List UInt8 := x.whole.take (4 * i) ++ List.replicate (16 - 4 * i) 0
theorem four_cases {i : Nat} (h : i < 4) : i = 0 ∨ i = 1 ∨ i = 2 ∨ i = 3 := by omega
theorem index_part (x : Ad) (i : Nat) (h : i < 4) (w : World) :
    (Instr.index 130 (.agg #[.int .i64 x.a, .int .i64 x.b, .int .i64 x.c, .int .i64 x.d]) (.int .i64 (i : Int))).run Try.prog w = .ok (.int .i64 (x.part i)) w := by
  rcases four_cases h with rfl | rfl | rfl | rfl <;> rfl
theorem fill_splice (x : Ad) (i : Nat) (h : i < 4) : splice (cellsOf (x.fill i)) (4 * i) (cellsOf (put32 (x.part i))) = cellsOf (x.fill (i + 1)) := by
  rcases four_cases h with rfl | rfl | rfl | rfl <;> simp [splice, Ad.fill, Ad.whole, put32, cellsOf, Ad.part]
theorem fill_length (x : Ad) (i : Nat) (h : i ≤ 4) : (x.fill i).length = 16 := by
  simp [Ad.fill, Ad.whole_length]
  omega
theorem fill_end (x : Ad) : x.fill 4 = x.whole := by simp [Ad.fill, Ad.whole, put32]
theorem info_arr : (Try.prog.info? 124).map (·.size) = some 16 := by kernel_rfl
theorem info_u8s : (Try.prog.info? 5).map (·.size) = some 1 := by kernel_rfl

theorem slice_arr (g m : Nat) (h : m < 16) (w : World) : (Instr.sliceAt 124 (.pointer (some ⟨g, 0, none⟩)) (some (.int .i64 (m : Int))) none none).run Try.prog w = .ok (.slice (some ⟨g, m, none⟩) (16 - m) (16 - m)) w := by
  obtain ⟨i0, hi0, hz0, hz1, hz2⟩ := info_parts info_u8
  have e : Try.prog.elem 124 = 5 := by kernel_rfl
  have el : Try.prog.arrayLen 124 = 16 := by kernel_rfl
  rw [run_sliceAt_array_l w _ _ (by kernel_rfl) .i64 (m : Int) (by omega) (by rw [el]; omega)]
  simp [e, el, sizeOf, typeInfo, hi0, slicedAt, hz1, addr_add]
  omega
theorem row_on {a b : World} {B g : Nat} {o : Obj} (h : Below B a b) (hg : g < B) (hr : a.heap[g]? = some o) : b.heap[g]? = some o := (h.block g hg).trans hr
theorem row_lt {a : World} {g : Nat} {o : Obj} (h : a.heap[g]? = some o) : g < a.heap.size := (Array.getElem?_eq_some_iff.1 h).1

theorem row_new2 (w : World) (a b c : Obj) : (((w.alloc a).alloc b).alloc c).heap[w.heap.size + 1]? = some b := by
  have h := heap_alloc_new (w.alloc a) b
  have e : (w.alloc a).heap.size = w.heap.size + 1 := by simp
  have e2 : ((w.alloc a).alloc b).heap.size = w.heap.size + 1 + 1 := by simp
  rw [e] at h
  exact (Go.heap_alloc_old ((w.alloc a).alloc b) c (by omega)).trans h
theorem row_new3 (w : World) (a b c : Obj) : (((w.alloc a).alloc b).alloc c).heap[w.heap.size + 1 + 1]? = some c := by
  have h := heap_alloc_new ((w.alloc a).alloc b) c
  have e2 : ((w.alloc a).alloc b).heap.size = w.heap.size + 1 + 1 := by simp
  rwa [e2] at h
theorem own_src {w : World} {base : Nat} {e : TypeId} {g n c : Nat} {xs : List Value} (h : w.ownsRow base e 1 (.slice (some ⟨g, 0, none⟩) n c) n xs) : ∀ j v, xs[j]? = some v → w.cell? ((⟨g, 0, none⟩ : Addr).add j) = some v := by
  intro j v hv
  have hl := h.1
  have hj : j < xs.length := by
    rcases Nat.lt_or_ge j xs.length with hj | hj
    · exact hj
    · rw [List.getElem?_eq_none hj] at hv; cases hv
  rw [addr_add, Nat.zero_add, h.cellAt j (by omega)]
  exact hv
theorem cells_size (bs : List UInt8) : (cellsOf bs).toArray.size = bs.length := by simp [cellsOf]
theorem store_cells (w : World) (g : Nat) (t : TypeId) (old : Array Value) (bs : List UInt8) (hg : w.heap[g]? = some (.cells old t (0, 0))) (hl : old.size = bs.length) :
    (storeCells ⟨g, 0, none⟩ (cellsOf bs)).run Try.prog w = .ok () (w.setRow g (cellsOf bs).toArray) := by
  have := run_storeCells_from (P := Try.prog) g t (cellsOf bs) 0 old w hg (by rw [cellsOf_length]; omega) (cellsOf_one bs)
  simpa using this
set_option maxHeartbeats 400000 in
theorem packedC (x : Ad) (w : World) : Calls Try.prog 113 #[.agg #[.int .i64 x.k, .int .i64 x.a, .int .i64 x.b, .int .i64 x.c, .int .i64 x.d]] w fun e w' => e = .returned (.agg (cellsOf x.whole).toArray) ∧ Below w.heap.size w w' := by
  go_enter Try.func113, Try.ntmps113
  go_wp2_with fail
  go_loopw [15] (fun s wr => ∃ i : Nat, i ≤ 4 ∧ s = .int .i64 i ∧ wr.heap[w.heap.size + 1]? = some (.cells (cellsOf (List.replicate 16 0)).toArray 124 (0, 0)) ∧ wr.heap[w.heap.size + 1 + 1]? = some (.cells (cellsOf (x.fill i)).toArray 124 (0, 0)) ∧ Below w.heap.size w wr) (fun s _ => 4 - (intOf s).toNat)
  case atStart =>
    refine ⟨0, by omega, rfl, ?_, ?_, by go_grown⟩
    · exact row_new2 w _ _ _
    · exact row_new3 w _ _ _
  case round =>
    obtain ⟨i, hi, rfl, h1, h2, hb⟩ := hrel
    by_cases hlt : i < 4
    · have hidx := index_part x i hlt
      obtain ⟨y, hy⟩ : ∃ y, y = x.part i := ⟨_, rfl⟩
      rw [← hy] at hidx
      have HY := Lib.hid hy
      have H1 := Lib.hid h1
      have H2 := Lib.hid h2
      clear hy h1 h2
      obtain ⟨m, hm⟩ : ∃ m : Nat, m = 4 * i := ⟨_, rfl⟩
      have hm16 : m < 16 := by omega
      have hm12 : m ≤ 12 := by omega
      have hw : IntKind.i64.wrap (4 * (i : Int)) = (m : Int) := by rw [IntKind.wrap_i64]; omega
      have hsl := slice_arr (w.heap.size + 1 + 1) m hm16
      have HM := Lib.hid hm
      have hl : w.heap.size + 1 + 1 < wr.heap.size := row_lt H2.out
      clear hm
      go_wp2_with fail
      go_region_law (first | (go_simp; go_at_call 74; refine (implPut32 y _).mono ?_; rintro e w2 ⟨rfl, o2, b2⟩) | (refine step_copy_splice (by rfl) (.tmp 21) (.tmp 23) 34 34 (by rfl) 5 Try.underlying34 info_u8s (some ⟨w.heap.size + 1 + 1, m, none⟩) _ (16 - m) (16 - m) 4 4 (by rfl) (by rfl) (w.heap.size + 1 + 1) m (cellsOf (x.fill i)) 124 (row_on b2 (row_lt H2.out) H2.out) (cellsOf (put32 y)) (by rw [cellsOf_length, put32_length]; exact (Nat.min_eq_left (by omega)).symm) (fun _ => ⟨rfl, _, rfl, own_src o2⟩) (by rw [cellsOf_length, cellsOf_length, put32_length, fill_length x i hi]; omega) (cellsOf_one _) (w.heap.size + 1 + 1) wr ((undrew b2).mono (Nat.le_of_lt hl)) (Nat.le_refl _) ?_; intro w4 hg4 hb4))
      go_wp2
      go_roundw
      case rel =>
        refine ⟨i + 1, by omega, by go_num, row_on hb4 (by omega) H1.out, ?_, hb.trans (hb4.mono (by omega))⟩
        rw [← fill_splice x i hlt, ← HM.out, ← HY.out]
        exact hg4.out
      case measure => simp [intOf]; omega
    · obtain rfl : i = 4 := by omega
      rw [fill_end] at h2
      have H1 := Lib.hid h1
      have H2 := Lib.hid h2
      clear h1 h2
      have hs16 := cells_size x.whole
      rw [x.whole_length] at hs16
      have HS := Lib.hid hs16
      clear hs16
      have hst := store_cells wr (w.heap.size + 1) 124 _ x.whole H1.out (by rw [x.whole_length]; rfl)
      go_wp2_with (with_reducible refine wpList_load_row rfl 124 (.tmp 3) rfl (w.heap.size + 1 + 1) rfl 124 (cellsOf x.whole).toArray (0, 0) _ H2.out Try.underlying124 rfl (by rw [HS.out]; exact info_arr) ?_)
      (try simp only [Exit.inBlock, Exit.then])
      refine bodyPost_ret (v := .agg (cellsOf x.whole).toArray) ?_ rfl ⟨rfl, below_setRow hb (by omega) _⟩
      exact results_cell_row rfl _ _ (w.heap.size + 1) 124 (cellsOf x.whole).toArray (0, 0) _ rfl (setRow_heap _ _ _ _ _ _ H1.out) Try.underlying124 rfl (by rw [HS.out]; exact info_arr)
end Go.Proofs.Ythogonpjkngpjaa

namespace Go.Proofs.Ythogonpjkngpjaa
set_option maxRecDepth 100000
open Go.RowKit

theorem bits_is (x : Ad) (h : x.ok = true) (w : World) : Calls Try.prog 114 #[.int .i64 x.k] w fun e w' => e = .returned (.int .i64 x.bits) ∧ w = w' := bitsOfC x.k (x.ok_kind h) w
end Go.Proofs.Ythogonpjkngpjaa

namespace Go.Proofs.Ythogonpjkngpjaa
set_option maxRecDepth 100000
open Go.RowKit

theorem own_of_row {w : World} {base g n : Nat} {e : TypeId} {xs : List Value} (h : w.heap[g]? = some (.cells xs.toArray e (0, 0))) (hb : base ≤ g) (hn : xs.length = n) (hm : n ≤ maxLen) : w.ownsRow base e 1 (.slice (some ⟨g, 0, none⟩) n n) n xs := by
  refine ⟨by omega, .inr ⟨g, n, xs.toArray, rfl, hb, h, Nat.le_refl _, hm, by simp; omega, ?_⟩⟩
  rw [List.take_of_length_le (by simp; omega)]

theorem whole_back4 {x : Ad} (h : x.a = 0 ∧ x.b = 0 ∧ x.c = 0) (j : Nat) (v : Value) (hv : (cellsOf (put32 x.d))[j]? = some v) : (cellsOf x.whole)[12 + j]? = some v := by
  rw [whole_four h, cellsOf_append, List.getElem?_append_right (by simp [cellsOf])]
  simpa [cellsOf] using hv

theorem make_bytes (n : Nat) (hn : n ≤ 1048576) (w : World) : (Instr.makeSlice 34 (.int .i64 (n : Int)) (.int .i64 (n : Int))).run Try.prog w = .ok (.slice (some ⟨w.heap.size, 0, none⟩) n n) (w.alloc (.cells (cellsOf (List.replicate n 0)).toArray 5)) := by
  have h := Go.run_make_row' (P := Try.prog) 34 5 (.int .u8 0) 1 Try.underlying34 info_u8 rfl .i64 .i64 n (by omega) (by omega) w
  have e : madeCells #[Value.int .u8 0] n = (cellsOf (List.replicate n 0)).toArray := by
    have := toList_madeCells_one (.int .u8 0) n
    apply Array.toList_inj.1
    simpa [cellsOf] using this
  rw [h, e]

set_option maxHeartbeats 400000 in
theorem implAddrBytes_no (x : Ad) (h : x.ok = false) (w : World) : Calls Try.prog 77 #[.agg #[.int .i64 x.k, .int .i64 x.a, .int .i64 x.b, .int .i64 x.c, .int .i64 x.d]] w (BytesOut x w) := by
  have H := Lib.hid h
  clear h
  go_enter Try.func77, Try.ntmps77
  go_wp2_with fail
  refine (implAddrOk x _).mono ?_
  rintro e w1 ⟨rfl, b1⟩
  have h := H.out
  go_wp2
  go_ret
  exact bytesOut_no H.out (bthen (Joins.below_alloc1 w _) b1)

set_option maxHeartbeats 400000 in
theorem implAddrBytes_four (x : Ad) (h : x.ok = true) (hk : x.k = 4) (w : World) : Calls Try.prog 77 #[.agg #[.int .i64 x.k, .int .i64 x.a, .int .i64 x.b, .int .i64 x.c, .int .i64 x.d]] w (BytesOut x w) := by
  have H := Lib.hid (bytes_four h hk)
  have HZ := Lib.hid (x.ok_four h hk)
  have HK := Lib.hid (bits_is x h)
  have HB := Lib.hid (show x.bits = 32 by simp [Ad.bits, hk])
  have HH := Lib.hid h
  clear h hk
  go_enter Try.func77, Try.ntmps77
  go_wp2_with fail
  refine (implAddrOk x _).mono ?_
  rintro e w1 ⟨rfl, b1⟩
  obtain ⟨c0, c1, c2, c3, c4⟩ := ad_box b1
  have bb := bthen (Joins.below_alloc1 w _) b1
  have h := HH.out
  clear b1
  go_wp2_with fail
  refine (packedC x _).mono ?_
  rintro e w2 ⟨rfl, b2⟩
  have hst := store_cells (w2.alloc (.cells (cellsOf (List.replicate 16 0)).toArray 124)) w2.heap.size 124 _ x.whole (Go.heap_alloc_last _ _) (by rw [x.whole_length]; rfl)
  have hz : (cellsOf (List.replicate 16 0)).toArray = #[Value.int .u8 0, .int .u8 0, .int .u8 0, .int .u8 0, .int .u8 0, .int .u8 0, .int .u8 0, .int .u8 0, .int .u8 0, .int .u8 0, .int .u8 0, .int .u8 0, .int .u8 0, .int .u8 0, .int .u8 0, .int .u8 0] := rfl
  rw [World.setRow_alloc_new, hz] at hst
  have cA : (w2.alloc (.cells (cellsOf x.whole).toArray 124)).cell? ⟨w.heap.size, 0, none⟩ = some (.int .i64 x.k) := cell_on (Joins.below_alloc1 w2 _) (cell_on b2 c0)
  have hl16 : (cellsOf x.whole).length = 16 := by rw [cellsOf_length, x.whole_length]
  have B2 := bthen bb b2
  clear hz c0 c1 c2 c3 c4
  have hmk : ∀ w, (Instr.makeSlice 34 (.int .i64 4) (.int .i64 4)).run Try.prog w = .ok (.slice (some ⟨w.heap.size, 0, none⟩) 4 4) (w.alloc (.cells (cellsOf (List.replicate 4 0)).toArray 5)) := make_bytes 4 (by omega)
  have hsl := slice_arr w2.heap.size 12 (by omega)
  go_wp2_with (first | (go_at_call 114; refine (HK.out _).mono ?_; rintro e w' ⟨rfl, rfl⟩; rw [HB.out]) | (with_reducible refine wpList_copy_splice rfl (.tmp 15) (.tmp 19) 34 34 rfl 5 Try.underlying34 info_u8s _ _ _ _ _ _ rfl rfl (w2.heap.size + 1) 0 (cellsOf (List.replicate 4 0)) 5 ?_ (cellsOf (put32 x.d)) ?_ ?_ ?_ (cellsOf_one _) (w2.heap.size + 1) _ (Below.refl _ _) (Nat.le_refl _) ?_))
  · exact heap_alloc2_new w2 _ _
  · rfl
  · exact fun _ j v hv => whole_back4 HZ.out j v hv
  · simp [cellsOf, put32]
  · intro w4 hg4 hb4
    have hg : w4.heap[w2.heap.size + 1]? = some (.cells (cellsOf (put32 x.d)).toArray 5 (0, 0)) := by simpa [splice, cellsOf, put32] using hg4.out
    have o4 := Lib.hid (own_of_row (base := w2.heap.size + 1) hg (Nat.le_refl _) (show _ = 4 from rfl) (by decide))
    clear hg
    go_wp2
    go_ret
    exact bytesOut_yes H.out rfl o4.out (by have := B2.size; omega) ((bthen B2 (Joins.below_alloc2 w2 _ _)).trans (hb4.mono (by have := B2.size; omega)))
set_option maxHeartbeats 400000 in
theorem implAddrBytes_six (x : Ad) (h : x.ok = true) (hk : x.k = 6) (w : World) : Calls Try.prog 77 #[.agg #[.int .i64 x.k, .int .i64 x.a, .int .i64 x.b, .int .i64 x.c, .int .i64 x.d]] w (BytesOut x w) := by
  have H := Lib.hid (bytes_six h hk)
  have HK := Lib.hid (bits_is x h)
  have HB := Lib.hid (show x.bits = 128 by simp [Ad.bits, hk])
  have HH := Lib.hid h
  clear h hk
  go_enter Try.func77, Try.ntmps77
  go_wp2_with fail
  refine (implAddrOk x _).mono ?_
  rintro e w1 ⟨rfl, b1⟩
  obtain ⟨c0, c1, c2, c3, c4⟩ := ad_box b1
  have bb := bthen (Joins.below_alloc1 w _) b1
  have h := HH.out
  clear b1
  go_wp2_with fail
  refine (packedC x _).mono ?_
  rintro e w2 ⟨rfl, b2⟩
  have hst := store_cells (w2.alloc (.cells (cellsOf (List.replicate 16 0)).toArray 124)) w2.heap.size 124 _ x.whole (Go.heap_alloc_last _ _) (by rw [x.whole_length]; rfl)
  have hz : (cellsOf (List.replicate 16 0)).toArray = #[Value.int .u8 0, .int .u8 0, .int .u8 0, .int .u8 0, .int .u8 0, .int .u8 0, .int .u8 0, .int .u8 0, .int .u8 0, .int .u8 0, .int .u8 0, .int .u8 0, .int .u8 0, .int .u8 0, .int .u8 0, .int .u8 0] := rfl
  rw [World.setRow_alloc_new, hz] at hst
  have cA : (w2.alloc (.cells (cellsOf x.whole).toArray 124)).cell? ⟨w.heap.size, 0, none⟩ = some (.int .i64 x.k) := cell_on (Joins.below_alloc1 w2 _) (cell_on b2 c0)
  have hl16 : (cellsOf x.whole).length = 16 := by rw [cellsOf_length, x.whole_length]
  have B2 := bthen bb b2
  clear hz c0 c1 c2 c3 c4
  have hmk : ∀ w, (Instr.makeSlice 34 (.int .i64 16) (.int .i64 16)).run Try.prog w = .ok (.slice (some ⟨w.heap.size, 0, none⟩) 16 16) (w.alloc (.cells (cellsOf (List.replicate 16 0)).toArray 5)) := make_bytes 16 (by omega)
  have hsl := slice_arr w2.heap.size 0 (by omega)
  go_wp2_with (first | (go_at_call 114; refine (HK.out _).mono ?_; rintro e w' ⟨rfl, rfl⟩; rw [HB.out]) | (with_reducible refine wpList_copy_splice rfl (.tmp 15) (.tmp 19) 34 34 rfl 5 Try.underlying34 info_u8s _ _ _ _ _ _ rfl rfl (w2.heap.size + 1) 0 (cellsOf (List.replicate 16 0)) 5 ?_ (cellsOf x.whole) ?_ ?_ ?_ (cellsOf_one _) (w2.heap.size + 1) _ (Below.refl _ _) (Nat.le_refl _) ?_))
  · exact heap_alloc2_new w2 _ _
  · rfl
  · simp [cellsOf, Ad.whole, put32]
  · intro w4 hg4 hb4
    have hg : w4.heap[w2.heap.size + 1]? = some (.cells (cellsOf x.whole).toArray 5 (0, 0)) := by simpa [splice, cellsOf, Ad.whole, put32] using hg4.out
    have o4 := Lib.hid (own_of_row (base := w2.heap.size + 1) hg (Nat.le_refl _) (show _ = 16 from rfl) (by decide))
    clear hg
    go_wp2
    go_ret
    exact bytesOut_yes H.out rfl o4.out (by have := B2.size; omega) ((bthen B2 (Joins.below_alloc2 w2 _ _)).trans (hb4.mono (by have := B2.size; omega)))
theorem implAddrBytes (x : Ad) (w : World) : Calls Try.prog 77 #[.agg #[.int .i64 x.k, .int .i64 x.a, .int .i64 x.b, .int .i64 x.c, .int .i64 x.d]] w (BytesOut x w) := by
  cases h : x.ok
  · exact implAddrBytes_no x h w
  · rcases x.ok_kind h with hk | hk
    · exact implAddrBytes_four x h hk w
    · exact implAddrBytes_six x h hk w
end Go.Proofs.Ythogonpjkngpjaa

namespace Go.Proofs.Ythogonpjkngpjaa
set_option maxRecDepth 100000
open Go.RowKit

/-- The cells of a block of five that may be written. -/
theorem row5 {w : World} {g : Nat} {v0 v1 v2 v3 v4 : Value} {t : TypeId} (h : w.heap[g]? = some (.cells #[v0, v1, v2, v3, v4] t (0, 0))) :
    (w.cell? ⟨g, 0, none⟩ = some v0 ∧ w.cell? ⟨g, 1, none⟩ = some v1 ∧ w.cell? ⟨g, 2, none⟩ = some v2 ∧ w.cell? ⟨g, 3, none⟩ = some v3 ∧ w.cell? ⟨g, 4, none⟩ = some v4) ∧
      (w.frozen? ⟨g, 0, none⟩ = false ∧ w.frozen? ⟨g, 1, none⟩ = false ∧ w.frozen? ⟨g, 2, none⟩ = false ∧ w.frozen? ⟨g, 3, none⟩ = false ∧ w.frozen? ⟨g, 4, none⟩ = false) :=
  ⟨⟨cell_of_row w g 0 _ _ _ h, cell_of_row w g 1 _ _ _ h, cell_of_row w g 2 _ _ _ h, cell_of_row w g 3 _ _ _ h, cell_of_row w g 4 _ _ _ h⟩,
    ⟨frozen_of_row w g 0 _ _ h, frozen_of_row w g 1 _ _ h, frozen_of_row w g 2 _ _ h, frozen_of_row w g 3 _ _ h, frozen_of_row w g 4 _ _ h⟩⟩
end Go.Proofs.Ythogonpjkngpjaa

namespace Go.Proofs.Ythogonpjkngpjaa
set_option maxRecDepth 100000
open Go.RowKit

/-- What a slot may hold: the cursor's pointer, the result's pointer, an integer, an index below n, a row of n integers, a pointer to an integer. -/
inductive Av where
  | cur | res | int | idx (n : Nat) | row (n : Nat) | cellp | ad | any
/-- Nothing has turned but the blocks g and r; there may be new ones. -/
def Turned (g r : Nat) (w w' : World) : Prop := w.heap.size ≤ w'.heap.size ∧ ∀ i, i < w.heap.size → i ≠ g → i ≠ r → w'.heap[i]? = w.heap[i]?
theorem Turned.cell {g r : Nat} {w w' : World} (h : Turned g r w w') {b j : Nat} {v : Value} (hg : b ≠ g) (hr : b ≠ r) (hc : w.cell? ⟨b, j, none⟩ = some v) : w'.cell? ⟨b, j, none⟩ = some v := by
  have hb : b < w.heap.size := World.block_lt_of_cell? _ _ hc
  rw [← hc]
  unfold World.cell?
  simp only [h.2 b hb hg hr]
theorem Turned.refl (g r : Nat) (w : World) : Turned g r w w := ⟨Nat.le_refl _, fun _ _ _ _ => rfl⟩
theorem Turned.alloc (g r : Nat) (w : World) (o : Obj) : Turned g r w (w.alloc o) := ⟨by simp, fun i hi _ _ => Below.heap_alloc w o i hi⟩
section
variable {o : Oper} {a : Act} {w : World} {K : Act → World → Prop} {Q : Exit → Act → World → Prop}
end

/-- What stands in a region that draws numbers off the cursor in block g and lays an address into block r: W is the world at the call's begin. -/
def InReg (W : World) (g r : Nat) (A : Option Addr) (c : Nat) (bs : List UInt8) (t : Nat) (k : Nat) (w : World) : Prop :=
  (∃ t', t' ≤ t + 4 * k ∧ Cur w g A c bs t') ∧ (∃ x : Ad, w.heap[r]? = some (.cells #[.int .i64 x.k, .int .i64 x.a, .int .i64 x.b, .int .i64 x.c, .int .i64 x.d] 27 (0, 0))) ∧ W.grownBy w (some g)
section
variable {W w w' : World} {g r : Nat} {A : Option Addr} {c : Nat} {bs : List UInt8} {t k : Nat}
theorem InReg.more (h : InReg W g r A c bs t k w) : InReg W g r A c bs t (k + 1) w := by
  obtain ⟨⟨t', h1, h2⟩, h3, h4⟩ := h
  exact ⟨⟨t', by omega, h2⟩, h3, h4⟩
theorem InReg.alloc (h : InReg W g r A c bs t k w) (o : Obj) : InReg W g r A c bs t (k + 1) (w.alloc o) := by
  obtain ⟨⟨t', h1, h2⟩, ⟨x, hx⟩, h4⟩ := h
  refine ⟨⟨t', by omega, h2.below (Joins.below_alloc1 w o)⟩, ⟨x, (Below.heap_alloc w o r (Array.getElem?_eq_some_iff.1 hx).1).trans hx⟩, only_new h4 o⟩
theorem InReg.drawn (h : InReg W g r A c bs t k w) (hg : w.grownBy w' (some g)) (hrg : r ≠ g) {t' : Nat} (ht : t' ≤ t + 4 * (k + 1)) (hc : Cur w' g A c bs t') : InReg W g r A c bs t (k + 1) w' := by
  obtain ⟨_, ⟨x, hx⟩, h4⟩ := h
  exact ⟨⟨t', ht, hc⟩, ⟨x, (hg.block r (Array.getElem?_eq_some_iff.1 hx).1 (fun e => hrg (Option.some.inj e))).trans hx⟩, grownBy_trans h4 hg⟩
end
end Go.Proofs.Ythogonpjkngpjaa

namespace Go.Proofs.Ythogonpjkngpjaa
set_option maxRecDepth 100000
open Go.RowKit



section
variable {o : Oper} {a : Act} {w : World} {K : Act → World → Prop} {Q : Exit → Act → World → Prop}
end

end Go.Proofs.Ythogonpjkngpjaa

namespace Go.Proofs.Ythogonpjkngpjaa
set_option maxRecDepth 100000
open Go.RowKit

section
variable {o : Oper} {a : Act} {w : World} {K : Act → World → Prop} {Q : Exit → Act → World → Prop}
end

end Go.Proofs.Ythogonpjkngpjaa

namespace Go.Proofs.Ythogonpjkngpjaa
set_option maxRecDepth 100000
open Go.RowKit

theorem info_up : (Try.prog.info? 36).map (·.size) = some 14 := by kernel_rfl





theorem loadU {ops : Array Oper} {rest : List Oper} {o : Oper} {a : Act} {w : World} {Q : Exit → Act → World → Prop} (hgd : o.guard = none) (x : Operand) (ho : o.op = .load 36 x) (g : Nat) (hx : a.eval x = .pointer (some ⟨g, 0, none⟩)) {t : TypeId} {v0 v1 v2 v3 v4 v5 v6 v7 v8 v9 v10 v11 v12 v13 : Value}
    (hg : w.heap[g]? = some (.cells #[v0, v1, v2, v3, v4, v5, v6, v7, v8, v9, v10, v11, v12, v13] t (0, 0))) (h : wpList Try.prog ops Q rest (a.put o.dst (.agg #[v0, v1, v2, v3, v4, v5, v6, v7, v8, v9, v10, v11, v12, v13])) w) : wpList Try.prog ops Q (o :: rest) a w :=
  wpList_load_row hgd 36 x ho g hx t _ (0, 0) _ hg Try.underlying36 rfl info_up h

theorem storeU {ops : Array Oper} {rest : List Oper} {o : Oper} {a : Act} {w : World} {Q : Exit → Act → World → Prop} (hgd : o.guard = none) (x y : Operand) (ho : o.op = .store 36 x y) (g : Nat) {n0 n1 n2 n3 n4 n5 n6 n7 n8 n9 n10 : Int} {bb : Bool} {A D : Option Addr} {l c m d : Nat} (hx : a.eval x = .pointer (some ⟨g, 0, none⟩)) (hy : a.eval y = .agg #[.int .i64 n0, .int .i64 n1, .int .i64 n2, .int .i64 n3, .int .i64 n4, .int .i64 n5, .int .i64 n6, .int .i64 n7, .int .i64 n8, .int .i64 n9, .int .i64 n10, .bool bb, .slice A l c, .slice D m d]) {t : TypeId} {u0 u1 u2 u3 u4 u5 u6 u7 u8 u9 u10 u11 u12 u13 : Value}
    (hg : w.heap[g]? = some (.cells #[u0, u1, u2, u3, u4, u5, u6, u7, u8, u9, u10, u11, u12, u13] t (0, 0))) (h : wpList Try.prog ops Q rest (a.put o.dst undef) (w.setRow g #[.int .i64 n0, .int .i64 n1, .int .i64 n2, .int .i64 n3, .int .i64 n4, .int .i64 n5, .int .i64 n6, .int .i64 n7, .int .i64 n8, .int .i64 n9, .int .i64 n10, .bool bb, .slice A l c, .slice D m d])) : wpList Try.prog ops Q (o :: rest) a w :=
  wpList_store_row hgd 36 x y ho g _ hx hy t _ hg info_up rfl (by simp [Value.oneCell']) h

/-- An upper layer is stored into a variable that was just made. -/
theorem storeNewU {ops : Array Oper} {rest : List Oper} {o : Oper} {a : Act} {w : World} {Q : Exit → Act → World → Prop} (hgd : o.guard = none) (x y : Operand) (ho : o.op = .store 36 x y) {n0 n1 n2 n3 n4 n5 n6 n7 n8 n9 n10 : Int} {bb : Bool} {A D : Option Addr} {l c m d : Nat} (hx : a.eval x = .pointer (some ⟨w.heap.size, 0, none⟩)) (hy : a.eval y = .agg #[.int .i64 n0, .int .i64 n1, .int .i64 n2, .int .i64 n3, .int .i64 n4, .int .i64 n5, .int .i64 n6, .int .i64 n7, .int .i64 n8, .int .i64 n9, .int .i64 n10, .bool bb, .slice A l c, .slice D m d])
    (h : wpList Try.prog ops Q rest (a.put o.dst undef) (w.alloc (.cells #[.int .i64 n0, .int .i64 n1, .int .i64 n2, .int .i64 n3, .int .i64 n4, .int .i64 n5, .int .i64 n6, .int .i64 n7, .int .i64 n8, .int .i64 n9, .int .i64 n10, .bool bb, .slice A l c, .slice D m d] 36))) : wpList Try.prog ops Q (o :: rest) a (w.alloc (.cells #[.int .i64 0, .int .i64 0, .int .i64 0, .int .i64 0, .int .i64 0, .int .i64 0, .int .i64 0, .int .i64 0, .int .i64 0, .int .i64 0, .int .i64 0, .bool false, .slice none 0 0, .slice none 0 0] 36)) := by
  refine storeU hgd x y ho w.heap.size hx hy (K.new w _) ?_
  rw [World.setRow_alloc_new]
  exact h

theorem resU {fn : Func} {p : Tmp} (h : fn.results = #[.cell p 36]) (tmps : Array Value) (w : World) (g : Nat) {t : TypeId} {v0 v1 v2 v3 v4 v5 v6 v7 v8 v9 v10 v11 v12 v13 : Value} (hp : tmps.getD p undef = .pointer (some ⟨g, 0, none⟩)) (hg : w.heap[g]? = some (.cells #[v0, v1, v2, v3, v4, v5, v6, v7, v8, v9, v10, v11, v12, v13] t (0, 0))) :
    (results fn tmps).run Try.prog w = .ok (.agg #[v0, v1, v2, v3, v4, v5, v6, v7, v8, v9, v10, v11, v12, v13]) w :=
  results_cell_row h tmps w g t _ (0, 0) _ hp hg Try.underlying36 rfl info_up







end Go.Proofs.Ythogonpjkngpjaa

namespace Go.Proofs.Ythogonpjkngpjaa
set_option maxRecDepth 100000
open Go.RowKit

end Go.Proofs.Ythogonpjkngpjaa

namespace Go.Proofs.Ythogonpjkngpjaa
set_option maxRecDepth 100000
open Go.RowKit

set_option maxHeartbeats 2000000 in
theorem eqUpC (x : Uh) (A D E G : Option Addr) (n c m d e g : Nat) (os bs : List UInt8) (w : World) (hx : RB w w.heap.size A os) (hy : RB w w.heap.size E os) (hl : os.length = n) (hn : n ≤ 1048576)
    (hz : RB w w.heap.size D bs) (hu : RB w w.heap.size G bs) (hm : bs.length = m) (hm2 : m ≤ 1048576) :
    Calls Try.prog 19 #[.agg #[.int .i64 x.kind, .int .i64 x.sport, .int .i64 x.dport, .int .i64 x.seq, .int .i64 x.ack, .int .i64 x.bits, .int .i64 x.window, .int .i64 x.urgent, .int .i64 x.ty, .int .i64 x.code, .int .i64 x.rest, .bool x.nosum, .slice A n c, .slice D m d], .agg #[.int .i64 x.kind, .int .i64 x.sport, .int .i64 x.dport, .int .i64 x.seq, .int .i64 x.ack, .int .i64 x.bits, .int .i64 x.window, .int .i64 x.urgent, .int .i64 x.ty, .int .i64 x.code, .int .i64 x.rest, .bool x.nosum, .slice E n e, .slice G m g]] w fun e w' => e = .returned (.bool true) ∧ Below w.heap.size w w' := by
  have HL := Lib.hid hl
  have HM := Lib.hid hm
  have HX := Lib.hid hx
  have HY := Lib.hid hy
  have HZ := Lib.hid hz
  have HU := Lib.hid hu
  clear hl hx hy hm hz hu
  go_enter Try.func19, Try.ntmps19
  go_wp2_with fail
  refine Calls.mono (eqBn A E n c e os _ ((HX.out.below (by go_grown)).more (by first | (simp; done) | (simp; omega))) ((HY.out.below (by go_grown)).more (by first | (simp; done) | (simp; omega))) HL.out hn) ?_
  rintro e1 w1 ⟨rfl, b1⟩
  have q1 := Lib.hid (K.on b1 (g := w.heap.size) (by first | (simp; done) | (simp; omega)) (o := .cells #[.int .i64 x.kind, .int .i64 x.sport, .int .i64 x.dport, .int .i64 x.seq, .int .i64 x.ack, .int .i64 x.bits, .int .i64 x.window, .int .i64 x.urgent, .int .i64 x.ty, .int .i64 x.code, .int .i64 x.rest, .bool x.nosum, .slice A n c, .slice D m d] 36) (by repeat (first | exact K.newAt (by first | rfl | (simp; done)) | refine K.oldAt (by first | (simp; done) | (simp; omega)) ?_)))
  have q2 := Lib.hid (K.on b1 (g := w.heap.size + 1) (by first | (simp; done) | (simp; omega)) (o := .cells #[.int .i64 x.kind, .int .i64 x.sport, .int .i64 x.dport, .int .i64 x.seq, .int .i64 x.ack, .int .i64 x.bits, .int .i64 x.window, .int .i64 x.urgent, .int .i64 x.ty, .int .i64 x.code, .int .i64 x.rest, .bool x.nosum, .slice E n e, .slice G m g] 36) (by repeat (first | exact K.newAt (by first | rfl | (simp; done)) | refine K.oldAt (by first | (simp; done) | (simp; omega)) ?_)))
  have B1 := Lib.hid (show Below w.heap.size w w1 from bthen (by go_grown) b1)
  clear b1
  have d1 := K.cell q1.out 13 _ rfl
  have d2 := K.cell q2.out 13 _ rfl
  go_wp2_with fail
  refine Calls.mono (eqBn D G m d g bs _ ((HZ.out.below B1.out).more B1.out.size) ((HU.out.below B1.out).more B1.out.size) HM.out hm2) ?_
  rintro e2 w2 ⟨rfl, b2⟩
  have B2 := Lib.hid (bthen B1.out b2)
  clear b2 d1 d2 q1 q2
  go_wp2
  go_ret
  exact ⟨rfl, B2.out⟩

set_option maxHeartbeats 2000000 in
theorem markUpC (x : Uh) (A D : Option Addr) (n c m d base : Nat) (os bs : List UInt8) (k : Int) (w : World) (ho : w.ownsRow base 5 1 (.slice A n c) n (cellsOf os)) (hb : w.ownsRow base 5 1 (.slice D m d) m (cellsOf bs))
    (hap : ∀ k, (Value.slice A n c).ownBlock = some k → (Value.slice D m d).ownBlock ≠ some k) (hn : n ≤ 1048576) (hm : m ≤ 1048576) (h0 : 0 ≤ k) (hk : k + n ≤ 1048576) :
    Calls Try.prog 22 #[.agg #[.int .i64 x.kind, .int .i64 x.sport, .int .i64 x.dport, .int .i64 x.seq, .int .i64 x.ack, .int .i64 x.bits, .int .i64 x.window, .int .i64 x.urgent, .int .i64 x.ty, .int .i64 x.code, .int .i64 x.rest, .bool x.nosum, .slice A n c, .slice D m d], .int .i64 k] w fun e w' => e = .returned (.int .i64 (k + n + m)) ∧
      w'.ownsRow base 5 1 (.slice A n c) n (cellsOf (marks k.toNat n)) ∧ w'.ownsRow base 5 1 (.slice D m d) m (cellsOf (marks (k + n).toNat m)) ∧
        ∃ u, w.grownBy u (Value.slice A n c).ownBlock ∧ u.grownBy w' (Value.slice D m d).ownBlock := by
  have HO := Lib.hid (fun o : Obj => ho.alloc o)
  have HB := Lib.hid (fun o : Obj => hb.alloc o)
  have HA := Lib.hid hap
  have LA := Lib.hid (fun k hk => (ho.lt k hk).2)
  have LB := Lib.hid (fun k hk => (hb.lt k hk).2)
  clear ho hb hap
  go_enter Try.func22, Try.ntmps22
  go_wp2_with fail
  refine Calls.mono (markBn A n c base os k _ (HO.out _) hn h0 (by omega)) ?_
  rintro e w1 ⟨rfl, o1, g1⟩
  have q1 := Lib.hid (K.kept g1 (K.new w _) (fun j hj => by have := LA.out j hj; omega))
  have P1 := Lib.hid (own_grown (HB.out _) g1 (fun j hj e => HA.out j e hj))
  have G1 := Lib.hid (grownBy_trans (only_new (K.refl w _) _) g1)
  clear g1
  have d1 := K.cell q1.out 13 _ rfl
  go_wp2_with fail
  refine Calls.mono (markBn D m d base bs (k + n) _ P1.out hm (by omega) hk) ?_
  rintro e w2 ⟨rfl, o2, g2⟩
  have O2 := Lib.hid (own_grown o1 g2 (fun j hj e => HA.out j hj e))
  have G2 := Lib.hid g2
  have O3 := Lib.hid o2
  clear o1 o2 g2 d1 q1
  go_wp2
  go_ret
  exact ⟨rfl, O2.out, O3.out, w1, G1.out, G2.out⟩

set_option maxHeartbeats 2000000 in
theorem heldUpC (x : Uh) (A D : Option Addr) (n c m d : Nat) (k : Int) (w : World) (hr : RB w w.heap.size A (marks k.toNat n)) (hs : RB w w.heap.size D (marks (k + n).toNat m)) (hn : n ≤ 1048576) (hm : m ≤ 1048576) (h0 : 0 ≤ k) (hk : k + n ≤ 1048576) :
    Calls Try.prog 23 #[.agg #[.int .i64 x.kind, .int .i64 x.sport, .int .i64 x.dport, .int .i64 x.seq, .int .i64 x.ack, .int .i64 x.bits, .int .i64 x.window, .int .i64 x.urgent, .int .i64 x.ty, .int .i64 x.code, .int .i64 x.rest, .bool x.nosum, .slice A n c, .slice D m d], .int .i64 k] w fun e w' => e = .returned (.int .i64 (k + n + m)) ∧ Below w.heap.size w w' := by
  have HR := Lib.hid (fun o : Obj => (hr.below (Joins.below_alloc1 w o)).more (show w.heap.size ≤ (w.alloc o).heap.size by simp))
  have HS := Lib.hid (fun o : Obj => (hs.below (Joins.below_alloc1 w o)).more (show w.heap.size ≤ (w.alloc o).heap.size by simp))
  clear hr hs
  go_enter Try.func23, Try.ntmps23
  go_wp2_with fail
  refine Calls.mono (heldBn A n c k _ (HR.out _) hn h0 (by omega)) ?_
  rintro e w1 ⟨rfl, rfl⟩
  go_wp2_with fail
  refine Calls.mono (heldBn D m d (k + n) _ (HS.out _) hm (by omega) hk) ?_
  rintro e w1 ⟨rfl, rfl⟩
  go_wp2
  go_ret
  exact ⟨rfl, Joins.below_alloc1 w _⟩

end Go.Proofs.Ythogonpjkngpjaa

namespace Go.Proofs.Ythogonpjkngpjaa
set_option maxRecDepth 100000
open Go.RowKit

section
variable {P : Program} {ops : Array Oper} {Q : Exit → Act → World → Prop}

/-- The operations on which operation j waits. -/
def depsOf (ops : Array Oper) (j : Nat) : List Nat :=
  match ops[j]? with
  | none => []
  | some o => o.after.toList.filterMap fun e => if Region.binds .any e then some e.on else none
theorem depsOf_spec {j i : Nat} (h : i ∈ depsOf ops j) : ∃ o, ops[j]? = some o ∧ ∃ e ∈ o.after, e.on = i ∧ Region.binds .any e = true := by
  unfold depsOf at h
  split at h
  · cases h
  · rename_i o ho
    obtain ⟨e, he, hq⟩ := List.mem_filterMap.1 h
    split at hq
    · rename_i hb
      exact ⟨o, ho, e, by simpa using he, Option.some.inj hq, hb⟩
    · cases hq
/-- Those on which the operations of M below i wait, and so on. -/
def markOf (ops : Array Oper) : Nat → List Nat → List Nat
  | 0, M => M
  | i + 1, M => markOf ops i (if M.contains i then depsOf ops i ++ M else M)
theorem markOf_spec (S : Nat → Prop) (hS : ∀ j i, S j → i ∈ depsOf ops j → S i) : ∀ (i : Nat) (M : List Nat), (∀ j ∈ M, S j) → ∀ j ∈ markOf ops i M, S j
  | 0, _, h, j, hj => h j hj
  | i + 1, M, h, j, hj => by
    refine markOf_spec S hS i _ (fun l hl => ?_) j hj
    split at hl
    · rename_i hc
      rcases List.mem_append.1 hl with hl | hl
      · exact hS i l (h i (by simpa using hc)) hl
      · exact h l hl
    · exact h l hl

/-- What is asked of the region's form. -/
def thenB (ops : Array Oper) (n k : Nat) : Bool :=
  decide (k < ops.size) && ((List.range k).all fun j => (markOf ops (k + 1) [k]).contains j) && ((List.range ops.size).all fun j => match ops[j]? with
    | none => true
    | some o => o.after.all (fun e => !Region.binds .any e || decide (e.on < j)) && (if j < k then o.guard.isNone && (match o.dst with
        | none => true
        | some d => decide (d < n) && (List.range k).all fun i => decide (i = j) || decide ((ops[i]?).bind (·.dst) ≠ some d))
      else decide (j = k) || (depsOf ops j).contains (j - 1)))
theorem thenB_at {n k : Nat} (h : thenB ops n k = true) {j : Nat} {o : Oper} (ho : ops[j]? = some o) :
    (∀ e ∈ o.after, Region.binds .any e = true → e.on < j) ∧ (j < k → o.guard = none ∧ ∀ d, o.dst = some d → d < n ∧ ∀ i oi, i < k → ops[i]? = some oi → oi.dst = some d → i = j) ∧ (k < j → j - 1 ∈ depsOf ops j) := by
  have hj : j < ops.size := (Array.getElem?_eq_some_iff.1 ho).1
  simp only [thenB, Bool.and_eq_true] at h
  have h1 := List.all_eq_true.1 h.2 j (List.mem_range.2 hj)
  rw [ho] at h1
  simp only [Bool.and_eq_true] at h1
  refine ⟨fun e he hb => ?_, fun hjk => ?_, fun hkj => ?_⟩
  · have := Array.all_eq_true_iff_forall_mem.1 h1.1 e he
    simpa [hb] using this
  · have h2 := h1.2
    rw [if_pos hjk] at h2
    simp only [Bool.and_eq_true] at h2
    refine ⟨by simpa using h2.1, fun d hd => ?_⟩
    have h3 := h2.2
    rw [hd] at h3
    simp only [Bool.and_eq_true, decide_eq_true_eq] at h3
    refine ⟨h3.1, fun i oi hik hi hdi => ?_⟩
    have h4 := List.all_eq_true.1 h3.2 i (List.mem_range.2 hik)
    rw [hi] at h4
    simp only [Option.bind_some, hdi, ne_eq, not_true, decide_false, Bool.or_false, decide_eq_true_eq] at h4
    exact h4
  · have h2 := h1.2
    rw [if_neg (by omega)] at h2
    simp only [Bool.or_eq_true, decide_eq_true_eq, List.contains_eq_mem] at h2
    rcases h2 with h2 | h2
    · omega
    · exact h2
theorem thenB_all {n k : Nat} (h : thenB ops n k = true) (S : Nat → Prop) (hS : ∀ j i, S j → i ∈ depsOf ops j → S i) (hk : S k) : k < ops.size ∧ ∀ j, j < k → S j := by
  simp only [thenB, Bool.and_eq_true, decide_eq_true_eq] at h
  refine ⟨h.1.1, fun j hj => ?_⟩
  have h1 := List.all_eq_true.1 h.1.2 j (List.mem_range.2 hj)
  exact markOf_spec S hS (k + 1) [k] (fun l hl => by simp only [List.mem_singleton] at hl; subst hl; exact hk) j (by simpa using h1)

/-- The last operations, in their order. -/
theorem wpAny_tail {n k : Nat} (hf : thenB ops n k = true) : ∀ (fuel q : Nat) (listed : Array Bool) (a : Act) (w : World), k ≤ q → q ≤ ops.size → listed.size = ops.size → (∀ i, i < ops.size → (listed.getD i false = true ↔ i < q)) → ops.size ≤ q + fuel →
    wpList P ops Q (ops.toList.drop q) a w → wpAny P .any ops Q fuel listed a w := by
  have only : ∀ (q : Nat) (listed : Array Bool), k ≤ q → listed.size = ops.size → (∀ i, i < ops.size → (listed.getD i false = true ↔ i < q)) → ∀ i, i ∈ Region.ready .any ops listed → i = q ∧ q < ops.size := by
    intro q listed hkq hs hl i hi
    obtain ⟨h0, o, ho, hall⟩ := mem_ready.1 hi
    have hi2 : i < ops.size := (Array.getElem?_eq_some_iff.1 ho).1
    have hi3 : i < listed.size := by omega
    have hif : listed.getD i false = false := by simpa [hi3] using h0
    have h1 : ¬ i < q := fun h => by rw [(hl i hi2).2 h] at hif; cases hif
    rcases Nat.lt_or_ge q i with h | h
    · obtain ⟨o', ho', e, he, heq, hb⟩ := depsOf_spec ((thenB_at hf ho).2.2 (by omega))
      obtain rfl : o = o' := Option.some.inj (ho.symm.trans ho')
      have := hall e he hb
      rw [heq] at this
      have := (hl (i - 1) (by omega)).1 this
      omega
    · exact ⟨by omega, by omega⟩
  intro fuel
  induction fuel with
  | zero =>
    intro q listed a w hkq hq hs hl hle hw
    refine ⟨?_, ?_⟩
    · cases hr : Region.ready .any ops listed with
      | nil => rfl
      | cons i l =>
        have := only q listed hkq hs hl i (by rw [hr]; simp)
        omega
    · rw [List.drop_eq_nil_of_le (by simp; omega)] at hw
      exact hw
  | succ fuel ih =>
    intro q listed a w hkq hq hs hl hle hw
    refine ⟨fun hr => ?_, fun i hi => ?_⟩
    · rcases Nat.lt_or_ge q ops.size with h | h
      · exfalso
        obtain ⟨o, ho⟩ : ∃ o, ops[q]? = some o := ⟨_, Array.getElem?_eq_getElem h⟩
        have hm : q ∈ Region.ready .any ops listed := by
          refine mem_ready.2 ⟨?_, o, ho, fun e he hb => ?_⟩
          · have h2 : q < listed.size := by omega
            have h3 : listed.getD q false = false := by
              cases hg : listed.getD q false
              · rfl
              · have := (hl q h).1 hg
                omega
            simpa [h2] using h3
          · have := (thenB_at hf ho).1 e he hb
            exact (hl e.on (by omega)).2 this
        rw [hr] at hm
        cases hm
      · rw [List.drop_eq_nil_of_le (by simp; omega)] at hw
        exact hw
    · obtain ⟨rfl, hlt⟩ := only q listed hkq hs hl i hi
      have ho : ops[i]? = some ops[i] := Array.getElem?_eq_getElem hlt
      have e : ops.toList.drop i = ops[i] :: ops.toList.drop (i + 1) := by
        rw [List.drop_eq_getElem_cons (by simpa using hlt)]
        simp
      rw [e] at hw
      have next : ∀ a' w', wpList P ops Q (ops.toList.drop (i + 1)) a' w' → wpAny P .any ops Q fuel (listed.setIfInBounds i true) a' w' := by
        intro a' w' h
        refine ih (i + 1) _ a' w' (by omega) (by omega) (by simpa using hs) (fun j hj => ?_) (by omega) h
        by_cases hji : j = i
        · subst hji
          simp [hs, hj]
        · rw [getD_set_ne (listed := listed) false (Ne.symm hji), hl j hj]
          omega
      unfold wpOp
      simp only [ho]
      unfold wpList at hw
      split
      · rename_i hwn
        rw [if_pos hwn] at hw
        rcases hw with hw | hw
        · exact .inl (Oper.wp_mono next hw)
        · exact .inr hw
      · rename_i hwn
        rw [if_neg hwn] at hw
        exact next _ _ hw

/-- What stands while the first operations run. -/
structure KeptTh (ops : Array Oper) (Γ : Nat → World → Value → Prop) (I : World → Prop) (n k : Nat) (a0 : Act) (listed : Array Bool) (a : Act) (w : World) : Prop where
  size : listed.size = ops.size
  len : a.tmps.size = n
  defers : a.defers = a0.defers
  keep : ∀ t, (∀ (j : Nat) o, j < k → ops[j]? = some o → o.dst ≠ some t) → a.tmps.getD t undef = a0.tmps.getD t undef
  none : ∀ i, k ≤ i → listed.getD i false = false
  closed : ∀ j, listed.getD j false = true → ∀ i ∈ depsOf ops j, listed.getD i false = true
  inv : I w
  slots : ∀ (j : Nat) o d, j < k → ops[j]? = some o → o.dst = some d → listed.getD j false = true → Γ j w (a.tmps.getD d undef)

theorem wpAny_then {Γ : Nat → World → Value → Prop} {I : World → Prop} {n k : Nat} {a0 : Act} (hf : thenB ops n k = true)
    (hop : ∀ (j : Nat) o, j < k → ops[j]? = some o → ∀ a w K, (∀ t, (∀ (j : Nat) o, j < k → ops[j]? = some o → o.dst ≠ some t) → a.tmps.getD t undef = a0.tmps.getD t undef) → (∀ p ∈ needOf ops j, Γ p.1 w (a.tmps.getD p.2 undef)) → I w →
      (∀ v w', Γ j w' v → (∀ i u, Γ i w u → Γ i w' u) → I w' → K (a.put o.dst v) w') → o.wp P a w K Q)
    (hend : ∀ a w, a.tmps.size = n → a.defers = a0.defers → (∀ t, (∀ (j : Nat) o, j < k → ops[j]? = some o → o.dst ≠ some t) → a.tmps.getD t undef = a0.tmps.getD t undef) →
      (∀ (j : Nat) o d, j < k → ops[j]? = some o → o.dst = some d → Γ j w (a.tmps.getD d undef)) → I w → wpList P ops Q (ops.toList.drop k) a w) :
    ∀ (fuel : Nat) (listed : Array Bool) (a : Act) (w : World), KeptTh ops Γ I n k a0 listed a w → ops.size ≤ up listed + fuel → wpAny P .any ops Q fuel listed a w := by
  have hks : k < ops.size := by
    simp only [thenB, Bool.and_eq_true, decide_eq_true_eq] at hf
    exact hf.1.1
  have notall : ∀ (listed : Array Bool) (a : Act) (w : World), KeptTh ops Γ I n k a0 listed a w → up listed = ops.size → False := by
    intro listed a w hk hu
    have := up_all (listed := listed) (by rw [hu, hk.size]) (i := k) (by rw [hk.size]; exact hks)
    rw [hk.none k (Nat.le_refl _)] at this
    cases this
  have nostop : ∀ (listed : Array Bool) (a : Act) (w : World), KeptTh ops Γ I n k a0 listed a w → Region.ready .any ops listed = [] → False := by
    intro listed a w hk hr
    have hall : ∀ j, j < ops.size → listed.getD j false = true := by
      intro j
      induction j using Nat.strongRecOn with
      | ind j ih =>
        intro hj
        obtain ⟨o, ho⟩ : ∃ o, ops[j]? = some o := ⟨_, Array.getElem?_eq_getElem hj⟩
        cases hg : listed.getD j false
        · have hm : j ∈ Region.ready .any ops listed := by
            refine mem_ready.2 ⟨?_, o, ho, fun e he hb => ?_⟩
            · have hj2 : j < listed.size := by rw [hk.size]; exact hj
              simpa [hj2] using hg
            · have := (thenB_at hf ho).1 e he hb
              exact ih e.on this (by omega)
          rw [hr] at hm
          cases hm
        · rfl
    have := hall k hks
    rw [hk.none k (Nat.le_refl _)] at this
    cases this
  intro fuel
  induction fuel with
  | zero =>
    intro listed a w hk hle
    exact (notall listed a w hk (by have := up_le listed; have := hk.size; omega)).elim
  | succ fuel ih =>
    intro listed a w hk hle
    refine ⟨fun hr => (nostop listed a w hk hr).elim, fun i hi => ?_⟩
    obtain ⟨h0, o, ho, hall⟩ := mem_ready.1 hi
    obtain ⟨hu, hil⟩ := up_set h0
    obtain ⟨hlt, hd, htail⟩ := thenB_at hf ho
    rcases Nat.lt_trichotomy i k with hik | hik | hik
    · obtain ⟨hg, hd⟩ := hd hik
      unfold wpOp
      simp only [ho]
      rw [if_pos (by simp [Region.wanted, hg])]
      left
      refine hop i o hik ho a w _ hk.keep (fun p hp => ?_) hk.inv ?_
      · obtain ⟨⟨e, he, hep, hb⟩, oj, hoj, hdj⟩ := needOf_spec ho hp
        exact hk.slots p.1 oj p.2 (by have := hlt e he hb; omega) hoj hdj (by rw [← hep]; exact hall e he hb)
      · intro v w' hv hR hI
        refine ih _ _ _ ⟨by simpa using hk.size, by rw [put_size]; exact hk.len, by rw [put_defers']; exact hk.defers, fun t ht => ?_, fun j hj => ?_, fun j hl l hl2 => ?_, hI, fun j oj d hjk hj hdj hl => ?_⟩ (by omega)
        · rw [put_other a v (ht i o hik ho)]
          exact hk.keep t ht
        · rw [getD_set_ne (listed := listed) false (by omega)]
          exact hk.none j hj
        · by_cases hji : j = i
          · subst hji
            obtain ⟨o', ho', e, he, heq, hb⟩ := depsOf_spec hl2
            obtain rfl : o = o' := Option.some.inj (ho.symm.trans ho')
            rw [← heq, getD_set_ne (listed := listed) false (by have := hlt e he hb; omega)]
            exact hall e he hb
          · rw [getD_set_ne (listed := listed) false (Ne.symm hji)] at hl
            have := hk.closed j hl l hl2
            by_cases hli : l = i
            · subst hli
              simp [hil]
            · rw [getD_set_ne (listed := listed) false (Ne.symm hli)]
              exact this
        · by_cases hji : j = i
          · subst hji
            obtain rfl : o = oj := Option.some.inj (ho.symm.trans hj)
            rw [hdj, put_own a v (hd d hdj).1 hk.len]
            exact hv
          · have hne : o.dst ≠ some d := fun e => hji ((hd d e).2 j oj hjk hj hdj)
            rw [put_other a v hne]
            refine hR j _ (hk.slots j oj d hjk hj hdj ?_)
            rw [← getD_set_ne (listed := listed) false (Ne.symm hji)]
            exact hl
    · subst hik
      have hdone : ∀ j, j < i → listed.getD j false = true := by
        have := (thenB_all hf (fun j => listed.getD j false = true ∨ j = i) (fun j l hj hl => ?_) (.inr rfl)).2
        · intro j hj
          rcases this j hj with h | h
          · exact h
          · omega
        · rcases hj with hj | rfl
          · exact .inl (hk.closed j hj l hl)
          · obtain ⟨o', ho', e, he, heq, hb⟩ := depsOf_spec hl
            obtain rfl : o = o' := Option.some.inj (ho.symm.trans ho')
            exact .inl (heq ▸ hall e he hb)
      have hw := hend a w hk.len hk.defers hk.keep (fun j oj d hjk hj hdj => hk.slots j oj d hjk hj hdj (hdone j hjk)) hk.inv
      have hup : up listed ≤ i := by
        have h1 : up listed = (listed.toList.take i).count true + (listed.toList.drop i).count true := by
          rw [up, ← List.count_append, List.take_append_drop]
        have h2 : (listed.toList.drop i).count true = 0 := by
          rw [List.count_eq_zero]
          intro hm
          obtain ⟨q, hq, he⟩ := List.getElem_of_mem hm
          simp at hq he
          have := hk.none (i + q) (by omega)
          simp at this
          rw [Array.getElem?_eq_getElem (by omega)] at this
          simp [he] at this
        have h3 := List.count_le_length (a := true) (l := listed.toList.take i)
        simp at h3
        omega
      have T := wpAny_tail (P := P) (Q := Q) hf (fuel + 1) i listed a w (Nat.le_refl _) (by omega) hk.size (fun j hj => Iff.intro (fun h => (by
        rcases Nat.lt_or_ge j i with h2 | h2
        · exact h2
        · rw [hk.none j h2] at h
          cases h)) (fun h => hdone j h)) (by omega) hw
      exact T.2 i hi
    · exfalso
      obtain ⟨o', ho', e, he, heq, hb⟩ := depsOf_spec (htail hik)
      obtain rfl : o = o' := Option.some.inj (ho.symm.trans ho')
      have := hall e he hb
      rw [heq, hk.none (i - 1) (by omega)] at this
      cases this

/-- The first operations, with their slots. -/
def dstsOf (ops : Array Oper) (k : Nat) : List (Nat × Nat) := (List.range k).filterMap fun j => ((ops[j]?).bind (·.dst)).map fun d => (j, d)
theorem dstsOf_mem {k : Nat} {p : Nat × Nat} : p ∈ dstsOf ops k ↔ p.1 < k ∧ ∃ o, ops[p.1]? = some o ∧ o.dst = some p.2 := by
  simp only [dstsOf, List.mem_filterMap, List.mem_range, Option.map_eq_some_iff, Option.bind_eq_some_iff]
  constructor
  · rintro ⟨j, hj, d, ⟨o, h1, h2⟩, rfl⟩
    exact ⟨hj, o, h1, h2⟩
  · rintro ⟨hj, o, h1, h2⟩
    exact ⟨p.1, hj, p.2, ⟨o, h1, h2⟩, rfl⟩

theorem getD_setT (l : Array Value) (j i : Nat) (v : Value) (hj : j < l.size) : (l.setIfInBounds j v).getD i undef = if i = j then v else l.getD i undef := by
  by_cases h : i = j
  · subst h
    simp [hj]
  · rw [if_neg h]
    simp only [Array.getD_eq_getD_getElem?, Array.getElem?_setIfInBounds, Ne.symm h, if_false]
theorem ext_getDT {l m : Array Value} (hs : l.size = m.size) (h : ∀ i, l.getD i undef = m.getD i undef) : l = m := by
  apply Array.ext hs
  intro i h1 h2
  have := h i
  simpa [h1, h2] using this
/-- A frame of which all slots but some are known is the old one with these written. -/
theorem act_eqT {a a' : Act} {n : Nat} (hsz : a'.tmps.size = n) (hdf : a'.defers = a.defers) : ∀ (l : List (Nat × Nat)) (f : Nat → Value) (b : Act), b.tmps.size = n → b.defers = a.defers → (∀ p ∈ l, p.2 < n ∧ a'.tmps.getD p.2 undef = f p.1) → (∀ t, (∀ p ∈ l, p.2 ≠ t) → a'.tmps.getD t undef = b.tmps.getD t undef) → a' = l.foldl (fun b p => b.put (some p.2) (f p.1)) b
  | [], f, b, hb, hbd, _, h => by
    obtain ⟨tm, df⟩ := a'
    obtain ⟨tb, db⟩ := b
    try simp only at hsz hb hbd hdf h
    subst hbd
    subst hdf
    have : tm = tb := ext_getDT (by omega) (fun i => h i (by simp))
    subst this
    rfl
  | (j, d) :: l, f, b, hb, hbd, hl, h => by
    have hd := hl (j, d) (by simp)
    refine act_eqT hsz hdf l f (b.put (some d) (f j)) (by show (b.tmps.setIfInBounds d (f j)).size = n; simp only [Array.size_setIfInBounds]; exact hb) hbd (fun p hp => hl p (by simp [hp])) (fun t ht => ?_)
    show _ = (b.tmps.setIfInBounds d (f j)).getD t undef
    rw [getD_setT _ _ _ _ (by have := hd.1; simp only at this; omega)]
    by_cases e : t = d
    · rw [if_pos e, e]
      exact hd.2
    · rw [if_neg e]
      refine h t (fun p hp => ?_)
      rcases List.mem_cons.1 hp with rfl | hp
      · exact Ne.symm e
      · exact ht p hp

/-- The region, at last: the first k operations by what each leaves, and then the frame with their values written and the rest of the list. -/
theorem wp_region_then {id : Nat} {a : Act} {w : World} (hmx : P.follows .mixedOrders = true) (k n : Nat) (L : List (Nat × Nat)) (R : List Oper) (hf : thenB ops n k = true) (hL : dstsOf ops k = L) (hR : ops.toList.drop k = R) (Γ : Nat → World → Value → Prop) (I : World → Prop) (hn : a.tmps.size = n) (h0 : I { w with drawn := w.drawn + 1 })
    (hop : ∀ (j : Nat) o, j < k → ops[j]? = some o → ∀ a' w K, (∀ t, (∀ p ∈ L, p.2 ≠ t) → a'.tmps.getD t undef = a.tmps.getD t undef) → (∀ p ∈ needOf ops j, Γ p.1 w (a'.tmps.getD p.2 undef)) → I w →
      (∀ v w', Γ j w' v → (∀ i u, Γ i w u → Γ i w' u) → I w' → K (a'.put o.dst v) w') → o.wp P a' w K Q)
    (hend : ∀ (f : Nat → Value) w', (∀ p ∈ L, Γ p.1 w' (f p.1)) → I w' → wpList P ops Q R (L.foldl (fun b p => b.put (some p.2) (f p.1)) a) w') : (Code.region id ops true).wp P Q a w := by
  subst hL
  subst hR
  have keepL : ∀ (a' : Act), (∀ t, (∀ (j : Nat) o, j < k → ops[j]? = some o → o.dst ≠ some t) → a'.tmps.getD t undef = a.tmps.getD t undef) → ∀ t, (∀ p ∈ dstsOf ops k, p.2 ≠ t) → a'.tmps.getD t undef = a.tmps.getD t undef := by
    intro a' h t ht
    refine h t (fun j o hj ho hd => ?_)
    exact ht (j, t) (dstsOf_mem.2 ⟨hj, o, ho, hd⟩) rfl
  have hfl : ∀ j, (Array.replicate ops.size false).getD j false = false := by
    intro j
    simp [Array.getElem?_replicate]
    split <;> simp
  refine wp_region_any hmx (wpAny_then (Γ := Γ) (I := I) (n := n) (a0 := a) hf (fun j o hj ho a' w' K hk hnd hI hK => hop j o hj ho a' w' K (keepL a' hk) hnd hI hK) ?_ ops.size _ a _ ⟨by simp, hn, rfl, fun _ _ => rfl, fun i _ => hfl i, fun j hl => absurd hl (by rw [hfl j]; simp), h0, fun j o d _ _ _ hl => absurd hl (by rw [hfl j]; simp)⟩ (by omega))
  intro a' w' hsz hdf hk hs hI
  have hdst : ∀ p ∈ dstsOf ops k, Γ p.1 w' (a'.tmps.getD p.2 undef) ∧ p.2 < n := by
    intro p hp
    obtain ⟨h1, o, h2, h3⟩ := dstsOf_mem.1 hp
    exact ⟨hs p.1 o p.2 h1 h2 h3, (((thenB_at hf h2).2.1 h1).2 p.2 h3).1⟩
  obtain ⟨f, hfv⟩ : ∃ f : Nat → Value, ∀ p ∈ dstsOf ops k, f p.1 = a'.tmps.getD p.2 undef := by
    refine ⟨fun j => match (ops[j]?).bind (·.dst) with | some d => a'.tmps.getD d undef | none => undef, fun p hp => ?_⟩
    obtain ⟨_, o, h2, h3⟩ := dstsOf_mem.1 hp
    simp [h2, h3]
  have E := act_eqT hsz hdf (dstsOf ops k) f a hn rfl (fun p hp => ⟨(hdst p hp).2, (hfv p hp).symm⟩) (keepL a' hk)
  rw [E]
  exact hend f w' (fun p hp => by rw [hfv p hp]; exact (hdst p hp).1) hI
end
end Go.Proofs.Ythogonpjkngpjaa
