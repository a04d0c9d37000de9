/-
  The program's sixteen bytes of an address: packed, unpacked, firstBits.
-/
import Derived.Test.YtmfkpiclpkeemaaAddrBytes
import Derived.Laws.CopyOwn
import Derived.Laws.Rows
namespace Go.Proofs.Ytmfkpiclpkeemaa
set_option maxRecDepth 100000
open Go.RowKit

def Ad.part (x : Ad) (i : Nat) : Int := match i with | 0 => x.a | 1 => x.b | 2 => x.c | _ => x.d
def Ad.fill (x : Ad) (i : Nat) : List UInt8 := x.whole.take (4 * i) ++ List.replicate (16 - 4 * i) 0
theorem four_cases {i : Nat} (h : i < 4) : i = 0 ∨ i = 1 ∨ i = 2 ∨ i = 3 := by omega
theorem index_part (x : Ad) (i : Nat) (h : i < 4) (w : World) :
    (Instr.index 152 (.agg #[.int .i64 x.a, .int .i64 x.b, .int .i64 x.c, .int .i64 x.d]) (.int .i64 (i : Int))).run Try.prog w = .ok (.int .i64 (x.part i)) w := by
  rcases four_cases h with rfl | rfl | rfl | rfl <;> rfl
theorem fill_splice (x : Ad) (i : Nat) (h : i < 4) : splice (cellsOf (x.fill i)) (4 * i) (cellsOf (put32 (x.part i))) = cellsOf (x.fill (i + 1)) := by
  rcases four_cases h with rfl | rfl | rfl | rfl <;> simp [splice, Ad.fill, Ad.whole, put32, cellsOf, Ad.part]
theorem fill_length (x : Ad) (i : Nat) (h : i ≤ 4) : (x.fill i).length = 16 := by
  simp [Ad.fill, Ad.whole_length]
  omega
theorem fill_end (x : Ad) : x.fill 4 = x.whole := by simp [Ad.fill, Ad.whole, put32]
theorem info_arr : (Try.prog.info? 147).map (·.size) = some 16 := by kernel_rfl
theorem info_u8s : (Try.prog.info? 5).map (·.size) = some 1 := by kernel_rfl

theorem slice_arr (g m : Nat) (h : m < 16) (w : World) : (Instr.sliceAt 147 (.pointer (some ⟨g, 0, none⟩)) (some (.int .i64 (m : Int))) none none).run Try.prog w = .ok (.slice (some ⟨g, m, none⟩) (16 - m) (16 - m)) w := by
  obtain ⟨i0, hi0, hz0, hz1, hz2⟩ := info_parts info_u8
  have e : Try.prog.elem 147 = 5 := by kernel_rfl
  have el : Try.prog.arrayLen 147 = 16 := by kernel_rfl
  rw [run_sliceAt_array_l w _ _ (by kernel_rfl) .i64 (m : Int) (by omega) (by rw [el]; omega)]
  simp [e, el, sizeOf, typeInfo, hi0, slicedAt, hz1, addr_add]
  omega
theorem row_on {a b : World} {B g : Nat} {o : Obj} (h : Below B a b) (hg : g < B) (hr : a.heap[g]? = some o) : b.heap[g]? = some o := (h.block g hg).trans hr
theorem row_lt {a : World} {g : Nat} {o : Obj} (h : a.heap[g]? = some o) : g < a.heap.size := (Array.getElem?_eq_some_iff.1 h).1

theorem row_new2 (w : World) (a b c : Obj) : (((w.alloc a).alloc b).alloc c).heap[w.heap.size + 1]? = some b := by
  have h := heap_alloc_new (w.alloc a) b
  have e : (w.alloc a).heap.size = w.heap.size + 1 := by simp
  have e2 : ((w.alloc a).alloc b).heap.size = w.heap.size + 1 + 1 := by simp
  rw [e] at h
  exact (Go.heap_alloc_old ((w.alloc a).alloc b) c (by omega)).trans h
theorem row_new3 (w : World) (a b c : Obj) : (((w.alloc a).alloc b).alloc c).heap[w.heap.size + 1 + 1]? = some c := by
  have h := heap_alloc_new ((w.alloc a).alloc b) c
  have e2 : ((w.alloc a).alloc b).heap.size = w.heap.size + 1 + 1 := by simp
  rwa [e2] at h
theorem own_src {w : World} {base : Nat} {e : TypeId} {g n c : Nat} {xs : List Value} (h : w.ownsRow base e 1 (.slice (some ⟨g, 0, none⟩) n c) n xs) : ∀ j v, xs[j]? = some v → w.cell? ((⟨g, 0, none⟩ : Addr).add j) = some v := by
  intro j v hv
  have hl := h.1
  have hj : j < xs.length := by
    rcases Nat.lt_or_ge j xs.length with hj | hj
    · exact hj
    · rw [List.getElem?_eq_none hj] at hv; cases hv
  rw [addr_add, Nat.zero_add, h.cellAt j (by omega)]
  exact hv
theorem cells_size (bs : List UInt8) : (cellsOf bs).toArray.size = bs.length := by simp [cellsOf]
theorem store_cells (w : World) (g : Nat) (t : TypeId) (old : Array Value) (bs : List UInt8) (hg : w.heap[g]? = some (.cells old t (0, 0))) (hl : old.size = bs.length) :
    (storeCells ⟨g, 0, none⟩ (cellsOf bs)).run Try.prog w = .ok () (w.setRow g (cellsOf bs).toArray) := by
  have := run_storeCells_from (P := Try.prog) g t (cellsOf bs) 0 old w hg (by rw [cellsOf_length]; omega) (cellsOf_one bs)
  simpa using this
theorem cells_all (bs : List UInt8) : (cellsOf bs).toArray.all (·.oneCell') = true := by
  rw [Array.all_eq_true_iff_forall_mem]
  intro v hv
  exact cellsOf_one bs v (by simpa using hv)

set_option maxHeartbeats 400000 in
theorem packedC (x : Ad) (w : World) : Calls Try.prog 129 #[.agg #[.int .i64 x.k, .int .i64 x.a, .int .i64 x.b, .int .i64 x.c, .int .i64 x.d]] w fun e w' => e = .returned (.agg (cellsOf x.whole).toArray) ∧ Below w.heap.size w w' := by
  go_enter Try.func129, Try.ntmps129
  go_wp2_with fail
  go_loopw [15] (fun s wr => ∃ i : Nat, i ≤ 4 ∧ s = .int .i64 i ∧ wr.heap[w.heap.size + 1]? = some (.cells (cellsOf (List.replicate 16 0)).toArray 147 (0, 0)) ∧ wr.heap[w.heap.size + 1 + 1]? = some (.cells (cellsOf (x.fill i)).toArray 147 (0, 0)) ∧ Below w.heap.size w wr) (fun s _ => 4 - (intOf s).toNat)
  case atStart =>
    refine ⟨0, by omega, rfl, ?_, ?_, by go_grown⟩
    · exact row_new2 w _ _ _
    · exact row_new3 w _ _ _
  case round =>
    obtain ⟨i, hi, rfl, h1, h2, hb⟩ := hrel
    by_cases hlt : i < 4
    · have hidx := index_part x i hlt
      obtain ⟨y, hy⟩ : ∃ y, y = x.part i := ⟨_, rfl⟩
      rw [← hy] at hidx
      have HY := Lib.hid hy
      have H1 := Lib.hid h1
      have H2 := Lib.hid h2
      clear hy h1 h2
      obtain ⟨m, hm⟩ : ∃ m : Nat, m = 4 * i := ⟨_, rfl⟩
      have hm16 : m < 16 := by omega
      have hm12 : m ≤ 12 := by omega
      have hw : IntKind.i64.wrap (4 * (i : Int)) = (m : Int) := by rw [IntKind.wrap_i64]; omega
      have hsl := slice_arr (w.heap.size + 1 + 1) m hm16
      have HM := Lib.hid hm
      have hl : w.heap.size + 1 + 1 < wr.heap.size := row_lt H2.out
      clear hm
      go_wp2_with fail
      go_region_law (first | (go_simp; go_at_call 145; refine (implPut32 y _).mono ?_; rintro e w2 ⟨rfl, o2, b2⟩) | (refine step_copy_splice (by rfl) (.tmp 21) (.tmp 23) 65 65 (by rfl) 5 Try.underlying65 info_u8s (some ⟨w.heap.size + 1 + 1, m, none⟩) _ (16 - m) (16 - m) 4 4 (by rfl) (by rfl) (w.heap.size + 1 + 1) m (cellsOf (x.fill i)) 147 (row_on b2 (row_lt H2.out) H2.out) (cellsOf (put32 y)) (by rw [cellsOf_length, put32_length]; exact (Nat.min_eq_left (by omega)).symm) (fun _ => ⟨rfl, _, rfl, own_src o2⟩) (by rw [cellsOf_length, cellsOf_length, put32_length, fill_length x i hi]; omega) (cellsOf_one _) (w.heap.size + 1 + 1) wr ((undrew b2).mono (Nat.le_of_lt hl)) (Nat.le_refl _) ?_; intro w4 hg4 hb4))
      go_wp2
      go_roundw
      case rel =>
        refine ⟨i + 1, by omega, by go_num, row_on hb4 (by omega) H1.out, ?_, hb.trans (hb4.mono (by omega))⟩
        rw [← fill_splice x i hlt, ← HM.out, ← HY.out]
        exact hg4.out
      case measure => simp [intOf]; omega
    · obtain rfl : i = 4 := by omega
      rw [fill_end] at h2
      have H1 := Lib.hid h1
      have H2 := Lib.hid h2
      clear h1 h2
      have hs16 := cells_size x.whole
      rw [x.whole_length] at hs16
      have HS := Lib.hid hs16
      clear hs16
      have hst := store_cells wr (w.heap.size + 1) 147 _ x.whole H1.out (by rw [x.whole_length]; rfl)
      go_wp2_with (with_reducible refine wpList_load_row rfl 147 (.tmp 3) rfl (w.heap.size + 1 + 1) rfl 147 (cellsOf x.whole).toArray (0, 0) _ H2.out Try.underlying147 rfl (by rw [HS.out]; exact info_arr) ?_)
      (try simp only [Exit.inBlock, Exit.then])
      refine bodyPost_ret (v := .agg (cellsOf x.whole).toArray) ?_ rfl ⟨rfl, below_setRow hb (by omega) _⟩
      exact results_cell_row rfl _ _ (w.heap.size + 1) 147 (cellsOf x.whole).toArray (0, 0) _ rfl (setRow_heap _ _ _ _ _ _ H1.out) Try.underlying147 rfl (by rw [HS.out]; exact info_arr)
end Go.Proofs.Ytmfkpiclpkeemaa
