/-
  The program's sixteen bytes of an address: unpacked, firstBits.
-/
import Derived.Test.YtmfkpiclpkeemaaPacked
import Derived.Deep.WholeRow
namespace Go.Proofs.Ytmfkpiclpkeemaa
set_option maxRecDepth 100000
open Go.RowKit



theorem bits_is (x : Ad) (h : x.ok = true) (w : World) : Calls Try.prog 130 #[.int .i64 x.k] w fun e w' => e = .returned (.int .i64 x.bits) ∧ w = w' := bitsOfC x.k (x.ok_kind h) w
theorem bits_bd (x : Ad) : 32 ≤ x.bits ∧ x.bits ≤ 128 := by
  unfold Ad.bits
  split <;> omega

set_option maxHeartbeats 400000 in
theorem clipC (a : Nat) (i : Nat) (w : World) : Calls Try.prog 101 #[.int .i64 ((a : Int) - 8 * (i : Int)), .int .i64 0, .int .i64 8] w fun e w' => e = .returned (.int .i64 ((min 8 (a - 8 * i) : Nat) : Int)) ∧ w = w' := by
  go_enter Try.func101, Try.ntmps101
  go_wp2
  all_goals (go_ret; exact ⟨ret_int (by omega), rfl⟩)

/-- The row while the first i bytes are cut. -/
def cutting (e i : Nat) (bs : List UInt8) : List UInt8 := (cutB e bs).take i ++ bs.drop i
theorem cutting_at (e i : Nat) (bs : List UInt8) (h : i < bs.length) : (cutting e i bs)[i]? = some bs[i] := by
  unfold cutting
  have hl : ((cutB e bs).take i).length = i := by simp [cutB_length]; omega
  rw [List.getElem?_append_right (by omega), hl, Nat.sub_self, List.getElem?_drop]
  simp [h]
theorem cutting_step (e i : Nat) (bs : List UInt8) (h : i < bs.length) : (cellsOf (cutting e i bs)).set i (.int .u8 ((cutByte bs[i] (min 8 (e - 8 * i))).toNat : Int)) = cellsOf (cutting e (i + 1) bs) := by
  unfold cutting
  have hl : ((cutB e bs).take i).length = i := by simp [cutB_length]; omega
  rw [List.drop_eq_getElem_cons h, fill_step _ _ _ _ i hl, take_snoc (cutB e bs) i (by rw [cutB_length]; exact h), cutB_get _ _ _ h]
theorem cutting_end (e : Nat) (bs : List UInt8) : cutting e bs.length bs = cutB e bs := by
  unfold cutting
  rw [List.drop_length, List.append_nil, List.take_of_length_le (by rw [cutB_length]; exact Nat.le_refl _)]
theorem mask_all : ∀ k : Fin 9, ∀ b : Fin 256, (b.val &&& (255 * 2 ^ (8 - k.val) % 256)) = b.val - b.val % 2 ^ (8 - k.val) := by decide +kernel
theorem and_mask (b : UInt8) (k : Nat) (h : k ≤ 8) : bits .and .u8 (b.toNat : Int) (255 * 2 ^ (8 - k) % 256) = ((cutByte b k).toNat : Int) := by
  have hb := UInt8.toNat_lt b
  have hm := mask_all ⟨k, by omega⟩ ⟨b.toNat, by omega⟩
  try simp only at hm
  have e : (255 * 2 ^ (8 - k) % 256 : Int) = ((255 * 2 ^ (8 - k) % 256 : Nat) : Int) := by rw [Int.natCast_emod, Int.natCast_mul, Int.natCast_pow]; rfl
  rw [e]
  generalize hmm : 255 * 2 ^ (8 - k) % 256 = m at hm
  have hm256 : m < 256 := by omega
  have e1 : (BitVec.ofInt 8 (b.toNat : Int)).toNat = b.toNat := by
    rw [BitVec.ofInt_natCast, BitVec.toNat_ofNat]
    exact Nat.mod_eq_of_lt (by omega)
  have e2 : (BitVec.ofInt 8 (m : Int)).toNat = m := by
    rw [BitVec.ofInt_natCast, BitVec.toNat_ofNat]
    exact Nat.mod_eq_of_lt (by omega)
  show IntKind.u8.wrap ((BitVec.ofInt 8 (b.toNat : Int) &&& BitVec.ofInt 8 (m : Int)).toNat : Int) = _
  rw [BitVec.toNat_and, e1, e2, hm, cutByte_val, IntKind.wrap_u8]
  omega

set_option maxHeartbeats 400000 in
theorem firstBitsC (x : Ad) (n : Int) (h : x.ok = true) (h0 : 0 ≤ n) (h1 : n ≤ x.bits) (w : World) :
    Calls Try.prog 150 #[.agg #[.int .i64 x.k, .int .i64 x.a, .int .i64 x.b, .int .i64 x.c, .int .i64 x.d], .int .i64 n] w fun e w' => e = .returned (.agg (cellsOf (cutB (128 - x.bits + n).toNat x.whole)).toArray) ∧ Below w.heap.size w w' := by
  obtain ⟨E, hE⟩ : ∃ E : Nat, (E : Int) = 128 - x.bits + n := ⟨(128 - x.bits + n).toNat, by have := bits_bd x; omega⟩
  have hE128 : E ≤ 128 := by omega
  obtain ⟨hb0, hb1⟩ := bits_bd x
  have HE := Lib.hid hE
  rw [show (128 - x.bits + n).toNat = E by omega]
  clear hE
  have HK := Lib.hid (bits_is x h)
  clear h
  go_enter Try.func150, Try.ntmps150
  go_wp2_with fail
  refine (packedC x _).mono ?_
  rintro e w1 ⟨rfl, b1⟩
  have hst := store_cells (w1.alloc (.cells (cellsOf (List.replicate 16 0)).toArray 147)) w1.heap.size 147 _ x.whole (Go.heap_alloc_last _ _) (by rw [x.whole_length]; rfl)
  have hz : (cellsOf (List.replicate 16 0)).toArray = #[Value.int .u8 0, .int .u8 0, .int .u8 0, .int .u8 0, .int .u8 0, .int .u8 0, .int .u8 0, .int .u8 0, .int .u8 0, .int .u8 0, .int .u8 0, .int .u8 0, .int .u8 0, .int .u8 0, .int .u8 0, .int .u8 0] := rfl
  rw [World.setRow_alloc_new, hz] at hst
  have c0 : w1.cell? ⟨w.heap.size, 0, none⟩ = some (.int .i64 x.k) := cell_on b1 (by simp [go_sem])
  have cA : (w1.alloc (.cells (cellsOf x.whole).toArray 147)).cell? ⟨w.heap.size, 0, none⟩ = some (.int .i64 x.k) := cell_on (Joins.below_alloc1 w1 _) c0
  have hl16 : (cellsOf x.whole).length = 16 := by rw [cellsOf_length, x.whole_length]
  clear c0
  have r1 := row_on b1 (g := w.heap.size + 1) (by simp) (heap_alloc2_new w _ _)
  rw [← hz] at r1
  have R1 := Lib.hid r1
  clear hz r1
  have hlt : w.heap.size + 1 + 1 ≤ w1.heap.size := by have := b1.size; simpa using this
  have B1 := bthen (Joins.below_alloc2 w _ _) b1
  clear b1
  go_wp2_with (go_at_call 130; refine (HK.out _).mono ?_; rintro e w' ⟨rfl, rfl⟩)
  go_loopw [17] (fun s wr => ∃ i : Nat, i ≤ 16 ∧ s = .int .i64 i ∧ wr.heap[w.heap.size + 1]? = some (.cells (cellsOf (List.replicate 16 0)).toArray 147 (0, 0)) ∧ wr.heap[w1.heap.size]? = some (.cells (cellsOf (cutting E i x.whole)).toArray 147 (0, 0)) ∧ Below w.heap.size w wr) (fun s _ => 16 - (intOf s).toNat)
  case atStart => exact ⟨0, by omega, rfl, row_on (Joins.below_alloc1 w1 _) (by omega) R1.out, by simpa [cutting] using Go.heap_alloc_last w1 _, bthen B1 (Joins.below_alloc1 w1 _)⟩
  case round =>
    obtain ⟨i, hi, rfl, h3, h4, hb⟩ := hrel
    by_cases hlt : i < 16
    · have hil : i < x.whole.length := by rw [x.whole_length]; exact hlt
      have hce : wr.cell? ⟨w1.heap.size, i, none⟩ = some (.int .u8 (x.whole[i].toNat : Int)) := by
        rw [cell_of_row wr _ i _ _ _ h4]
        simpa using cellsOf_get _ i _ (cutting_at E i x.whole hil)
      have hfz := frozen_of_row wr w1.heap.size i _ _ h4
      obtain ⟨b, hbb⟩ : ∃ b : UInt8, b = x.whole[i] := ⟨_, rfl⟩
      rw [← hbb] at hce
      have R := heap_setCell_same wr w1.heap.size i _ _ (.int .u8 ((cutByte b (min 8 (E - 8 * i))).toNat : Int)) h4
      rw [List.setIfInBounds_toArray, hbb, cutting_step E i x.whole hil, ← hbb] at R
      have R0 := heap_setCell_other wr ⟨w1.heap.size, i, none⟩ (w.heap.size + 1) (.int .u8 ((cutByte b (min 8 (E - 8 * i))).toNat : Int)) (show w.heap.size + 1 ≠ w1.heap.size by omega)
      have R2 := Lib.hid (R0.trans h3)
      have R3 : Below w.heap.size w (wr.setCell ⟨w1.heap.size, i, none⟩ (.int .u8 ((cutByte b (min 8 (E - 8 * i))).toNat : Int))) := hb.setCell (show w.heap.size ≤ w1.heap.size by omega) _
      obtain ⟨K, hK⟩ : ∃ K : Nat, K = min 8 (E - 8 * i) := ⟨_, rfl⟩
      have hcl := clipC E i
      have hK8 : K ≤ 8 := by omega
      rw [← hK, HE.out] at hcl
      rw [← hK] at R R2 R3
      have HA := and_mask b K hK8
      have HR := Lib.hid R
      have HCL := Lib.hid hcl
      clear hK hcl R R0 h3 h4 hbb
      go_wp2_with (go_at_call 101; refine (HCL.out _).mono ?_; rintro e w' ⟨rfl, rfl⟩)
      go_region
      go_wp2
      go_roundw
      case rel => exact ⟨i + 1, by omega, by go_num, R2.out, HR.out, R3.drew⟩
      case measure => simp [intOf]; omega
    · obtain rfl : i = 16 := by omega
      have e16 := cutting_end E x.whole
      rw [x.whole_length] at e16
      rw [e16] at h4
      have hc16 : (cutB E x.whole).length = 16 := by rw [cutB_length, x.whole_length]
      have hst2 := store_cells wr (w.heap.size + 1) 147 _ (cutB E x.whole) h3 (by rw [hc16]; rfl)
      have H3 := Lib.hid h3
      have H4 := Lib.hid h4
      have HS := Lib.hid ((cells_size (cutB E x.whole)).trans hc16)
      have hl2 : (cellsOf (cutB E x.whole)).length = 16 := by rw [cellsOf_length, hc16]
      clear h3 h4 e16 hst
      go_wp2_with (with_reducible refine wpList_load_row rfl 147 (.tmp 5) rfl w1.heap.size rfl 147 (cellsOf (cutB E x.whole)).toArray (0, 0) _ H4.out Try.underlying147 rfl (by rw [HS.out]; exact info_arr) ?_)
      (try simp only [Exit.inBlock, Exit.then])
      refine bodyPost_ret (v := .agg (cellsOf (cutB E x.whole)).toArray) ?_ rfl ⟨rfl, below_setRow hb (by omega) _⟩
      exact results_cell_row rfl _ _ (w.heap.size + 1) 147 (cellsOf (cutB E x.whole)).toArray (0, 0) _ rfl (setRow_heap _ _ _ _ _ _ H3.out) Try.underlying147 rfl (by rw [HS.out]; exact info_arr)
end Go.Proofs.Ytmfkpiclpkeemaa
