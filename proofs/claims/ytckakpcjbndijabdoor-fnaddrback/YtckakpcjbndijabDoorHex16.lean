/-
  The library's FormatInt at base 16, for numbers of sixteen bits: hexadecimal text without leading zeros.
-/
import Derived.Test.YtckakpcjbndijabDoorTextSpec
import Derived.Test.YtckakpcjbndijabDoorPacked
namespace Go.Proofs.YtckakpcjbndijabDoor
open Go.RowKit

set_option maxRecDepth 100000 in
theorem and_u64_15 (m : Nat) (h : m < 65536) : bits .and .u64 (m : Int) 15 = ((m % 16 : Nat) : Int) := by
  have e : (BitVec.ofInt 64 (m : Int)).toNat = m := by
    rw [BitVec.ofInt_natCast, BitVec.toNat_ofNat]
    exact Nat.mod_eq_of_lt (by omega)
  have e2 : m &&& 15 = m % 16 := Nat.and_two_pow_sub_one_eq_mod m 4
  show IntKind.u64.wrap ((BitVec.ofInt 64 (m : Int) &&& BitVec.ofInt 64 15).toNat : Int) = _
  rw [BitVec.toNat_and, e, show (BitVec.ofInt 64 15).toNat = 15 from rfl, e2, IntKind.wrap_u64]
  omega

set_option maxRecDepth 100000 in
set_option maxHeartbeats 400000 in
theorem trail16 (w : World) (ht : w.cell? ⟨3, 15, none⟩ = some (.int .u8 4)) :
    Calls Tryd.prog 111 #[.int .u64 16] w fun e w' => e = .returned (.int .i64 4) ∧ w = w' := by
  have h1 : bits .and .u64 16 (IntKind.u64.wrap (-16)) = 16 := by decide
  have h2 : IntKind.u64.wrap 4573923408821661840 = 4573923408821661840 := by decide
  go_enter Tryd.func111, Tryd.ntmps111
  go_wp2
  go_ret
  exact ⟨rfl, rfl⟩

set_option maxRecDepth 100000 in
set_option maxHeartbeats 400000 in
theorem trail16' (w : World) (ht : w.cell? ⟨3, 15, none⟩ = some (.int .u8 4)) :
    Calls Tryd.prog 103 #[.int .u64 16] w fun e w' => e = .returned (.int .i64 4) ∧ w = w' := by
  have T := Lib.hid (trail16 w ht)
  clear ht
  go_enter Tryd.func103, Tryd.ntmps103
  go_wp2_with (go_at_call 111; refine T.out.mono ?_; rintro e w' ⟨rfl, rfl⟩)
  go_ret
  exact ⟨rfl, rfl⟩

set_option maxRecDepth 100000 in
theorem pow_u16 : bits .and .i64 16 15 = 0 := by decide
set_option maxRecDepth 100000 in
theorem index_digits (d : Nat) (h : d < 16) (w : World) :
    (Instr.index 9 (.string ⟨#[48, 49, 50, 51, 52, 53, 54, 55, 56, 57, 97, 98, 99, 100, 101, 102, 103, 104, 105, 106, 107, 108, 109, 110, 111, 112, 113, 114, 115, 116, 117, 118, 119, 120, 121, 122]⟩) (.int .u64 (d : Int))).run Tryd.prog w = .ok (.int .u8 ((hexDig d).toNat : Int)) w := by
  have : d = 0 ∨ d = 1 ∨ d = 2 ∨ d = 3 ∨ d = 4 ∨ d = 5 ∨ d = 6 ∨ d = 7 ∨ d = 8 ∨ d = 9 ∨ d = 10 ∨ d = 11 ∨ d = 12 ∨ d = 13 ∨ d = 14 ∨ d = 15 := by omega
  rcases this with rfl | rfl | rfl | rfl | rfl | rfl | rfl | rfl | rfl | rfl | rfl | rfl | rfl | rfl | rfl | rfl <;> rfl
/-- The row of sixty-five bytes with its last ones written. -/
def hexRow65 (k : Nat) (ds : List UInt8) : List UInt8 := List.replicate (65 - k) 0 ++ ds
set_option maxRecDepth 100000 in
theorem hexRow65_len (k : Nat) (ds : List UInt8) (hk : k ≤ 65) (hd : ds.length = k) : (hexRow65 k ds).length = 65 := by simp [hexRow65]; omega
set_option maxRecDepth 100000 in
theorem hexRow65_set (k : Nat) (ds : List UInt8) (b : UInt8) (hk : k < 65) : (cellsOf (hexRow65 k ds)).set (64 - k) (.int .u8 (b.toNat : Int)) = cellsOf (hexRow65 (k + 1) (b :: ds)) := by
  unfold hexRow65
  rw [show 65 - k = (64 - k) + 1 by omega, List.replicate_succ', List.append_assoc, List.singleton_append, fill_step _ _ _ _ (64 - k) (by simp), show 65 - (k + 1) = 64 - k by omega, List.append_assoc, List.singleton_append]

set_option maxRecDepth 100000 in
set_option maxHeartbeats 400000 in
theorem powC (w : World) : Calls Tryd.prog 102 #[.int .i64 16] w fun e w' => e = .returned (.bool true) ∧ w = w' := by
  have hp := pow_u16
  go_enter Tryd.func102, Tryd.ntmps102
  go_wp2
  go_ret
  exact ⟨rfl, rfl⟩
set_option maxRecDepth 100000 in
theorem zeros65 : Tryd.zeroCells117 = (cellsOf (hexRow65 0 [])).toArray := by kernel_rfl
set_option maxRecDepth 100000 in
theorem slice_arr65 (g m : Nat) (h : m < 65) (w : World) : (Instr.sliceAt 117 (.pointer (some ⟨g, 0, none⟩)) (some (.int .i64 (m : Int))) none none).run Tryd.prog w = .ok (.slice (some ⟨g, m, none⟩) (65 - m) (65 - m)) w := by
  obtain ⟨i0, hi0, hz0, hz1, hz2⟩ := info_parts info_u8
  have e : Tryd.prog.elem 117 = 5 := by kernel_rfl
  have el : Tryd.prog.arrayLen 117 = 65 := by kernel_rfl
  rw [run_sliceAt_array_l w _ _ (by kernel_rfl) .i64 (m : Int) (by omega) (by rw [el]; omega)]
  simp [e, el, sizeOf, typeInfo, hi0, slicedAt, hz1, addr_add]
  omega

set_option maxRecDepth 100000 in
set_option maxHeartbeats 1000000 in
theorem formatBits16 (n : Nat) (hn : n < 65536) (w : World) (ht : w.cell? ⟨3, 15, none⟩ = some (.int .u8 4)) :
    Calls Tryd.prog 88 #[.slice none 0 0, .int .u64 (n : Int), .int .i64 16, .bool false, .bool false] w fun e w' => e = .returned (.tuple #[.slice none 0 0, .string (strOf (hexN n))]) ∧ Below w.heap.size w w' := by
  have T := Lib.hid (show ∀ o, Calls Tryd.prog 103 #[.int .u64 16] (w.alloc o) fun e w' => e = .returned (.int .i64 4) ∧ w.alloc o = w' from fun o => trail16' _ (cell_on (Joins.below_alloc1 w o) ht))
  clear ht
  go_enter Tryd.func88, Tryd.ntmps88
  go_wp2_with (first | (go_at_call 102; refine (powC _).mono ?_; rintro e w' ⟨rfl, rfl⟩) | (go_at_call 103; refine (T.out _).mono ?_; rintro e w' ⟨rfl, rfl⟩))
  go_loopw [1, 13] (fun u q wr => ∃ (k m : Nat) (ds : List UInt8), Hid (m * 16 ^ k ≤ 65535) ∧ k ≤ 3 ∧ m < 65536 ∧ u = .int .u64 (m : Int) ∧ q = .int .i64 (65 - (k : Int)) ∧ Hid (ds.length = k) ∧ Hid (hexN n = hexN m ++ ds) ∧ Hid (wr.heap[w.heap.size]? = some (.cells (cellsOf (hexRow65 k ds)).toArray 117 (0, 0))) ∧ Hid (Below w.heap.size w wr)) (fun u _ _ => (intOf u).toNat)
  case atStart => exact ⟨0, n, [], Lib.hid (by simp; omega), by omega, hn, rfl, rfl, Lib.hid rfl, Lib.hid (by simp), Lib.hid (by rw [← zeros65]; exact heap_alloc_new w _), Lib.hid (Joins.below_alloc1 w _)⟩
  case round =>
    obtain ⟨k, m, ds, hmk, hk, hm, rfl, rfl, hdl, hdig, hrow, hb⟩ := hrel
    have hidx := index_digits (m % 16) (by omega)
    by_cases h16 : m < 16
    · have h16I : ¬ (16 : Int) ≤ (m : Int) := by omega
      have hidx2 := index_digits m h16
      have R := heap_setCell_same wr w.heap.size (64 - k) _ _ (.int .u8 ((hexDig m).toNat : Int)) hrow.out
      rw [List.setIfInBounds_toArray, hexRow65_set k ds (hexDig m) (by omega)] at R
      have hc : ∃ v, wr.cell? ⟨w.heap.size, 64 - k, none⟩ = some v := by
        rw [cell_of_row wr _ (64 - k) _ _ _ hrow.out]
        exact ⟨_, Array.getElem?_eq_getElem (by rw [cells_size, hexRow65_len k ds (by omega) hdl.out]; omega)⟩
      obtain ⟨v, hc⟩ := hc
      have hfz := frozen_of_row wr w.heap.size (64 - k) _ _ hrow.out
      have hE := Lib.hid (show hexN n = hexDig m :: ds by rw [hdig.out, hexN_small m h16]; rfl)
      have hlen : (hexDig m :: ds).length = 65 - (64 - k) := by rw [List.length_cons, hdl.out]; omega
      have hrb : RB (wr.setCell ⟨w.heap.size, 64 - k, none⟩ (.int .u8 ((hexDig m).toNat : Int))) (w.heap.size + 1) (some ⟨w.heap.size, 64 - k, none⟩) (hexDig m :: ds) := by
        intro _
        refine ⟨w.heap.size, 64 - k, rfl, by omega, fun j u hu => ?_⟩
        rw [cell_of_row _ _ _ _ _ _ R]
        have : (hexRow65 (k + 1) (hexDig m :: ds))[64 - k + j]? = some u := by
          unfold hexRow65
          rw [List.getElem?_append_right (by simp)]
          simp only [List.length_replicate]
          rw [show 64 - k + j - (65 - (k + 1)) = j by omega]
          exact hu
        simpa using cellsOf_get _ _ _ this
      have hcv := conv_b _ _ (some ⟨w.heap.size, 64 - k, none⟩) (65 - (64 - k)) (65 - (64 - k)) (hexDig m :: ds) hlen hrb
      have hsl := slice_arr65 w.heap.size (64 - k) (by omega)
      have hB := Lib.hid (hb.out.setCell (p := ⟨w.heap.size, 64 - k, none⟩) (Nat.le_refl _) (.int .u8 ((hexDig m).toNat : Int)))
      obtain ⟨i, hi⟩ : ∃ i : Nat, i = 64 - k := ⟨_, rfl⟩
      have hiI : 65 - (k : Int) - 1 = (i : Int) := by omega
      rw [← hi] at hc hfz hcv hsl hB
      clear R hrb hlen hi hidx
      go_wp2
      go_ret2
      rw [hE.out]
      exact ⟨rfl, hB.out⟩
    · have h16I : (16 : Int) ≤ (m : Int) := by omega
      have hand := and_u64_15 m hm
      have hk2 : k ≤ 2 := by
        rcases (show k = 0 ∨ k = 1 ∨ k = 2 ∨ k = 3 by omega) with h | h | h | h
        · omega
        · omega
        · omega
        · have := hmk.out
          rw [h] at this
          omega
      obtain ⟨d, hd⟩ : ∃ d : Nat, d = m % 16 := ⟨_, rfl⟩
      obtain ⟨q, hq⟩ : ∃ q : Nat, q = m / 16 := ⟨_, rfl⟩
      have hqI : (m : Int) / 16 = (q : Int) := by omega
      have R := heap_setCell_same wr w.heap.size (64 - k) _ _ (.int .u8 ((hexDig d).toNat : Int)) hrow.out
      rw [List.setIfInBounds_toArray, hexRow65_set k ds (hexDig d) (by omega)] at R
      have HR := Lib.hid R
      have hc : ∃ v, wr.cell? ⟨w.heap.size, 64 - k, none⟩ = some v := by
        rw [cell_of_row wr _ (64 - k) _ _ _ hrow.out]
        exact ⟨_, Array.getElem?_eq_getElem (by rw [cells_size, hexRow65_len k ds (by omega) hdl.out]; omega)⟩
      obtain ⟨v, hc⟩ := hc
      have hfz := frozen_of_row wr w.heap.size (64 - k) _ _ hrow.out
      have hE := Lib.hid (show hexN n = hexN q ++ hexDig d :: ds by rw [hdig.out, hexN_big m h16, hd, hq, List.append_assoc]; rfl)
      have hB := Lib.hid (hb.out.setCell (p := ⟨w.heap.size, 64 - k, none⟩) (Nat.le_refl _) (.int .u8 ((hexDig d).toNat : Int)))
      have hMK := Lib.hid (show q * 16 ^ (k + 1) ≤ 65535 by
        have h1 := hmk.out
        have h2 : q * 16 ≤ m := by omega
        have h3 : q * 16 * 16 ^ k ≤ m * 16 ^ k := Nat.mul_le_mul_right _ h2
        rw [Nat.pow_succ, Nat.mul_comm (16 ^ k) 16, ← Nat.mul_assoc]
        omega)
      have hDL := Lib.hid (show (hexDig d :: ds).length = k + 1 by rw [List.length_cons, hdl.out])
      obtain ⟨i, hi⟩ : ∃ i : Nat, i = 64 - k := ⟨_, rfl⟩
      have hiI : 65 - (k : Int) - 1 = (i : Int) := by omega
      have hqm : q < m := by omega
      rw [← hd] at hand hidx
      rw [← hi] at hc hfz hB HR
      have HI := Lib.hid (show (i : Int) = 65 - ((k + 1 : Nat) : Int) by omega)
      clear R hi hd hq h16
      go_wp2
      go_roundw
      case rel => exact ⟨k + 1, q, hexDig d :: ds, hMK, by omega, by omega, rfl, by rw [HI.out], hDL, hE, HR, hB⟩
      case measure => simp [intOf]; omega

set_option maxRecDepth 100000 in
set_option maxHeartbeats 400000 in
theorem formatInt16 (n : Nat) (hn : n < 65536) (w : World) (ht : w.cell? ⟨3, 15, none⟩ = some (.int .u8 4)) :
    Calls Tryd.prog 34 #[.int .i64 (n : Int), .int .i64 16] w fun e w' => e = .returned (.string (strOf (hexN n))) ∧ Below w.heap.size w w' := by
  have T := Lib.hid (formatBits16 n hn w ht)
  clear ht
  go_enter Tryd.func34, Tryd.ntmps34
  go_wp2_with (first | (go_at_call 88; refine T.out.mono ?_; rintro e w1 ⟨rfl, b1⟩) | go_in)
  go_ret
  exact ⟨rfl, b1⟩
end Go.Proofs.YtckakpcjbndijabDoor
