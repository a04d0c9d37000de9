/-
  What the model draws for the laws of chapter 2, and the laws' own way to pick a number.
-/
import Derived.Test.YtfbigjeonajmfaaDraw1
import Derived.Test.YtfbigjeonajmfaaRow
namespace Go.Proofs.Ytfbigjeonajmfaa
open Go.RowKit

def pb : Nat → Int
  | 0 => 0
  | 1 => 255
  | 2 => 8160
  | _ => 253215
theorem pb_step : ∀ k : Nat, k < 3 → 31 * pb k + 255 ≤ pb (k + 1)
  | 0, _ => by decide
  | 1, _ => by decide
  | 2, _ => by decide
  | _ + 3, h => by omega
theorem pb_le : ∀ k : Nat, pb k ≤ 253215
  | 0 => by decide
  | 1 => by decide
  | 2 => by decide
  | _ + 3 => Int.le_refl _

def pickS (bs : List UInt8) (at_ : Int) : Nat → Int
  | 0 => 0
  | k + 1 => 31 * pickS bs at_ k + (bs.getD ((at_ + k) % (bs.length : Int)).toNat 0).toNat
theorem pickS_range (bs : List UInt8) (at_ : Int) : ∀ k : Nat, k ≤ 3 → 0 ≤ pickS bs at_ k ∧ pickS bs at_ k ≤ pb k
  | 0, _ => ⟨Int.le_refl _, Int.le_refl _⟩
  | k + 1, h => by
    have h1 := pickS_range bs at_ k (by omega)
    have h2 := pb_step k (by omega)
    have h3 := UInt8.toNat_lt (bs.getD ((at_ + k) % (bs.length : Int)).toNat 0)
    simp only [pickS]
    omega
/-- The number that the laws pick out of the code. -/
def pickV (bs : List UInt8) (at_ m : Int) : Int := if bs.length = 0 ∨ m < 2 then 0 else (pickS bs at_ 3 + at_) % m
theorem pickV_range (bs : List UInt8) (at_ m : Int) (hm : 1 ≤ m) : 0 ≤ pickV bs at_ m ∧ pickV bs at_ m ≤ m - 1 := by
  unfold pickV
  split
  · omega
  · exact emod_range _ m hm

set_option maxRecDepth 100000 in
set_option maxHeartbeats 1000000 in
theorem pickL (A : Option Addr) (n c : Nat) (bs : List UInt8) (at_ m : Int) (w : World) (hr : RB w w.heap.size A bs) (hl : bs.length = n) (hn : n ≤ 1048576) (h0 : 0 ≤ at_) (h1 : at_ ≤ 1000) (hm : 1 ≤ m) (hm2 : m ≤ 1048576) :
    Calls Try.prog 14 #[.slice A n c, .int .i64 at_, .int .i64 m] w fun e w' => e = .returned (.int .i64 (pickV bs at_ m)) ∧ w = w' := by
  subst hl
  by_cases hz : bs.length = 0
  · have hzI : ((bs.length : Int) == 0) = true := by rw [beq_iff_eq]; omega
    have H := Lib.hid (show pickV bs at_ m = 0 by rw [pickV, if_pos (.inl hz)])
    go_enter Try.func14, Try.ntmps14
    go_wp2
    go_ret
    exact ⟨ret_int H.out.symm, rfl⟩
  · have hzI : ((bs.length : Int) == 0) = false := by rw [beq_eq_false_iff_ne]; omega
    by_cases hm1 : m < 2
    · have H := Lib.hid (show pickV bs at_ m = 0 by rw [pickV, if_pos (.inr hm1)])
      go_enter Try.func14, Try.ntmps14
      go_wp2
      go_ret
      exact ⟨ret_int H.out.symm, rfl⟩
    · have H := Lib.hid (show pickV bs at_ m = (pickS bs at_ 3 + at_) % m by rw [pickV, if_neg (by omega)])
      go_enter Try.func14, Try.ntmps14
      go_wp2
      go_loop [7, 8] (fun x i => ∃ k : Nat, k ≤ 3 ∧ i = .int .i64 k ∧ x = .int .i64 (pickS bs at_ k)) (fun _ i => 3 - (intOf i).toNat)
      case atStart => exact ⟨0, Nat.zero_le _, rfl, rfl⟩
      case round =>
        obtain ⟨k, hk, rfl, rfl⟩ := hrel
        obtain ⟨z0, z1⟩ := pickS_range bs at_ k hk
        have z2 := pb_le k
        by_cases hlt : k < 3
        · have hp := Int.emod_lt_of_pos (at_ + (k : Int)) (show (0 : Int) < (bs.length : Int) by omega)
          have hq := Int.emod_nonneg (at_ + (k : Int)) (show (bs.length : Int) ≠ 0 by omega)
          obtain ⟨r, hrr, hre⟩ : ∃ r : Nat, r < bs.length ∧ (at_ + (k : Int)) % (bs.length : Int) = r := ⟨((at_ + (k : Int)) % (bs.length : Int)).toNat, by omega, by omega⟩
          have E := Lib.hid (show pickS bs at_ (k + 1) = 31 * pickS bs at_ k + (bs[r].toNat : Int) by
            rw [pickS, hre, Int.toNat_natCast, List.getD_eq_getElem?_getD, List.getElem?_eq_getElem hrr]
            rfl)
          have hmod : (at_ + (k : Int)).tmod (bs.length : Int) = r := by rw [Int.tmod_eq_emod_of_nonneg (by omega), hre]
          obtain ⟨g, o, rfl, hg, hc⟩ := hr.at_ hrr
          have hb8 : bs[r].toNat < 256 := UInt8.toNat_lt _
          have hrI : (r : Int) < (bs.length : Int) := by omega
          have hr0 : (0 : Int) ≤ (r : Int) := by omega
          have hne0 : ¬ (bs.length : Int) = 0 := by omega
          clear hr hp hq hre
          go_wp2
          go_round
          case rel => exact ⟨k + 1, by omega, by go_num, by rw [E.out]⟩
          case measure => simp [intOf]; omega
        · obtain rfl : k = 3 := by omega
          have hmn : ¬ m = 0 := by omega
          go_wp2
          go_ret
          exact ⟨ret_int H.out.symm, rfl⟩

set_option maxRecDepth 100000 in
set_option maxHeartbeats 1000000 in
theorem drawOnes (A : Option Addr) (c : Nat) (bs : List UInt8) (w : World) (hr : RB w w.heap.size A bs) (hn : bs.length ≤ 1048576) :
    Calls Try.prog 13 #[.slice A bs.length c] w (DrewBytes w 2001) := by
  obtain ⟨i0, hi0, hz0, hz1, hz2⟩ := info_parts info_u8
  go_enter Try.func13, Try.ntmps13
  go_wp2_with fail
  refine (openC A c bs w hr hn).mono ?_
  rintro e w1 ⟨rfl, hc1, hb1⟩
  go_wp2_with fail
  refine (onceC w1 w.heap.size A c bs 0 40 (by omega) (by omega) hc1 (by omega)).mono ?_
  rintro e w2 ⟨b, rfl, hc2, hg2⟩
  have hb2 : Below w.heap.size w w2 := bgrown hb1 hg2 (fun k hk => by simp at hk; omega)
  cases b with
  | true =>
    go_wp2_with fail
    refine (pickC w2 w.heap.size A c bs _ 2 (by omega) (by omega) hc2 (by omega)).mono ?_
    rintro e w3 ⟨y, rfl, y0, y1, hc3, hg3⟩
    obtain ⟨q, rfl⟩ : ∃ q : Nat, y = q := ⟨y.toNat, by omega⟩
    have hb3 : Below w.heap.size w w3 := bgrown hb2 hg3 (fun k hk => by simp at hk; omega)
    go_wp2_with (at_make; refine wpList_make_full _ rfl _ _ 22 rfl w.heap.size 5 i0 (.int .u8 0) 1 Try.underlying22 hi0 hz0 hz1 _ _ _ _ (2000 + q) rfl rfl (by omega) (by omega) (by rw [hz2]; omega) (by unfold maxLen; omega) hb3.size ?_; intro w4 hown hgrow)
    go_ret
    have e : (madeCells (Value.int IntKind.u8 0).cells ((2000 + q) * 1)).toList = cellsOf (List.replicate (2000 + q) 0) := by
      have := toList_madeCells_one (.int .u8 0) (2000 + q)
      simpa [Value.cells, cellsOf] using this
    rw [e] at hown
    refine ⟨List.replicate (2000 + q) 0, some ⟨w3.heap.size, 0, none⟩, 2000 + q, ?_, by simp; omega, ?_, hb3.grown hgrow hb3.size (by simp)⟩
    · rw [List.length_replicate]; rfl
    · rw [List.length_replicate]; exact hown
  | false =>
    go_wp2_with fail
    refine (bytesC w2 w.heap.size A c bs _ 60 (by omega) (by omega) hc2 (by omega)).mono ?_
    rintro e w3 ⟨ds, D, d, t', rfl, hl, _, ho, _, hg3⟩
    have Ho := Lib.hid ho
    clear ho
    go_wp2
    go_ret
    exact ⟨ds, D, d, rfl, by omega, own_base Ho.out hb2.size, bgrown hb2 hg3 (fun k hk => by simp at hk; omega)⟩
end Go.Proofs.Ytfbigjeonajmfaa
