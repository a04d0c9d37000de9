/-
  What Put16 and Put32 make, in the program and in the model.
-/
import Derived.Test.YtmfkpiclpkeemaaBytes
namespace Go.Proofs.Ytmfkpiclpkeemaa
set_option maxRecDepth 100000
open Go.RowKit

def byteOf (n : Int) : UInt8 := UInt8.ofNat (n % 256).toNat
theorem byteOf_val (n : Int) : ((byteOf n).toNat : Int) = n % 256 := by
  unfold byteOf
  have : (n % 256).toNat < 256 := by omega
  simp [UInt8.toNat_ofNat_of_lt' (show (n % 256).toNat < UInt8.size by simpa using this)]
  omega
def put16 (n : Int) : List UInt8 := [byteOf (n / 256), byteOf n]
def put32 (n : Int) : List UInt8 := [byteOf (n / 16777216), byteOf (n / 65536), byteOf (n / 256), byteOf n]

set_option maxHeartbeats 400000 in
theorem implPut16 (n : Int) (w : World) :
    Calls Try.prog 108 #[.int .i64 n] w fun e w' => e = .returned (.slice (some ⟨w.heap.size, 0, none⟩) 2 2) ∧
      w'.ownsRow w.heap.size 5 1 (.slice (some ⟨w.heap.size, 0, none⟩) 2 2) 2 (cellsOf (put16 n)) ∧ Below w.heap.size w w' := by
  go_enter Try.func108, Try.ntmps108
  go_wp2
  go_ret
  have e : cellsOf (put16 n) = [.int .u8 (n / 256 % 256), .int .u8 (n % 256)] := by simp [cellsOf, put16, byteOf_val]
  rw [e]
  exact ⟨rfl, World.ownsRow_lit w _ 2 (Nat.le_refl _) (by decide) rfl, (Below.refl _ _).alloc (Nat.le_refl _) _⟩

set_option maxHeartbeats 400000 in
theorem implPut32 (n : Int) (w : World) :
    Calls Try.prog 145 #[.int .i64 n] w fun e w' => e = .returned (.slice (some ⟨w.heap.size, 0, none⟩) 4 4) ∧
      w'.ownsRow w.heap.size 5 1 (.slice (some ⟨w.heap.size, 0, none⟩) 4 4) 4 (cellsOf (put32 n)) ∧ Below w.heap.size w w' := by
  go_enter Try.func145, Try.ntmps145
  go_wp2
  go_ret
  have e : cellsOf (put32 n) = [.int .u8 (n / 16777216 % 256), .int .u8 (n / 65536 % 256), .int .u8 (n / 256 % 256), .int .u8 (n % 256)] := by simp [cellsOf, put32, byteOf_val]
  rw [e]
  exact ⟨rfl, World.ownsRow_lit w _ 4 (Nat.le_refl _) (by decide) rfl, (Below.refl _ _).alloc (Nat.le_refl _) _⟩

theorem tmod_fix (n m : Int) (hm : 0 < m) : -m < n.tmod m ∧ n.tmod m < m ∧ (0 ≤ n.tmod m → n.tmod m = n % m) ∧ (n.tmod m < 0 → n.tmod m + m = n % m) := by
  have h0 := Int.emod_nonneg n (show m ≠ 0 by omega)
  have h1 := Int.emod_lt_of_pos n hm
  have h2 := Int.tmod_eq_emod (a := n) (b := m)
  have h3 : (m.natAbs : Int) = m := by omega
  have h4 : ¬ m ∣ n → n % m ≠ 0 := fun h e => h (Int.dvd_of_emod_eq_zero e)
  by_cases hd : 0 ≤ n ∨ m ∣ n
  · rw [if_pos hd] at h2; omega
  · rw [if_neg hd, h3] at h2
    have h5 := h4 (fun h => hd (.inr h))
    omega

set_option maxHeartbeats 400000 in
theorem low16 (n : Int) (w : World) :
    Calls Try.prog 127 #[.int .i64 n, .int .i64 65536] w fun e w' => e = .returned (.int .i64 (n % 65536)) ∧ w = w' := by
  obtain ⟨b1, b2, b3, b4⟩ := tmod_fix n 65536 (by omega)
  have H3 := Lib.hid b3
  have H4 := Lib.hid b4
  clear b3 b4
  go_enter Try.func127, Try.ntmps127
  go_wp2
  · go_ret
    exact ⟨ret_int (H4.out (by assumption)), rfl⟩
  · go_ret
    exact ⟨ret_int (H3.out (by assumption)), rfl⟩

set_option maxHeartbeats 400000 in
theorem low32 (n : Int) (w : World) :
    Calls Try.prog 127 #[.int .i64 n, .int .i64 4294967296] w fun e w' => e = .returned (.int .i64 (n % 4294967296)) ∧ w = w' := by
  obtain ⟨b1, b2, b3, b4⟩ := tmod_fix n 4294967296 (by omega)
  have H3 := Lib.hid b3
  have H4 := Lib.hid b4
  clear b3 b4
  go_enter Try.func127, Try.ntmps127
  go_wp2
  · go_ret
    exact ⟨ret_int (H4.out (by assumption)), rfl⟩
  · go_ret
    exact ⟨ret_int (H3.out (by assumption)), rfl⟩

set_option maxHeartbeats 400000 in
theorem specPut16 (n : Int) (w : World) :
    Calls Try.prog 105 #[.int .i64 n] w fun e w' => e = .returned (.slice (some ⟨w.heap.size, 0, none⟩) 2 2) ∧
      w'.ownsRow w.heap.size 5 1 (.slice (some ⟨w.heap.size, 0, none⟩) 2 2) 2 (cellsOf (put16 n)) ∧ Below w.heap.size w w' := by
  have h0 := Int.emod_nonneg n (show (65536 : Int) ≠ 0 by omega)
  have h1 := Int.emod_lt_of_pos n (show (0 : Int) < 65536 by omega)
  go_enter Try.func105, Try.ntmps105
  go_wp2_with (go_at_call 127; refine (low16 _ _).mono ?_; rintro e w' ⟨rfl, rfl⟩)
  go_ret
  have e : cellsOf (put16 n) = [.int .u8 (n % 65536 / 256), .int .u8 (n % 256)] := by
    simp [cellsOf, put16, byteOf_val]
    omega
  rw [e]
  exact ⟨rfl, World.ownsRow_lit w _ 2 (Nat.le_refl _) (by decide) rfl, (Below.refl _ _).alloc (Nat.le_refl _) _⟩

set_option maxHeartbeats 400000 in
theorem specPut32 (n : Int) (w : World) :
    Calls Try.prog 126 #[.int .i64 n] w fun e w' => ∃ A c, e = .returned (.slice A 4 c) ∧
      w'.ownsRow w.heap.size 5 1 (.slice A 4 c) 4 (cellsOf (put32 n)) ∧ Below w.heap.size w w' := by
  have h0 := Int.emod_nonneg n (show (4294967296 : Int) ≠ 0 by omega)
  have h1 := Int.emod_lt_of_pos n (show (0 : Int) < 4294967296 by omega)
  obtain ⟨i0, hi0, hz0, hz1, hz2⟩ := info_parts info_u8
  go_enter Try.func126, Try.ntmps126
  go_wp2_with (go_at_call 127; refine (low32 _ _).mono ?_; rintro e w' ⟨rfl, rfl⟩)
  refine (specPut16 _ _).mono ?_
  rintro e w1 ⟨rfl, hown1, hb1⟩
  go_wp2_with fail
  refine (specPut16 _ _).mono ?_
  rintro e w2 ⟨rfl, hown2, hb2⟩
  go_wp2_with (at_builtin; (refine wpList_append_b rfl (.tmp 8) (.tmp 11) rfl w.heap.size (.slice (some ⟨w.heap.size, 0, none⟩) 2 2) (put16 (n % 4294967296 / 65536)) rfl (own_below hown1 hb2) w2.heap.size (some ⟨w1.heap.size, 0, none⟩) 2 2 (put16 (n % 65536)) rfl rfl (RB.of_own hown2) (by simp [put16]) (Nat.le_trans hb1.size hb2.size) ?_); intro v3 w3 hown3 hg3 _)
  go_ret
  obtain ⟨A, c, rfl⟩ := own_form hown3
  have e : put16 (n % 4294967296 / 65536) ++ put16 (n % 65536) = put32 n := by
    simp only [put16, put32, List.cons_append, List.nil_append, byteOf]
    rw [show n % 4294967296 / 65536 / 256 % 256 = n / 16777216 % 256 by omega, show n % 4294967296 / 65536 % 256 = n / 65536 % 256 by omega, show n % 65536 / 256 % 256 = n / 256 % 256 by omega, show n % 65536 % 256 = n % 256 by omega]
  rw [e] at hown3
  exact ⟨A, c, rfl, hown3, (hb1.trans (hb2.mono hb1.size)).grown hg3 (Nat.le_trans hb1.size hb2.size) (by simp [Value.ownBlock])⟩
end Go.Proofs.Ytmfkpiclpkeemaa
