/-
  What the head of an IPv4 packet is made of: integers packed by shifts, two and four bytes at a time.
-/
import Derived.Test.YthfmjnebpdhdfaaFourOk
import Derived.Test.YthfmjnebpdhdfaaAddrImpl
namespace Go.Proofs.Ythfmjnebpdhdfaa
set_option maxRecDepth 100000
open Go.RowKit

theorem or_mul (m b i : Nat) (hm : 2 ^ i * m + b < 4611686018427387904) (hb : b < 2 ^ i) : bits .or .i64 ((2 ^ i * m : Nat) : Int) (b : Int) = ((2 ^ i * m + b : Nat) : Int) := by
  have ho : 2 ^ i * m ||| b = 2 ^ i * m + b := (Nat.two_pow_add_eq_or_of_lt hb m).symm
  show IntKind.i64.wrap ((BitVec.ofInt 64 ((2 ^ i * m : Nat) : Int) ||| BitVec.ofInt 64 (b : Int)).toNat : Int) = _
  rw [BitVec.toNat_or, ofInt_i64 _ (by omega), ofInt_i64 b (by omega), ho, IntKind.wrap_i64]
  omega
theorem or_2 (a b : Int) (ha : 0 ≤ a ∧ a ≤ 63) (hb : 0 ≤ b ∧ b ≤ 3) : bits .or .i64 (a * 4) b = 4 * a + b := by
  obtain ⟨m, rfl⟩ := Int.eq_ofNat_of_zero_le ha.1
  obtain ⟨k, rfl⟩ := Int.eq_ofNat_of_zero_le hb.1
  have := or_mul m k 2 (by omega) (by omega)
  rw [show (m : Int) * 4 = ((2 ^ 2 * m : Nat) : Int) by omega, this]
  omega
theorem or_13 (a b : Int) (ha : 0 ≤ a ∧ a ≤ 7) (hb : 0 ≤ b ∧ b ≤ 8191) : bits .or .i64 (a * 8192) b = 8192 * a + b := by
  obtain ⟨m, rfl⟩ := Int.eq_ofNat_of_zero_le ha.1
  obtain ⟨k, rfl⟩ := Int.eq_ofNat_of_zero_le hb.1
  have := or_mul m k 13 (by omega) (by omega)
  rw [show (m : Int) * 8192 = ((2 ^ 13 * m : Nat) : Int) by omega, this]
  omega
theorem or_64 (q : Int) (hq : 0 ≤ q ∧ q ≤ 15) : bits .or .i64 64 q = 64 + q := by
  obtain ⟨k, rfl⟩ := Int.eq_ofNat_of_zero_le hq.1
  have := or_mul 4 k 4 (by omega) (by omega)
  rw [show (64 : Int) = ((2 ^ 4 * 4 : Nat) : Int) by omega, this]
  omega

def TwoOut (ds : List UInt8) (k : Nat) (w : World) (e : Ending) (w' : World) : Prop := ∃ A c, e = .returned (.slice A k c) ∧ w'.ownsRow w.heap.size 5 1 (.slice A k c) k (cellsOf ds) ∧ Below w.heap.size w w'
theorem put16S (n : Int) (w : World) : Calls Try.prog 162 #[.int .i64 n] w (TwoOut (put16 n) 2 w) := (specPut16 n w).mono fun _ _ ⟨h, o, b⟩ => ⟨_, _, h, o, b⟩
theorem put16I (n : Int) (w : World) : Calls Try.prog 92 #[.int .i64 n] w (TwoOut (put16 n) 2 w) := (implPut16 n w).mono fun _ _ ⟨h, o, b⟩ => ⟨_, _, h, o, b⟩
theorem addr4S (x : Ad) (h : adOk4 x = true) (w : World) : Calls Try.prog 143 #[.agg #[.int .i64 x.k, .int .i64 x.a, .int .i64 x.b, .int .i64 x.c, .int .i64 x.d]] w (TwoOut (put32 x.d) 4 w) :=
  (specAddrBytes x w).mono fun _ _ ⟨A, c, he, o, b⟩ => by rw [adOk4_bytes h] at he o; exact ⟨A, c, he, o, b⟩
theorem addr4I (x : Ad) (h : adOk4 x = true) (w : World) : Calls Try.prog 94 #[.agg #[.int .i64 x.k, .int .i64 x.a, .int .i64 x.b, .int .i64 x.c, .int .i64 x.d]] w (TwoOut (put32 x.d) 4 w) :=
  (implAddrBytes x w).mono fun _ _ ⟨A, c, he, o, b⟩ => by rw [adOk4_bytes h] at he o; exact ⟨A, c, he, o, b⟩
theorem hcells2 (a b : Int) : cellsOf [byteOf a, byteOf b] = [.int .u8 (a % 256), .int .u8 (b % 256)] := by simp [cellsOf, byteOf_val]
theorem cells2s (a b : Int) (ha : 0 ≤ a ∧ a < 256) (hb : 0 ≤ b ∧ b < 256) : cellsOf [byteOf a, byteOf b] = [.int .u8 a, .int .u8 b] := by
  rw [hcells2, Int.emod_eq_of_lt ha.1 ha.2, Int.emod_eq_of_lt hb.1 hb.2]
theorem rb_two (w : World) (a b : Int) : RB (w.alloc (.cells #[.int .u8 (a % 256), .int .u8 (b % 256)] 5)) (w.heap.size + 1) (some ⟨w.heap.size, 0, none⟩) [byteOf a, byteOf b] := by
  have := RB.new w 5 [byteOf a, byteOf b]
  rw [hcells2] at this
  exact this

theorem rb_twos (w : World) (a b : Int) (ha : 0 ≤ a ∧ a < 256) (hb : 0 ≤ b ∧ b < 256) : RB (w.alloc (.cells #[.int .u8 a, .int .u8 b] 5)) (w.heap.size + 1) (some ⟨w.heap.size, 0, none⟩) [byteOf a, byteOf b] := by
  have := RB.new w 5 [byteOf a, byteOf b]
  rw [cells2s a b ha hb] at this
  exact this

/-- What is made of a head. -/
def HeadOut (x : Fh) (sum : Int) (os : List UInt8) (n m : Nat) (w : World) (e : Ending) (w' : World) : Prop :=
  ∃ A c, e = .returned (.slice A (20 + n) c) ∧ w'.ownsRow w.heap.size 5 1 (.slice A (20 + n) c) (20 + n) (cellsOf (x.head sum os m)) ∧ Below w.heap.size w w'
end Go.Proofs.Ythfmjnebpdhdfaa
