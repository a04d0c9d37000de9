/-
  The program's sixteen bytes of an address: unpacked, firstBits.
-/
import Derived.Test.YthcmecmjmnimhaaPacked
import Derived.Deep.WholeRow
namespace Go.Proofs.Ythcmecmjmnimhaa
set_option maxRecDepth 100000
open Go.RowKit

set_option maxHeartbeats 400000 in
theorem unpackedC (k : Int) (bs : List UInt8) (hl : bs.length = 16) (w : World) : Calls Try.prog 126 #[.int .i64 k, .agg (cellsOf bs).toArray] w fun e w' => e = .returned (.agg #[.int .i64 (unw k bs).k, .int .i64 (unw k bs).a, .int .i64 (unw k bs).b, .int .i64 (unw k bs).c, .int .i64 (unw k bs).d]) ∧ Below w.heap.size w w' := by
  have hrb : ∀ o1 o2, RB (((w.alloc (.cells (cellsOf bs).toArray 124)).alloc o1).alloc o2) (((w.alloc (.cells (cellsOf bs).toArray 124)).alloc o1).alloc o2).heap.size (some ⟨w.heap.size, 0, none⟩) bs := by
    intro o1 o2
    refine ((RB.new w 124 bs).below ?_).more ?_
    · exact ((Below.refl _ _).alloc (by simp) _).alloc (by simp) _
    · simp
  have HL := Lib.hid hl
  clear hl
  go_enter Try.func126, Try.ntmps126
  go_wp2_with fail
  refine wp_loop_rounds 5 ?_
  rw [rounds_succ]
  go_wp2_with (go_at_call 127; refine (implBe32 _ 16 16 bs 0 _ (hrb _ _) HL.out (by omega) (by omega) (by omega)).mono ?_; rintro e w' ⟨rfl, rfl⟩)
  rw [rounds_succ]
  go_wp2_with (go_at_call 127; refine (implBe32 _ 16 16 bs 4 _ (hrb _ _) HL.out (by omega) (by omega) (by omega)).mono ?_; rintro e w' ⟨rfl, rfl⟩)
  rw [rounds_succ]
  go_wp2_with (go_at_call 127; refine (implBe32 _ 16 16 bs 8 _ (hrb _ _) HL.out (by omega) (by omega) (by omega)).mono ?_; rintro e w' ⟨rfl, rfl⟩)
  rw [rounds_succ]
  go_wp2_with (go_at_call 127; refine (implBe32 _ 16 16 bs 12 _ (hrb _ _) HL.out (by omega) (by omega) (by omega)).mono ?_; rintro e w' ⟨rfl, rfl⟩)
  rw [rounds_succ]
  go_wp2
  go_returns
  exact ⟨rfl, by go_grown⟩

theorem bits_is (x : Ad) (h : x.ok = true) (w : World) : Calls Try.prog 114 #[.int .i64 x.k] w fun e w' => e = .returned (.int .i64 x.bits) ∧ w = w' := bitsOfC x.k (x.ok_kind h) w
theorem bits_bd (x : Ad) : 32 ≤ x.bits ∧ x.bits ≤ 128 := by
  unfold Ad.bits
  split <;> omega

set_option maxHeartbeats 400000 in
theorem clipC (a : Nat) (i : Nat) (w : World) : Calls Try.prog 86 #[.int .i64 ((a : Int) - 8 * (i : Int)), .int .i64 0, .int .i64 8] w fun e w' => e = .returned (.int .i64 ((min 8 (a - 8 * i) : Nat) : Int)) ∧ w = w' := by
  go_enter Try.func86, Try.ntmps86
  go_wp2
  all_goals (go_ret; exact ⟨ret_int (by omega), rfl⟩)

/-- The row while the first i bytes are cut. -/
def cutting (e i : Nat) (bs : List UInt8) : List UInt8 := (cutB e bs).take i ++ bs.drop i
theorem cutting_at (e i : Nat) (bs : List UInt8) (h : i < bs.length) : (cutting e i bs)[i]? = some bs[i] := by
  unfold cutting
  have hl : ((cutB e bs).take i).length = i := by simp [cutB_length]; omega
  rw [List.getElem?_append_right (by omega), hl, Nat.sub_self, List.getElem?_drop]
  simp [h]
theorem cutting_step (e i : Nat) (bs : List UInt8) (h : i < bs.length) : (cellsOf (cutting e i bs)).set i (.int .u8 ((cutByte bs[i] (min 8 (e - 8 * i))).toNat : Int)) = cellsOf (cutting e (i + 1) bs) := by
  unfold cutting
  have hl : ((cutB e bs).take i).length = i := by simp [cutB_length]; omega
  rw [List.drop_eq_getElem_cons h, fill_step _ _ _ _ i hl, take_snoc (cutB e bs) i (by rw [cutB_length]; exact h), cutB_get _ _ _ h]
theorem cutting_end (e : Nat) (bs : List UInt8) : cutting e bs.length bs = cutB e bs := by
  unfold cutting
  rw [List.drop_length, List.append_nil, List.take_of_length_le (by rw [cutB_length]; exact Nat.le_refl _)]
theorem mask_all : ∀ k : Fin 9, ∀ b : Fin 256, (b.val &&& (255 * 2 ^ (8 - k.val) % 256)) = b.val - b.val % 2 ^ (8 - k.val) := by decide +kernel
theorem and_mask (b : UInt8) (k : Nat) (h : k ≤ 8) : bits .and .u8 (b.toNat : Int) (255 * 2 ^ (8 - k) % 256) = ((cutByte b k).toNat : Int) := by
  have hb := UInt8.toNat_lt b
  have hm := mask_all ⟨k, by omega⟩ ⟨b.toNat, by omega⟩
  try simp only at hm
  have e : (255 * 2 ^ (8 - k) % 256 : Int) = ((255 * 2 ^ (8 - k) % 256 : Nat) : Int) := by rw [Int.natCast_emod, Int.natCast_mul, Int.natCast_pow]; rfl
  rw [e]
  generalize hmm : 255 * 2 ^ (8 - k) % 256 = m at hm
  have hm256 : m < 256 := by omega
  have e1 : (BitVec.ofInt 8 (b.toNat : Int)).toNat = b.toNat := by
    rw [BitVec.ofInt_natCast, BitVec.toNat_ofNat]
    exact Nat.mod_eq_of_lt (by omega)
  have e2 : (BitVec.ofInt 8 (m : Int)).toNat = m := by
    rw [BitVec.ofInt_natCast, BitVec.toNat_ofNat]
    exact Nat.mod_eq_of_lt (by omega)
  show IntKind.u8.wrap ((BitVec.ofInt 8 (b.toNat : Int) &&& BitVec.ofInt 8 (m : Int)).toNat : Int) = _
  rw [BitVec.toNat_and, e1, e2, hm, cutByte_val, IntKind.wrap_u8]
  omega

end Go.Proofs.Ythcmecmjmnimhaa
