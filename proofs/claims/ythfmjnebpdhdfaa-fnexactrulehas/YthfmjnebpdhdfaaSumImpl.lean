/-
  What the program's functions of chapter 2 answer.
-/
import Derived.Test.YthfmjnebpdhdfaaBe
import Derived.Test.YthfmjnebpdhdfaaInts
import Derived.Test.YthfmjnebpdhdfaaSum
import Derived.StillTailTactics
namespace Go.Proofs.Ythfmjnebpdhdfaa
set_option maxRecDepth 100000
open Go.RowKit





/-- The row of words as it is being filled. -/
def wRow (bs : List UInt8) (k : Nat) : List Int := wordsL (bs.take k) ++ List.replicate ((bs.length + 1) / 2 - (k + 1) / 2) 0
theorem wRow_zero (bs : List UInt8) : wRow bs 0 = List.replicate ((bs.length + 1) / 2) 0 := by simp [wRow, wordsL]
theorem wRow_full (bs : List UInt8) : wRow bs bs.length = wordsL bs := by simp [wRow]
theorem wRow_length (bs : List UInt8) (k : Nat) (h : k ≤ bs.length) : (wRow bs k).length = (bs.length + 1) / 2 := by
  rw [wRow, List.length_append, wordsL_length, List.length_replicate, List.length_take, Nat.min_eq_left h]
  omega
theorem wRow_even (bs : List UInt8) (k : Nat) (h : k < bs.length) (he : k % 2 = 0) :
    (intsOf (wRow bs k)).set (k / 2) (.int .i64 ((bs[k].toNat : Int) * 256)) = intsOf (wRow bs (k + 1)) := by
  rw [wRow, wRow, show (bs.length + 1) / 2 - (k + 1) / 2 = ((bs.length + 1) / 2 - (k + 1 + 1) / 2) + 1 by omega, List.replicate_succ, int_fill _ _ _ _ (k / 2) (by rw [wordsL_length, List.length_take]; omega), wordsL_even bs k h he, Int.mul_comm]
theorem wRow_get (bs : List UInt8) (k : Nat) (h : k < bs.length) (he : k % 2 = 1) : (wRow bs k)[k / 2]? = some (256 * (bs[k - 1].toNat : Int)) := by
  have e := wordsL_even bs (k - 1) (by omega) (by omega)
  rw [show k - 1 + 1 = k by omega] at e
  rw [wRow, e, List.append_assoc, List.getElem?_append_right (by rw [wordsL_length, List.length_take]; omega), wordsL_length, List.length_take, show k / 2 - (min (k - 1) bs.length + 1) / 2 = 0 by omega]
  rfl
theorem wRow_odd (bs : List UInt8) (k : Nat) (h : k < bs.length) (he : k % 2 = 1) :
    (intsOf (wRow bs k)).set (k / 2) (.int .i64 ((bs[k - 1].toNat : Int) * 256 + bs[k].toNat)) = intsOf (wRow bs (k + 1)) := by
  have e := wordsL_even bs (k - 1) (by omega) (by omega)
  have e2 := wordsL_odd bs (k - 1) (by omega) (by omega)
  have e3 : bs[k - 1 + 1]'(by omega) = bs[k] := by congr 1; omega
  rw [show k - 1 + 1 = k by omega] at e
  rw [e3, show k - 1 + 2 = k + 1 by omega] at e2
  rw [wRow, wRow, e, e2, show (k + 1 + 1) / 2 = (k + 1) / 2 by omega, List.append_assoc, List.singleton_append, int_fill _ _ _ _ (k / 2) (by rw [wordsL_length, List.length_take]; omega), Int.mul_comm]











end Go.Proofs.Ythfmjnebpdhdfaa
