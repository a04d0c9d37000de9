/-
  Texts of addresses. Plain: nothing here speaks of the program.
-/
import Derived.Test.YtckakpcjbndijabDoorAddrLib
import Derived.Test.YtckakpcjbndijabDoorNumLib
import Derived.Test.YtckakpcjbndijabDoorHexLib
import Derived.Test.YtckakpcjbndijabDoorSum
namespace Go.Proofs.YtckakpcjbndijabDoor
open Go.RowKit

/-- Parts with one byte between them. -/
def joinC (c : UInt8) (xs : List (List UInt8)) : List UInt8 := [c].intercalate xs
set_option maxRecDepth 100000 in
theorem joinC_nil (c : UInt8) : joinC c [] = [] := rfl
set_option maxRecDepth 100000 in
theorem joinC_one (c : UInt8) (x : List UInt8) : joinC c [x] = x := by simp [joinC, List.intercalate]
set_option maxRecDepth 100000 in
theorem joinC_cons (c : UInt8) (x y : List UInt8) (l : List (List UInt8)) : joinC c (x :: y :: l) = x ++ c :: joinC c (y :: l) := by simp [joinC, List.intercalate]
set_option maxRecDepth 100000 in
theorem joinC_snoc (c : UInt8) (x : List UInt8) : ∀ xs : List (List UInt8), xs ≠ [] → joinC c (xs ++ [x]) = joinC c xs ++ c :: x := by
  intro xs
  induction xs with
  | nil => intro h; exact absurd rfl h
  | cons y ys ih =>
    intro _
    cases ys with
    | nil => rw [List.singleton_append, joinC_cons, joinC_one, joinC_one]
    | cons z zs => rw [List.cons_append, List.cons_append, joinC_cons, joinC_cons, ← List.cons_append, ih (by simp), List.append_assoc, List.cons_append]

/-- Hexadecimal text without leading zeros. -/
def hexN (n : Nat) : List UInt8 := if _h : n < 16 then [hexDig n] else hexN (n / 16) ++ [hexDig (n % 16)]
termination_by n
decreasing_by omega
set_option maxRecDepth 100000 in
theorem hexN_small (n : Nat) (h : n < 16) : hexN n = [hexDig n] := by rw [hexN, dif_pos h]
set_option maxRecDepth 100000 in
theorem hexN_big (n : Nat) (h : ¬ n < 16) : hexN n = hexN (n / 16) ++ [hexDig (n % 16)] := by rw [hexN, dif_neg h]
set_option maxRecDepth 100000 in
theorem hexN_len : ∀ k n : Nat, n < 16 ^ (k + 1) → (hexN n).length ≤ k + 1 := by
  intro k
  induction k with
  | zero => intro n h; rw [hexN_small n (by simpa using h)]; simp
  | succ k ih =>
    intro n h
    by_cases h16 : n < 16
    · rw [hexN_small n h16]; simp
    · rw [hexN_big n h16, List.length_append]
      have := ih (n / 16) (by rw [Nat.pow_succ] at h; omega)
      simp
      omega

def numB (b : UInt8) : List UInt8 := numText (b.toNat : Int)
def hexW (n : Int) : List UInt8 := hexN n.toNat
def text4 (bs : List UInt8) : List UInt8 := joinC 46 (bs.map numB)
def text6 (bs : List UInt8) : List UInt8 := joinC 58 ((wordsL bs).map hexW)
/-- The text of an address. -/
def Ad.text (x : Ad) : List UInt8 := if x.ok then (if x.k = 4 then text4 (put32 x.d) else text6 x.whole) else []

set_option maxRecDepth 100000 in
theorem numB_len (b : UInt8) : (numB b).length ≤ 3 := by
  have hb := UInt8.toNat_lt b
  have h := dec_len 3 b.toNat (by omega)
  unfold numB numText
  split
  · simp
  · rw [if_neg (by omega)]
    simpa using h
set_option maxRecDepth 100000 in
theorem hexW_len (n : Int) (h : n ≤ 65535) : (hexW n).length ≤ 4 := hexN_len 3 n.toNat (by omega)
set_option maxRecDepth 100000 in
theorem joinC_len (c : UInt8) (m : Nat) : ∀ xs : List (List UInt8), (∀ x ∈ xs, x.length ≤ m) → (joinC c xs).length ≤ xs.length * (m + 1) := by
  intro xs
  induction xs with
  | nil => intro _; simp [joinC_nil]
  | cons x ys ih =>
    intro h
    have hx := h x (by simp)
    cases ys with
    | nil => rw [joinC_one]; simp; omega
    | cons y zs =>
      have := ih (fun z hz => h z (by simp [hz]))
      rw [joinC_cons, List.length_append, List.length_cons]
      simp only [List.length_cons] at this ⊢
      have e : (zs.length + 1 + 1) * (m + 1) = (zs.length + 1) * (m + 1) + (m + 1) := by rw [Nat.add_mul (zs.length + 1) 1, Nat.one_mul]
      omega
set_option maxRecDepth 100000 in
theorem wordsL_pair (bs : List UInt8) (i : Nat) (h : 2 * i + 1 < bs.length) : (wordsL bs)[i]? = some (256 * (bs[2 * i].toNat : Int) + bs[2 * i + 1].toNat) := by
  induction i generalizing bs with
  | zero =>
    match bs, h with
    | a :: b :: l, _ => simp [wordsL]
  | succ i ih =>
    match bs, h with
    | a :: b :: l, h =>
      have h' : 2 * i + 1 < l.length := by simp at h; omega
      have := ih l h'
      simp only [wordsL, List.getElem?_cons_succ, this]
      congr 1
set_option maxRecDepth 100000 in
theorem wordsL_le (bs : List UInt8) (i : Nat) (n : Int) (h : (wordsL bs)[i]? = some n) : 0 ≤ n ∧ n ≤ 65535 := by
  have hm := List.mem_of_getElem? h
  have := List.all_eq_true.1 (wordsL_word bs) n hm
  exact isWord_iff.1 this
end Go.Proofs.YtckakpcjbndijabDoor
