/-
  Hexadecimal texts, plain: which list of bytes a text denotes.
-/
import Derived.Test.YtckakpcjbndijabDoorHexText
namespace Go.Proofs.YtckakpcjbndijabDoor

/-- The value of a hexadecimal digit; 16 for another byte. -/
def hexV (b : UInt8) : Nat := if 48 ≤ b.toNat ∧ b.toNat ≤ 57 then b.toNat - 48 else if 97 ≤ b.toNat ∧ b.toNat ≤ 102 then b.toNat - 87 else 16
set_option maxRecDepth 100000 in
theorem hexV_le (b : UInt8) : hexV b ≤ 16 := by unfold hexV; split <;> (try split) <;> omega

set_option maxRecDepth 100000 in
theorem hexV_dig (d : Nat) (h : d < 16) (b : UInt8) : b.toNat = (hexDig d).toNat ↔ hexV b = d := by
  by_cases h10 : d < 10
  · have e := hexDig_lo d h10
    unfold hexV
    split
    · omega
    · split <;> omega
  · have e := hexDig_hi d h10 h
    unfold hexV
    split
    · omega
    · split <;> omega

def hexAt (l : List UInt8) (i : Nat) : Nat := hexV (l.getD i 0)
def hexBytes (l : List UInt8) : List UInt8 := (List.range (l.length / 2)).map fun j => UInt8.ofNat (16 * hexAt l (2 * j) + hexAt l (2 * j + 1))
def okHex (l : List UInt8) : Bool := decide (l.length % 2 = 0 ∧ l.length ≤ 8000) && l.all (fun b => decide (hexV b < 16))
def hexR (l : List UInt8) : List UInt8 := if okHex l = true then hexBytes l else []

set_option maxRecDepth 100000 in
theorem okHex_len (l : List UInt8) (h : ¬ (l.length % 2 = 0 ∧ l.length ≤ 8000)) : okHex l = false := by simp only [okHex, h]; rfl
set_option maxRecDepth 100000 in
theorem okHex_bad (l : List UInt8) (i : Nat) (h : i < l.length) (hb : ¬ hexV l[i] < 16) : okHex l = false := by
  have : l.all (fun b => decide (hexV b < 16)) = false := by
    rw [List.all_eq_false]
    exact ⟨l[i], List.getElem_mem h, by simpa using hb⟩
  rw [okHex, this, Bool.and_false]
set_option maxRecDepth 100000 in
theorem okHex_yes (l : List UInt8) (h1 : l.length % 2 = 0) (h2 : l.length ≤ 8000) (h : ∀ i (hi : i < l.length), hexV l[i] < 16) : okHex l = true := by
  have : l.all (fun b => decide (hexV b < 16)) = true := by
    rw [List.all_eq_true]
    intro b hb
    obtain ⟨i, hi, rfl⟩ := List.getElem_of_mem hb
    simpa using h i hi
  rw [okHex, this]
  simp [h1, h2]
set_option maxRecDepth 100000 in
theorem hexAt_get (l : List UInt8) (i : Nat) (h : i < l.length) : hexAt l i = hexV l[i] := by simp [hexAt, h]

set_option maxRecDepth 100000 in
theorem hexBytes_length (l : List UInt8) : (hexBytes l).length = l.length / 2 := by simp [hexBytes]

/-- The program's row of bytes after i characters: byte j. -/
def hexSt (l : List UInt8) (i j : Nat) : Nat := if 2 * j + 1 < i then 16 * hexAt l (2 * j) + hexAt l (2 * j + 1) else if 2 * j < i then hexAt l (2 * j) else 0
def hexRow (l : List UInt8) (i : Nat) : List UInt8 := (List.range (l.length / 2)).map fun j => UInt8.ofNat (hexSt l i j)
set_option maxRecDepth 100000 in
theorem hexRow_length (l : List UInt8) (i : Nat) : (hexRow l i).length = l.length / 2 := by simp [hexRow]
set_option maxRecDepth 100000 in
theorem hexRow_zero (l : List UInt8) : hexRow l 0 = List.replicate (l.length / 2) 0 := by
  apply List.ext_getElem?
  intro j
  by_cases h : j < l.length / 2
  · simp [hexRow, hexSt, h]
  · simp [hexRow, h]
set_option maxRecDepth 100000 in
theorem hexRow_end (l : List UInt8) (h : l.length % 2 = 0) : hexRow l l.length = hexBytes l := by
  unfold hexRow hexBytes
  apply List.map_congr_left
  intro j hj
  rw [List.mem_range] at hj
  rw [hexSt, if_pos (by omega)]
set_option maxRecDepth 100000 in
theorem hexRow_get (l : List UInt8) (i j : Nat) (h : j < l.length / 2) : (hexRow l i)[j]? = some (UInt8.ofNat (hexSt l i j)) := by simp [hexRow, h]
set_option maxRecDepth 100000 in
theorem hexRow_step (l : List UInt8) (i : Nat) :
    (hexRow l i).set (i / 2) (UInt8.ofNat (16 * hexSt l i (i / 2) + hexAt l i)) = hexRow l (i + 1) := by
  apply List.ext_getElem?
  intro j
  have hl := hexRow_length l i
  have hl1 := hexRow_length l (i + 1)
  by_cases hj : j < l.length / 2
  · rw [hexRow_get l (i + 1) j hj]
    by_cases e : j = i / 2
    · subst e
      rw [List.getElem?_set_self (by omega)]
      congr 2
      by_cases ho : i % 2 = 0
      · have hi : 2 * (i / 2) = i := by omega
        rw [hexSt, if_neg (by omega), if_neg (by omega), hexSt, if_neg (by omega), if_pos (by omega), hi]
        omega
      · have hi : 2 * (i / 2) + 1 = i := by omega
        rw [hexSt, if_neg (by omega), if_pos (by omega), hexSt, if_pos (by omega), hi]
    · rw [List.getElem?_set_ne (fun e' => e e'.symm), hexRow_get l i j hj]
      congr 2
      unfold hexSt
      by_cases c1 : 2 * j + 1 < i
      · rw [if_pos c1, if_pos (by omega)]
      · rw [if_neg c1, if_neg (show ¬ 2 * j + 1 < i + 1 by omega)]
        by_cases c2 : 2 * j < i
        · rw [if_pos c2, if_pos (by omega)]
        · rw [if_neg c2, if_neg (by omega)]
  · rw [List.getElem?_eq_none (by simp; omega), List.getElem?_eq_none (by omega)]
set_option maxRecDepth 100000 in
theorem hexSt_lt (l : List UInt8) (i : Nat) (h : ∀ j, j < i → hexAt l j < 16) : hexSt l i (i / 2) < 16 := by
  unfold hexSt
  split
  · omega
  · split
    · exact h _ (by omega)
    · omega
set_option maxRecDepth 100000 in
theorem hexAt_le (l : List UInt8) (i : Nat) : hexAt l i ≤ 16 := hexV_le _
end Go.Proofs.YtckakpcjbndijabDoor
