/-
  The sums of chapter 2 by their totals: a sum does not hang on the order of its words. Nothing here speaks of the program. The checksum of an upper layer is the same between the same two addresses in the other direction. Plain: nothing here speaks of the program.
-/
import Derived.Test.YthogonpjkngpjaaRb03
import Derived.Test.YthogonpjkngpjaaRb06
namespace Go.Proofs.Ythogonpjkngpjaa
set_option maxRecDepth 100000

def total : List Int → Int
  | [] => 0
  | x :: xs => x + total xs
theorem total_append : ∀ (a b : List Int), total (a ++ b) = total a + total b
  | [], b => by simp [total]
  | x :: a, b => by
    have := total_append a b
    simp only [List.cons_append, total, this]
    omega
theorem total_nonneg : ∀ (l : List Int), l.all isWord = true → 0 ≤ total l
  | [], _ => by simp [total]
  | x :: l, h => by
    simp only [List.all_cons, Bool.and_eq_true] at h
    have := total_nonneg l h.2
    have := isWord_iff.1 h.1
    simp only [total]
    omega

/-- The number from 1 to 65535 that leaves the same remainder; 0 for 0 alone. -/
def red (n : Int) : Int := if n = 0 then 0 else (n - 1) % 65535 + 1
theorem red_add {n x : Int} (hn : 0 ≤ n) (hx : isWord x = true) : sadd (red n) x = red (n + x) := by
  have := isWord_iff.1 hx
  unfold red sadd
  split <;> split <;> split <;> omega
theorem sums_red (ws : List Int) : ∀ n, 0 ≤ n → ws.all isWord = true → sums (red n) ws = red (n + total ws) := by
  induction ws with
  | nil => intro n _ _; simp [sums, total]
  | cons x ws ih =>
    intro n hn h
    simp only [List.all_cons, Bool.and_eq_true] at h
    have hx := isWord_iff.1 h.1
    have := ih (n + x) (by omega) h.2
    simp only [sums, List.foldl_cons, total] at *
    rw [red_add hn h.1, this, Int.add_assoc]
theorem sums_total {ws : List Int} (h : ws.all isWord = true) : sums 0 ws = red (total ws) := by
  have := sums_red ws 0 (Int.le_refl _) h
  rwa [show red 0 = 0 from rfl, Int.zero_add] at this

theorem onesSum_total {bs : List UInt8} (h : bs.length ≤ 2000) : onesSum bs = red (total (wordsL bs)) := by
  rw [onesSum, if_neg (by omega), sums_total (wordsL_word bs)]

/-- What a byte weighs in the total. -/
def wt (i : Nat) : Int := if i % 2 = 0 then 256 else 1
theorem wt_0 : wt 0 = 256 := rfl
theorem wt_1 : wt 1 = 1 := rfl
theorem total_set : ∀ (l : List UInt8) (i : Nat) (b : UInt8) (h : i < l.length), total (wordsL (l.set i b)) = total (wordsL l) + wt i * ((b.toNat : Int) - l[i].toNat)
  | [], i, _, h => by simp at h
  | [a], 0, b, _ => by
    simp only [List.set_cons_zero, wordsL, total, wt_0, List.getElem_cons_zero]
    omega
  | [a], i + 1, _, h => by simp at h
  | a :: c :: t, 0, b, _ => by
    simp only [List.set_cons_zero, wordsL, total, wt_0, List.getElem_cons_zero]
    omega
  | a :: c :: t, 1, b, _ => by
    simp only [List.set_cons_succ, List.set_cons_zero, wordsL, total, wt_1, List.getElem_cons_succ, List.getElem_cons_zero]
    omega
  | a :: c :: t, i + 2, b, h => by
    have := total_set t i b (by simpa using h)
    have e : wt (i + 2) = wt i := by simp [wt]
    simp only [List.set_cons_succ, wordsL, total, List.getElem_cons_succ, this, e]
    omega

/-- One byte changed: the sum is right no more. -/
theorem turned {d : List UInt8} {q : Int} (hl : d.length ≤ 2000) (hq : total (wordsL d) = 65535 * q) (i : Nat) (hi : i < d.length) (b : UInt8) (hb : b ≠ d[i]) : onesSum (d.set i b) ≠ 65535 := by
  have p := onesSum_total (show (d.set i b).length ≤ 2000 by simpa using hl)
  have nn := total_nonneg _ (wordsL_word (d.set i b))
  rw [total_set d i b hi] at p nn
  have h1 := UInt8.toNat_lt b
  have h2 := UInt8.toNat_lt d[i]
  have h3 : b.toNat ≠ d[i].toNat := fun h => hb (UInt8.toNat_inj.1 h)
  rw [p, hq]
  rw [hq] at nn
  unfold wt at *
  unfold red
  split at nn
  · split <;> split <;> omega
  · split <;> split <;> omega
end Go.Proofs.Ythogonpjkngpjaa

namespace Go.Proofs.Ythogonpjkngpjaa
set_option maxRecDepth 100000
open Go.RowKit

theorem pairA_turn (a b : Ad) : pairA a b = pairA b a := by
  unfold pairA
  cases a.ok <;> cases b.ok <;> simp [eq_comm]
theorem Ad.bytes_even {a : Ad} (h : a.ok = true) : a.bytes.length % 2 = 0 ∧ a.bytes.length ≤ 16 := by
  simp [Ad.bytes, h]
  split <;> simp [put32, Ad.whole_length]
theorem psSum_turn (a b : Ad) (p s : Int) : psSum a b p s = psSum b a p s := by
  cases h : (pairA a b && upTo p 255 && upTo s 1500) with
  | false => rw [psSum_no h, psSum_no (by rw [← pairA_turn]; exact h)]
  | true =>
    rw [psSum_yes h, psSum_yes (by rw [← pairA_turn]; exact h)]
    have hp : pairA a b = true := by simp at h; exact h.1.1
    have hxy : (a.ok = true ∧ b.ok = true) ∧ a.k = b.k := by simpa [pairA] using hp
    have ea := Ad.bytes_even hxy.1.1
    have eb := Ad.bytes_even hxy.1.2
    obtain ⟨t, ht⟩ : ∃ t, (if a.k = 4 then [0, byteOf p] ++ put16 s else put32 s ++ [0, 0, 0, byteOf p]) = t := ⟨_, rfl⟩
    have hl : t.length ≤ 8 := by rw [← ht]; split <;> simp [put16, put32]
    have e1 : psBytes a b p s = a.bytes ++ b.bytes ++ t := by rw [← ht]; rfl
    have e2 : psBytes b a p s = b.bytes ++ a.bytes ++ t := by rw [← ht]; unfold psBytes; rw [hxy.2]
    rw [e1, e2, onesSum_total (by simp; omega), onesSum_total (by simp; omega), List.append_assoc, List.append_assoc, wordsL_append _ _ ea.1, wordsL_append _ _ eb.1, wordsL_append _ _ eb.1, wordsL_append _ _ ea.1]
    congr 1
    simp only [total_append]
    omega
theorem Uh.sum_turn (x : Uh) (o bs : List UInt8) (a b : Ad) : x.sum o bs a b = x.sum o bs b a := by
  cases h : (pairA a b && x.ok a.k o.length bs.length) with
  | false =>
    have h2 : (pairA b a && x.ok b.k o.length bs.length) = false := by
      rw [← pairA_turn]
      cases hp : pairA a b with
      | false => rfl
      | true =>
        have hxy : (a.ok = true ∧ b.ok = true) ∧ a.k = b.k := by simpa [pairA] using hp
        rw [hp, hxy.2] at h
        exact h
    rw [Uh.sum_no h, Uh.sum_no h2]
  | true =>
    have hp : pairA a b = true := by simp at h; exact h.1
    have hxy : (a.ok = true ∧ b.ok = true) ∧ a.k = b.k := by simpa [pairA] using hp
    have h2 : (pairA b a && x.ok b.k o.length bs.length) = true := by rw [← pairA_turn, ← hxy.2]; exact h
    have ht : x.top o.length bs.length a b = x.top o.length bs.length b a := by
      unfold Uh.top
      rw [psSum_turn a b, psSum_turn a b, psSum_turn a b, hxy.2]
    by_cases k : x.kind = 0 ∨ x.nosum = true
    · rw [Uh.sum_zero h k, Uh.sum_zero h2 k]
    · rw [Uh.sum_yes h k, Uh.sum_yes h2 k, ht]
end Go.Proofs.Ythogonpjkngpjaa
