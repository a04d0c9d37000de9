/-
  The sums of chapter 2 by their totals: a sum does not hang on the order of its words. Nothing here speaks of the program.
-/
import Derived.Test.YtegpaocoepcemaaSum
namespace Go.Proofs.Ytegpaocoepcemaa

def total : List Int → Int
  | [] => 0
  | x :: xs => x + total xs
theorem total_append : ∀ (a b : List Int), total (a ++ b) = total a + total b
  | [], b => by simp [total]
  | x :: a, b => by
    have := total_append a b
    simp only [List.cons_append, total, this]
    omega
theorem total_reverse (l : List Int) : total l.reverse = total l := by
  induction l with
  | nil => rfl
  | cons x l ih =>
    rw [List.reverse_cons, total_append, ih]
    simp only [total]
    omega
theorem total_nonneg : ∀ (l : List Int), l.all isWord = true → 0 ≤ total l
  | [], _ => by simp [total]
  | x :: l, h => by
    simp only [List.all_cons, Bool.and_eq_true] at h
    have := total_nonneg l h.2
    have := isWord_iff.1 h.1
    simp only [total]
    omega

/-- The number from 1 to 65535 that leaves the same remainder; 0 for 0 alone. -/
def red (n : Int) : Int := if n = 0 then 0 else (n - 1) % 65535 + 1
theorem red_small {n : Int} (h : isWord n = true) : red n = n := by
  have := isWord_iff.1 h
  unfold red
  split <;> omega
theorem red_range {n : Int} (h : 0 < n) : 1 ≤ red n ∧ red n ≤ 65535 := by
  unfold red
  split <;> omega
theorem red_add {n x : Int} (hn : 0 ≤ n) (hx : isWord x = true) : sadd (red n) x = red (n + x) := by
  have := isWord_iff.1 hx
  unfold red sadd
  split <;> split <;> split <;> omega
theorem sums_red (ws : List Int) : ∀ n, 0 ≤ n → ws.all isWord = true → sums (red n) ws = red (n + total ws) := by
  induction ws with
  | nil => intro n _ _; simp [sums, total]
  | cons x ws ih =>
    intro n hn h
    simp only [List.all_cons, Bool.and_eq_true] at h
    have hx := isWord_iff.1 h.1
    have := ih (n + x) (by omega) h.2
    simp only [sums, List.foldl_cons, total] at *
    rw [red_add hn h.1, this, Int.add_assoc]
theorem sums_total {ws : List Int} (h : ws.all isWord = true) : sums 0 ws = red (total ws) := by
  have := sums_red ws 0 (Int.le_refl _) h
  rwa [show red 0 = 0 from rfl, Int.zero_add] at this

theorem total_swapWords : ∀ (as bs : List Int), as.length = bs.length → total (swapWords as bs) = total (as.map comp) + total bs
  | [], [], _ => rfl
  | [], _ :: _, h => by simp at h
  | _ :: _, [], h => by simp at h
  | x :: as, y :: bs, h => by
    have := total_swapWords as bs (by simpa using h)
    simp only [swapWords, total, List.map_cons, this]
    omega

theorem all_reverse (l : List Int) : l.reverse.all isWord = l.all isWord := by simp

/-- The other order leaves the same. -/
theorem swaps_reverse (check : Int) (was is : List Int) : swaps check was.reverse is.reverse = swaps check was is := by
  by_cases hl : was.length = is.length
  · by_cases h40 : was.length ≤ 40
    · by_cases hg : isWord check = true ∧ was.all isWord = true ∧ is.all isWord = true
      · obtain ⟨hc, hw, hi⟩ := hg
        have hlr : was.reverse.length = is.reverse.length := by simp [hl]
        have h1 : (comp check :: swapWords was is).all isWord = true := by
          simp only [List.all_cons, Bool.and_eq_true, comp_is]
          exact ⟨hc, (swapWords_all was is hl).2 ⟨hw, hi⟩⟩
        have h2 : (comp check :: swapWords was.reverse is.reverse).all isWord = true := by
          simp only [List.all_cons, Bool.and_eq_true, comp_is]
          exact ⟨hc, (swapWords_all _ _ hlr).2 ⟨by rw [all_reverse]; exact hw, by rw [all_reverse]; exact hi⟩⟩
        rw [swaps, swaps, if_pos ⟨hlr, by simpa using h40⟩, if_pos ⟨hl, h40⟩, folded_yes h1, folded_yes h2, sums_total h1, sums_total h2]
        simp only [total]
        rw [total_swapWords _ _ hl, total_swapWords _ _ hlr, List.map_reverse, total_reverse, total_reverse]
      · have hb : isWord check = false ∨ was.all isWord = false ∨ is.all isWord = false := by
          cases h1 : isWord check <;> cases h2 : was.all isWord <;> cases h3 : is.all isWord <;> simp_all
        rw [swaps_bad hl hb, swaps_bad (by simp [hl]) (by rw [all_reverse, all_reverse]; exact hb)]
    · rw [swaps_no (was := was.reverse) (is := is.reverse) (by simp; omega), swaps_no (was := was) (is := is) (by omega)]
  · rw [swaps_no (was := was.reverse) (is := is.reverse) (by simp; omega), swaps_no (was := was) (is := is) (by omega)]

theorem onesSum_total {bs : List UInt8} (h : bs.length ≤ 2000) : onesSum bs = red (total (wordsL bs)) := by
  rw [onesSum, if_neg (by omega), sums_total (wordsL_word bs)]

/-- One word of the data exchanged. -/
theorem swap_sum {a b : List UInt8} {u v u' v' : UInt8} (ha : a.length % 2 = 0) (hl : a.length + b.length ≤ 1000) (h2 : onesSum (a ++ [u', v'] ++ b) ≠ 0) :
    swap (checksum (a ++ [u, v] ++ b)) (256 * (u.toNat : Int) + v.toNat) (256 * (u'.toNat : Int) + v'.toNat) = checksum (a ++ [u', v'] ++ b) := by
  have l1 : (a ++ [u, v] ++ b).length ≤ 2000 := by simp; omega
  have l2 : (a ++ [u', v'] ++ b).length ≤ 2000 := by simp; omega
  have e : ∀ x y : UInt8, total (wordsL (a ++ [x, y] ++ b)) = total (wordsL a) + (256 * (x.toNat : Int) + y.toNat) + total (wordsL b) := by
    intro x y
    rw [List.append_assoc, wordsL_append _ _ ha, wordsL_append [x, y] b (by simp), total_append, total_append]
    simp only [wordsL, total]
    omega
  have w1 := onesSum_word l1
  have w2 := onesSum_word l2
  have p1 := onesSum_total l1
  have p2 := onesSum_total l2
  rw [e u v] at p1
  rw [e u' v'] at p2
  have na := total_nonneg _ (wordsL_word a)
  have nb := total_nonneg _ (wordsL_word b)
  have hu := UInt8.toNat_lt u
  have hv := UInt8.toNat_lt v
  have hu' := UInt8.toNat_lt u'
  have hv' := UInt8.toNat_lt v'
  obtain ⟨x, hx⟩ : ∃ x : Int, x = 256 * (u.toNat : Int) + v.toNat := ⟨_, rfl⟩
  obtain ⟨y, hy⟩ : ∃ y : Int, y = 256 * (u'.toNat : Int) + v'.toNat := ⟨_, rfl⟩
  rw [← hx] at p1
  rw [← hy] at p2
  have wx : isWord x = true := isWord_iff.2 (by omega)
  have wy : isWord y = true := isWord_iff.2 (by omega)
  have r1 := isWord_iff.1 w1
  have wc : isWord (65535 - onesSum (a ++ [u, v] ++ b)) = true := isWord_iff.2 (by omega)
  rw [← hx, ← hy, checksum, checksum, comp_yes w1, comp_yes w2, swap_yes wc wx wy]
  rw [show (65535 : Int) - (65535 - onesSum (a ++ [u, v] ++ b)) = onesSum (a ++ [u, v] ++ b) by omega, p1, p2]
  have wx' : isWord (65535 - x) = true := isWord_iff.2 (by have := isWord_iff.1 wx; omega)
  have bx := isWord_iff.1 wx
  have bY := isWord_iff.1 wy
  rw [red_add (by omega) wx', red_add (by omega) wy]
  have hne : total (wordsL a) + y + total (wordsL b) ≠ 0 := fun h0 => h2 (by rw [p2, h0]; rfl)
  have : red (total (wordsL a) + x + total (wordsL b) + (65535 - x) + y) = red (total (wordsL a) + y + total (wordsL b)) := by
    rw [red, red, if_neg (by omega), if_neg hne]
    omega
  rw [this]

/-- The data with their checksum behind them. -/
theorem sum_right {d : List UInt8} (he : d.length % 2 = 0) (hl : d.length ≤ 1000) (u v : UInt8) (h : 256 * (u.toNat : Int) + v.toNat = checksum d) : ∃ q : Int, 1 ≤ q ∧ total (wordsL (d ++ [u, v])) = 65535 * q := by
  have w1 := onesSum_word (show d.length ≤ 2000 by omega)
  have p1 := onesSum_total (show d.length ≤ 2000 by omega)
  have nd := total_nonneg _ (wordsL_word d)
  have e : total (wordsL (d ++ [u, v])) = total (wordsL d) + (256 * (u.toNat : Int) + v.toNat) := by
    rw [wordsL_append _ _ he, total_append]
    simp only [wordsL, total]
    omega
  rw [e, h, checksum, comp_yes w1, p1]
  have hr : ∃ q : Int, 0 ≤ q ∧ total (wordsL d) - red (total (wordsL d)) = 65535 * q := by
    by_cases h0 : total (wordsL d) = 0
    · exact ⟨0, Int.le_refl _, by rw [h0]; rfl⟩
    · refine ⟨(total (wordsL d) - 1) / 65535, by omega, ?_⟩
      rw [red, if_neg h0]
      omega
  obtain ⟨q, hq, hr⟩ := hr
  exact ⟨q + 1, by omega, by omega⟩

theorem red_full {q : Int} (h : 1 ≤ q) : red (65535 * q) = 65535 := by
  unfold red
  split <;> omega

/-- What a byte weighs in the total. -/
def wt (i : Nat) : Int := if i % 2 = 0 then 256 else 1
theorem wt_0 : wt 0 = 256 := rfl
theorem wt_1 : wt 1 = 1 := rfl
theorem total_set : ∀ (l : List UInt8) (i : Nat) (b : UInt8) (h : i < l.length), total (wordsL (l.set i b)) = total (wordsL l) + wt i * ((b.toNat : Int) - l[i].toNat)
  | [], i, _, h => by simp at h
  | [a], 0, b, _ => by
    simp only [List.set_cons_zero, wordsL, total, wt_0, List.getElem_cons_zero]
    omega
  | [a], i + 1, _, h => by simp at h
  | a :: c :: t, 0, b, _ => by
    simp only [List.set_cons_zero, wordsL, total, wt_0, List.getElem_cons_zero]
    omega
  | a :: c :: t, 1, b, _ => by
    simp only [List.set_cons_succ, List.set_cons_zero, wordsL, total, wt_1, List.getElem_cons_succ, List.getElem_cons_zero]
    omega
  | a :: c :: t, i + 2, b, h => by
    have := total_set t i b (by simpa using h)
    have e : wt (i + 2) = wt i := by simp [wt]
    simp only [List.set_cons_succ, wordsL, total, List.getElem_cons_succ, this, e]
    omega

/-- One byte changed: the sum is right no more. -/
theorem turned {d : List UInt8} {q : Int} (hl : d.length ≤ 2000) (hq : total (wordsL d) = 65535 * q) (i : Nat) (hi : i < d.length) (b : UInt8) (hb : b ≠ d[i]) : onesSum (d.set i b) ≠ 65535 := by
  have p := onesSum_total (show (d.set i b).length ≤ 2000 by simpa using hl)
  have nn := total_nonneg _ (wordsL_word (d.set i b))
  rw [total_set d i b hi] at p nn
  have h1 := UInt8.toNat_lt b
  have h2 := UInt8.toNat_lt d[i]
  have h3 : b.toNat ≠ d[i].toNat := fun h => hb (UInt8.toNat_inj.1 h)
  rw [p, hq]
  rw [hq] at nn
  unfold wt at *
  unfold red
  split at nn
  · split <;> split <;> omega
  · split <;> split <;> omega
end Go.Proofs.Ytegpaocoepcemaa
