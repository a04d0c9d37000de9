/-
  The sums of chapter 2 as plain functions. Nothing here speaks of the program.
-/
import Derived.Test.YtmfkpiclpkeemaaBase
namespace Go.Proofs.Ytmfkpiclpkeemaa
set_option maxRecDepth 100000

def isWord (n : Int) : Bool := decide (0 ≤ n ∧ n ≤ 65535)
theorem isWord_iff {n : Int} : isWord n = true ↔ 0 ≤ n ∧ n ≤ 65535 := by simp [isWord]
theorem isWord_not {n : Int} : isWord n = false ↔ n < 0 ∨ 65535 < n := by simp [isWord]; omega

/-- The sum of two words with the carry taken off. -/
def sadd (a b : Int) : Int := if 65535 < a + b then a + b - 65535 else a + b
theorem sadd_word {a b : Int} (ha : isWord a = true) (hb : isWord b = true) : isWord (sadd a b) = true := by
  rw [isWord_iff] at *
  unfold sadd
  split <;> omega
theorem sadd_zero {a : Int} (ha : isWord a = true) : sadd 0 a = a := by
  rw [isWord_iff] at ha
  unfold sadd
  split <;> omega

/-- The sum of a list of words from s on. -/
def sums (s : Int) (ws : List Int) : Int := ws.foldl sadd s
theorem sums_snoc (s : Int) (ws : List Int) (x : Int) : sums s (ws ++ [x]) = sadd (sums s ws) x := by simp [sums]
theorem sums_append (s : Int) (a b : List Int) : sums s (a ++ b) = sums (sums s a) b := by simp [sums]
theorem sums_word (ws : List Int) : ∀ s, isWord s = true → ws.all isWord = true → isWord (sums s ws) = true := by
  induction ws with
  | nil => intro s h _; exact h
  | cons x ws ih =>
    intro s h hw
    simp only [List.all_cons, Bool.and_eq_true] at hw
    exact ih _ (sadd_word h hw.1) hw.2

/-- What 'folded' answers. -/
def folded (ws : List Int) : Int := if ws.all isWord then sums 0 ws else -1
theorem folded_yes {ws : List Int} (h : ws.all isWord = true) : folded ws = sums 0 ws := by rw [folded, if_pos h]
theorem folded_no {ws : List Int} (k : Nat) (hk : k < ws.length) (h : isWord ws[k] = false) : folded ws = -1 := by
  have : ws.all isWord = false := by
    rw [Bool.eq_false_iff]
    intro ha
    have := List.all_eq_true.1 ha _ (List.getElem_mem hk)
    simp [h] at this
  rw [folded, this]
  rfl
theorem folded_range (ws : List Int) : -1 ≤ folded ws ∧ folded ws ≤ 65535 := by
  by_cases h : ws.all isWord = true
  · rw [folded_yes h]
    have := isWord_iff.1 (sums_word ws 0 (by decide) h)
    omega
  · rw [folded, if_neg h]
    omega
theorem all_take_snoc (ws : List Int) (k : Nat) (hk : k < ws.length) (h : (ws.take k).all isWord = true) (hx : isWord ws[k] = true) : (ws.take (k + 1)).all isWord = true := by
  rw [take_snoc ws k hk, List.all_append, h, List.all_cons, hx]
  rfl

/-- What 'complement' answers. -/
def comp (n : Int) : Int := if isWord n then 65535 - n else -1
theorem comp_yes {n : Int} (h : isWord n = true) : comp n = 65535 - n := by rw [comp, if_pos h]
theorem comp_no {n : Int} (h : isWord n = false) : comp n = -1 := by rw [comp, h]; rfl
theorem comp_word {n : Int} (h : isWord n = true) : isWord (comp n) = true := by
  rw [comp_yes h]
  rw [isWord_iff] at *
  omega
theorem comp_is (n : Int) : isWord (comp n) = isWord n := by
  cases h : isWord n with
  | true => exact comp_word h
  | false => rw [comp_no h]; rfl

/-- The words of a list of bytes. -/
def wordsL : List UInt8 → List Int
  | [] => []
  | [a] => [256 * (a.toNat : Int)]
  | a :: b :: t => (256 * (a.toNat : Int) + b.toNat) :: wordsL t
theorem wordsL_length : ∀ l : List UInt8, (wordsL l).length = (l.length + 1) / 2
  | [] => rfl
  | [_] => by simp [wordsL]
  | a :: b :: t => by
    have := wordsL_length t
    simp only [wordsL, List.length_cons, this]
    omega
theorem wordsL_append : ∀ (l m : List UInt8), l.length % 2 = 0 → wordsL (l ++ m) = wordsL l ++ wordsL m
  | [], _, _ => rfl
  | [_], _, h => by simp at h
  | a :: b :: t, m, h => by
    have := wordsL_append t m (by simp at h; omega)
    simp [wordsL, this]
theorem wordsL_word : ∀ l : List UInt8, (wordsL l).all isWord = true
  | [] => rfl
  | [a] => by
    have := UInt8.toNat_lt a
    simp [wordsL, isWord]
    omega
  | a :: b :: t => by
    have := wordsL_word t
    have := UInt8.toNat_lt a
    have := UInt8.toNat_lt b
    simp only [wordsL, List.all_cons, Bool.and_eq_true]
    exact ⟨isWord_iff.2 (by omega), by assumption⟩
theorem wordsL_even (bs : List UInt8) (k : Nat) (h : k < bs.length) (he : k % 2 = 0) : wordsL (bs.take (k + 1)) = wordsL (bs.take k) ++ [256 * (bs[k].toNat : Int)] := by
  rw [take_snoc bs k h, wordsL_append _ _ (by simp; omega)]
  rfl
theorem wordsL_odd (bs : List UInt8) (k : Nat) (h : k + 1 < bs.length) (he : k % 2 = 0) : wordsL (bs.take (k + 2)) = wordsL (bs.take k) ++ [256 * (bs[k].toNat : Int) + bs[k + 1].toNat] := by
  rw [take_snoc bs (k + 1) h, take_snoc bs k (by omega), List.append_assoc, wordsL_append _ _ (by simp; omega)]
  rfl

/-- What OnesSum answers. -/
def onesSum (bs : List UInt8) : Int := if 2000 < bs.length then -1 else sums 0 (wordsL bs)
theorem onesSum_range (bs : List UInt8) : -1 ≤ onesSum bs ∧ onesSum bs ≤ 65535 := by
  unfold onesSum
  split
  · omega
  · have := isWord_iff.1 (sums_word (wordsL bs) 0 (by decide) (wordsL_word bs))
    omega
theorem onesSum_word {bs : List UInt8} (h : bs.length ≤ 2000) : isWord (onesSum bs) = true := by
  rw [onesSum, if_neg (by omega)]
  exact sums_word (wordsL bs) 0 (by decide) (wordsL_word bs)
/-- What Checksum answers. -/
def checksum (bs : List UInt8) : Int := comp (onesSum bs)

/-- What SumSwap answers. -/
def swap (check was is : Int) : Int := comp (folded [comp check, comp was, is])
theorem swap_yes {check was is : Int} (h1 : isWord check = true) (h2 : isWord was = true) (h3 : isWord is = true) : swap check was is = 65535 - sadd (sadd (65535 - check) (65535 - was)) is := by
  have a1 := comp_word h1
  have a2 := comp_word h2
  have e : folded [comp check, comp was, is] = sadd (sadd (65535 - check) (65535 - was)) is := by
    rw [folded_yes (by simp [a1, a2, h3]), sums, List.foldl_cons, sadd_zero a1, comp_yes h1, comp_yes h2]
    rfl
  rw [swap, e, comp_yes]
  have b1 : isWord (65535 - check) = true := by rw [← comp_yes h1]; exact a1
  have b2 : isWord (65535 - was) = true := by rw [← comp_yes h2]; exact a2
  exact sadd_word (sadd_word b1 b2) h3
theorem swap_no {check was is : Int} (h : isWord check = false ∨ isWord was = false ∨ isWord is = false) : swap check was is = -1 := by
  have e : folded [comp check, comp was, is] = -1 := by
    rcases h with h | h | h
    · exact folded_no 0 (by simp) (by simpa [comp_is] using h)
    · exact folded_no 1 (by simp) (by simpa [comp_is] using h)
    · exact folded_no 2 (by simp) (by simpa using h)
  rw [swap, e]
  rfl
theorem swap_word {check was is : Int} (h1 : isWord check = true) (h2 : isWord was = true) (h3 : isWord is = true) : isWord (swap check was is) = true := by
  have a1 := comp_word h1
  have a2 := comp_word h2
  rw [swap]
  refine comp_word ?_
  rw [folded_yes (by simp [a1, a2, h3])]
  exact sums_word _ 0 (by decide) (by simp [a1, a2, h3])

/-- The words that SumSwaps folds. -/
def swapWords : List Int → List Int → List Int
  | a :: xa, b :: bs => comp a :: b :: swapWords xa bs
  | _, _ => []
theorem swapWords_snoc : ∀ (xa bs : List Int) (a b : Int), xa.length = bs.length → swapWords (xa ++ [a]) (bs ++ [b]) = swapWords xa bs ++ [comp a, b]
  | [], [], _, _, _ => rfl
  | [], _ :: _, _, _, h => by simp at h
  | _ :: _, [], _, _, h => by simp at h
  | x :: xa, y :: bs, a, b, h => by
    have := swapWords_snoc xa bs a b (by simpa using h)
    simp [swapWords, this]
theorem swapWords_length : ∀ (xa bs : List Int), xa.length = bs.length → (swapWords xa bs).length = 2 * xa.length
  | [], [], _ => rfl
  | [], _ :: _, h => by simp at h
  | _ :: _, [], h => by simp at h
  | x :: xa, y :: bs, h => by
    have := swapWords_length xa bs (by simpa using h)
    simp only [swapWords, List.length_cons, this]
    omega
theorem swapWords_all : ∀ (xa bs : List Int), xa.length = bs.length → ((swapWords xa bs).all isWord = true ↔ xa.all isWord = true ∧ bs.all isWord = true)
  | [], [], _ => by simp [swapWords]
  | [], _ :: _, h => by simp at h
  | _ :: _, [], h => by simp at h
  | x :: xa, y :: bs, h => by
    have := swapWords_all xa bs (by simpa using h)
    simp only [swapWords, List.all_cons, Bool.and_eq_true, comp_is, this]
    constructor
    · rintro ⟨a, b, c, d⟩; exact ⟨⟨a, c⟩, b, d⟩
    · rintro ⟨⟨a, c⟩, b, d⟩; exact ⟨a, b, c, d⟩

/-- What SumSwaps answers. -/
def swaps (check : Int) (was is : List Int) : Int := if was.length = is.length ∧ was.length ≤ 40 then comp (folded (comp check :: swapWords was is)) else -1

/-- The model's way: one exchange behind the other. -/
theorem swaps_step (check : Int) (was is : List Int) (a b : Int) (hl : was.length = is.length) (hl2 : was.length + 1 ≤ 40) (hc : isWord check = true) (hw : was.all isWord = true) (hi : is.all isWord = true) (ha : isWord a = true) (hb : isWord b = true) :
    isWord (swaps check was is) = true ∧ swap (swaps check was is) a b = swaps check (was ++ [a]) (is ++ [b]) := by
  have hall : (comp check :: swapWords was is).all isWord = true := by
    simp only [List.all_cons, Bool.and_eq_true, comp_is]
    exact ⟨hc, (swapWords_all was is hl).2 ⟨hw, hi⟩⟩
  have hs := sums_word _ 0 (by decide) hall
  have e1 : swaps check was is = comp (sums 0 (comp check :: swapWords was is)) := by rw [swaps, if_pos ⟨hl, by omega⟩, folded_yes hall]
  have w1 : isWord (swaps check was is) = true := by rw [e1]; exact comp_word hs
  refine ⟨w1, ?_⟩
  have e0 : swaps check (was ++ [a]) (is ++ [b]) = comp (folded (comp check :: (swapWords was is ++ [comp a, b]))) := by
    rw [swaps, if_pos ⟨by simp [hl], by rw [List.length_append]; exact hl2⟩, swapWords_snoc was is a b hl]
  rw [swap_yes w1 ha hb, e0]
  have hall2 : (comp check :: (swapWords was is ++ [comp a, b])).all isWord = true := by
    simp only [List.all_cons, List.all_append, List.all_nil, Bool.and_eq_true, comp_is]
    simp only [List.all_cons, Bool.and_eq_true, comp_is] at hall
    exact ⟨hall.1, hall.2, ha, hb, trivial⟩
  rw [folded_yes hall2, ← List.cons_append, sums_append, e1, comp_yes hs, comp_yes ha]
  have e2 : sums (sums 0 (comp check :: swapWords was is)) [65535 - a, b] = sadd (sadd (sums 0 (comp check :: swapWords was is)) (65535 - a)) b := rfl
  have ha2 := comp_word ha
  rw [comp_yes ha] at ha2
  rw [e2, comp_yes (sadd_word (sadd_word hs ha2) hb)]
  rw [show (65535 : Int) - (65535 - sums 0 (comp check :: swapWords was is)) = sums 0 (comp check :: swapWords was is) by omega]

theorem swaps_no {check : Int} {was is : List Int} (h : ¬ (was.length = is.length ∧ was.length ≤ 40)) : swaps check was is = -1 := by rw [swaps, if_neg h]
theorem swaps_bad {check : Int} {was is : List Int} (hl : was.length = is.length) (h : isWord check = false ∨ was.all isWord = false ∨ is.all isWord = false) : swaps check was is = -1 := by
  rw [swaps]
  split
  · have : (comp check :: swapWords was is).all isWord = false := by
      rw [Bool.eq_false_iff]
      intro ha
      simp only [List.all_cons, Bool.and_eq_true, comp_is] at ha
      have h2 := (swapWords_all was is hl).1 ha.2
      rcases h with h | h | h
      · simp [h] at ha
      · simp [h] at h2
      · simp [h] at h2
    rw [folded, this]
    rfl
  · rfl
theorem swaps_nil (check : Int) (h : isWord check = true) : swaps check [] [] = check := by
  have a1 := comp_word h
  have hr := isWord_iff.1 h
  have e : folded (comp check :: swapWords [] []) = 65535 - check := by
    rw [folded_yes (by simp [swapWords, a1]), sums, List.foldl_cons, sadd_zero a1, comp_yes h]
    rfl
  rw [swaps, if_pos (by simp), e, comp_yes (isWord_iff.2 (by omega))]
  omega
end Go.Proofs.Ytmfkpiclpkeemaa
