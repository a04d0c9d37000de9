/-
  Decimal texts, plain: when a list of bytes is the text of a number of at most twelve digits, and which.
-/
import Derived.Test.YtckakpcjbndijabDoorNumText
namespace Go.Proofs.YtckakpcjbndijabDoor

def isDig (b : UInt8) : Bool := decide (48 ≤ b.toNat ∧ b.toNat ≤ 57)
def val (l : List UInt8) : Nat := l.foldl (fun n b => 10 * n + (b.toNat - 48)) 0
def okNum (l : List UInt8) : Bool := decide (1 ≤ l.length ∧ l.length ≤ 12) && l.all isDig && (decide (l.length = 1) || decide (l.head? ≠ some 48))
def numR (l : List UInt8) : Int := if okNum l = true then (val l : Int) else 0

set_option maxRecDepth 100000 in
theorem val_snoc (l : List UInt8) (b : UInt8) : val (l ++ [b]) = 10 * val l + (b.toNat - 48) := by simp [val]
set_option maxRecDepth 100000 in
theorem val_take (l : List UInt8) (k : Nat) (h : k < l.length) : val (l.take (k + 1)) = 10 * val (l.take k) + (l[k].toNat - 48) := by rw [take_snoc l k h, val_snoc]

set_option maxRecDepth 100000 in
theorem val_from (l : List UInt8) (hd : l.all isDig = true) : ∀ a : Nat, l.foldl (fun n b => 10 * n + (b.toNat - 48)) a < (a + 1) * 10 ^ l.length := by
  induction l with
  | nil => intro a; simp
  | cons b l ih =>
    intro a
    simp only [List.all_cons, Bool.and_eq_true, isDig, decide_eq_true_eq] at hd
    have h := ih hd.2 (10 * a + (b.toNat - 48))
    have h2 : (10 * a + (b.toNat - 48) + 1) * 10 ^ l.length ≤ (10 * (a + 1)) * 10 ^ l.length := Nat.mul_le_mul_right _ (by omega)
    simp only [List.foldl_cons, List.length_cons, Nat.pow_succ]
    have h3 : (a + 1) * (10 ^ l.length * 10) = (10 * (a + 1)) * 10 ^ l.length := by rw [Nat.mul_comm (10 ^ l.length) 10, ← Nat.mul_assoc, Nat.mul_comm (a + 1) 10]
    omega
set_option maxRecDepth 100000 in
theorem val_lt (l : List UInt8) (hd : l.all isDig = true) (h : l.length ≤ 12) : val l < 1000000000000 := by
  have h1 := val_from l hd 0
  have h2 : 10 ^ l.length ≤ 10 ^ 12 := Nat.pow_le_pow_right (by omega) h
  simp only [Nat.zero_add, Nat.one_mul] at h1
  unfold val
  omega

set_option maxRecDepth 100000 in
theorem isDig_of (b : UInt8) (h : isDig b = true) : 48 ≤ b.toNat ∧ b.toNat ≤ 57 := by simpa [isDig] using h
set_option maxRecDepth 100000 in
theorem all_take (l : List UInt8) (k : Nat) (h : k < l.length) : (l.take (k + 1)).all isDig = ((l.take k).all isDig && isDig l[k]) := by rw [take_snoc l k h, List.all_append]; simp

set_option maxRecDepth 100000 in
theorem dig_back (b : UInt8) (h : isDig b = true) : UInt8.ofNat (48 + (b.toNat - 48) % 10) = b := by
  have := isDig_of b h
  rw [Nat.mod_eq_of_lt (by omega), show 48 + (b.toNat - 48) = b.toNat by omega]
  exact UInt8.ofNat_toNat

set_option maxRecDepth 100000 in
/-- Induction from the right. -/
theorem snoc_ind {T : Type} {P : List T → Prop} (h0 : P []) (hs : ∀ l a, P l → P (l ++ [a])) : ∀ l, P l := by
  intro l
  have h : ∀ l : List T, P l.reverse := by
    intro l
    induction l with
    | nil => exact h0
    | cons a l ih => rw [List.reverse_cons]; exact hs _ _ ih
  have := h l.reverse
  rwa [List.reverse_reverse] at this

set_option maxRecDepth 100000 in
theorem dec_val (l : List UInt8) : l.all isDig = true → l.head? ≠ some 48 → dec (val l) = l := by
  induction l using snoc_ind with
  | h0 => intro _ _; simp [val, dec_zero]
  | hs l a ih =>
    intro hd hh
    rw [List.all_append, Bool.and_eq_true] at hd
    have hda : isDig a = true := by simpa using hd.2
    have hb := isDig_of a hda
    have hl : dec (val l) = l := ih hd.1 (by
      rcases l with _ | ⟨b, l⟩
      · simp
      · simpa using hh)
    rw [val_snoc]
    have hne : 10 * val l + (a.toNat - 48) ≠ 0 := by
      rcases l with _ | ⟨b, l⟩
      · have : a.toNat ≠ 48 := by
          intro e
          apply hh
          have : a = 48 := UInt8.toNat_inj.1 e
          simp [this]
        omega
      · have : val (b :: l) ≠ 0 := by
          intro e
          rw [e, dec_zero] at hl
          cases hl
        omega
    rw [dec_pos _ hne, show (10 * val l + (a.toNat - 48)) / 10 = val l by omega, hl, show (10 * val l + (a.toNat - 48)) % 10 = (a.toNat - 48) % 10 by omega, dig_back a hda]

set_option maxRecDepth 100000 in
theorem dec_head (n : Nat) : n ≠ 0 → ∃ b t, dec n = b :: t ∧ b ≠ 48 := by
  induction n using Nat.strongRecOn with
  | ind n ih =>
    intro h
    rw [dec_pos n h]
    by_cases h10 : n / 10 = 0
    · rw [h10, dec_zero]
      refine ⟨_, [], rfl, fun e => ?_⟩
      have := congrArg UInt8.toNat e
      simp at this
      omega
    · obtain ⟨b, t, hb, hne⟩ := ih (n / 10) (by omega) h10
      exact ⟨b, t ++ [UInt8.ofNat (48 + n % 10)], by rw [hb]; rfl, hne⟩

set_option maxRecDepth 100000 in
theorem numText_val (l : List UInt8) (hd : l.all isDig = true) (h1 : 1 ≤ l.length) (h2 : l.length = 1 ∨ l.head? ≠ some 48) : numText (val l : Int) = l := by
  by_cases hz : l.head? = some 48
  · rcases h2 with h2 | h2
    · match l, h2 with
      | [a], _ =>
        simp at hz
        subst hz
        rfl
    · exact absurd hz h2
  · have h := dec_val l hd hz
    have hne : val l ≠ 0 := by
      intro e
      rw [e, dec_zero] at h
      rw [← h] at h1
      simp at h1
    rw [numText, if_neg (by omega), if_neg (by omega), Int.natAbs_natCast, h]

set_option maxRecDepth 100000 in
theorem numText_not (l : List UInt8) (h1 : 1 < l.length) (h2 : l.head? = some 48) : numText (val l : Int) ≠ l := by
  intro e
  by_cases hz : val l = 0
  · rw [hz] at e
    rw [← e] at h1
    simp [numText] at h1
  · rw [numText, if_neg (by omega), if_neg (by omega), Int.natAbs_natCast] at e
    obtain ⟨b, t, hb, hne⟩ := dec_head _ hz
    rw [← e, hb] at h2
    simp at h2
    exact hne h2

set_option maxRecDepth 100000 in
theorem okNum_yes (l : List UInt8) (h1 : 1 ≤ l.length) (h2 : l.length ≤ 12) (hd : l.all isDig = true) (h3 : l.length = 1 ∨ l.head? ≠ some 48) : okNum l = true := by
  simp only [okNum, Bool.and_eq_true, Bool.or_eq_true, decide_eq_true_eq]
  exact ⟨⟨⟨h1, h2⟩, hd⟩, h3⟩
set_option maxRecDepth 100000 in
theorem okNum_len (l : List UInt8) (h : ¬ (1 ≤ l.length ∧ l.length ≤ 12)) : okNum l = false := by simp [okNum, h]
set_option maxRecDepth 100000 in
theorem okNum_zero (l : List UInt8) (h : 1 < l.length) (hh : l.head? = some 48) : okNum l = false := by simp [okNum, hh, show l.length ≠ 1 by omega]
set_option maxRecDepth 100000 in
theorem okNum_dig (l : List UInt8) (k : Nat) (h : k < l.length) (hd : isDig l[k] = false) : okNum l = false := by
  have : l.all isDig = false := by
    rw [List.all_eq_false]
    exact ⟨l[k], List.getElem_mem h, by simp [hd]⟩
  simp [okNum, this]
end Go.Proofs.YtckakpcjbndijabDoor
