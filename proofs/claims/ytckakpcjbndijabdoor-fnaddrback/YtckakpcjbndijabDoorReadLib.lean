/-
  Reading the text of an address. Plain: nothing here speaks of the program.
-/
import Derived.Test.YtckakpcjbndijabDoorTextLib
import Derived.Test.YtckakpcjbndijabDoorAddrOf
namespace Go.Proofs.YtckakpcjbndijabDoor
open Go.RowKit

/-- The pieces between the bytes c. -/
def splitC (c : UInt8) : List UInt8 → List (List UInt8)
  | [] => [[]]
  | b :: l => if b = c then [] :: splitC c l else match splitC c l with | p :: ps => (b :: p) :: ps | [] => [[b]]
set_option maxRecDepth 100000 in
theorem splitC_ne (c : UInt8) (l : List UInt8) : splitC c l ≠ [] := by
  cases l with
  | nil => simp [splitC]
  | cons b l =>
    simp only [splitC]
    split
    · simp
    · split <;> simp
set_option maxRecDepth 100000 in
theorem splitC_hit (c : UInt8) (l : List UInt8) : splitC c (c :: l) = [] :: splitC c l := by simp [splitC]
set_option maxRecDepth 100000 in
theorem splitC_other (c b : UInt8) (l p : List UInt8) (ps : List (List UInt8)) (h : b ≠ c) (e : splitC c l = p :: ps) : splitC c (b :: l) = (b :: p) :: ps := by simp [splitC, h, e]
set_option maxRecDepth 100000 in
theorem splitC_cons (c : UInt8) (l : List UInt8) : ∃ p ps, splitC c l = p :: ps := by
  cases h : splitC c l with
  | nil => exact absurd h (splitC_ne c l)
  | cons p ps => exact ⟨p, ps, rfl⟩
set_option maxRecDepth 100000 in
theorem split_snoc (c b : UInt8) : ∀ l : List UInt8, ∃ init last, splitC c l = init ++ [last] ∧ splitC c (l ++ [b]) = if b = c then init ++ [last] ++ [[]] else init ++ [last ++ [b]] := by
  intro l
  induction l with
  | nil =>
    refine ⟨[], [], rfl, ?_⟩
    by_cases h : b = c
    · simp [splitC, h]
    · simp [splitC, h]
  | cons a l ih =>
    obtain ⟨init, last, e1, e2⟩ := ih
    by_cases ha : a = c
    · subst ha
      refine ⟨[] :: init, last, by rw [splitC_hit, e1]; rfl, ?_⟩
      rw [List.cons_append, splitC_hit, e2]
      split <;> rfl
    · cases init with
      | nil =>
        refine ⟨[], a :: last, splitC_other c a l last [] ha e1, ?_⟩
        rw [List.cons_append]
        split
        · rename_i hb
          rw [if_pos hb] at e2
          exact splitC_other c a _ last [[]] ha e2
        · rename_i hb
          rw [if_neg hb] at e2
          exact splitC_other c a _ (last ++ [b]) [] ha e2
      | cons q qs =>
        refine ⟨(a :: q) :: qs, last, splitC_other c a l q (qs ++ [last]) ha e1, ?_⟩
        rw [List.cons_append]
        split
        · rename_i hb
          rw [if_pos hb] at e2
          exact splitC_other c a _ q _ ha e2
        · rename_i hb
          rw [if_neg hb] at e2
          exact splitC_other c a _ q _ ha e2
set_option maxRecDepth 100000 in
theorem join_split (c : UInt8) : ∀ l : List UInt8, joinC c (splitC c l) = l := by
  intro l
  induction l with
  | nil => simp [splitC, joinC_one]
  | cons b l ih =>
    obtain ⟨p, ps, e⟩ := splitC_cons c l
    rw [e] at ih
    by_cases h : b = c
    · subst h
      rw [splitC_hit, e, joinC_cons, ih]
      rfl
    · rw [splitC_other c b l p ps h e]
      cases ps with
      | nil => rw [joinC_one] at ih ⊢; rw [ih]
      | cons q qs => rw [joinC_cons] at ih ⊢; rw [← ih]; rfl
set_option maxRecDepth 100000 in
theorem split_one (c : UInt8) : ∀ l : List UInt8, c ∉ l → splitC c l = [l] := by
  intro l
  induction l with
  | nil => intro _; rfl
  | cons b l ih =>
    intro h
    exact splitC_other c b l l [] (fun e => h (by simp [e])) (ih (fun e => h (by simp [e])))
set_option maxRecDepth 100000 in
theorem split_cut (c : UInt8) (r : List UInt8) : ∀ a : List UInt8, c ∉ a → splitC c (a ++ c :: r) = a :: splitC c r := by
  intro a
  induction a with
  | nil => intro _; exact splitC_hit c r
  | cons b a ih =>
    intro h
    exact splitC_other c b _ a _ (fun e => h (by simp [e])) (ih (fun e => h (by simp [e])))
set_option maxRecDepth 100000 in
theorem split_join (c : UInt8) : ∀ ps : List (List UInt8), ps ≠ [] → (∀ p ∈ ps, c ∉ p) → splitC c (joinC c ps) = ps := by
  intro ps
  induction ps with
  | nil => intro h; exact absurd rfl h
  | cons p ps ih =>
    intro _ h
    cases ps with
    | nil => rw [joinC_one]; exact split_one c p (h p (by simp))
    | cons q qs => rw [joinC_cons, split_cut c _ p (h p (by simp)), ih (by simp) (fun x hx => h x (by simp [hx]))]
set_option maxRecDepth 100000 in
theorem split_len_pos (c : UInt8) (l : List UInt8) : 1 ≤ (splitC c l).length := by
  obtain ⟨p, ps, e⟩ := splitC_cons c l
  rw [e]
  simp
set_option maxRecDepth 100000 in
theorem split_mem (c : UInt8) (l : List UInt8) (h : 2 ≤ (splitC c l).length) : c ∈ l := by
  by_cases hc : c ∈ l
  · exact hc
  · rw [split_one c l hc] at h
    simp at h
set_option maxRecDepth 100000 in
theorem join_mem (c : UInt8) (x y : List UInt8) (l : List (List UInt8)) : c ∈ joinC c (x :: y :: l) := by
  rw [joinC_cons]
  simp
set_option maxRecDepth 100000 in
theorem join_not_mem (c d : UInt8) (h : d ≠ c) : ∀ ps : List (List UInt8), (∀ p ∈ ps, d ∉ p) → d ∉ joinC c ps := by
  intro ps
  induction ps with
  | nil => intro _; simp [joinC_nil]
  | cons p ps ih =>
    intro hp
    cases ps with
    | nil => rw [joinC_one]; exact hp p (by simp)
    | cons q qs =>
      rw [joinC_cons]
      have h1 := ih (fun x hx => hp x (by simp [hx]))
      have h2 := hp p (by simp)
      simp only [List.mem_append, List.mem_cons, not_or]
      exact ⟨h2, h, h1⟩
set_option maxRecDepth 100000 in
theorem joinC_len1 (c : UInt8) (m : Nat) : ∀ xs : List (List UInt8), xs ≠ [] → (∀ x ∈ xs, x.length ≤ m) → (joinC c xs).length + 1 ≤ xs.length * (m + 1) := by
  intro xs
  induction xs with
  | nil => intro h; exact absurd rfl h
  | cons x ys ih =>
    intro _ h
    have hx := h x (by simp)
    cases ys with
    | nil => rw [joinC_one]; simp; omega
    | cons y zs =>
      have := ih (by simp) (fun z hz => h z (by simp [hz]))
      rw [joinC_cons, List.length_append, List.length_cons]
      simp only [List.length_cons] at this ⊢
      have e : (zs.length + 1 + 1) * (m + 1) = (zs.length + 1) * (m + 1) + (m + 1) := by rw [Nat.add_mul (zs.length + 1) 1, Nat.one_mul]
      omega

set_option maxRecDepth 100000 in
theorem dec_all : ∀ n : Nat, (dec n).all isDig = true := by
  intro n
  induction n using Nat.strongRecOn with
  | ind n ih =>
    by_cases h : n = 0
    · subst h; rw [dec_zero]; rfl
    · rw [dec_pos n h, List.all_append, ih (n / 10) (by omega)]
      have hd := digit_val (n % 10) (by omega)
      simp only [List.all_cons, List.all_nil, Bool.and_true, Bool.true_and, isDig, decide_eq_true_eq]
      omega
set_option maxRecDepth 100000 in
theorem val_dec : ∀ n : Nat, val (dec n) = n := by
  intro n
  induction n using Nat.strongRecOn with
  | ind n ih =>
    by_cases h : n = 0
    · subst h; rw [dec_zero]; rfl
    · rw [dec_pos n h, val_snoc, ih (n / 10) (by omega)]
      have hd := digit_val (n % 10) (by omega)
      omega
/-- A part of four that reads as a byte. -/
def part4 (p : List UInt8) : Bool := okNum p && decide (val p ≤ 255)
def byte4 (p : List UInt8) : UInt8 := UInt8.ofNat (val p)
set_option maxRecDepth 100000 in
theorem numB_facts (b : UInt8) : (numB b).all isDig = true ∧ val (numB b) = b.toNat ∧ 1 ≤ (numB b).length ∧ ((numB b).length = 1 ∨ (numB b).head? ≠ some 48) := by
  unfold numB numText
  by_cases h : (b.toNat : Int) = 0
  · rw [if_pos h]
    have : b.toNat = 0 := by omega
    rw [this]
    exact ⟨rfl, rfl, by simp, .inl rfl⟩
  · rw [if_neg h, if_neg (by omega), Int.natAbs_natCast]
    have hb : b.toNat ≠ 0 := by omega
    obtain ⟨c, t, e, hc⟩ := dec_head b.toNat hb
    exact ⟨dec_all _, val_dec _, by rw [e]; simp, .inr (by rw [e]; simpa using hc)⟩
set_option maxRecDepth 100000 in
theorem part4_num (b : UInt8) : part4 (numB b) = true ∧ byte4 (numB b) = b := by
  obtain ⟨h1, h2, h3, h4⟩ := numB_facts b
  have hb := UInt8.toNat_lt b
  have hl := numB_len b
  refine ⟨?_, ?_⟩
  · simp only [part4, Bool.and_eq_true, decide_eq_true_eq]
    exact ⟨okNum_yes _ h3 (by omega) h1 h4, by omega⟩
  · unfold byte4
    rw [h2]
    simp
set_option maxRecDepth 100000 in
theorem num_part4 (p : List UInt8) (h : part4 p = true) : numB (byte4 p) = p := by
  simp only [part4, Bool.and_eq_true, decide_eq_true_eq] at h
  obtain ⟨h1, h2⟩ := h
  simp only [okNum, Bool.and_eq_true, decide_eq_true_eq, Bool.or_eq_true, ne_eq] at h1
  unfold numB byte4
  rw [show ((UInt8.ofNat (val p)).toNat : Int) = (val p : Int) by simp; omega]
  exact numText_val p h1.1.2 h1.1.1.1 h1.2

set_option maxRecDepth 100000 in
theorem hexDig_V (a : UInt8) (h : hexV a < 16) : hexDig (hexV a) = a := by
  have := (hexV_dig (hexV a) h a).2 rfl
  exact (UInt8.toNat_inj.1 this).symm
set_option maxRecDepth 100000 in
theorem hexV_D (d : Nat) (h : d < 16) : hexV (hexDig d) = d := (hexV_dig d h (hexDig d)).1 rfl
/-- A group of at most four digits. -/
def valG (p : List UInt8) : Nat := p.foldl (fun n b => 16 * n + hexV b) 0
def okG (p : List UInt8) : Bool := decide (1 ≤ p.length ∧ p.length ≤ 4) && p.all (fun b => decide (hexV b < 16)) && (decide (p.length = 1) || decide (p.head? ≠ some 48))
set_option maxRecDepth 100000 in
theorem hexV_zero (a : UInt8) (h : hexV a = 0) : a = 48 := by
  have := (hexV_dig 0 (by omega) a).2 h
  exact UInt8.toNat_inj.1 this
set_option maxRecDepth 100000 in
theorem hexN1 (a : Nat) (h : a < 16) : hexN a = [hexDig a] := hexN_small a h
set_option maxRecDepth 100000 in
theorem hexN2 (a b : Nat) (h1 : 1 ≤ a) (ha : a < 16) (hb : b < 16) : hexN (16 * a + b) = [hexDig a, hexDig b] := by
  rw [hexN_big _ (by omega), show (16 * a + b) / 16 = a by omega, show (16 * a + b) % 16 = b by omega, hexN1 a ha]
  rfl
set_option maxRecDepth 100000 in
theorem hexN3 (a b c : Nat) (h1 : 1 ≤ a) (ha : a < 16) (hb : b < 16) (hc : c < 16) : hexN (16 * (16 * a + b) + c) = [hexDig a, hexDig b, hexDig c] := by
  rw [hexN_big _ (by omega), show (16 * (16 * a + b) + c) / 16 = 16 * a + b by omega, show (16 * (16 * a + b) + c) % 16 = c by omega, hexN2 a b h1 ha hb]
  rfl
set_option maxRecDepth 100000 in
theorem hexN4 (a b c d : Nat) (h1 : 1 ≤ a) (ha : a < 16) (hb : b < 16) (hc : c < 16) (hd : d < 16) : hexN (16 * (16 * (16 * a + b) + c) + d) = [hexDig a, hexDig b, hexDig c, hexDig d] := by
  rw [hexN_big _ (by omega), show (16 * (16 * (16 * a + b) + c) + d) / 16 = 16 * (16 * a + b) + c by omega, show (16 * (16 * (16 * a + b) + c) + d) % 16 = d by omega, hexN3 a b c h1 ha hb hc]
  rfl
set_option maxRecDepth 100000 in
theorem hex_okG (p : List UInt8) (h : okG p = true) : hexN (valG p) = p ∧ valG p < 65536 := by
  simp only [okG, Bool.and_eq_true, decide_eq_true_eq, Bool.or_eq_true, ne_eq, List.all_eq_true] at h
  obtain ⟨⟨⟨h1, h2⟩, h3⟩, h4⟩ := h
  have nz : ∀ a : UInt8, a ≠ 48 → 1 ≤ hexV a := fun a ha => by
    rcases Nat.eq_zero_or_pos (hexV a) with h0 | h0
    · exact absurd (hexV_zero a h0) ha
    · exact h0
  match p, h1, h2 with
  | [a], _, _ =>
    have ha := h3 a (by simp)
    have e : valG [a] = hexV a := by simp [valG]
    rw [e, hexN1 _ ha, hexDig_V a ha]
    exact ⟨rfl, by omega⟩
  | [a, b], _, _ =>
    have ha := h3 a (by simp)
    have hb := h3 b (by simp)
    have e : valG [a, b] = 16 * hexV a + hexV b := by simp [valG]
    have h0 := nz a (by simpa using h4)
    rw [e, hexN2 _ _ h0 ha hb, hexDig_V a ha, hexDig_V b hb]
    exact ⟨rfl, by omega⟩
  | [a, b, c], _, _ =>
    have ha := h3 a (by simp)
    have hb := h3 b (by simp)
    have hc := h3 c (by simp)
    have e : valG [a, b, c] = 16 * (16 * hexV a + hexV b) + hexV c := by simp [valG]
    have h0 := nz a (by simpa using h4)
    rw [e, hexN3 _ _ _ h0 ha hb hc, hexDig_V a ha, hexDig_V b hb, hexDig_V c hc]
    exact ⟨rfl, by omega⟩
  | [a, b, c, d], _, _ =>
    have ha := h3 a (by simp)
    have hb := h3 b (by simp)
    have hc := h3 c (by simp)
    have hd := h3 d (by simp)
    have e : valG [a, b, c, d] = 16 * (16 * (16 * hexV a + hexV b) + hexV c) + hexV d := by simp [valG]
    have h0 := nz a (by simpa using h4)
    rw [e, hexN4 _ _ _ _ h0 ha hb hc hd, hexDig_V a ha, hexDig_V b hb, hexDig_V c hc, hexDig_V d hd]
    exact ⟨rfl, by omega⟩
set_option maxRecDepth 100000 in
theorem hexDig_ne (d : Nat) (h : d < 16) (h0 : 1 ≤ d) : hexDig d ≠ 48 := by
  intro e
  have h1 := hexV_D d h
  rw [e] at h1
  have : hexV 48 = 0 := by decide
  omega
set_option maxRecDepth 100000 in
theorem okG_hex (n : Nat) (h : n < 65536) : okG (hexN n) = true ∧ valG (hexN n) = n := by
  by_cases h1 : n < 16
  · rw [hexN1 n h1]
    simp [okG, valG, hexV_D n h1, h1]
  · by_cases h2 : n < 256
    · have e : n = 16 * (n / 16) + n % 16 := by omega
      have ha : n / 16 < 16 := by omega
      have hb : n % 16 < 16 := by omega
      have h0 := hexDig_ne (n / 16) ha (by omega)
      have e2 : hexN n = [hexDig (n / 16), hexDig (n % 16)] := by
        conv => lhs; rw [e]
        exact hexN2 _ _ (by omega) ha hb
      rw [e2]
      simp [okG, valG, hexV_D _ ha, hexV_D _ hb, ha, hb, h0]
      omega
    · by_cases h3 : n < 4096
      · have e : n = 16 * (16 * (n / 256) + n / 16 % 16) + n % 16 := by omega
        have ha : n / 256 < 16 := by omega
        have hb : n / 16 % 16 < 16 := by omega
        have hc : n % 16 < 16 := by omega
        have h0 := hexDig_ne (n / 256) ha (by omega)
        have e2 : hexN n = [hexDig (n / 256), hexDig (n / 16 % 16), hexDig (n % 16)] := by
          conv => lhs; rw [e]
          exact hexN3 _ _ _ (by omega) ha hb hc
        rw [e2]
        simp [okG, valG, hexV_D _ ha, hexV_D _ hb, hexV_D _ hc, ha, hb, hc, h0]
        omega
      · have e : n = 16 * (16 * (16 * (n / 4096) + n / 256 % 16) + n / 16 % 16) + n % 16 := by omega
        have ha : n / 4096 < 16 := by omega
        have hb : n / 256 % 16 < 16 := by omega
        have hc : n / 16 % 16 < 16 := by omega
        have hd : n % 16 < 16 := by omega
        have h0 := hexDig_ne (n / 4096) ha (by omega)
        have e2 : hexN n = [hexDig (n / 4096), hexDig (n / 256 % 16), hexDig (n / 16 % 16), hexDig (n % 16)] := by
          conv => lhs; rw [e]
          exact hexN4 _ _ _ _ (by omega) ha hb hc hd
        rw [e2]
        simp [okG, valG, hexV_D _ ha, hexV_D _ hb, hexV_D _ hc, hexV_D _ hd, ha, hb, hc, hd, h0]
        omega
end Go.Proofs.YtckakpcjbndijabDoor
