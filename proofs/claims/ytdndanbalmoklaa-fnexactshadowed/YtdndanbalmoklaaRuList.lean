/-
  Lists of rules as plain data: their cells, whether the list is valid, which rule a key gets. Nothing here speaks of the program.
-/
import Derived.Test.YtdndanbalmoklaaRuLib
import Derived.Test.YtdndanbalmoklaaRow
import Derived.Deep.MidRow
namespace Go.Proofs.Ytdndanbalmoklaa
set_option maxRecDepth 100000
open Go.RowKit

def rcells (rs : List Ru) : List Value := rs.flatMap Ru.cells
theorem Ru.cells_length (r : Ru) : r.cells.length = 21 := rfl
theorem rcells_nil : rcells [] = [] := rfl
theorem rcells_cons (r : Ru) (rs : List Ru) : rcells (r :: rs) = r.cells ++ rcells rs := by simp [rcells]
theorem rcells_append (rs ss : List Ru) : rcells (rs ++ ss) = rcells rs ++ rcells ss := by simp [rcells]
theorem rcells_length (rs : List Ru) : (rcells rs).length = rs.length * 21 := by
  induction rs with
  | nil => rfl
  | cons r rs ih => rw [rcells_cons, List.length_append, ih, Ru.cells_length, List.length_cons]; omega
theorem rcells_get (rs : List Ru) (i j : Nat) (h : i < rs.length) (hj : j < 21) : (rcells rs)[i * 21 + j]? = (rs[i].cells)[j]? := by
  induction rs generalizing i with
  | nil => simp at h
  | cons r rs ih =>
    rw [rcells_cons]
    cases i with
    | zero =>
      rw [Nat.zero_mul, Nat.zero_add, List.getElem?_append_left (by rw [Ru.cells_length]; exact hj)]
      rfl
    | succ i =>
      simp at h
      rw [List.getElem?_append_right (by rw [Ru.cells_length]; omega), Ru.cells_length, show (i + 1) * 21 + j - 21 = i * 21 + j by omega, ih i h]
      simp
theorem rcells_one (rs : List Ru) : ∀ u ∈ rcells rs, u.oneCell' = true := by
  intro u hu
  simp only [rcells, List.mem_flatMap] at hu
  obtain ⟨r, _, hr⟩ := hu
  simp only [Ru.cells, List.mem_cons, List.not_mem_nil, or_false] at hr
  rcases hr with rfl | rfl | rfl | rfl | rfl | rfl | rfl | rfl | rfl | rfl | rfl | rfl | rfl | rfl | rfl | rfl | rfl | rfl | rfl | rfl | rfl <;> rfl

/-- A row of rules, read at a place. -/
theorem RV.rule {w : World} {B : Nat} {A : Option Addr} {rs : List Ru} (h : RV w B A (rcells rs)) {i : Nat} (hi : i < rs.length) : ∃ g o, A = some ⟨g, o, none⟩ ∧ g < B ∧ w.rangeAt g (o + i * 21) rs[i].cells := by
  obtain ⟨g, o, e, hg, hc⟩ := h (by rw [rcells_length]; omega)
  refine ⟨g, o, e, hg, fun j v hv => ?_⟩
  have hj : j < 21 := by
    have := (List.getElem?_eq_some_iff.1 hv).1
    rwa [Ru.cells_length] at this
  rw [Nat.add_assoc]
  exact hc _ _ ((rcells_get rs i j hi hj).trans hv)

/-- A row of rules that came in. -/
structure RIn (w : World) (A : Option Addr) (n c : Nat) (rs : List Ru) : Prop where
  len : rs.length = n
  cap : n ≤ c
  big : c ≤ maxLen
  row : RV w w.heap.size A (rcells rs)

/-- The Prio ahead of place i. -/
def lastP (rs : List Ru) : Nat → Int
  | 0 => 0
  | i + 1 => match rs[i]? with | some r => r.prio | none => 0
/-- The first i rules are valid and rise. -/
def goodN (rs : List Ru) : Nat → Bool
  | 0 => true
  | i + 1 => goodN rs i && (match rs[i]? with | some r => r.ok && decide (lastP rs i < r.prio) | none => true)
def rulesOk (rs : List Ru) : Bool := decide (rs.length ≤ 32) && goodN rs rs.length
theorem lastP_succ {rs : List Ru} {i : Nat} (h : i < rs.length) : lastP rs (i + 1) = rs[i].prio := by
  simp [lastP, List.getElem?_eq_getElem h]
theorem goodN_succ {rs : List Ru} {i : Nat} (h : i < rs.length) : goodN rs (i + 1) = (goodN rs i && (rs[i].ok && decide (lastP rs i < rs[i].prio))) := by
  simp [goodN, List.getElem?_eq_getElem h]
theorem goodN_mono {rs : List Ru} {i : Nat} (h : goodN rs i = false) : ∀ j, i ≤ j → goodN rs j = false := by
  intro j hj
  induction j with
  | zero =>
    have : i = 0 := by omega
    subst this
    exact h
  | succ j ih =>
    by_cases e : i = j + 1
    · subst e
      exact h
    · rw [goodN, ih (by omega)]
      rfl
theorem goodN_le {rs : List Ru} {n i : Nat} (h : goodN rs n = true) (hi : i ≤ n) : goodN rs i = true := by
  cases hg : goodN rs i with
  | true => rfl
  | false => rw [goodN_mono hg n hi] at h; cases h
theorem rulesOk_long {rs : List Ru} (h : 32 < rs.length) : rulesOk rs = false := by simp [rulesOk]; omega
theorem rulesOk_bad {rs : List Ru} {i : Nat} (hi : i < rs.length) (h : (rs[i].ok && decide (lastP rs i < rs[i].prio)) = false) : rulesOk rs = false := by
  rw [rulesOk, goodN_mono (i := i + 1) (by rw [goodN_succ hi, h, Bool.and_false]) rs.length hi, Bool.and_false]
theorem rulesOk_all {rs : List Ru} (h : rs.length ≤ 32) (hg : goodN rs rs.length = true) : rulesOk rs = true := by simp [rulesOk, h, hg]
theorem rulesOk_len {rs : List Ru} (h : rulesOk rs = true) : rs.length ≤ 32 := by simp [rulesOk] at h; exact h.1
theorem rulesOk_good {rs : List Ru} (h : rulesOk rs = true) : goodN rs rs.length = true := by simp [rulesOk] at h; exact h.2
theorem rulesOk_at {rs : List Ru} (h : rulesOk rs = true) {i : Nat} (hi : i < rs.length) : rs[i].ok = true ∧ lastP rs i < rs[i].prio := by
  have := goodN_le (rulesOk_good h) (i := i + 1) hi
  rw [goodN_succ hi] at this
  simp at this
  exact this.2
theorem Ru.prio_pos {r : Ru} (h : r.ok = true) : 1 ≤ r.prio ∧ r.prio ≤ 9999 := by
  simp [Ru.ok, btw] at h
  omega
theorem rulesOk_next {rs : List Ru} (h : rulesOk rs = true) {i : Nat} (hi : i + 1 < rs.length) : rs[i].prio < rs[i + 1].prio := by
  have := (rulesOk_at h hi).2
  rwa [lastP_succ (by omega)] at this
theorem rulesOk_rise {rs : List Ru} (h : rulesOk rs = true) {i j : Nat} (hij : i < j) (hj : j < rs.length) : rs[i].prio < rs[j].prio := by
  induction j with
  | zero => omega
  | succ j ih =>
    have h1 := rulesOk_next h (i := j) hj
    by_cases e : i = j
    · subst e
      exact h1
    · exact Int.lt_trans (ih (by omega) (by omega)) h1

/-- The first place from i on, of those that are left, at which the rule holds the key. -/
def firstHas (k : Ky) : Nat → List Ru → Int
  | _, [] => -1
  | i, r :: rs => if r.has k then (i : Int) else firstHas k (i + 1) rs
def ruleFor (rs : List Ru) (k : Ky) : Int := if rulesOk rs then firstHas k 0 rs else -1
theorem firstHas_drop {k : Ky} {rs : List Ru} {i : Nat} (h : i < rs.length) : firstHas k i (rs.drop i) = if rs[i].has k then (i : Int) else firstHas k (i + 1) (rs.drop (i + 1)) := by
  rw [List.drop_eq_getElem_cons h]
  rfl
theorem firstHas_end {k : Ky} {rs : List Ru} {i : Nat} (h : rs.length ≤ i) : firstHas k i (rs.drop i) = -1 := by
  rw [List.drop_eq_nil_of_le h]
  rfl
theorem ruleFor_no {rs : List Ru} {k : Ky} (h : rulesOk rs = false) : ruleFor rs k = -1 := by simp [ruleFor, h]
theorem ruleFor_yes {rs : List Ru} {k : Ky} (h : rulesOk rs = true) : ruleFor rs k = firstHas k 0 (rs.drop 0) := by simp [ruleFor, h]
theorem has_key {r : Ru} {k : Ky} (h : k.ok = false) : r.has k = false := by simp [Ru.has, h]
theorem firstHas_key {k : Ky} (h : k.ok = false) (i : Nat) (rs : List Ru) : firstHas k i rs = -1 := by
  induction rs generalizing i with
  | nil => rfl
  | cons r rs ih => simp [firstHas, has_key h, ih]
theorem ruleFor_key {rs : List Ru} {k : Ky} (h : k.ok = false) : ruleFor rs k = -1 := by simp [ruleFor, firstHas_key h]

/-- Is the rule at place i covered by an earlier one? -/
def darkAt (rs : List Ru) (i : Nat) : Bool := match rs[i]? with | some s => (rs.take i).any (fun r => r.covers s) | none => false
/-- The places below n that are covered. -/
def darkTo (rs : List Ru) (n : Nat) : List Int := ((List.range n).filter (darkAt rs)).map Int.ofNat
def shadowed (rs : List Ru) : List Int := if rulesOk rs then darkTo rs rs.length else []
theorem darkTo_succ (rs : List Ru) (n : Nat) : darkTo rs (n + 1) = darkTo rs n ++ (if darkAt rs n then [(n : Int)] else []) := by
  unfold darkTo
  rw [List.range_succ, List.filter_append, List.map_append]
  by_cases h : darkAt rs n = true <;> simp [h]
theorem darkTo_length (rs : List Ru) (n : Nat) : (darkTo rs n).length ≤ n := by
  unfold darkTo
  have := List.length_filter_le (darkAt rs) (List.range n)
  simpa using this
end Go.Proofs.Ytdndanbalmoklaa
