/-
  Open addressing with linear probing, in plain terms: where a probe ends, when a table is good, what a put leaves. Nothing here speaks of the program.
-/
import Derived.Test.YtmfkpiclpkeemaaBase
namespace Go.Proofs.Ytmfkpiclpkeemaa
set_option maxRecDepth 100000

/-- The first number below n at which P holds. -/
def firstAt (P : Nat → Bool) (n : Nat) : Option Nat := (List.range n).find? P
theorem firstAt_some {P : Nat → Bool} {n s : Nat} : firstAt P n = some s ↔ s < n ∧ P s = true ∧ ∀ j, j < s → P j = false := by
  induction n with
  | zero => simp [firstAt]
  | succ n ih =>
    unfold firstAt at *
    rw [List.range_succ, List.find?_append]
    cases h : (List.range n).find? P with
    | some t =>
      rw [h] at ih
      simp only [Option.some_or]
      rw [ih]
      constructor
      · rintro ⟨a, b, c⟩; exact ⟨by omega, b, c⟩
      · rintro ⟨a, b, c⟩
        have ht := List.find?_some h
        have hm := List.mem_of_find?_eq_some h
        rw [List.mem_range] at hm
        refine ⟨?_, b, c⟩
        rcases Nat.lt_or_ge s n with h1 | h1
        · exact h1
        · have := c t (by omega); rw [ht] at this; cases this
    | none =>
      rw [List.find?_eq_none] at h
      simp only [List.mem_range] at h
      simp only [Option.none_or, List.find?_cons, List.find?_nil]
      cases hp : P n with
      | true =>
        simp only [Option.some.injEq]
        constructor
        · rintro rfl; exact ⟨by omega, hp, fun j hj => by have := h j hj; simpa using this⟩
        · rintro ⟨a, b, c⟩
          rcases Nat.lt_or_ge s n with h1 | h1
          · exact absurd b (h s h1)
          · omega
      | false =>
        simp only [reduceCtorEq, false_iff]
        rintro ⟨a, b, c⟩
        rcases Nat.lt_or_ge s n with h1 | h1
        · exact absurd b (h s h1)
        · obtain rfl : s = n := by omega
          rw [hp] at b; cases b
theorem firstAt_none {P : Nat → Bool} {n : Nat} : firstAt P n = none ↔ ∀ j, j < n → P j = false := by
  unfold firstAt
  rw [List.find?_eq_none]
  simp
theorem firstAt_of {P : Nat → Bool} {n s : Nat} (h : s < n) (h1 : P s = true) (h2 : ∀ j, j < s → P j = false) : firstAt P n = some s := firstAt_some.2 ⟨h, h1, h2⟩

theorem firstAt_congr {P Q : Nat → Bool} {n : Nat} (h : ∀ j, j < n → P j = Q j) : firstAt P n = firstAt Q n := by
  cases e : firstAt Q n with
  | some s =>
    obtain ⟨a, b, c⟩ := firstAt_some.1 e
    exact firstAt_some.2 ⟨a, by rw [h s a]; exact b, fun j hj => by rw [h j (by omega)]; exact c j hj⟩
  | none => exact firstAt_none.2 fun j hj => by rw [h j hj]; exact firstAt_none.1 e j hj

/-- The step at which a cell is reached. -/
theorem step_of {h n p : Nat} (hn : h < n) (hp : p < n) : ∃ s, s < n ∧ p = (h + s) % n := by
  rcases Nat.lt_or_ge p h with h1 | h1
  · exact ⟨p + n - h, by omega, by rw [show h + (p + n - h) = p + n by omega, Nat.add_mod_right, Nat.mod_eq_of_lt hp]⟩
  · exact ⟨p - h, by omega, by rw [show h + (p - h) = p by omega, Nat.mod_eq_of_lt hp]⟩

section
variable {C K : Type} [DecidableEq K] (u : C → Bool) (ky : C → K) (home : K → Nat) (n : Nat)
/-- Does the probe for k end at a cell? -/
def ends (c : C) (k : K) : Bool := !u c || decide (ky c = k)
/-- Where the probe for k ends. -/
def probe (f : Nat → C) (k : K) : Option Nat := (firstAt (fun s => ends u ky (f ((home k + s) % n)) k) n).map fun s => (home k + s) % n
/-- The first used cell with the key k. -/
def place (f : Nat → C) (k : K) : Option Nat := firstAt (fun i => u (f i) && decide (ky (f i) = k)) n
/-- Every used cell is where the probe for its key ends. -/
def Good (f : Nat → C) : Prop := ∀ i, i < n → u (f i) = true → probe u ky home n f (ky (f i)) = some i
variable {u ky home n} {f : Nat → C}
theorem probe_some {k : K} {p : Nat} : probe u ky home n f k = some p ↔ ∃ s, s < n ∧ p = (home k + s) % n ∧ ends u ky (f p) k = true ∧ ∀ j, j < s → ends u ky (f ((home k + j) % n)) k = false := by
  unfold probe
  rw [Option.map_eq_some_iff]
  constructor
  · rintro ⟨s, h, rfl⟩
    obtain ⟨a, b, c⟩ := firstAt_some.1 h
    exact ⟨s, a, rfl, b, c⟩
  · rintro ⟨s, a, rfl, b, c⟩
    exact ⟨s, firstAt_of a b c, rfl⟩
theorem probe_lt {k : K} {p : Nat} (h : probe u ky home n f k = some p) : p < n := by
  obtain ⟨s, a, rfl, _⟩ := probe_some.1 h
  exact Nat.mod_lt _ (by omega)
theorem step_inj {h n s t : Nat} (hs : s < n) (ht : t < n) (e : (h + s) % n = (h + t) % n) : s = t := by
  have h1 := Nat.div_add_mod (h + s) n
  have h2 := Nat.div_add_mod (h + t) n
  rw [e] at h1
  have h3 : n * ((h + s) / n) + t = n * ((h + t) / n) + s := by omega
  rcases Nat.lt_trichotomy ((h + s) / n) ((h + t) / n) with q | q | q
  · have : n * ((h + s) / n) + n ≤ n * ((h + t) / n) := by rw [← Nat.mul_succ]; exact Nat.mul_le_mul_left _ q
    omega
  · rw [q] at h3; omega
  · have : n * ((h + t) / n) + n ≤ n * ((h + s) / n) := by rw [← Nat.mul_succ]; exact Nat.mul_le_mul_left _ q
    omega
theorem probe_ex (hh : ∀ k, home k < n) {q : Nat} (hq : q < n) (hu : u (f q) = false) (k : K) : ∃ p, p < n ∧ probe u ky home n f k = some p := by
  cases h : firstAt (fun s => ends u ky (f ((home k + s) % n)) k) n with
  | some s => exact ⟨(home k + s) % n, Nat.mod_lt _ (by omega), by unfold probe; rw [h]; rfl⟩
  | none =>
    rw [firstAt_none] at h
    obtain ⟨s, hs, rfl⟩ := step_of (hh k) hq
    have := h s hs
    simp [ends, hu] at this
/-- A used cell at which the probe ends has the key. -/
theorem probe_used {k : K} {p : Nat} (h : probe u ky home n f k = some p) (hu : u (f p) = true) : ky (f p) = k := by
  obtain ⟨s, _, _, b, _⟩ := probe_some.1 h
  simpa [ends, hu] using b
theorem good_one (g : Good u ky home n f) {i j : Nat} (hi : i < n) (hj : j < n) (ui : u (f i) = true) (uj : u (f j) = true) (e : ky (f i) = ky (f j)) : i = j := by
  have h1 := g i hi ui
  have h2 := g j hj uj
  rw [e, h2] at h1
  exact (Option.some.inj h1).symm
theorem place_some {k : K} {i : Nat} : place u ky n f k = some i ↔ i < n ∧ u (f i) = true ∧ ky (f i) = k ∧ ∀ j, j < i → ¬ (u (f j) = true ∧ ky (f j) = k) := by
  unfold place
  rw [firstAt_some]
  simp only [Bool.and_eq_true, decide_eq_true_eq, Bool.and_eq_false_iff, decide_eq_false_iff_not]
  constructor
  · rintro ⟨a, ⟨b, c⟩, d⟩
    exact ⟨a, b, c, fun j hj ⟨x, y⟩ => by rcases d j hj with e | e; · rw [x] at e; cases e
                                          · exact e y⟩
  · rintro ⟨a, b, c, d⟩
    refine ⟨a, ⟨b, c⟩, fun j hj => ?_⟩
    cases hu : u (f j) with
    | false => exact .inl rfl
    | true => exact .inr fun e => d j hj ⟨hu, e⟩
theorem place_none {k : K} : place u ky n f k = none ↔ ∀ j, j < n → u (f j) = true → ky (f j) ≠ k := by
  unfold place
  rw [firstAt_none]
  simp only [Bool.and_eq_false_iff, decide_eq_false_iff_not]
  constructor
  · intro h j hj hu e
    rcases h j hj with x | x
    · rw [hu] at x; cases x
    · exact x e
  · intro h j hj
    cases hu : u (f j) with
    | false => exact .inl rfl
    | true => exact .inr (h j hj hu)
/-- What is used at the end of the probe is the first cell with the key. -/
theorem place_of_probe (g : Good u ky home n f) {k : K} {p : Nat} (h : probe u ky home n f k = some p) (hu : u (f p) = true) : place u ky n f k = some p := by
  have hk := probe_used h hu
  refine place_some.2 ⟨probe_lt h, hu, hk, fun j hj ⟨x, y⟩ => ?_⟩
  have := good_one g (show j < n by have := probe_lt h; omega) (probe_lt h) x hu (by rw [y, hk])
  omega
theorem place_no (g : Good u ky home n f) {k : K} {p : Nat} (h : probe u ky home n f k = some p) (hu : u (f p) = false) : place u ky n f k = none := by
  refine place_none.2 fun j hj uj e => ?_
  have h1 := g j hj uj
  rw [e, h] at h1
  obtain rfl := Option.some.inj h1
  rw [hu] at uj; cases uj
/-- The test of one cell, as the model has it: it is the first one with its key, and no cell of its probe sequence ahead of it is free. -/
def Sure (u : C → Bool) (ky : C → K) (home : K → Nat) (n : Nat) (f : Nat → C) (i : Nat) : Prop := place u ky n f (ky (f i)) = some i ∧ ∃ s, s < n ∧ i = (home (ky (f i)) + s) % n ∧ ∀ j, j < s → u (f ((home (ky (f i)) + j) % n)) = true
theorem good_iff_sure : Good u ky home n f ↔ ∀ i, i < n → u (f i) = true → Sure u ky home n f i := by
  constructor
  · intro g i hi ui
    have h := g i hi ui
    refine ⟨place_of_probe g h ui, ?_⟩
    obtain ⟨s, a, b, _, d⟩ := probe_some.1 h
    refine ⟨s, a, b, fun j hj => ?_⟩
    have := d j hj
    simp only [ends, Bool.or_eq_false_iff, Bool.not_eq_false'] at this
    exact this.1
  · intro g i hi ui
    obtain ⟨hp, s, a, b, c⟩ := g i hi ui
    refine probe_some.2 ⟨s, a, b, by simp [ends], fun j hj => ?_⟩
    have hu := c j hj
    simp only [ends, hu, Bool.not_true, Bool.false_or, decide_eq_false_iff_not]
    intro e
    have hlt : (home (ky (f i)) + j) % n < n := Nat.mod_lt _ (by omega)
    have hp2 := (g _ hlt hu).1
    rw [e, hp] at hp2
    have e3 := b.symm.trans (Option.some.inj hp2)
    have := step_inj a (by omega) e3
    omega
/-- A cell put where the probe for its key ends. -/
def fset (f : Nat → C) (p : Nat) (c : C) : Nat → C := fun i => if i = p then c else f i
theorem good_put (g : Good u ky home n f) {k : K} {p : Nat} (h : probe u ky home n f k = some p) {c : C} (uc : u c = true) (kc : ky c = k) : Good u ky home n (fset f p c) := by
  have hk : u (f p) = true → ky (f p) = k := probe_used h
  intro i hi ui
  by_cases e : i = p
  · subst e
    have e1 : fset f i c i = c := by simp [fset]
    rw [e1, kc]
    obtain ⟨s, a, b, _, d⟩ := probe_some.1 h
    refine probe_some.2 ⟨s, a, b, by simp [ends, e1, kc], fun j hj => ?_⟩
    have hne : (home k + j) % n ≠ i := by
      intro e2
      rw [b] at e2
      have := step_inj (by omega) a e2
      omega
    simp only [fset, hne, if_false]
    exact d j hj
  · have e1 : fset f p c i = f i := by simp [fset, e]
    rw [e1] at ui ⊢
    obtain ⟨s, a, b, x, d⟩ := probe_some.1 (g i hi ui)
    refine probe_some.2 ⟨s, a, b, by rw [e1]; exact x, fun j hj => ?_⟩
    have dj := d j hj
    by_cases e2 : (home (ky (f i)) + j) % n = p
    · rw [e2] at dj ⊢
      simp only [ends, Bool.or_eq_false_iff, Bool.not_eq_false', decide_eq_false_iff_not] at dj
      have := hk dj.1
      simp only [ends, fset, if_true, uc, Bool.not_true, Bool.false_or, decide_eq_false_iff_not, kc]
      rw [← this]
      exact dj.2
    · simp only [fset, e2, if_false]
      exact dj
/-- The first free cell from the home of a key on. -/
def free (u : C → Bool) (home : K → Nat) (n : Nat) (f : Nat → C) (k : K) : Option Nat := (firstAt (fun s => !u (f ((home k + s) % n))) n).map fun s => (home k + s) % n
/-- If no used cell has the key, the probe ends at the first free cell. -/
theorem probe_free {k : K} (h : ∀ j, j < n → u (f j) = true → ky (f j) ≠ k) : probe u ky home n f k = free u home n f k := by
  unfold probe free
  rw [firstAt_congr (fun s hs => ?_)]
  have := h ((home k + s) % n) (Nat.mod_lt _ (by omega))
  cases hu : u (f ((home k + s) % n)) with
  | false => simp [ends, hu]
  | true => simp [ends, hu, this hu]
end
end Go.Proofs.Ytmfkpiclpkeemaa
