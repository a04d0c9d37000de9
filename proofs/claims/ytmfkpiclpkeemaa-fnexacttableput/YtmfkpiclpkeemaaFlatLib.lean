/-
  Rows of structs without slices, whatever their fields: lists of cells, stores into the middle of a list, marks. Nothing here speaks of the program.
-/
import Derived.Test.YtmfkpiclpkeemaaRow
import Derived.Deep.MidRow
import Derived.Laws.MakeOwn
import Derived.Laws.OwnMore
import Derived.Lib.BufferOwn
namespace Go.Proofs.Ytmfkpiclpkeemaa
set_option maxRecDepth 100000
open Go.RowKit

section
variable {α : Type} {cs : α → List Value} {N : Nat}
/-- The cells of a list of structs. -/
def fl (cs : α → List Value) (rs : List α) : List Value := rs.flatMap cs
theorem fl_nil : fl cs [] = [] := rfl
theorem fl_cons (r : α) (rs : List α) : fl cs (r :: rs) = cs r ++ fl cs rs := by simp [fl]
theorem fl_append (rs ss : List α) : fl cs (rs ++ ss) = fl cs rs ++ fl cs ss := by simp [fl]
theorem fl_length (hN : ∀ r, (cs r).length = N) (rs : List α) : (fl cs rs).length = rs.length * N := by
  induction rs with
  | nil => simp [fl]
  | cons r rs ih => rw [fl_cons, List.length_append, ih, hN, List.length_cons, Nat.succ_mul, Nat.add_comm]
theorem fl_get (hN : ∀ r, (cs r).length = N) (rs : List α) (i j : Nat) (h : i < rs.length) (hj : j < N) : (fl cs rs)[i * N + j]? = (cs rs[i])[j]? := by
  induction rs generalizing i with
  | nil => simp at h
  | cons r rs ih =>
    rw [fl_cons]
    cases i with
    | zero =>
      rw [Nat.zero_mul, Nat.zero_add, List.getElem?_append_left (by rw [hN]; exact hj)]
      rfl
    | succ i =>
      simp at h
      have e : (i + 1) * N + j = N + (i * N + j) := by rw [Nat.succ_mul]; omega
      rw [List.getElem?_append_right (by rw [hN, e]; omega), hN, e, Nat.add_sub_cancel_left, ih i h]
      simp
theorem fl_one (h1 : ∀ r, ∀ u ∈ cs r, u.oneCell' = true) (rs : List α) : ∀ u ∈ fl cs rs, u.oneCell' = true := by
  intro u hu
  simp only [fl, List.mem_flatMap] at hu
  obtain ⟨r, _, hr⟩ := hu
  exact h1 r u hr
/-- A row of structs, read at a place. -/
theorem RV.flat (hN : ∀ r, (cs r).length = N) (h0 : 0 < N) {w : World} {B : Nat} {A : Option Addr} {rs : List α} (h : RV w B A (fl cs rs)) {i : Nat} (hi : i < rs.length) : ∃ g o, A = some ⟨g, o, none⟩ ∧ g < B ∧ w.rangeAt g (o + i * N) (cs rs[i]) := by
  obtain ⟨g, o, e, hg, hc⟩ := h (by rw [fl_length hN]; exact Nat.mul_pos (by omega) h0)
  refine ⟨g, o, e, hg, fun j v hv => ?_⟩
  have hj : j < N := by
    have := (List.getElem?_eq_some_iff.1 hv).1
    rwa [hN] at this
  rw [Nat.add_assoc]
  exact hc _ _ ((fl_get hN rs i j hi hj).trans hv)
/-- A row of structs that came in. -/
structure FIn (cs : α → List Value) (w : World) (A : Option Addr) (n c : Nat) (rs : List α) : Prop where
  len : rs.length = n
  cap : n ≤ c
  big : c ≤ maxLen
  row : RV w w.heap.size A (fl cs rs)
end

/-- The list with vs stored from place j on. -/
def putL : List Value → Nat → List Value → List Value
  | xs, _, [] => xs
  | xs, j, v :: vs => putL (xs.set j v) (j + 1) vs
theorem putL_mid (vs : List Value) : ∀ (a b c : List Value), b.length = vs.length → putL (a ++ b ++ c) a.length vs = a ++ vs ++ c := by
  induction vs with
  | nil =>
    intro a b c hb
    simp at hb
    subst hb
    simp [putL]
  | cons v vs ih =>
    intro a b c hb
    cases b with
    | nil => simp at hb
    | cons x b =>
      simp at hb
      rw [putL, List.append_assoc, List.cons_append, set_mid a x v (b ++ c) a.length rfl]
      have := ih (a ++ [v]) b c hb
      simpa using this
theorem putL_length (vs : List Value) : ∀ (xs : List Value) (j : Nat), (putL xs j vs).length = xs.length := by
  induction vs with
  | nil => intro xs j; rfl
  | cons v vs ih => intro xs j; rw [putL, ih, List.length_set]
theorem putL_at {k : Nat} (vs : List Value) (a b c : List Value) (hb : b.length = vs.length) (hk : a.length = k) : putL (a ++ b ++ c) k vs = a ++ vs ++ c := by
  subst hk
  exact putL_mid vs a b c hb
theorem own_putCells {base g cap n size : Nat} {e : TypeId} (vs : List Value) : ∀ (w : World) (j : Nat) (xs : List Value), w.ownsRow base e size (.slice (some ⟨g, 0, none⟩) n cap) n xs → (w.setCells g j vs).ownsRow base e size (.slice (some ⟨g, 0, none⟩) n cap) n (putL xs j vs) := by
  induction vs with
  | nil => intro w j xs h; exact h
  | cons v vs ih => intro w j xs h; exact ih _ _ _ (h.stored j v).1
theorem grown_putCells (g : Nat) (vs : List Value) : ∀ (w : World) (j : Nat), w.grownBy (w.setCells g j vs) (some g) := by
  induction vs with
  | nil => intro w j; exact ⟨rfl, rfl, rfl, Nat.le_refl _, fun _ _ _ => rfl⟩
  | cons v vs ih =>
    intro w j
    exact grownBy_trans (⟨rfl, rfl, rfl, by simp, fun k _ hk => heap_setCell_other w ⟨g, j, none⟩ k v (fun e => hk (by simp [e]))⟩ : w.grownBy (w.setCell ⟨g, j, none⟩ v) (some g)) (ih _ _)
theorem grown_setCell1 (w : World) (g j : Nat) (v : Value) : w.grownBy (w.setCell ⟨g, j, none⟩ v) (some g) := ⟨rfl, rfl, rfl, by simp, fun k _ hk => heap_setCell_other w ⟨g, j, none⟩ k v (fun e => hk (by simp [e]))⟩
theorem there_of_own {w : World} {base g cap n size : Nat} {e : TypeId} {xs : List Value} (h : w.ownsRow base e size (.slice (some ⟨g, 0, none⟩) n cap) n xs) (o k : Nat) (hk : o + k ≤ n * size) : w.there g o k := by
  intro j hj
  refine ⟨?_, h.frozenAt _⟩
  rw [h.cellAt (o + j) (by omega), List.getElem?_eq_getElem (by rw [h.1]; omega)]
  rfl
theorem cell_of_own {w : World} {base g cap n size : Nat} {e : TypeId} {xs : List Value} (h : w.ownsRow base e size (.slice (some ⟨g, 0, none⟩) n cap) n xs) (o : Nat) (ho : o < n * size) : ∃ u, w.cell? ⟨g, o, none⟩ = some u := by
  rw [h.cellAt o ho, List.getElem?_eq_getElem (by rw [h.1]; exact ho)]
  exact ⟨_, rfl⟩
theorem set_flat {α : Type} {cs : α → List Value} {N : Nat} (hN : ∀ r, (cs r).length = N) (ps qs : List α) (z r : α) (k : Nat) (hk : ps.length = k) : putL (fl cs (ps ++ z :: qs)) (k * N) (cs r) = fl cs (ps ++ r :: qs) := by
  rw [fl_append, fl_append, fl_cons, fl_cons, ← List.append_assoc, ← List.append_assoc]
  exact putL_at (cs r) (fl cs ps) (cs z) (fl cs qs) (by rw [hN, hN]) (by rw [fl_length hN, hk])
theorem zeros_flat {α : Type} {cs : α → List Value} {N : Nat} (hN : ∀ r, (cs r).length = N) (h0 : 0 < N) (z : α) (zs : Array Value) (hz : zs.toList = cs z) (n : Nat) : (madeCells zs (n * N)).toList = fl cs (List.replicate n z) := by
  have hsz : zs.size = N := by rw [← Array.length_toList, hz, hN]
  apply List.ext_getElem?
  intro i
  simp only [madeCells, Array.toList_map, Array.toList_range, List.getElem?_map]
  by_cases h : i < n * N
  · rw [List.getElem?_range h]
    have hd : i / N < n := Nat.div_lt_of_lt_mul (by rw [Nat.mul_comm]; exact h)
    have hm : i % N < N := Nat.mod_lt _ h0
    have e2 : i / N * N + i % N = i := by rw [Nat.mul_comm]; exact Nat.div_add_mod i N
    have h4 := fl_get hN (List.replicate n z) (i / N) (i % N) (by simpa using hd) hm
    rw [e2] at h4
    rw [h4]
    simp only [List.getElem_replicate, ← hz, Option.map_some, hsz]
    rw [Array.getElem?_toList, Array.getElem?_eq_getElem (by omega), getElem!_pos zs (i % N) (by omega)]
  · rw [List.getElem?_eq_none (show (List.range (n * N)).length ≤ i by simp; omega), List.getElem?_eq_none (show (fl cs (List.replicate n z)).length ≤ i by rw [fl_length hN]; simp; omega)]
    rfl

/-- What the laws' marks are: a whole number, or (at true) whether it can be divided by three. -/
def markV (b : Bool) (k : Int) : Value := if b then .bool (decide (k % 3 = 0)) else .int .i64 k
def markL : List Bool → Int → List Value
  | [], _ => []
  | b :: bs, k => markV b k :: markL bs (k + 1)
/-- The marks of n structs whose fields are of the kinds bs. -/
def marksN (bs : List Bool) : Nat → Int → List Value
  | 0, _ => []
  | n + 1, k => marksN bs n k ++ markL bs (k + n * bs.length)
theorem markL_length (bs : List Bool) : ∀ k, (markL bs k).length = bs.length := by
  induction bs with
  | nil => intro k; rfl
  | cons b bs ih => intro k; simp [markL, ih]
theorem marksN_length (bs : List Bool) (n : Nat) (k : Int) : (marksN bs n k).length = n * bs.length := by
  induction n with
  | zero => simp [marksN]
  | succ n ih => rw [marksN, List.length_append, ih, markL_length, Nat.succ_mul]
theorem markL_one (bs : List Bool) : ∀ k, ∀ u ∈ markL bs k, u.oneCell' = true := by
  induction bs with
  | nil => intro k u hu; simp [markL] at hu
  | cons b bs ih =>
    intro k u hu
    simp only [markL, List.mem_cons] at hu
    rcases hu with rfl | hu
    · cases b <;> rfl
    · exact ih _ u hu
theorem marksN_get (bs : List Bool) (n i : Nat) (k : Int) (hi : i < n) (j : Nat) (hj : j < bs.length) : (marksN bs n k)[i * bs.length + j]? = (markL bs (k + i * bs.length))[j]? := by
  induction n with
  | zero => omega
  | succ n ih =>
    rw [marksN]
    by_cases h : i < n
    · rw [List.getElem?_append_left (by rw [marksN_length]; have := Nat.mul_le_mul_right bs.length (show i + 1 ≤ n from h); rw [Nat.succ_mul] at this; omega)]
      exact ih h
    · obtain rfl : i = n := by omega
      rw [List.getElem?_append_right (by rw [marksN_length]; omega), marksN_length, Nat.add_sub_cancel_left]
theorem drop_next {α : Type} (xs : List α) (j N : Nat) : xs.drop ((j + 1) * N) = (xs.drop (j * N)).drop N := by
  rw [List.drop_drop, Nat.succ_mul]
/-- One struct more is marked. -/
theorem mark_next {base g cap n N : Nat} {e : TypeId} {w : World} {bs : List Bool} {xs : List Value} {j : Nat} {k0 : Int} (hl : xs.length = n * N) (hN : bs.length = N) (hlt : j < n)
    (h : w.ownsRow base e N (.slice (some ⟨g, 0, none⟩) n cap) n (putL (marksN bs j k0 ++ xs.drop (j * N)) (j * N) (markL bs (k0 + j * N)))) : w.ownsRow base e N (.slice (some ⟨g, 0, none⟩) n cap) n (marksN bs (j + 1) k0 ++ xs.drop ((j + 1) * N)) := by
  subst hN
  have hle : j * bs.length + bs.length ≤ n * bs.length := by rw [← Nat.succ_mul]; exact Nat.mul_le_mul_right _ hlt
  have Q := putL_at (markL bs (k0 + j * bs.length)) (marksN bs j k0) ((xs.drop (j * bs.length)).take bs.length) (xs.drop ((j + 1) * bs.length)) (by rw [markL_length, List.length_take, List.length_drop, hl]; omega) (by rw [marksN_length] : (marksN bs j k0).length = j * bs.length)
  rw [List.append_assoc, drop_next, List.take_append_drop] at Q
  rw [drop_next, marksN, ← Q]
  exact h
theorem RV.marks {w : World} {B : Nat} {A : Option Addr} {bs : List Bool} {n : Nat} {k : Int} (h : RV w B A (marksN bs n k)) (h0 : 0 < bs.length) {i : Nat} (hi : i < n) : ∃ g o, A = some ⟨g, o, none⟩ ∧ g < B ∧ w.rangeAt g (o + i * bs.length) (markL bs (k + i * bs.length)) := by
  obtain ⟨g, o, e, hg, hc⟩ := h (by rw [marksN_length]; exact Nat.mul_pos (by omega) h0)
  refine ⟨g, o, e, hg, fun j v hv => ?_⟩
  have hj : j < bs.length := by
    have := (List.getElem?_eq_some_iff.1 hv).1
    rwa [markL_length] at this
  rw [Nat.add_assoc]
  exact hc _ _ ((marksN_get bs n i k hi j hj).trans hv)
theorem grown_refl (w : World) (row : Option Nat) : w.grownBy w row := ⟨rfl, rfl, rfl, Nat.le_refl _, fun _ _ _ => rfl⟩
theorem ret_eq {a b : Int} (h : a = b) : (Value.int .i64 a) = .int .i64 b := by rw [h]
theorem World.rangeAt.at {w : World} {g o : Nat} {cs : List Value} (h : w.rangeAt g o cs) (j : Nat) (v : Value) (hv : cs[j]? = some v) : w.cell? ⟨g, o + j, none⟩ = some v := h j v hv
end Go.Proofs.Ytmfkpiclpkeemaa
