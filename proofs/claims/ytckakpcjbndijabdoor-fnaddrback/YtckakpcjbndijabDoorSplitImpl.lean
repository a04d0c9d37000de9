/-
  strings.Split and strings.Contains at a separator of one byte, in the words of the reading.
-/
import Derived.Test.YtckakpcjbndijabDoorShelf2
import Derived.Test.YtckakpcjbndijabDoorReadLib2
import Derived.Test.YtckakpcjbndijabDoorTextImpl
namespace Go.Proofs.YtckakpcjbndijabDoor
open Go.RowKit

set_option maxRecDepth 100000 in
theorem index_one (c : UInt8) : ∀ l : List UInt8, (Lib.index l [c] = -1 ∧ c ∉ l) ∨ ∃ a r, l = a ++ c :: r ∧ c ∉ a ∧ Lib.index l [c] = (a.length : Int) := by
  intro l
  induction l with
  | nil => exact .inl ⟨by simp [Lib.index], by simp⟩
  | cons b l ih =>
    by_cases h : b = c
    · subst h
      exact .inr ⟨[], l, rfl, by simp, by simp [Lib.index]⟩
    · have hp : ([c] : List UInt8).isPrefixOf (b :: l) = false := by simp [List.isPrefixOf, Ne.symm h]
      rcases ih with ⟨h1, h2⟩ | ⟨a, r, rfl, h2, h3⟩
      · refine .inl ⟨?_, by simp [h2, Ne.symm h]⟩
        rw [Lib.index, hp, h1]
        rfl
      · refine .inr ⟨b :: a, r, rfl, by simp [h2, Ne.symm h], ?_⟩
        rw [Lib.index, hp, h3]
        have : ¬ (((a.length : Int) == -1) = true) := by simp
        rw [if_neg (by simp), if_neg this]
        simp
set_option maxRecDepth 100000 in
theorem indexByte_mem (c : UInt8) : ∀ l : List UInt8, decide (0 ≤ Lib.indexByte l c) = decide (c ∈ l) := by
  intro l
  induction l with
  | nil => simp [Lib.indexByte]
  | cons b l ih =>
    have hge := Lib.indexByte_ge l c
    have ih2 : (0 ≤ Lib.indexByte l c) ↔ c ∈ l := by simpa using ih
    rw [Lib.indexByte]
    by_cases h : b = c
    · subst h
      simp
    · rw [if_neg (by simpa using h)]
      by_cases h2 : Lib.indexByte l c = -1
      · have : ¬ c ∈ l := fun hm => by have := ih2.2 hm; omega
        simp [h2, this, Ne.symm h]
      · have h3 : c ∈ l := ih2.1 (by omega)
        rw [if_neg (by simpa using h2)]
        simp [h3]
        omega
set_option maxRecDepth 100000 in
theorem splitK_C (c : UInt8) : ∀ (n : Nat) (l : List UInt8), l.length ≤ n → Lib.splitK [c] 0 (Lib.count l [c]) l = splitC c l ∧ (splitC c l).length = Lib.count l [c] + 1 := by
  intro n
  induction n with
  | zero =>
    intro l h
    obtain rfl : l = [] := List.eq_nil_of_length_eq_zero (by omega)
    have e : Lib.count [] [c] = 0 := Lib.count_miss (by simp [Lib.index])
    rw [e]
    exact ⟨rfl, rfl⟩
  | succ n ih =>
    intro l h
    rcases index_one c l with ⟨h1, h2⟩ | ⟨a, r, rfl, h2, h3⟩
    · rw [Lib.count_miss h1, split_one c l h2]
      exact ⟨rfl, rfl⟩
    · have e := Lib.count_hit (by simp) h3
      have ed : (a ++ c :: r).drop (a.length + [c].length) = r := by simp
      have et : (a ++ c :: r).take (a.length + 0) = a := by simp
      rw [ed] at e
      obtain ⟨i1, i2⟩ := ih r (by simp at h; omega)
      rw [split_cut c r a h2, e, Nat.add_comm 1, Lib.splitK, h3]
      have hn : ¬ (((a.length : Int) == -1) = true) := by simp
      rw [if_neg hn, Int.toNat_natCast, ed, et, i1]
      exact ⟨rfl, by rw [List.length_cons, i2]⟩
set_option maxRecDepth 100000 in
theorem split_size (c : UInt8) (l : List UInt8) : ∀ p ∈ splitC c l, p.length ≤ l.length := by
  induction l with
  | nil => intro p hp; simp [splitC] at hp; simp [hp]
  | cons b l ih =>
    intro p hp
    by_cases h : b = c
    · subst h
      rw [splitC_hit] at hp
      rcases List.mem_cons.1 hp with h1 | h1
      · simp [h1]
      · have := ih p h1
        simp; omega
    · obtain ⟨q, qs, e⟩ := splitC_cons c l
      rw [splitC_other c b l q qs h e] at hp
      rw [e] at ih
      rcases List.mem_cons.1 hp with h1 | h1
      · have := ih q (by simp)
        rw [h1]; simp; omega
      · have := ih p (by simp [h1])
        simp; omega

/-- What the parts of a text lie in. -/
def SplitOut (ps : List (List UInt8)) (w : World) (e : Ending) (w' : World) : Prop :=
  ∃ g, e = .returned (.slice (some ⟨g, 0, none⟩) ps.length ps.length) ∧ (∀ (j : Nat) (p : List UInt8), ps[j]? = some p → w'.cell? ⟨g, j, none⟩ = some (.string (strOf p))) ∧ Below w.heap.size w w'
set_option maxRecDepth 100000 in
theorem splitCall (c : UInt8) (s : ByteArray) (m : Int) (w : World) (hs : s.size ≤ 1048576) (hm : w.cell? ⟨1, 0, none⟩ = some (.int .i64 m)) : Calls Tryd.prog 67 #[.string s, .string ⟨#[c]⟩] w (SplitOut (splitC c s.data.toList) w) := by
  refine (Tryd.strings_Split s ⟨#[c]⟩ m w (by omega) hm (by simp [ByteArray.size])).mono ?_
  rintro e w' ⟨rfl, rfl⟩
  obtain ⟨h1, h2⟩ := splitK_C c _ s.data.toList (Nat.le_refl _)
  have e1 : (Lib.splitB ⟨#[c]⟩ 0 (Lib.countB s ⟨#[c]⟩) s).map (·.data.toList) = splitC c s.data.toList := (Lib.splitB_data _ _ _ _).trans h1
  refine ⟨w.heap.size, by rw [h2], fun j p hp => ?_, Joins.below_alloc1 w _⟩
  rw [cell_of_row _ w.heap.size j _ 9 (0, 0) (heap_alloc_new w _)]
  rw [← e1, List.getElem?_map, Option.map_eq_some_iff] at hp
  obtain ⟨b, hb, rfl⟩ := hp
  rw [List.getElem?_toArray, List.getElem?_map, hb]
  rfl
set_option maxRecDepth 100000 in
theorem containsCall (c : UInt8) (s : ByteArray) (w : World) : Calls Tryd.prog 39 #[.string s, .string ⟨#[c]⟩] w fun e w' => e = .returned (.bool (decide (c ∈ s.data.toList))) ∧ w' = w := by
  rw [← indexByte_mem]
  exact Tryd.strings_Contains_one s c w

/-- What a reading of an address answers. -/
def ReadOut (r : Option Ad) (w : World) (e : Ending) (w' : World) : Prop := e = .returned (.tuple #[.agg #[.int .i64 (r.getD Ad.zero).k, .int .i64 (r.getD Ad.zero).a, .int .i64 (r.getD Ad.zero).b, .int .i64 (r.getD Ad.zero).c, .int .i64 (r.getD Ad.zero).d], .bool r.isSome]) ∧ Below w.heap.size w w'
set_option maxRecDepth 100000 in
theorem readOut_no {r : Option Ad} {w w' : World} (h : r = none) (hb : Below w.heap.size w w') : ReadOut r w (.returned (.tuple #[.agg #[.int .i64 0, .int .i64 0, .int .i64 0, .int .i64 0, .int .i64 0], .bool false])) w' := by
  subst h
  exact ⟨rfl, hb⟩
set_option maxRecDepth 100000 in
theorem readOut_yes {r : Option Ad} {y : Ad} {w w' : World} (h : r = some y) (hb : Below w.heap.size w w') : ReadOut r w (.returned (.tuple #[.agg #[.int .i64 y.k, .int .i64 y.a, .int .i64 y.b, .int .i64 y.c, .int .i64 y.d], .bool true])) w' := by
  subst h
  exact ⟨rfl, hb⟩
end Go.Proofs.YtckakpcjbndijabDoor
