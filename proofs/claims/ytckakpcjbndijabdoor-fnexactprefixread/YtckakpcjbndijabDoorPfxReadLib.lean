/-
  Reading a prefix: plain, and the shapes of its result.
-/
import Derived.Test.YtckakpcjbndijabDoorReadLib3
import Derived.Test.YtckakpcjbndijabDoorSplitImpl
import Derived.Test.YtckakpcjbndijabDoorPfxText
namespace Go.Proofs.YtckakpcjbndijabDoor
open Go.RowKit

/-- What an address's text and a length's text are read as. -/
def pfOf (a r : List UInt8) : Pf := ⟨(rdA a).getD Ad.zero, numR r⟩
def rdQ (a r : List UInt8) : Option Pf := if (rdA a).isSome = true ∧ okNum r = true ∧ (pfOf a r).ok = true then some (pfOf a r) else none
def cutA (s : List UInt8) : List UInt8 := (Lib.cut s [47]).1
def cutR (s : List UInt8) : List UInt8 := (Lib.cut s [47]).2.1
/-- What a prefix's text is read as. -/
def rdP (s : List UInt8) : Option Pf := if s = [97, 110, 121] then some Pf.zero else rdQ (cutA s) (cutR s)
set_option maxRecDepth 100000 in
theorem rdQ_no1 {a r : List UInt8} (h : (rdA a).isSome = false) : rdQ a r = none := by simp [rdQ, h]
set_option maxRecDepth 100000 in
theorem rdQ_no2 {a r : List UInt8} (h : okNum r = false) : rdQ a r = none := by simp [rdQ, h]
set_option maxRecDepth 100000 in
theorem rdQ_no3 {a r : List UInt8} (h : (pfOf a r).ok = false) : rdQ a r = none := by simp [rdQ, h]
set_option maxRecDepth 100000 in
theorem rdQ_yes {a r : List UInt8} (h1 : (rdA a).isSome = true) (h2 : okNum r = true) (h3 : (pfOf a r).ok = true) : rdQ a r = some (pfOf a r) := by simp [rdQ, h1, h2, h3]
set_option maxRecDepth 100000 in
theorem cut_cases (s : List UInt8) : (47 ∉ s ∧ cutA s = s ∧ cutR s = []) ∨ ∃ a r, s = a ++ 47 :: r ∧ 47 ∉ a ∧ cutA s = a ∧ cutR s = r := by
  rcases index_one 47 s with ⟨h1, h2⟩ | ⟨a, r, rfl, h2, h3⟩
  · exact .inl ⟨h2, by simp [cutA, Lib.cut, h1], by simp [cutR, Lib.cut, h1]⟩
  · refine .inr ⟨a, r, rfl, h2, ?_, ?_⟩
    · simp [cutA, Lib.cut, h3]
    · simp [cutR, Lib.cut, h3]
set_option maxRecDepth 100000 in
theorem okNum_dig_all {r : List UInt8} (h : okNum r = true) : r.all isDig = true := by
  simp only [okNum, Bool.and_eq_true] at h
  exact h.1.2
set_option maxRecDepth 100000 in
theorem okNum_no47 {r : List UInt8} (h : (47 : UInt8) ∈ r) : okNum r = false := by
  cases e : okNum r
  · rfl
  · have := List.all_eq_true.1 (okNum_dig_all e) 47 h
    simp [isDig] at this
set_option maxRecDepth 100000 in
theorem okNum_nil : okNum [] = false := rfl
set_option maxRecDepth 100000 in
theorem rdQ_none_of {a r : List UInt8} (h : ∀ x, rdA a = some x → okNum r = true → (pfOf a r).ok = true → False) : rdQ a r = none := by
  cases e1 : rdA a with
  | none => exact rdQ_no1 (by rw [e1]; rfl)
  | some x =>
    cases e2 : okNum r
    · exact rdQ_no2 e2
    · cases e3 : (pfOf a r).ok
      · exact rdQ_no3 e3
      · exact (h x e1 e2 e3).elim
set_option maxRecDepth 100000 in
theorem rdA_len {a : List UInt8} {x : Ad} (h : rdA a = some x) : a.length ≤ 39 := by
  by_cases hl : 39 < a.length
  · rw [read_long hl] at h
    cases h
  · omega
set_option maxRecDepth 100000 in
theorem num_short {r : List UInt8} (h : okNum r = true) (hv : numR r ≤ 128) : r.length ≤ 3 := by
  have e : numR r = (val r : Int) := by rw [numR, h]; rfl
  rw [e] at hv
  simp only [okNum, Bool.and_eq_true, decide_eq_true_eq, Bool.or_eq_true, ne_eq] at h
  have e2 := numText_val r h.1.2 h.1.1.1 h.2
  have := numText_len (val r : Int) (by omega) hv
  rw [e2] at this
  exact this
set_option maxRecDepth 100000 in
theorem rdP_any {s : List UInt8} (h : s = [97, 110, 121]) : rdP s = some Pf.zero := if_pos h
set_option maxRecDepth 100000 in
theorem rdP_else {s : List UInt8} (h : ¬ s = [97, 110, 121]) : rdP s = rdQ (cutA s) (cutR s) := if_neg h
set_option maxRecDepth 100000 in
theorem rdP_long {s : List UInt8} (h : ¬ s = [97, 110, 121]) (hl : 43 < s.length) : rdP s = none := by
  rw [rdP_else h]
  refine rdQ_none_of fun x e1 e2 e3 => ?_
  have h1 := rdA_len e1
  have h2 := (Pf.ok_len e3).2
  have h3 := num_short e2 h2
  rcases cut_cases s with ⟨_, _, hr⟩ | ⟨a, r, rfl, _, ha, hr⟩
  · rw [hr, okNum_nil] at e2
    cases e2
  · rw [ha] at h1
    rw [hr] at h3
    simp at hl
    omega
set_option maxRecDepth 100000 in
theorem rdP_parts {s : List UInt8} (h : ¬ s = [97, 110, 121]) (hl : ¬ (splitC 47 s).length = 2) : rdP s = none := by
  rw [rdP_else h]
  rcases cut_cases s with ⟨_, _, hr⟩ | ⟨a, r, rfl, h2, ha, hr⟩
  · rw [hr]
    exact rdQ_no2 okNum_nil
  · rw [hr]
    refine rdQ_no2 (okNum_no47 ?_)
    rw [split_cut 47 r a h2] at hl
    by_cases hm : (47 : UInt8) ∈ r
    · exact hm
    · rw [split_one 47 r hm] at hl
      exact absurd rfl hl
set_option maxRecDepth 100000 in
theorem rdP_two {s : List UInt8} (hl : (splitC 47 s).length = 2) : splitC 47 s = [cutA s, cutR s] := by
  rcases cut_cases s with ⟨h2, _, _⟩ | ⟨a, r, rfl, h2, ha, hr⟩
  · rw [split_one 47 s h2] at hl
    cases hl
  · rw [split_cut 47 r a h2] at hl
    rw [split_cut 47 r a h2, ha, hr]
    by_cases hm : (47 : UInt8) ∈ r
    · obtain ⟨a2, r2, e, h3⟩ : ∃ a2 r2, r = a2 ++ 47 :: r2 ∧ 47 ∉ a2 := by
        rcases index_one 47 r with ⟨_, hn⟩ | ⟨a2, r2, e, h3, _⟩
        · exact absurd hm hn
        · exact ⟨a2, r2, e, h3⟩
      rw [e, split_cut 47 r2 a2 h3] at hl
      have := split_len_pos 47 r2
      simp only [List.length_cons] at hl
      omega
    · rw [split_one 47 r hm]
set_option maxRecDepth 100000 in
theorem cut_size (s : List UInt8) : (cutA s).length ≤ s.length ∧ (cutR s).length ≤ s.length := by
  rcases cut_cases s with ⟨_, ha, hr⟩ | ⟨a, r, rfl, _, ha, hr⟩
  · rw [ha, hr]; simp
  · rw [ha, hr]; simp; omega

def PReadOut (r : Option Pf) (w : World) (e : Ending) (w' : World) : Prop := e = .returned (.tuple #[.agg #[.int .i64 (r.getD Pf.zero).base.k, .int .i64 (r.getD Pf.zero).base.a, .int .i64 (r.getD Pf.zero).base.b, .int .i64 (r.getD Pf.zero).base.c, .int .i64 (r.getD Pf.zero).base.d, .int .i64 (r.getD Pf.zero).len], .bool r.isSome]) ∧ Below w.heap.size w w'
set_option maxRecDepth 100000 in
theorem preadOut_no {r : Option Pf} {w w' : World} (h : r = none) (hb : Below w.heap.size w w') : PReadOut r w (.returned (.tuple #[.agg #[.int .i64 0, .int .i64 0, .int .i64 0, .int .i64 0, .int .i64 0, .int .i64 0], .bool false])) w' := by
  subst h
  exact ⟨rfl, hb⟩
set_option maxRecDepth 100000 in
theorem preadOut_yes {r : Option Pf} {y : Pf} {w w' : World} (h : r = some y) (hb : Below w.heap.size w w') : PReadOut r w (.returned (.tuple #[.agg #[.int .i64 y.base.k, .int .i64 y.base.a, .int .i64 y.base.b, .int .i64 y.base.c, .int .i64 y.base.d, .int .i64 y.len], .bool true])) w' := by
  subst h
  exact ⟨rfl, hb⟩
set_option maxRecDepth 100000 in
theorem preadOut_any {r : Option Pf} {w w' : World} (h : r = some Pf.zero) (hb : Below w.heap.size w w') : PReadOut r w (.returned (.tuple #[.agg #[.int .i64 0, .int .i64 0, .int .i64 0, .int .i64 0, .int .i64 0, .int .i64 0], .bool true])) w' := by
  subst h
  exact ⟨rfl, hb⟩

set_option maxRecDepth 100000 in
/-- The cells of a block of six that may be written. -/
theorem row6 {w : World} {g : Nat} {v0 v1 v2 v3 v4 v5 : Value} {t : TypeId} (h : w.heap[g]? = some (.cells #[v0, v1, v2, v3, v4, v5] t (0, 0))) :
    (w.cell? ⟨g, 0, none⟩ = some v0 ∧ w.cell? ⟨g, 1, none⟩ = some v1 ∧ w.cell? ⟨g, 2, none⟩ = some v2 ∧ w.cell? ⟨g, 3, none⟩ = some v3 ∧ w.cell? ⟨g, 4, none⟩ = some v4 ∧ w.cell? ⟨g, 5, none⟩ = some v5) ∧
      (w.frozen? ⟨g, 0, none⟩ = false ∧ w.frozen? ⟨g, 1, none⟩ = false ∧ w.frozen? ⟨g, 2, none⟩ = false ∧ w.frozen? ⟨g, 3, none⟩ = false ∧ w.frozen? ⟨g, 4, none⟩ = false ∧ w.frozen? ⟨g, 5, none⟩ = false) :=
  ⟨⟨cell_of_row w g 0 _ _ _ h, cell_of_row w g 1 _ _ _ h, cell_of_row w g 2 _ _ _ h, cell_of_row w g 3 _ _ _ h, cell_of_row w g 4 _ _ _ h, cell_of_row w g 5 _ _ _ h⟩,
    ⟨frozen_of_row w g 0 _ _ h, frozen_of_row w g 1 _ _ h, frozen_of_row w g 2 _ _ h, frozen_of_row w g 3 _ _ h, frozen_of_row w g 4 _ _ h, frozen_of_row w g 5 _ _ h⟩⟩
set_option maxRecDepth 100000 in
theorem set6 {w : World} {g : Nat} {a0 a1 a2 a3 a4 a5 : Value} {t : TypeId} (v0 v1 v2 v3 v4 v5 : Value) (h : w.heap[g]? = some (.cells #[a0, a1, a2, a3, a4, a5] t (0, 0))) :
    ((((((w.setCell ⟨g, 0, none⟩ v0).setCell ⟨g, 1, none⟩ v1).setCell ⟨g, 2, none⟩ v2).setCell ⟨g, 3, none⟩ v3).setCell ⟨g, 4, none⟩ v4).setCell ⟨g, 5, none⟩ v5).heap[g]? = some (.cells #[v0, v1, v2, v3, v4, v5] t (0, 0)) :=
  heap_setCell_same _ g 5 #[v0, v1, v2, v3, v4, a5] t v5 (heap_setCell_same _ g 4 #[v0, v1, v2, v3, a4, a5] t v4 (heap_setCell_same _ g 3 #[v0, v1, v2, a3, a4, a5] t v3 (heap_setCell_same _ g 2 #[v0, v1, a2, a3, a4, a5] t v2 (heap_setCell_same _ g 1 #[v0, a1, a2, a3, a4, a5] t v1 (heap_setCell_same _ g 0 _ t v0 h)))))
set_option maxRecDepth 100000 in
theorem below6 {w a : World} {g : Nat} {v0 v1 v2 v3 v4 v5 : Value} (h : Below w.heap.size w a) (hg : w.heap.size ≤ g) : Below w.heap.size w ((((((a.setCell ⟨g, 0, none⟩ v0).setCell ⟨g, 1, none⟩ v1).setCell ⟨g, 2, none⟩ v2).setCell ⟨g, 3, none⟩ v3).setCell ⟨g, 4, none⟩ v4).setCell ⟨g, 5, none⟩ v5) :=
  (((((h.setCell (p := ⟨g, 0, none⟩) hg _).setCell (p := ⟨g, 1, none⟩) hg _).setCell (p := ⟨g, 2, none⟩) hg _).setCell (p := ⟨g, 3, none⟩) hg _).setCell (p := ⟨g, 4, none⟩) hg _).setCell (p := ⟨g, 5, none⟩) hg _
set_option maxRecDepth 100000 in
theorem info_pfx : (Tryd.prog.info? 36).map (·.size) = some 6 := by kernel_rfl
set_option maxRecDepth 100000 in
theorem cutCall (s : ByteArray) (m : Int) (w : World) (hs : s.size ≤ 1048576) (hm : w.cell? ⟨1, 0, none⟩ = some (.int .i64 m)) : Calls Tryd.prog 45 #[.string s, .string ⟨#[47]⟩] w fun e w' => ∃ b, e = .returned (.tuple #[.string (strOf (cutA s.data.toList)), .string (strOf (cutR s.data.toList)), .bool b]) ∧ Below w.heap.size w w' := by
  refine (Tryd.strings_Cut s ⟨#[47]⟩ m w (by omega) hm).mono ?_
  rintro e w' ⟨rfl, n, rfl⟩
  exact ⟨_, rfl, below_drewN (Below.refl _ _) _⟩
end Go.Proofs.YtckakpcjbndijabDoor
