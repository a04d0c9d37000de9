/-
  A list of rules that came in: what the walk is told of it, out of its reading.
-/
import Derived.Test.YtdndanbalmoklaaRuList
import Derived.Test.YtdndanbalmoklaaInRule
namespace Go.Proofs.Ytdndanbalmoklaa
set_option maxRecDepth 100000
open Go.RowKit Go.ChangeShapes Go.WideShapes Go.ChangeAt

theorem listedR {α : Type} (n : Nat) (P : Nat → α → Prop) (h : ∀ i, i < n → ∃ y, P i y) : ∃ ys : List α, ys.length = n ∧ ∀ i (hi : i < ys.length), P i ys[i] := by
  induction n with
  | zero => exact ⟨[], rfl, fun i hi => absurd hi (by simp)⟩
  | succ n ih =>
    obtain ⟨ys, hl, hp⟩ := ih (fun i hi => h i (by omega))
    obtain ⟨y, hy⟩ := h n (by omega)
    refine ⟨ys ++ [y], by simp [hl], fun i hi => ?_⟩
    by_cases hi2 : i < ys.length
    · rw [List.getElem_append_left hi2]
      exact hp i hi2
    · have : i = n := by simp at hi; omega
      subst this
      rw [List.getElem_append_right (by omega)]
      simpa using hy
theorem addr_addR (a : Addr) (k l : Nat) : (a.add k).add l = a.add (k + l) := by
  obtain ⟨g, o, s⟩ := a
  by_cases hk : k = 0
  · subst hk; simp [Addr.add]
  · by_cases hl : l = 0
    · subst hl; simp [Addr.add]
    · simp only [Addr.add, hk, hl, if_false, show ¬ (k + l = 0) by omega, Nat.add_assoc]
theorem addr_addN (g o j : Nat) : (⟨g, o, none⟩ : Addr).add j = ⟨g, o + j, none⟩ := Addr.add_mid g o j

theorem rules_in {H : Type} {enc : TypeId × Value → H} {w : World} {A : Option Addr} {n c : Nat} {d : DataW H} {p : List MemPlace} (h : DataW.Trod enc Try.prog w 0 (fun _ => true) true 75 (.slice A n c) d p) :
    ∃ rs, RIn w A n c rs := by
  obtain ⟨fuel, h⟩ := h
  simp only [Value.cells] at h
  rcases DataW.trod_slice Try.underlying75 h with ⟨hcs, _⟩ | ⟨a, len, cap, elems, rest, n', _, hcs, _, _, hl, hm, hlen, hel, _, _⟩
  · simp at hcs
    obtain ⟨rfl, rfl, rfl⟩ := hcs
    exact ⟨[], rfl, Nat.le_refl _, Nat.zero_le _, RV.nil_ _ _ _⟩
  · simp at hcs
    obtain ⟨rfl, rfl, rfl⟩ := hcs
    have hc2 : Try.prog.cellsOf 83 = 21 := by kernel_rfl
    have each : ∀ i, i < n → ∃ y : Ru, ∀ j v, y.cells[j]? = some v → w.cell? (a.add (i * 21 + j)) = some v := by
      intro i hi
      have h1 := hel i hi
      rw [List.getElem?_eq_getElem (by omega), hc2, Option.bind_eq_some_iff] at h1
      obtain ⟨cs, h2, h3⟩ := h1
      have hs := World.cells?_some h2
      obtain ⟨y, rfl⟩ := rule_cells h3 hs.2.1
      refine ⟨y, fun j v hv => ?_⟩
      have hj : j < 21 := by
        have := (List.getElem?_eq_some_iff.1 hv).1
        rwa [Ru.cells_length] at this
      have a0 := hs.2.2 j hj
      rw [addr_addR] at a0
      rw [a0]
      exact hv
    obtain ⟨ys, hyl, hys⟩ := listedR n _ each
    refine ⟨ys, hyl, hl, hm, fun hp => ?_⟩
    rw [rcells_length] at hp
    obtain ⟨g, o, spot⟩ := a
    have h0 := hys 0 (by omega) 0 _ rfl
    have hspot : spot = none := by simpa [Addr.add] using World.cell?_spot h0
    subst hspot
    refine ⟨g, o, rfl, ?_, fun j u hu => ?_⟩
    · have := World.block_lt_of_cell? w _ h0
      rw [addr_addN] at this
      exact this
    · have hj : j < ys.length * 21 := by
        rw [← rcells_length]
        exact (List.getElem?_eq_some_iff.1 hu).1
      have hi : j / 21 < ys.length := by omega
      have e2 : j / 21 * 21 + j % 21 = j := by omega
      have h3 := rcells_get ys (j / 21) (j % 21) hi (Nat.mod_lt _ (by omega))
      rw [e2, hu] at h3
      have h4 := hys (j / 21) hi (j % 21) u h3.symm
      rw [addr_addN, e2] at h4
      exact h4
end Go.Proofs.Ytdndanbalmoklaa
