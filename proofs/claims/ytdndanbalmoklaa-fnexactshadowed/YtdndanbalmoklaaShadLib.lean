/-
  Lists of rules: a part of a row, the places that are covered. Nothing here speaks of the program.
-/
import Derived.Test.YtdndanbalmoklaaRuList
import Derived.Test.YtdndanbalmoklaaFlatLib
namespace Go.Proofs.Ytdndanbalmoklaa
set_option maxRecDepth 100000
open Go.RowKit

theorem RV.left {w : World} {B : Nat} {A : Option Addr} {xs ys : List Value} (h : RV w B A (xs ++ ys)) : RV w B A xs := by
  intro hp
  obtain ⟨g, o, e, hg, hc⟩ := h (by rw [List.length_append]; omega)
  exact ⟨g, o, e, hg, fun j v hv => hc j v (by rw [List.getElem?_append_left (List.getElem?_eq_some_iff.1 hv).1]; exact hv)⟩
theorem RV.rtake {w : World} {B : Nat} {A : Option Addr} {rs : List Ru} (h : RV w B A (rcells rs)) (k : Nat) : RV w B A (rcells (rs.take k)) := by
  rw [← List.take_append_drop k rs, rcells_append] at h
  exact h.left
theorem darkAt_at {rs : List Ru} {i : Nat} (h : i < rs.length) : darkAt rs i = (rs.take i).any (fun r => r.covers rs[i]) := by
  simp [darkAt, List.getElem?_eq_getElem h]
theorem any_succ {rs : List Ru} {s : Ru} {j : Nat} (h : j < rs.length) : (rs.take (j + 1)).any (fun r => r.covers s) = ((rs.take j).any (fun r => r.covers s) || rs[j].covers s) := by
  rw [take_snoc rs j h, List.any_append]
  simp
theorem any_hit {rs : List Ru} {s : Ru} {j : Nat} (h : j < rs.length) (hc : rs[j].covers s = true) : rs.any (fun r => r.covers s) = true := by
  rw [List.any_eq_true]
  exact ⟨rs[j], List.getElem_mem h, hc⟩
theorem shadowed_no {rs : List Ru} (h : rulesOk rs = false) : shadowed rs = [] := by simp [shadowed, h]
theorem shadowed_yes {rs : List Ru} (h : rulesOk rs = true) : shadowed rs = darkTo rs rs.length := by simp [shadowed, h]
theorem shadowed_length (rs : List Ru) : (shadowed rs).length ≤ rs.length := by
  unfold shadowed
  split
  · exact darkTo_length rs _
  · simp
theorem shadowed_short (rs : List Ru) : (shadowed rs).length ≤ 32 := by
  cases h : rulesOk rs with
  | false => rw [shadowed_no h]; simp
  | true => exact Nat.le_trans (shadowed_length rs) (rulesOk_len h)
end Go.Proofs.Ytdndanbalmoklaa
