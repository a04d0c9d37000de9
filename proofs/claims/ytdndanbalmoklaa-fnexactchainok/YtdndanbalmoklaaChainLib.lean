/-
  When a chain of modules is valid, as plain data.
-/
import Derived.Test.YtdndanbalmoklaaMoOkLib
namespace Go.Proofs.Ytdndanbalmoklaa
set_option maxRecDepth 100000
open Go.RowKit

def chainOk (rs : List Mo) : Bool := decide (rs.length ≤ 8) && rs.all Mo.ok
theorem all_ok_succ {rs : List Mo} {k : Nat} (h : k < rs.length) : (rs.take (k + 1)).all Mo.ok = ((rs.take k).all Mo.ok && rs[k].ok) := by
  rw [take_snoc rs k h, List.all_append]
  simp
theorem all_ok_bad {rs : List Mo} {k : Nat} (h : k < rs.length) (hb : rs[k].ok = false) : rs.all Mo.ok = false := by
  rw [List.all_eq_false]
  exact ⟨rs[k], List.getElem_mem h, by simp [hb]⟩
theorem chainOk_long {rs : List Mo} (h : 8 < rs.length) : chainOk rs = false := by simp [chainOk]; omega
theorem chainOk_short {rs : List Mo} (h : rs.length ≤ 8) : chainOk rs = rs.all Mo.ok := by simp [chainOk, h]
theorem chainOk_at {rs : List Mo} (h : chainOk rs = true) {k : Nat} (hk : k < rs.length) : rs[k].ok = true := by
  simp [chainOk] at h
  exact h.2 _ (List.getElem_mem hk)
theorem chainOk_len {rs : List Mo} (h : chainOk rs = true) : rs.length ≤ 8 := by
  simp [chainOk] at h
  exact h.1
end Go.Proofs.Ytdndanbalmoklaa
