/-
  What the laws' own four helpers on slices of bytes do: a copy, a comparison, a marking, a look at the marks.
-/
import Derived.Test.YtmfkpiclpkeemaaApp
import Derived.Deep.QuietTactic
import Derived.BigQuiet
namespace Go.Proofs.Ytmfkpiclpkeemaa
set_option maxRecDepth 100000
open Go.RowKit





/-- The byte that the marking lays at place i, counted from k on. -/
def mark (k i : Nat) : UInt8 := UInt8.ofNat (k + i)
def marks (k n : Nat) : List UInt8 := (List.range n).map (mark k)
theorem marks_length (k n : Nat) : (marks k n).length = n := by simp [marks]
theorem marks_take (k n i : Nat) (h : i ≤ n) : (marks k n).take i = marks k i := by simp [marks, List.take_range, ← List.map_take, show min i n = i by omega]
theorem marks_succ (k i : Nat) : marks k (i + 1) = marks k i ++ [mark k i] := by simp [marks, List.range_succ]
theorem mark_val (k i : Nat) : ((mark k i).toNat : Int) = ((k : Int) + i) % 256 := by simp [mark]

theorem mark_step (k j : Nat) (bs : List UInt8) (h : j < bs.length) :
    (cellsOf (marks k j ++ bs.drop j)).set j (.int .u8 (((k : Int) + j) % 256)) = cellsOf (marks k (j + 1) ++ bs.drop (j + 1)) := by
  rw [List.drop_eq_getElem_cons h, ← mark_val, fill_step _ _ _ _ j (marks_length k j), marks_succ]












end Go.Proofs.Ytmfkpiclpkeemaa
