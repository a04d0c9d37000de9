/-
  What the model's functions of chapter 2 answer.
-/
import Derived.Test.YthfmjnebpdhdfaaBytes
import Derived.Test.YthfmjnebpdhdfaaInts
import Derived.Test.YthfmjnebpdhdfaaSum
namespace Go.Proofs.Ythfmjnebpdhdfaa
set_option maxRecDepth 100000
open Go.RowKit

theorem isWord_le {n : Int} (h : isWord n = true) : decide (n ≤ 65535) = true := by
  have := isWord_iff.1 h
  simp; omega



theorem folded2 {a b : Int} (ha : isWord a = true) (hb : isWord b = true) : folded [a, b] = sadd a b := by
  rw [folded_yes (by simp [ha, hb]), sums, List.foldl_cons, sadd_zero ha]
  rfl











end Go.Proofs.Ythfmjnebpdhdfaa
