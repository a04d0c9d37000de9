/-
  The model's look at a range, with its answer written out.
-/
import Derived.Test.YthfmjnebpdhdfaaFourOk
namespace Go.Proofs.Ythfmjnebpdhdfaa
set_option maxRecDepth 100000
open Go.RowKit

theorem specInB (n hi : Int) (b : Bool) (w : World) (h : upTo n hi = b) : Calls Try.prog 75 #[.int .i64 n, .int .i64 hi] w fun e w' => e = .returned (.bool b) ∧ w = w' := h ▸ specIn n hi w
end Go.Proofs.Ythfmjnebpdhdfaa
