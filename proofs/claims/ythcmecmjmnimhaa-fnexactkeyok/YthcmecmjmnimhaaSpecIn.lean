/-
  The model's look at a range, with its answer written out.
-/
import Derived.Test.YthcmecmjmnimhaaFourOk
namespace Go.Proofs.Ythcmecmjmnimhaa
set_option maxRecDepth 100000
open Go.RowKit

theorem specInB (n hi : Int) (b : Bool) (w : World) (h : upTo n hi = b) : Calls Try.prog 39 #[.int .i64 n, .int .i64 hi] w fun e w' => e = .returned (.bool b) ∧ w = w' := h ▸ specIn n hi w
end Go.Proofs.Ythcmecmjmnimhaa
