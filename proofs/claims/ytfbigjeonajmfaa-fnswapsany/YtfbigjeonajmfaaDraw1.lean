/-
  What the model draws for FnPutBe and FnHexBack.
-/
import Derived.Test.YtfbigjeonajmfaaCur3
namespace Go.Proofs.Ytfbigjeonajmfaa
open Go.RowKit

set_option maxHeartbeats 400000 in
theorem bigC (A : Option Addr) (n c : Nat) (w : World) : Calls Try.prog 12 #[.slice A n c] w fun e w' => e = .returned (.bool (decide ((1048576 : Int) < n))) ∧ w = w' := by
  go_enter Try.func12, Try.ntmps12
  go_wp2
  go_ret
  exact ⟨rfl, rfl⟩

/-- What is drawn for HexText: at most 4001 bytes, in memory of the call's own. -/
def DrewBytes (w : World) (m : Nat) (e : Ending) (w' : World) : Prop :=
  ∃ (ds : List UInt8) (D : Option Addr) (d : Nat), e = .returned (.slice D ds.length d) ∧ ds.length ≤ m ∧ w'.ownsRow w.heap.size 5 1 (.slice D ds.length d) ds.length (cellsOf ds) ∧ Below w.heap.size w w'

end Go.Proofs.Ytfbigjeonajmfaa