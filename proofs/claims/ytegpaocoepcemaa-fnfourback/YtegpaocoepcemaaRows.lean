/-
  No cell of these rows narrows 'for every input' (looked for: loops, veiled, ifaces, maps, wideKeys, modest, calm, conditions, laid).
  DERIVED. THE GIVEN ROWS OF THIS SEAT. 8 by the template 'for every input the law returns true; each argument reads behind the call as it read before'; 0 by the template 'total and deterministic' (their statements: YtegpaocoepcemaaTotals.lean).
  GIVEN WITH THE SEED: the statements are not yours to turn. If you find one false, say at which input.
  Laid BY PROGRAM, IN A SANDBOX (cutbox-rows.mjs): the forced cells as the released guide's own fill.sh prints them over the translation 8c41153c95d14f1d… (all of the seat's roots in one cut). By AI agents, Wed Nov 11 2026. No macro, syntax, notation, axiom, sorry.
-/
import Derived.Test.YtegpaocoepcemaaChecked
import GoSem.Claim
import GoSem.ClaimJoined
import GoSem.ClaimMapViews
import Derived.JoinedTies
import Derived.KernelRfl
namespace Go.Proofs.Ytegpaocoepcemaa
/- THE CELL 'sum', in the pinned program and in every row, IS THE sha256 OF THE DUMP (.gsa) THAT YtegpaocoepcemaaProg.lean LOADS. Nothing in Lean hashes anything: it is a label: what it is worth is what the hold of that sum in a sandbox is worth. -/
noncomputable def Try.pinned : Pinned := { name := "ytegpaocoepcemaa", sum := "8c41153c95d14f1d580d2c7c3f815fb0e0e65510fc6b07a049b9c5f33c516b1a", checked := Try.checked }
namespace Rows
def none {H : Type} : Left H := { results := [], args := [] }

/-- 'laws.FnExactMarking': WHATEVER THE INPUT: true; the input reads as it did. -/
def fnExactMarkingSpec : ChangeSpec := { name := "fnExactMarking", fn := fun _ => fun
  | [d] => { results := [.lit (.bool true)], args := [d] }
  | _ => none }
def fnExactMarkingRow : OpenClaim := { program := "ytegpaocoepcemaa", sum := "8c41153c95d14f1d580d2c7c3f815fb0e0e65510fc6b07a049b9c5f33c516b1a", func := "loop.example/g00655/laws.FnExactMarking", spec := "fnExactMarking", apart := false }
def FnExactMarkingSaid : Prop := fnExactMarkingRow.holds Try.pinned (OpenSpec.ofChange fnExactMarkingSpec)

/-- ITS FALSE NEIGHBOUR: 'it returns false'. Refute it at one input. -/
def fnExactMarkingWrong : ChangeSpec := { name := "fnExactMarking", fn := fun _ => fun
  | [d] => { results := [.lit (.bool false)], args := [d] }
  | _ => none }
def FnExactMarkingWrongFalsely : Prop := fnExactMarkingRow.holds Try.pinned (OpenSpec.ofChange fnExactMarkingWrong)

/-- 'laws.FnExactExtsSize': WHATEVER THE INPUT: true; the input reads as it did. -/
def fnExactExtsSizeSpec : ChangeSpec := { name := "fnExactExtsSize", fn := fun _ => fun
  | [d] => { results := [.lit (.bool true)], args := [d] }
  | _ => none }
def fnExactExtsSizeRow : OpenClaim := { program := "ytegpaocoepcemaa", sum := "8c41153c95d14f1d580d2c7c3f815fb0e0e65510fc6b07a049b9c5f33c516b1a", func := "loop.example/g00655/laws.FnExactExtsSize", spec := "fnExactExtsSize", apart := false }
def FnExactExtsSizeSaid : Prop := fnExactExtsSizeRow.holds Try.pinned (OpenSpec.ofChange fnExactExtsSizeSpec)

/-- ITS FALSE NEIGHBOUR: 'it returns false'. Refute it at one input. -/
def fnExactExtsSizeWrong : ChangeSpec := { name := "fnExactExtsSize", fn := fun _ => fun
  | [d] => { results := [.lit (.bool false)], args := [d] }
  | _ => none }
def FnExactExtsSizeWrongFalsely : Prop := fnExactExtsSizeRow.holds Try.pinned (OpenSpec.ofChange fnExactExtsSizeWrong)

/-- 'laws.FnExactSixOk': WHATEVER THE INPUT: true; the input reads as it did. -/
def fnExactSixOkSpec : ChangeSpec := { name := "fnExactSixOk", fn := fun _ => fun
  | [d] => { results := [.lit (.bool true)], args := [d] }
  | _ => none }
def fnExactSixOkRow : OpenClaim := { program := "ytegpaocoepcemaa", sum := "8c41153c95d14f1d580d2c7c3f815fb0e0e65510fc6b07a049b9c5f33c516b1a", func := "loop.example/g00655/laws.FnExactSixOk", spec := "fnExactSixOk", apart := false }
def FnExactSixOkSaid : Prop := fnExactSixOkRow.holds Try.pinned (OpenSpec.ofChange fnExactSixOkSpec)

/-- ITS FALSE NEIGHBOUR: 'it returns false'. Refute it at one input. -/
def fnExactSixOkWrong : ChangeSpec := { name := "fnExactSixOk", fn := fun _ => fun
  | [d] => { results := [.lit (.bool false)], args := [d] }
  | _ => none }
def FnExactSixOkWrongFalsely : Prop := fnExactSixOkRow.holds Try.pinned (OpenSpec.ofChange fnExactSixOkWrong)

/-- 'laws.FnExactSixBytes': WHATEVER THE INPUT: true; the input reads as it did. -/
def fnExactSixBytesSpec : ChangeSpec := { name := "fnExactSixBytes", fn := fun _ => fun
  | [d] => { results := [.lit (.bool true)], args := [d] }
  | _ => none }
def fnExactSixBytesRow : OpenClaim := { program := "ytegpaocoepcemaa", sum := "8c41153c95d14f1d580d2c7c3f815fb0e0e65510fc6b07a049b9c5f33c516b1a", func := "loop.example/g00655/laws.FnExactSixBytes", spec := "fnExactSixBytes", apart := false }
def FnExactSixBytesSaid : Prop := fnExactSixBytesRow.holds Try.pinned (OpenSpec.ofChange fnExactSixBytesSpec)

/-- ITS FALSE NEIGHBOUR: 'it returns false'. Refute it at one input. -/
def fnExactSixBytesWrong : ChangeSpec := { name := "fnExactSixBytes", fn := fun _ => fun
  | [d] => { results := [.lit (.bool false)], args := [d] }
  | _ => none }
def FnExactSixBytesWrongFalsely : Prop := fnExactSixBytesRow.holds Try.pinned (OpenSpec.ofChange fnExactSixBytesWrong)

/-- 'laws.FnExactSixRead': WHATEVER THE INPUT: true; the input reads as it did. -/
def fnExactSixReadSpec : ChangeSpec := { name := "fnExactSixRead", fn := fun _ => fun
  | [d] => { results := [.lit (.bool true)], args := [d] }
  | _ => none }
def fnExactSixReadRow : OpenClaim := { program := "ytegpaocoepcemaa", sum := "8c41153c95d14f1d580d2c7c3f815fb0e0e65510fc6b07a049b9c5f33c516b1a", func := "loop.example/g00655/laws.FnExactSixRead", spec := "fnExactSixRead", apart := false }
def FnExactSixReadSaid : Prop := fnExactSixReadRow.holds Try.pinned (OpenSpec.ofChange fnExactSixReadSpec)

/-- ITS FALSE NEIGHBOUR: 'it returns false'. Refute it at one input. -/
def fnExactSixReadWrong : ChangeSpec := { name := "fnExactSixRead", fn := fun _ => fun
  | [d] => { results := [.lit (.bool false)], args := [d] }
  | _ => none }
def FnExactSixReadWrongFalsely : Prop := fnExactSixReadRow.holds Try.pinned (OpenSpec.ofChange fnExactSixReadWrong)

/-- 'laws.FnSixBack': WHATEVER THE INPUT: true; the input reads as it did. -/
def fnSixBackSpec : ChangeSpec := { name := "fnSixBack", fn := fun _ => fun
  | [d] => { results := [.lit (.bool true)], args := [d] }
  | _ => none }
def fnSixBackRow : OpenClaim := { program := "ytegpaocoepcemaa", sum := "8c41153c95d14f1d580d2c7c3f815fb0e0e65510fc6b07a049b9c5f33c516b1a", func := "loop.example/g00655/laws.FnSixBack", spec := "fnSixBack", apart := false }
def FnSixBackSaid : Prop := fnSixBackRow.holds Try.pinned (OpenSpec.ofChange fnSixBackSpec)

/-- ITS FALSE NEIGHBOUR: 'it returns false'. Refute it at one input. -/
def fnSixBackWrong : ChangeSpec := { name := "fnSixBack", fn := fun _ => fun
  | [d] => { results := [.lit (.bool false)], args := [d] }
  | _ => none }
def FnSixBackWrongFalsely : Prop := fnSixBackRow.holds Try.pinned (OpenSpec.ofChange fnSixBackWrong)

/-- 'laws.FnFourBack': WHATEVER THE INPUT: true; the input reads as it did. -/
def fnFourBackSpec : ChangeSpec := { name := "fnFourBack", fn := fun _ => fun
  | [d] => { results := [.lit (.bool true)], args := [d] }
  | _ => none }
def fnFourBackRow : OpenClaim := { program := "ytegpaocoepcemaa", sum := "8c41153c95d14f1d580d2c7c3f815fb0e0e65510fc6b07a049b9c5f33c516b1a", func := "loop.example/g00655/laws.FnFourBack", spec := "fnFourBack", apart := false }
def FnFourBackSaid : Prop := fnFourBackRow.holds Try.pinned (OpenSpec.ofChange fnFourBackSpec)

/-- ITS FALSE NEIGHBOUR: 'it returns false'. Refute it at one input. -/
def fnFourBackWrong : ChangeSpec := { name := "fnFourBack", fn := fun _ => fun
  | [d] => { results := [.lit (.bool false)], args := [d] }
  | _ => none }
def FnFourBackWrongFalsely : Prop := fnFourBackRow.holds Try.pinned (OpenSpec.ofChange fnFourBackWrong)

/-- 'laws.FnFourTold': WHATEVER THE INPUT: true; the input reads as it did. -/
def fnFourToldSpec : ChangeSpec := { name := "fnFourTold", fn := fun _ => fun
  | [d] => { results := [.lit (.bool true)], args := [d] }
  | _ => none }
def fnFourToldRow : OpenClaim := { program := "ytegpaocoepcemaa", sum := "8c41153c95d14f1d580d2c7c3f815fb0e0e65510fc6b07a049b9c5f33c516b1a", func := "loop.example/g00655/laws.FnFourTold", spec := "fnFourTold", apart := false }
def FnFourToldSaid : Prop := fnFourToldRow.holds Try.pinned (OpenSpec.ofChange fnFourToldSpec)

/-- ITS FALSE NEIGHBOUR: 'it returns false'. Refute it at one input. -/
def fnFourToldWrong : ChangeSpec := { name := "fnFourTold", fn := fun _ => fun
  | [d] => { results := [.lit (.bool false)], args := [d] }
  | _ => none }
def FnFourToldWrongFalsely : Prop := fnFourToldRow.holds Try.pinned (OpenSpec.ofChange fnFourToldWrong)

/- THE SECOND FORM. 'bulk': how many values and letters a reading holds, each counted each time it is reached (what is shared counts as often as it is met; a slice's spare places count too). A statement '..UptoSaid' is the law's where the arguments, and the package variables that the reading takes, are together of bulk at most 1048576: NARROWER than '..Said'. Prove '..Said' where nothing that the law and all that it calls make is longer than what came in: it says more and counts as full. Else prove '..UptoSaid'. A law counts once. -/
mutual
def uptoBulk {H : Type} : DataW H → Nat
  | .lit (.string bytes) => bytes.length + 1
  | .lit _ => 1
  | .nil => 1
  | .ptr d => uptoBulk d + 1
  | .slice elems spare => uptoBulkAll elems + uptoBulkAll spare + 1
  | .agg parts => uptoBulkAll parts + 1
  | .iface _ d => uptoBulk d + 1
  | .map entries => uptoBulkEntries entries + 1
  | .held _ => 1
def uptoBulkAll {H : Type} : List (DataW H) → Nat
  | [] => 0
  | d :: r => uptoBulk d + uptoBulkAll r
def uptoBulkEntries {H : Type} : List (Lit × DataW H) → Nat
  | [] => 0
  | x :: r => uptoBulkEntry x + uptoBulkEntries r
def uptoBulkEntry {H : Type} : Lit × DataW H → Nat
  | (.string bytes, d) => bytes.length + uptoBulk d + 1
  | (_, d) => uptoBulk d + 1
 end
def uptoSmall : (H : Type) → List (DataW H) → Bool := fun _ ds => decide (uptoBulkAll ds ≤ 1048576)
def OpenSpec.upto (s : _root_.Go.ChangeSpec) : _root_.Go.OpenSpec := { _root_.Go.OpenSpec.ofChange s with cond := some uptoSmall }

/-- 'laws.FnExactMarking', WHERE WHAT IT READS IS OF BULK AT MOST 1048576: true; the input reads as it did. -/
def fnExactMarkingUptoRow : OpenClaim := { program := "ytegpaocoepcemaa", sum := "8c41153c95d14f1d580d2c7c3f815fb0e0e65510fc6b07a049b9c5f33c516b1a", func := "loop.example/g00655/laws.FnExactMarking", spec := "fnExactMarking", apart := false, narrowed := true }
def FnExactMarkingUptoSaid : Prop := fnExactMarkingUptoRow.holds Try.pinned (OpenSpec.upto fnExactMarkingSpec)

/-- 'laws.FnExactExtsSize', WHERE WHAT IT READS IS OF BULK AT MOST 1048576: true; the input reads as it did. -/
def fnExactExtsSizeUptoRow : OpenClaim := { program := "ytegpaocoepcemaa", sum := "8c41153c95d14f1d580d2c7c3f815fb0e0e65510fc6b07a049b9c5f33c516b1a", func := "loop.example/g00655/laws.FnExactExtsSize", spec := "fnExactExtsSize", apart := false, narrowed := true }
def FnExactExtsSizeUptoSaid : Prop := fnExactExtsSizeUptoRow.holds Try.pinned (OpenSpec.upto fnExactExtsSizeSpec)

/-- 'laws.FnExactSixOk', WHERE WHAT IT READS IS OF BULK AT MOST 1048576: true; the input reads as it did. -/
def fnExactSixOkUptoRow : OpenClaim := { program := "ytegpaocoepcemaa", sum := "8c41153c95d14f1d580d2c7c3f815fb0e0e65510fc6b07a049b9c5f33c516b1a", func := "loop.example/g00655/laws.FnExactSixOk", spec := "fnExactSixOk", apart := false, narrowed := true }
def FnExactSixOkUptoSaid : Prop := fnExactSixOkUptoRow.holds Try.pinned (OpenSpec.upto fnExactSixOkSpec)

/-- 'laws.FnExactSixBytes', WHERE WHAT IT READS IS OF BULK AT MOST 1048576: true; the input reads as it did. -/
def fnExactSixBytesUptoRow : OpenClaim := { program := "ytegpaocoepcemaa", sum := "8c41153c95d14f1d580d2c7c3f815fb0e0e65510fc6b07a049b9c5f33c516b1a", func := "loop.example/g00655/laws.FnExactSixBytes", spec := "fnExactSixBytes", apart := false, narrowed := true }
def FnExactSixBytesUptoSaid : Prop := fnExactSixBytesUptoRow.holds Try.pinned (OpenSpec.upto fnExactSixBytesSpec)

/-- 'laws.FnExactSixRead', WHERE WHAT IT READS IS OF BULK AT MOST 1048576: true; the input reads as it did. -/
def fnExactSixReadUptoRow : OpenClaim := { program := "ytegpaocoepcemaa", sum := "8c41153c95d14f1d580d2c7c3f815fb0e0e65510fc6b07a049b9c5f33c516b1a", func := "loop.example/g00655/laws.FnExactSixRead", spec := "fnExactSixRead", apart := false, narrowed := true }
def FnExactSixReadUptoSaid : Prop := fnExactSixReadUptoRow.holds Try.pinned (OpenSpec.upto fnExactSixReadSpec)

/-- 'laws.FnSixBack', WHERE WHAT IT READS IS OF BULK AT MOST 1048576: true; the input reads as it did. -/
def fnSixBackUptoRow : OpenClaim := { program := "ytegpaocoepcemaa", sum := "8c41153c95d14f1d580d2c7c3f815fb0e0e65510fc6b07a049b9c5f33c516b1a", func := "loop.example/g00655/laws.FnSixBack", spec := "fnSixBack", apart := false, narrowed := true }
def FnSixBackUptoSaid : Prop := fnSixBackUptoRow.holds Try.pinned (OpenSpec.upto fnSixBackSpec)

/-- 'laws.FnFourBack', WHERE WHAT IT READS IS OF BULK AT MOST 1048576: true; the input reads as it did. -/
def fnFourBackUptoRow : OpenClaim := { program := "ytegpaocoepcemaa", sum := "8c41153c95d14f1d580d2c7c3f815fb0e0e65510fc6b07a049b9c5f33c516b1a", func := "loop.example/g00655/laws.FnFourBack", spec := "fnFourBack", apart := false, narrowed := true }
def FnFourBackUptoSaid : Prop := fnFourBackUptoRow.holds Try.pinned (OpenSpec.upto fnFourBackSpec)

/-- 'laws.FnFourTold', WHERE WHAT IT READS IS OF BULK AT MOST 1048576: true; the input reads as it did. -/
def fnFourToldUptoRow : OpenClaim := { program := "ytegpaocoepcemaa", sum := "8c41153c95d14f1d580d2c7c3f815fb0e0e65510fc6b07a049b9c5f33c516b1a", func := "loop.example/g00655/laws.FnFourTold", spec := "fnFourTold", apart := false, narrowed := true }
def FnFourToldUptoSaid : Prop := fnFourToldUptoRow.holds Try.pinned (OpenSpec.upto fnFourToldSpec)

end Rows
end Go.Proofs.Ytegpaocoepcemaa
