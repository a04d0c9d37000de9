/-
  No cell of these rows narrows 'for every input' (looked for: loops, veiled, ifaces, maps, wideKeys, modest, calm, conditions, laid).
  DERIVED. THE GIVEN ROWS OF THIS SEAT. 8 by the template 'for every input the law returns true; each argument reads behind the call as it read before'; 0 by the template 'total and deterministic' (their statements: YtckakpcjbndijaaTotals.lean).
  GIVEN WITH THE SEED: the statements are not yours to turn. If you find one false, say at which input.
  Laid BY PROGRAM, IN A SANDBOX (cutbox-rows.mjs): the forced cells as the released guide's own fill.sh prints them over the translation 1e18e14f89eabf86… (all of the seat's roots in one cut). By AI agents, Wed Nov 11 2026. No macro, syntax, notation, axiom, sorry.
-/
import Derived.Test.YtckakpcjbndijaaChecked
import GoSem.Claim
import GoSem.ClaimJoined
import GoSem.ClaimMapViews
import Derived.JoinedTies
import Derived.KernelRfl
namespace Go.Proofs.Ytckakpcjbndijaa
/- THE CELL 'sum', in the pinned program and in every row, IS THE sha256 OF THE DUMP (.gsa) THAT YtckakpcjbndijaaProg.lean LOADS. Nothing in Lean hashes anything: it is a label: what it is worth is what the hold of that sum in a sandbox is worth. -/
noncomputable def Try.pinned : Pinned := { name := "ytckakpcjbndijaa", sum := "1e18e14f89eabf86ce340ab359ebbc16b5ff7239a0651a0f8236fa77b3390372", checked := Try.checked }
namespace Rows
def none {H : Type} : Left H := { results := [], args := [] }

/-- 'laws.FnExactAddrOk': WHATEVER THE INPUT: true; the input reads as it did. -/
def fnExactAddrOkSpec : ChangeSpec := { name := "fnExactAddrOk", fn := fun _ => fun
  | [d] => { results := [.lit (.bool true)], args := [d] }
  | _ => none }
def fnExactAddrOkRow : OpenClaim := { program := "ytckakpcjbndijaa", sum := "1e18e14f89eabf86ce340ab359ebbc16b5ff7239a0651a0f8236fa77b3390372", func := "loop.example/g00655/laws.FnExactAddrOk", spec := "fnExactAddrOk", apart := false }
def FnExactAddrOkSaid : Prop := fnExactAddrOkRow.holds Try.pinned (OpenSpec.ofChange fnExactAddrOkSpec)

/-- ITS FALSE NEIGHBOUR: 'it returns false'. Refute it at one input. -/
def fnExactAddrOkWrong : ChangeSpec := { name := "fnExactAddrOk", fn := fun _ => fun
  | [d] => { results := [.lit (.bool false)], args := [d] }
  | _ => none }
def FnExactAddrOkWrongFalsely : Prop := fnExactAddrOkRow.holds Try.pinned (OpenSpec.ofChange fnExactAddrOkWrong)

/-- 'laws.FnExactAddrBytes': WHATEVER THE INPUT: true; the input reads as it did. -/
def fnExactAddrBytesSpec : ChangeSpec := { name := "fnExactAddrBytes", fn := fun _ => fun
  | [d] => { results := [.lit (.bool true)], args := [d] }
  | _ => none }
def fnExactAddrBytesRow : OpenClaim := { program := "ytckakpcjbndijaa", sum := "1e18e14f89eabf86ce340ab359ebbc16b5ff7239a0651a0f8236fa77b3390372", func := "loop.example/g00655/laws.FnExactAddrBytes", spec := "fnExactAddrBytes", apart := false }
def FnExactAddrBytesSaid : Prop := fnExactAddrBytesRow.holds Try.pinned (OpenSpec.ofChange fnExactAddrBytesSpec)

/-- ITS FALSE NEIGHBOUR: 'it returns false'. Refute it at one input. -/
def fnExactAddrBytesWrong : ChangeSpec := { name := "fnExactAddrBytes", fn := fun _ => fun
  | [d] => { results := [.lit (.bool false)], args := [d] }
  | _ => none }
def FnExactAddrBytesWrongFalsely : Prop := fnExactAddrBytesRow.holds Try.pinned (OpenSpec.ofChange fnExactAddrBytesWrong)

/-- 'laws.FnExactAddrOf': WHATEVER THE INPUT: true; the input reads as it did. -/
def fnExactAddrOfSpec : ChangeSpec := { name := "fnExactAddrOf", fn := fun _ => fun
  | [d] => { results := [.lit (.bool true)], args := [d] }
  | _ => none }
def fnExactAddrOfRow : OpenClaim := { program := "ytckakpcjbndijaa", sum := "1e18e14f89eabf86ce340ab359ebbc16b5ff7239a0651a0f8236fa77b3390372", func := "loop.example/g00655/laws.FnExactAddrOf", spec := "fnExactAddrOf", apart := false }
def FnExactAddrOfSaid : Prop := fnExactAddrOfRow.holds Try.pinned (OpenSpec.ofChange fnExactAddrOfSpec)

/-- ITS FALSE NEIGHBOUR: 'it returns false'. Refute it at one input. -/
def fnExactAddrOfWrong : ChangeSpec := { name := "fnExactAddrOf", fn := fun _ => fun
  | [d] => { results := [.lit (.bool false)], args := [d] }
  | _ => none }
def FnExactAddrOfWrongFalsely : Prop := fnExactAddrOfRow.holds Try.pinned (OpenSpec.ofChange fnExactAddrOfWrong)

/-- 'laws.FnExactCut': WHATEVER THE INPUT: true; the input reads as it did. -/
def fnExactCutSpec : ChangeSpec := { name := "fnExactCut", fn := fun _ => fun
  | [d1, d2] => { results := [.lit (.bool true)], args := [d1, d2] }
  | _ => none }
def fnExactCutRow : OpenClaim := { program := "ytckakpcjbndijaa", sum := "1e18e14f89eabf86ce340ab359ebbc16b5ff7239a0651a0f8236fa77b3390372", func := "loop.example/g00655/laws.FnExactCut", spec := "fnExactCut", apart := false }
def FnExactCutSaid : Prop := fnExactCutRow.holds Try.pinned (OpenSpec.ofChange fnExactCutSpec)

/-- ITS FALSE NEIGHBOUR: 'it returns false'. Refute it at one input. -/
def fnExactCutWrong : ChangeSpec := { name := "fnExactCut", fn := fun _ => fun
  | [d1, d2] => { results := [.lit (.bool false)], args := [d1, d2] }
  | _ => none }
def FnExactCutWrongFalsely : Prop := fnExactCutRow.holds Try.pinned (OpenSpec.ofChange fnExactCutWrong)

/-- 'laws.FnExactPrefixOk': WHATEVER THE INPUT: true; the input reads as it did. -/
def fnExactPrefixOkSpec : ChangeSpec := { name := "fnExactPrefixOk", fn := fun _ => fun
  | [d] => { results := [.lit (.bool true)], args := [d] }
  | _ => none }
def fnExactPrefixOkRow : OpenClaim := { program := "ytckakpcjbndijaa", sum := "1e18e14f89eabf86ce340ab359ebbc16b5ff7239a0651a0f8236fa77b3390372", func := "loop.example/g00655/laws.FnExactPrefixOk", spec := "fnExactPrefixOk", apart := false }
def FnExactPrefixOkSaid : Prop := fnExactPrefixOkRow.holds Try.pinned (OpenSpec.ofChange fnExactPrefixOkSpec)

/-- ITS FALSE NEIGHBOUR: 'it returns false'. Refute it at one input. -/
def fnExactPrefixOkWrong : ChangeSpec := { name := "fnExactPrefixOk", fn := fun _ => fun
  | [d] => { results := [.lit (.bool false)], args := [d] }
  | _ => none }
def FnExactPrefixOkWrongFalsely : Prop := fnExactPrefixOkRow.holds Try.pinned (OpenSpec.ofChange fnExactPrefixOkWrong)

/-- 'laws.FnExactPrefixHas': WHATEVER THE INPUT: true; the input reads as it did. -/
def fnExactPrefixHasSpec : ChangeSpec := { name := "fnExactPrefixHas", fn := fun _ => fun
  | [d1, d2] => { results := [.lit (.bool true)], args := [d1, d2] }
  | _ => none }
def fnExactPrefixHasRow : OpenClaim := { program := "ytckakpcjbndijaa", sum := "1e18e14f89eabf86ce340ab359ebbc16b5ff7239a0651a0f8236fa77b3390372", func := "loop.example/g00655/laws.FnExactPrefixHas", spec := "fnExactPrefixHas", apart := false }
def FnExactPrefixHasSaid : Prop := fnExactPrefixHasRow.holds Try.pinned (OpenSpec.ofChange fnExactPrefixHasSpec)

/-- ITS FALSE NEIGHBOUR: 'it returns false'. Refute it at one input. -/
def fnExactPrefixHasWrong : ChangeSpec := { name := "fnExactPrefixHas", fn := fun _ => fun
  | [d1, d2] => { results := [.lit (.bool false)], args := [d1, d2] }
  | _ => none }
def FnExactPrefixHasWrongFalsely : Prop := fnExactPrefixHasRow.holds Try.pinned (OpenSpec.ofChange fnExactPrefixHasWrong)

/-- 'laws.FnExactPrefixIn': WHATEVER THE INPUT: true; the input reads as it did. -/
def fnExactPrefixInSpec : ChangeSpec := { name := "fnExactPrefixIn", fn := fun _ => fun
  | [d1, d2] => { results := [.lit (.bool true)], args := [d1, d2] }
  | _ => none }
def fnExactPrefixInRow : OpenClaim := { program := "ytckakpcjbndijaa", sum := "1e18e14f89eabf86ce340ab359ebbc16b5ff7239a0651a0f8236fa77b3390372", func := "loop.example/g00655/laws.FnExactPrefixIn", spec := "fnExactPrefixIn", apart := false }
def FnExactPrefixInSaid : Prop := fnExactPrefixInRow.holds Try.pinned (OpenSpec.ofChange fnExactPrefixInSpec)

/-- ITS FALSE NEIGHBOUR: 'it returns false'. Refute it at one input. -/
def fnExactPrefixInWrong : ChangeSpec := { name := "fnExactPrefixIn", fn := fun _ => fun
  | [d1, d2] => { results := [.lit (.bool false)], args := [d1, d2] }
  | _ => none }
def FnExactPrefixInWrongFalsely : Prop := fnExactPrefixInRow.holds Try.pinned (OpenSpec.ofChange fnExactPrefixInWrong)

/-- 'laws.FnPrefixHolds': WHATEVER THE INPUT: true; the input reads as it did. -/
def fnPrefixHoldsSpec : ChangeSpec := { name := "fnPrefixHolds", fn := fun _ => fun
  | [d] => { results := [.lit (.bool true)], args := [d] }
  | _ => none }
def fnPrefixHoldsRow : OpenClaim := { program := "ytckakpcjbndijaa", sum := "1e18e14f89eabf86ce340ab359ebbc16b5ff7239a0651a0f8236fa77b3390372", func := "loop.example/g00655/laws.FnPrefixHolds", spec := "fnPrefixHolds", apart := false }
def FnPrefixHoldsSaid : Prop := fnPrefixHoldsRow.holds Try.pinned (OpenSpec.ofChange fnPrefixHoldsSpec)

/-- ITS FALSE NEIGHBOUR: 'it returns false'. Refute it at one input. -/
def fnPrefixHoldsWrong : ChangeSpec := { name := "fnPrefixHolds", fn := fun _ => fun
  | [d] => { results := [.lit (.bool false)], args := [d] }
  | _ => none }
def FnPrefixHoldsWrongFalsely : Prop := fnPrefixHoldsRow.holds Try.pinned (OpenSpec.ofChange fnPrefixHoldsWrong)

/- THE SECOND FORM. 'bulk': how many values and letters a reading holds, each counted each time it is reached (what is shared counts as often as it is met; a slice's spare places count too). A statement '..UptoSaid' is the law's where the arguments, and the package variables that the reading takes, are together of bulk at most 1048576: NARROWER than '..Said'. Prove '..Said' where nothing that the law and all that it calls make is longer than what came in: it says more and counts as full. Else prove '..UptoSaid'. A law counts once. -/
mutual
def uptoBulk {H : Type} : DataW H → Nat
  | .lit (.string bytes) => bytes.length + 1
  | .lit _ => 1
  | .nil => 1
  | .ptr d => uptoBulk d + 1
  | .slice elems spare => uptoBulkAll elems + uptoBulkAll spare + 1
  | .agg parts => uptoBulkAll parts + 1
  | .iface _ d => uptoBulk d + 1
  | .map entries => uptoBulkEntries entries + 1
  | .held _ => 1
def uptoBulkAll {H : Type} : List (DataW H) → Nat
  | [] => 0
  | d :: r => uptoBulk d + uptoBulkAll r
def uptoBulkEntries {H : Type} : List (Lit × DataW H) → Nat
  | [] => 0
  | x :: r => uptoBulkEntry x + uptoBulkEntries r
def uptoBulkEntry {H : Type} : Lit × DataW H → Nat
  | (.string bytes, d) => bytes.length + uptoBulk d + 1
  | (_, d) => uptoBulk d + 1
 end
def uptoSmall : (H : Type) → List (DataW H) → Bool := fun _ ds => decide (uptoBulkAll ds ≤ 1048576)
def OpenSpec.upto (s : _root_.Go.ChangeSpec) : _root_.Go.OpenSpec := { _root_.Go.OpenSpec.ofChange s with cond := some uptoSmall }

/-- 'laws.FnExactAddrOk', WHERE WHAT IT READS IS OF BULK AT MOST 1048576: true; the input reads as it did. -/
def fnExactAddrOkUptoRow : OpenClaim := { program := "ytckakpcjbndijaa", sum := "1e18e14f89eabf86ce340ab359ebbc16b5ff7239a0651a0f8236fa77b3390372", func := "loop.example/g00655/laws.FnExactAddrOk", spec := "fnExactAddrOk", apart := false, narrowed := true }
def FnExactAddrOkUptoSaid : Prop := fnExactAddrOkUptoRow.holds Try.pinned (OpenSpec.upto fnExactAddrOkSpec)

/-- 'laws.FnExactAddrBytes', WHERE WHAT IT READS IS OF BULK AT MOST 1048576: true; the input reads as it did. -/
def fnExactAddrBytesUptoRow : OpenClaim := { program := "ytckakpcjbndijaa", sum := "1e18e14f89eabf86ce340ab359ebbc16b5ff7239a0651a0f8236fa77b3390372", func := "loop.example/g00655/laws.FnExactAddrBytes", spec := "fnExactAddrBytes", apart := false, narrowed := true }
def FnExactAddrBytesUptoSaid : Prop := fnExactAddrBytesUptoRow.holds Try.pinned (OpenSpec.upto fnExactAddrBytesSpec)

/-- 'laws.FnExactAddrOf', WHERE WHAT IT READS IS OF BULK AT MOST 1048576: true; the input reads as it did. -/
def fnExactAddrOfUptoRow : OpenClaim := { program := "ytckakpcjbndijaa", sum := "1e18e14f89eabf86ce340ab359ebbc16b5ff7239a0651a0f8236fa77b3390372", func := "loop.example/g00655/laws.FnExactAddrOf", spec := "fnExactAddrOf", apart := false, narrowed := true }
def FnExactAddrOfUptoSaid : Prop := fnExactAddrOfUptoRow.holds Try.pinned (OpenSpec.upto fnExactAddrOfSpec)

/-- 'laws.FnExactCut', WHERE WHAT IT READS IS OF BULK AT MOST 1048576: true; the input reads as it did. -/
def fnExactCutUptoRow : OpenClaim := { program := "ytckakpcjbndijaa", sum := "1e18e14f89eabf86ce340ab359ebbc16b5ff7239a0651a0f8236fa77b3390372", func := "loop.example/g00655/laws.FnExactCut", spec := "fnExactCut", apart := false, narrowed := true }
def FnExactCutUptoSaid : Prop := fnExactCutUptoRow.holds Try.pinned (OpenSpec.upto fnExactCutSpec)

/-- 'laws.FnExactPrefixOk', WHERE WHAT IT READS IS OF BULK AT MOST 1048576: true; the input reads as it did. -/
def fnExactPrefixOkUptoRow : OpenClaim := { program := "ytckakpcjbndijaa", sum := "1e18e14f89eabf86ce340ab359ebbc16b5ff7239a0651a0f8236fa77b3390372", func := "loop.example/g00655/laws.FnExactPrefixOk", spec := "fnExactPrefixOk", apart := false, narrowed := true }
def FnExactPrefixOkUptoSaid : Prop := fnExactPrefixOkUptoRow.holds Try.pinned (OpenSpec.upto fnExactPrefixOkSpec)

/-- 'laws.FnExactPrefixHas', WHERE WHAT IT READS IS OF BULK AT MOST 1048576: true; the input reads as it did. -/
def fnExactPrefixHasUptoRow : OpenClaim := { program := "ytckakpcjbndijaa", sum := "1e18e14f89eabf86ce340ab359ebbc16b5ff7239a0651a0f8236fa77b3390372", func := "loop.example/g00655/laws.FnExactPrefixHas", spec := "fnExactPrefixHas", apart := false, narrowed := true }
def FnExactPrefixHasUptoSaid : Prop := fnExactPrefixHasUptoRow.holds Try.pinned (OpenSpec.upto fnExactPrefixHasSpec)

/-- 'laws.FnExactPrefixIn', WHERE WHAT IT READS IS OF BULK AT MOST 1048576: true; the input reads as it did. -/
def fnExactPrefixInUptoRow : OpenClaim := { program := "ytckakpcjbndijaa", sum := "1e18e14f89eabf86ce340ab359ebbc16b5ff7239a0651a0f8236fa77b3390372", func := "loop.example/g00655/laws.FnExactPrefixIn", spec := "fnExactPrefixIn", apart := false, narrowed := true }
def FnExactPrefixInUptoSaid : Prop := fnExactPrefixInUptoRow.holds Try.pinned (OpenSpec.upto fnExactPrefixInSpec)

/-- 'laws.FnPrefixHolds', WHERE WHAT IT READS IS OF BULK AT MOST 1048576: true; the input reads as it did. -/
def fnPrefixHoldsUptoRow : OpenClaim := { program := "ytckakpcjbndijaa", sum := "1e18e14f89eabf86ce340ab359ebbc16b5ff7239a0651a0f8236fa77b3390372", func := "loop.example/g00655/laws.FnPrefixHolds", spec := "fnPrefixHolds", apart := false, narrowed := true }
def FnPrefixHoldsUptoSaid : Prop := fnPrefixHoldsUptoRow.holds Try.pinned (OpenSpec.upto fnPrefixHoldsSpec)

end Rows
end Go.Proofs.Ytckakpcjbndijaa
