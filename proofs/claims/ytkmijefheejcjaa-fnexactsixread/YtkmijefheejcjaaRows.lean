/-
  No cell of these rows narrows 'for every input' (looked for: loops, veiled, ifaces, maps, wideKeys, modest, calm, conditions, laid).
  DERIVED. THE GIVEN ROWS OF THIS SEAT. 11 by the template 'for every input the law returns true; each argument reads behind the call as it read before'; 0 by the template 'total and deterministic' (their statements: YtkmijefheejcjaaTotals.lean).
  GIVEN WITH THE SEED: the statements are not yours to turn. If you find one false, say at which input.
  Laid BY PROGRAM, IN A SANDBOX (cutbox-rows.mjs): the forced cells as the released guide's own fill.sh prints them over the translation a660e1e1d84b8cbb… (all of the seat's roots in one cut). By AI agents, Wed Nov 11 2026. No macro, syntax, notation, axiom, sorry.
-/
import Derived.Test.YtkmijefheejcjaaChecked
import GoSem.Claim
import GoSem.ClaimJoined
import GoSem.ClaimMapViews
import Derived.JoinedTies
import Derived.KernelRfl
namespace Go.Proofs.Ytkmijefheejcjaa
/- THE CELL 'sum', in the pinned program and in every row, IS THE sha256 OF THE DUMP (.gsa) THAT YtkmijefheejcjaaProg.lean LOADS. Nothing in Lean hashes anything: it is a label: what it is worth is what the hold of that sum in a sandbox is worth. -/
noncomputable def Try.pinned : Pinned := { name := "ytkmijefheejcjaa", sum := "a660e1e1d84b8cbb79a0f78f4b25097a818cd7d9c28a4694295e628f6650c62c", checked := Try.checked }
namespace Rows
def none {H : Type} : Left H := { results := [], args := [] }

/-- 'laws.FnSixBack': WHATEVER THE INPUT: true; the input reads as it did. -/
def fnSixBackSpec : ChangeSpec := { name := "fnSixBack", fn := fun _ => fun
  | [d] => { results := [.lit (.bool true)], args := [d] }
  | _ => none }
def fnSixBackRow : OpenClaim := { program := "ytkmijefheejcjaa", sum := "a660e1e1d84b8cbb79a0f78f4b25097a818cd7d9c28a4694295e628f6650c62c", func := "loop.example/g00655/laws.FnSixBack", spec := "fnSixBack", apart := false }
def FnSixBackSaid : Prop := fnSixBackRow.holds Try.pinned (OpenSpec.ofChange fnSixBackSpec)

/-- ITS FALSE NEIGHBOUR: 'it returns false'. Refute it at one input. -/
def fnSixBackWrong : ChangeSpec := { name := "fnSixBack", fn := fun _ => fun
  | [d] => { results := [.lit (.bool false)], args := [d] }
  | _ => none }
def FnSixBackWrongFalsely : Prop := fnSixBackRow.holds Try.pinned (OpenSpec.ofChange fnSixBackWrong)

/-- 'laws.FnUpperBack': WHATEVER THE INPUT: true; the input reads as it did. -/
def fnUpperBackSpec : ChangeSpec := { name := "fnUpperBack", fn := fun _ => fun
  | [d] => { results := [.lit (.bool true)], args := [d] }
  | _ => none }
def fnUpperBackRow : OpenClaim := { program := "ytkmijefheejcjaa", sum := "a660e1e1d84b8cbb79a0f78f4b25097a818cd7d9c28a4694295e628f6650c62c", func := "loop.example/g00655/laws.FnUpperBack", spec := "fnUpperBack", unfollowed := true, recurses := true, apart := false }
def FnUpperBackSaid : Prop := fnUpperBackRow.holds Try.pinned (OpenSpec.ofChange fnUpperBackSpec)

/-- ITS FALSE NEIGHBOUR: 'it returns false'. Refute it at one input. -/
def fnUpperBackWrong : ChangeSpec := { name := "fnUpperBack", fn := fun _ => fun
  | [d] => { results := [.lit (.bool false)], args := [d] }
  | _ => none }
def FnUpperBackWrongFalsely : Prop := fnUpperBackRow.holds Try.pinned (OpenSpec.ofChange fnUpperBackWrong)

/-- 'laws.FnUpperTurned': WHATEVER THE INPUT: true; the input reads as it did. -/
def fnUpperTurnedSpec : ChangeSpec := { name := "fnUpperTurned", fn := fun _ => fun
  | [d] => { results := [.lit (.bool true)], args := [d] }
  | _ => none }
def fnUpperTurnedRow : OpenClaim := { program := "ytkmijefheejcjaa", sum := "a660e1e1d84b8cbb79a0f78f4b25097a818cd7d9c28a4694295e628f6650c62c", func := "loop.example/g00655/laws.FnUpperTurned", spec := "fnUpperTurned", unfollowed := true, recurses := true, apart := false }
def FnUpperTurnedSaid : Prop := fnUpperTurnedRow.holds Try.pinned (OpenSpec.ofChange fnUpperTurnedSpec)

/-- ITS FALSE NEIGHBOUR: 'it returns false'. Refute it at one input. -/
def fnUpperTurnedWrong : ChangeSpec := { name := "fnUpperTurned", fn := fun _ => fun
  | [d] => { results := [.lit (.bool false)], args := [d] }
  | _ => none }
def FnUpperTurnedWrongFalsely : Prop := fnUpperTurnedRow.holds Try.pinned (OpenSpec.ofChange fnUpperTurnedWrong)

/-- 'laws.FnExactSixRead': WHATEVER THE INPUT: true; the input reads as it did. -/
def fnExactSixReadSpec : ChangeSpec := { name := "fnExactSixRead", fn := fun _ => fun
  | [d] => { results := [.lit (.bool true)], args := [d] }
  | _ => none }
def fnExactSixReadRow : OpenClaim := { program := "ytkmijefheejcjaa", sum := "a660e1e1d84b8cbb79a0f78f4b25097a818cd7d9c28a4694295e628f6650c62c", func := "loop.example/g00655/laws.FnExactSixRead", spec := "fnExactSixRead", apart := false }
def FnExactSixReadSaid : Prop := fnExactSixReadRow.holds Try.pinned (OpenSpec.ofChange fnExactSixReadSpec)

/-- ITS FALSE NEIGHBOUR: 'it returns false'. Refute it at one input. -/
def fnExactSixReadWrong : ChangeSpec := { name := "fnExactSixRead", fn := fun _ => fun
  | [d] => { results := [.lit (.bool false)], args := [d] }
  | _ => none }
def FnExactSixReadWrongFalsely : Prop := fnExactSixReadRow.holds Try.pinned (OpenSpec.ofChange fnExactSixReadWrong)

/-- 'laws.FnExactUpperKind': WHATEVER THE INPUT: true; the input reads as it did. -/
def fnExactUpperKindSpec : ChangeSpec := { name := "fnExactUpperKind", fn := fun _ => fun
  | [d1, d2] => { results := [.lit (.bool true)], args := [d1, d2] }
  | _ => none }
def fnExactUpperKindRow : OpenClaim := { program := "ytkmijefheejcjaa", sum := "a660e1e1d84b8cbb79a0f78f4b25097a818cd7d9c28a4694295e628f6650c62c", func := "loop.example/g00655/laws.FnExactUpperKind", spec := "fnExactUpperKind", apart := false }
def FnExactUpperKindSaid : Prop := fnExactUpperKindRow.holds Try.pinned (OpenSpec.ofChange fnExactUpperKindSpec)

/-- ITS FALSE NEIGHBOUR: 'it returns false'. Refute it at one input. -/
def fnExactUpperKindWrong : ChangeSpec := { name := "fnExactUpperKind", fn := fun _ => fun
  | [d1, d2] => { results := [.lit (.bool false)], args := [d1, d2] }
  | _ => none }
def FnExactUpperKindWrongFalsely : Prop := fnExactUpperKindRow.holds Try.pinned (OpenSpec.ofChange fnExactUpperKindWrong)

/-- 'laws.FnExactUpperOk': WHATEVER THE INPUT: true; the input reads as it did. -/
def fnExactUpperOkSpec : ChangeSpec := { name := "fnExactUpperOk", fn := fun _ => fun
  | [d1, d2] => { results := [.lit (.bool true)], args := [d1, d2] }
  | _ => none }
def fnExactUpperOkRow : OpenClaim := { program := "ytkmijefheejcjaa", sum := "a660e1e1d84b8cbb79a0f78f4b25097a818cd7d9c28a4694295e628f6650c62c", func := "loop.example/g00655/laws.FnExactUpperOk", spec := "fnExactUpperOk", unfollowed := true, recurses := true, apart := false }
def FnExactUpperOkSaid : Prop := fnExactUpperOkRow.holds Try.pinned (OpenSpec.ofChange fnExactUpperOkSpec)

/-- ITS FALSE NEIGHBOUR: 'it returns false'. Refute it at one input. -/
def fnExactUpperOkWrong : ChangeSpec := { name := "fnExactUpperOk", fn := fun _ => fun
  | [d1, d2] => { results := [.lit (.bool false)], args := [d1, d2] }
  | _ => none }
def FnExactUpperOkWrongFalsely : Prop := fnExactUpperOkRow.holds Try.pinned (OpenSpec.ofChange fnExactUpperOkWrong)

/-- 'laws.FnExactPseudoSum': WHATEVER THE INPUT: true; the input reads as it did. -/
def fnExactPseudoSumSpec : ChangeSpec := { name := "fnExactPseudoSum", fn := fun _ => fun
  | [d1, d2, d3, d4] => { results := [.lit (.bool true)], args := [d1, d2, d3, d4] }
  | _ => none }
def fnExactPseudoSumRow : OpenClaim := { program := "ytkmijefheejcjaa", sum := "a660e1e1d84b8cbb79a0f78f4b25097a818cd7d9c28a4694295e628f6650c62c", func := "loop.example/g00655/laws.FnExactPseudoSum", spec := "fnExactPseudoSum", apart := false }
def FnExactPseudoSumSaid : Prop := fnExactPseudoSumRow.holds Try.pinned (OpenSpec.ofChange fnExactPseudoSumSpec)

/-- ITS FALSE NEIGHBOUR: 'it returns false'. Refute it at one input. -/
def fnExactPseudoSumWrong : ChangeSpec := { name := "fnExactPseudoSum", fn := fun _ => fun
  | [d1, d2, d3, d4] => { results := [.lit (.bool false)], args := [d1, d2, d3, d4] }
  | _ => none }
def FnExactPseudoSumWrongFalsely : Prop := fnExactPseudoSumRow.holds Try.pinned (OpenSpec.ofChange fnExactPseudoSumWrong)

/-- 'laws.FnExactUpperSize': WHATEVER THE INPUT: true; the input reads as it did. -/
def fnExactUpperSizeSpec : ChangeSpec := { name := "fnExactUpperSize", fn := fun _ => fun
  | [d] => { results := [.lit (.bool true)], args := [d] }
  | _ => none }
def fnExactUpperSizeRow : OpenClaim := { program := "ytkmijefheejcjaa", sum := "a660e1e1d84b8cbb79a0f78f4b25097a818cd7d9c28a4694295e628f6650c62c", func := "loop.example/g00655/laws.FnExactUpperSize", spec := "fnExactUpperSize", unfollowed := true, recurses := true, apart := false }
def FnExactUpperSizeSaid : Prop := fnExactUpperSizeRow.holds Try.pinned (OpenSpec.ofChange fnExactUpperSizeSpec)

/-- ITS FALSE NEIGHBOUR: 'it returns false'. Refute it at one input. -/
def fnExactUpperSizeWrong : ChangeSpec := { name := "fnExactUpperSize", fn := fun _ => fun
  | [d] => { results := [.lit (.bool false)], args := [d] }
  | _ => none }
def FnExactUpperSizeWrongFalsely : Prop := fnExactUpperSizeRow.holds Try.pinned (OpenSpec.ofChange fnExactUpperSizeWrong)

/-- 'laws.FnExactUpperSum': WHATEVER THE INPUT: true; the input reads as it did. -/
def fnExactUpperSumSpec : ChangeSpec := { name := "fnExactUpperSum", fn := fun _ => fun
  | [d1, d2, d3] => { results := [.lit (.bool true)], args := [d1, d2, d3] }
  | _ => none }
def fnExactUpperSumRow : OpenClaim := { program := "ytkmijefheejcjaa", sum := "a660e1e1d84b8cbb79a0f78f4b25097a818cd7d9c28a4694295e628f6650c62c", func := "loop.example/g00655/laws.FnExactUpperSum", spec := "fnExactUpperSum", unfollowed := true, recurses := true, apart := false }
def FnExactUpperSumSaid : Prop := fnExactUpperSumRow.holds Try.pinned (OpenSpec.ofChange fnExactUpperSumSpec)

/-- ITS FALSE NEIGHBOUR: 'it returns false'. Refute it at one input. -/
def fnExactUpperSumWrong : ChangeSpec := { name := "fnExactUpperSum", fn := fun _ => fun
  | [d1, d2, d3] => { results := [.lit (.bool false)], args := [d1, d2, d3] }
  | _ => none }
def FnExactUpperSumWrongFalsely : Prop := fnExactUpperSumRow.holds Try.pinned (OpenSpec.ofChange fnExactUpperSumWrong)

/-- 'laws.FnExactUpperBytes': WHATEVER THE INPUT: true; the input reads as it did. -/
def fnExactUpperBytesSpec : ChangeSpec := { name := "fnExactUpperBytes", fn := fun _ => fun
  | [d1, d2, d3] => { results := [.lit (.bool true)], args := [d1, d2, d3] }
  | _ => none }
def fnExactUpperBytesRow : OpenClaim := { program := "ytkmijefheejcjaa", sum := "a660e1e1d84b8cbb79a0f78f4b25097a818cd7d9c28a4694295e628f6650c62c", func := "loop.example/g00655/laws.FnExactUpperBytes", spec := "fnExactUpperBytes", unfollowed := true, recurses := true, apart := false }
def FnExactUpperBytesSaid : Prop := fnExactUpperBytesRow.holds Try.pinned (OpenSpec.ofChange fnExactUpperBytesSpec)

/-- ITS FALSE NEIGHBOUR: 'it returns false'. Refute it at one input. -/
def fnExactUpperBytesWrong : ChangeSpec := { name := "fnExactUpperBytes", fn := fun _ => fun
  | [d1, d2, d3] => { results := [.lit (.bool false)], args := [d1, d2, d3] }
  | _ => none }
def FnExactUpperBytesWrongFalsely : Prop := fnExactUpperBytesRow.holds Try.pinned (OpenSpec.ofChange fnExactUpperBytesWrong)

/-- 'laws.FnExactUpperRead': WHATEVER THE INPUT: true; the input reads as it did. -/
def fnExactUpperReadSpec : ChangeSpec := { name := "fnExactUpperRead", fn := fun _ => fun
  | [d1, d2, d3, d4] => { results := [.lit (.bool true)], args := [d1, d2, d3, d4] }
  | _ => none }
def fnExactUpperReadRow : OpenClaim := { program := "ytkmijefheejcjaa", sum := "a660e1e1d84b8cbb79a0f78f4b25097a818cd7d9c28a4694295e628f6650c62c", func := "loop.example/g00655/laws.FnExactUpperRead", spec := "fnExactUpperRead", unfollowed := true, recurses := true, apart := false }
def FnExactUpperReadSaid : Prop := fnExactUpperReadRow.holds Try.pinned (OpenSpec.ofChange fnExactUpperReadSpec)

/-- ITS FALSE NEIGHBOUR: 'it returns false'. Refute it at one input. -/
def fnExactUpperReadWrong : ChangeSpec := { name := "fnExactUpperRead", fn := fun _ => fun
  | [d1, d2, d3, d4] => { results := [.lit (.bool false)], args := [d1, d2, d3, d4] }
  | _ => none }
def FnExactUpperReadWrongFalsely : Prop := fnExactUpperReadRow.holds Try.pinned (OpenSpec.ofChange fnExactUpperReadWrong)

/- THE SECOND FORM. 'bulk': how many values and letters a reading holds, each counted each time it is reached (what is shared counts as often as it is met; a slice's spare places count too). A statement '..UptoSaid' is the law's where the arguments, and the package variables that the reading takes, are together of bulk at most 1048576: NARROWER than '..Said'. Prove '..Said' where nothing that the law and all that it calls make is longer than what came in: it says more and counts as full. Else prove '..UptoSaid'. A law counts once. -/
mutual
def uptoBulk {H : Type} : DataW H → Nat
  | .lit (.string bytes) => bytes.length + 1
  | .lit _ => 1
  | .nil => 1
  | .ptr d => uptoBulk d + 1
  | .slice elems spare => uptoBulkAll elems + uptoBulkAll spare + 1
  | .agg parts => uptoBulkAll parts + 1
  | .iface _ d => uptoBulk d + 1
  | .map entries => uptoBulkEntries entries + 1
  | .held _ => 1
def uptoBulkAll {H : Type} : List (DataW H) → Nat
  | [] => 0
  | d :: r => uptoBulk d + uptoBulkAll r
def uptoBulkEntries {H : Type} : List (Lit × DataW H) → Nat
  | [] => 0
  | x :: r => uptoBulkEntry x + uptoBulkEntries r
def uptoBulkEntry {H : Type} : Lit × DataW H → Nat
  | (.string bytes, d) => bytes.length + uptoBulk d + 1
  | (_, d) => uptoBulk d + 1
 end
def uptoSmall : (H : Type) → List (DataW H) → Bool := fun _ ds => decide (uptoBulkAll ds ≤ 1048576)
def OpenSpec.upto (s : _root_.Go.ChangeSpec) : _root_.Go.OpenSpec := { _root_.Go.OpenSpec.ofChange s with cond := some uptoSmall }

/-- 'laws.FnSixBack', WHERE WHAT IT READS IS OF BULK AT MOST 1048576: true; the input reads as it did. -/
def fnSixBackUptoRow : OpenClaim := { program := "ytkmijefheejcjaa", sum := "a660e1e1d84b8cbb79a0f78f4b25097a818cd7d9c28a4694295e628f6650c62c", func := "loop.example/g00655/laws.FnSixBack", spec := "fnSixBack", apart := false, narrowed := true }
def FnSixBackUptoSaid : Prop := fnSixBackUptoRow.holds Try.pinned (OpenSpec.upto fnSixBackSpec)

/-- 'laws.FnUpperBack', WHERE WHAT IT READS IS OF BULK AT MOST 1048576: true; the input reads as it did. -/
def fnUpperBackUptoRow : OpenClaim := { program := "ytkmijefheejcjaa", sum := "a660e1e1d84b8cbb79a0f78f4b25097a818cd7d9c28a4694295e628f6650c62c", func := "loop.example/g00655/laws.FnUpperBack", spec := "fnUpperBack", unfollowed := true, recurses := true, apart := false, narrowed := true }
def FnUpperBackUptoSaid : Prop := fnUpperBackUptoRow.holds Try.pinned (OpenSpec.upto fnUpperBackSpec)

/-- 'laws.FnUpperTurned', WHERE WHAT IT READS IS OF BULK AT MOST 1048576: true; the input reads as it did. -/
def fnUpperTurnedUptoRow : OpenClaim := { program := "ytkmijefheejcjaa", sum := "a660e1e1d84b8cbb79a0f78f4b25097a818cd7d9c28a4694295e628f6650c62c", func := "loop.example/g00655/laws.FnUpperTurned", spec := "fnUpperTurned", unfollowed := true, recurses := true, apart := false, narrowed := true }
def FnUpperTurnedUptoSaid : Prop := fnUpperTurnedUptoRow.holds Try.pinned (OpenSpec.upto fnUpperTurnedSpec)

/-- 'laws.FnExactSixRead', WHERE WHAT IT READS IS OF BULK AT MOST 1048576: true; the input reads as it did. -/
def fnExactSixReadUptoRow : OpenClaim := { program := "ytkmijefheejcjaa", sum := "a660e1e1d84b8cbb79a0f78f4b25097a818cd7d9c28a4694295e628f6650c62c", func := "loop.example/g00655/laws.FnExactSixRead", spec := "fnExactSixRead", apart := false, narrowed := true }
def FnExactSixReadUptoSaid : Prop := fnExactSixReadUptoRow.holds Try.pinned (OpenSpec.upto fnExactSixReadSpec)

/-- 'laws.FnExactUpperKind', WHERE WHAT IT READS IS OF BULK AT MOST 1048576: true; the input reads as it did. -/
def fnExactUpperKindUptoRow : OpenClaim := { program := "ytkmijefheejcjaa", sum := "a660e1e1d84b8cbb79a0f78f4b25097a818cd7d9c28a4694295e628f6650c62c", func := "loop.example/g00655/laws.FnExactUpperKind", spec := "fnExactUpperKind", apart := false, narrowed := true }
def FnExactUpperKindUptoSaid : Prop := fnExactUpperKindUptoRow.holds Try.pinned (OpenSpec.upto fnExactUpperKindSpec)

/-- 'laws.FnExactUpperOk', WHERE WHAT IT READS IS OF BULK AT MOST 1048576: true; the input reads as it did. -/
def fnExactUpperOkUptoRow : OpenClaim := { program := "ytkmijefheejcjaa", sum := "a660e1e1d84b8cbb79a0f78f4b25097a818cd7d9c28a4694295e628f6650c62c", func := "loop.example/g00655/laws.FnExactUpperOk", spec := "fnExactUpperOk", unfollowed := true, recurses := true, apart := false, narrowed := true }
def FnExactUpperOkUptoSaid : Prop := fnExactUpperOkUptoRow.holds Try.pinned (OpenSpec.upto fnExactUpperOkSpec)

/-- 'laws.FnExactPseudoSum', WHERE WHAT IT READS IS OF BULK AT MOST 1048576: true; the input reads as it did. -/
def fnExactPseudoSumUptoRow : OpenClaim := { program := "ytkmijefheejcjaa", sum := "a660e1e1d84b8cbb79a0f78f4b25097a818cd7d9c28a4694295e628f6650c62c", func := "loop.example/g00655/laws.FnExactPseudoSum", spec := "fnExactPseudoSum", apart := false, narrowed := true }
def FnExactPseudoSumUptoSaid : Prop := fnExactPseudoSumUptoRow.holds Try.pinned (OpenSpec.upto fnExactPseudoSumSpec)

/-- 'laws.FnExactUpperSize', WHERE WHAT IT READS IS OF BULK AT MOST 1048576: true; the input reads as it did. -/
def fnExactUpperSizeUptoRow : OpenClaim := { program := "ytkmijefheejcjaa", sum := "a660e1e1d84b8cbb79a0f78f4b25097a818cd7d9c28a4694295e628f6650c62c", func := "loop.example/g00655/laws.FnExactUpperSize", spec := "fnExactUpperSize", unfollowed := true, recurses := true, apart := false, narrowed := true }
def FnExactUpperSizeUptoSaid : Prop := fnExactUpperSizeUptoRow.holds Try.pinned (OpenSpec.upto fnExactUpperSizeSpec)

/-- 'laws.FnExactUpperSum', WHERE WHAT IT READS IS OF BULK AT MOST 1048576: true; the input reads as it did. -/
def fnExactUpperSumUptoRow : OpenClaim := { program := "ytkmijefheejcjaa", sum := "a660e1e1d84b8cbb79a0f78f4b25097a818cd7d9c28a4694295e628f6650c62c", func := "loop.example/g00655/laws.FnExactUpperSum", spec := "fnExactUpperSum", unfollowed := true, recurses := true, apart := false, narrowed := true }
def FnExactUpperSumUptoSaid : Prop := fnExactUpperSumUptoRow.holds Try.pinned (OpenSpec.upto fnExactUpperSumSpec)

/-- 'laws.FnExactUpperBytes', WHERE WHAT IT READS IS OF BULK AT MOST 1048576: true; the input reads as it did. -/
def fnExactUpperBytesUptoRow : OpenClaim := { program := "ytkmijefheejcjaa", sum := "a660e1e1d84b8cbb79a0f78f4b25097a818cd7d9c28a4694295e628f6650c62c", func := "loop.example/g00655/laws.FnExactUpperBytes", spec := "fnExactUpperBytes", unfollowed := true, recurses := true, apart := false, narrowed := true }
def FnExactUpperBytesUptoSaid : Prop := fnExactUpperBytesUptoRow.holds Try.pinned (OpenSpec.upto fnExactUpperBytesSpec)

/-- 'laws.FnExactUpperRead', WHERE WHAT IT READS IS OF BULK AT MOST 1048576: true; the input reads as it did. -/
def fnExactUpperReadUptoRow : OpenClaim := { program := "ytkmijefheejcjaa", sum := "a660e1e1d84b8cbb79a0f78f4b25097a818cd7d9c28a4694295e628f6650c62c", func := "loop.example/g00655/laws.FnExactUpperRead", spec := "fnExactUpperRead", unfollowed := true, recurses := true, apart := false, narrowed := true }
def FnExactUpperReadUptoSaid : Prop := fnExactUpperReadUptoRow.holds Try.pinned (OpenSpec.upto fnExactUpperReadSpec)

end Rows
end Go.Proofs.Ytkmijefheejcjaa
