/-
  No cell of these rows narrows 'for every input' (looked for: loops, veiled, ifaces, maps, wideKeys, modest, calm, conditions, laid).
  DERIVED. THE GIVEN ROWS OF THIS SEAT. 6 by the template 'for every input the law returns true; each argument reads behind the call as it read before'; 0 by the template 'total and deterministic' (their statements: YthogonpjkngpjaaTotals.lean).
  GIVEN WITH THE SEED: the statements are not yours to turn. If you find one false, say at which input.
  Laid BY PROGRAM, IN A SANDBOX (cutbox-rows.mjs): the forced cells as the released guide's own fill.sh prints them over the translation f2eafafc834d28d6… (all of the seat's roots in one cut). By AI agents, Wed Nov 11 2026. No macro, syntax, notation, axiom, sorry.
-/
import Derived.Test.YthogonpjkngpjaaChecked
import GoSem.Claim
import GoSem.ClaimJoined
import GoSem.ClaimMapViews
import Derived.JoinedTies
import Derived.KernelRfl
namespace Go.Proofs.Ythogonpjkngpjaa
/- THE CELL 'sum', in the pinned program and in every row, IS THE sha256 OF THE DUMP (.gsa) THAT YthogonpjkngpjaaProg.lean LOADS. Nothing in Lean hashes anything: it is a label: what it is worth is what the hold of that sum in a sandbox is worth. -/
noncomputable def Try.pinned : Pinned := { name := "ythogonpjkngpjaa", sum := "f2eafafc834d28d6e29ac458926959db3de4cfa438dcfc9655bdce71488102e1", checked := Try.checked }
namespace Rows
def none {H : Type} : Left H := { results := [], args := [] }

/-- 'laws.FnExactKeyOk': WHATEVER THE INPUT: true; the input reads as it did. -/
def fnExactKeyOkSpec : ChangeSpec := { name := "fnExactKeyOk", fn := fun _ => fun
  | [d] => { results := [.lit (.bool true)], args := [d] }
  | _ => none }
def fnExactKeyOkRow : OpenClaim := { program := "ythogonpjkngpjaa", sum := "f2eafafc834d28d6e29ac458926959db3de4cfa438dcfc9655bdce71488102e1", func := "loop.example/g00655/laws.FnExactKeyOk", spec := "fnExactKeyOk", apart := false }
def FnExactKeyOkSaid : Prop := fnExactKeyOkRow.holds Try.pinned (OpenSpec.ofChange fnExactKeyOkSpec)

/-- ITS FALSE NEIGHBOUR: 'it returns false'. Refute it at one input. -/
def fnExactKeyOkWrong : ChangeSpec := { name := "fnExactKeyOk", fn := fun _ => fun
  | [d] => { results := [.lit (.bool false)], args := [d] }
  | _ => none }
def FnExactKeyOkWrongFalsely : Prop := fnExactKeyOkRow.holds Try.pinned (OpenSpec.ofChange fnExactKeyOkWrong)

/-- 'laws.FnExactTurned': WHATEVER THE INPUT: true; the input reads as it did. -/
def fnExactTurnedSpec : ChangeSpec := { name := "fnExactTurned", fn := fun _ => fun
  | [d] => { results := [.lit (.bool true)], args := [d] }
  | _ => none }
def fnExactTurnedRow : OpenClaim := { program := "ythogonpjkngpjaa", sum := "f2eafafc834d28d6e29ac458926959db3de4cfa438dcfc9655bdce71488102e1", func := "loop.example/g00655/laws.FnExactTurned", spec := "fnExactTurned", apart := false }
def FnExactTurnedSaid : Prop := fnExactTurnedRow.holds Try.pinned (OpenSpec.ofChange fnExactTurnedSpec)

/-- ITS FALSE NEIGHBOUR: 'it returns false'. Refute it at one input. -/
def fnExactTurnedWrong : ChangeSpec := { name := "fnExactTurned", fn := fun _ => fun
  | [d] => { results := [.lit (.bool false)], args := [d] }
  | _ => none }
def FnExactTurnedWrongFalsely : Prop := fnExactTurnedRow.holds Try.pinned (OpenSpec.ofChange fnExactTurnedWrong)

/-- 'laws.FnExactUpperRead': WHATEVER THE INPUT: true; the input reads as it did. -/
def fnExactUpperReadSpec : ChangeSpec := { name := "fnExactUpperRead", fn := fun _ => fun
  | [d1, d2, d3, d4] => { results := [.lit (.bool true)], args := [d1, d2, d3, d4] }
  | _ => none }
def fnExactUpperReadRow : OpenClaim := { program := "ythogonpjkngpjaa", sum := "f2eafafc834d28d6e29ac458926959db3de4cfa438dcfc9655bdce71488102e1", func := "loop.example/g00655/laws.FnExactUpperRead", spec := "fnExactUpperRead", unfollowed := true, recurses := true, apart := false }
def FnExactUpperReadSaid : Prop := fnExactUpperReadRow.holds Try.pinned (OpenSpec.ofChange fnExactUpperReadSpec)

/-- ITS FALSE NEIGHBOUR: 'it returns false'. Refute it at one input. -/
def fnExactUpperReadWrong : ChangeSpec := { name := "fnExactUpperRead", fn := fun _ => fun
  | [d1, d2, d3, d4] => { results := [.lit (.bool false)], args := [d1, d2, d3, d4] }
  | _ => none }
def FnExactUpperReadWrongFalsely : Prop := fnExactUpperReadRow.holds Try.pinned (OpenSpec.ofChange fnExactUpperReadWrong)

/-- 'laws.FnUpperTurned': WHATEVER THE INPUT: true; the input reads as it did. -/
def fnUpperTurnedSpec : ChangeSpec := { name := "fnUpperTurned", fn := fun _ => fun
  | [d] => { results := [.lit (.bool true)], args := [d] }
  | _ => none }
def fnUpperTurnedRow : OpenClaim := { program := "ythogonpjkngpjaa", sum := "f2eafafc834d28d6e29ac458926959db3de4cfa438dcfc9655bdce71488102e1", func := "loop.example/g00655/laws.FnUpperTurned", spec := "fnUpperTurned", unfollowed := true, recurses := true, apart := false }
def FnUpperTurnedSaid : Prop := fnUpperTurnedRow.holds Try.pinned (OpenSpec.ofChange fnUpperTurnedSpec)

/-- ITS FALSE NEIGHBOUR: 'it returns false'. Refute it at one input. -/
def fnUpperTurnedWrong : ChangeSpec := { name := "fnUpperTurned", fn := fun _ => fun
  | [d] => { results := [.lit (.bool false)], args := [d] }
  | _ => none }
def FnUpperTurnedWrongFalsely : Prop := fnUpperTurnedRow.holds Try.pinned (OpenSpec.ofChange fnUpperTurnedWrong)

/-- 'laws.FnUpperBack': WHATEVER THE INPUT: true; the input reads as it did. -/
def fnUpperBackSpec : ChangeSpec := { name := "fnUpperBack", fn := fun _ => fun
  | [d] => { results := [.lit (.bool true)], args := [d] }
  | _ => none }
def fnUpperBackRow : OpenClaim := { program := "ythogonpjkngpjaa", sum := "f2eafafc834d28d6e29ac458926959db3de4cfa438dcfc9655bdce71488102e1", func := "loop.example/g00655/laws.FnUpperBack", spec := "fnUpperBack", unfollowed := true, recurses := true, apart := false }
def FnUpperBackSaid : Prop := fnUpperBackRow.holds Try.pinned (OpenSpec.ofChange fnUpperBackSpec)

/-- ITS FALSE NEIGHBOUR: 'it returns false'. Refute it at one input. -/
def fnUpperBackWrong : ChangeSpec := { name := "fnUpperBack", fn := fun _ => fun
  | [d] => { results := [.lit (.bool false)], args := [d] }
  | _ => none }
def FnUpperBackWrongFalsely : Prop := fnUpperBackRow.holds Try.pinned (OpenSpec.ofChange fnUpperBackWrong)

/-- 'laws.FnSixBack': WHATEVER THE INPUT: true; the input reads as it did. -/
def fnSixBackSpec : ChangeSpec := { name := "fnSixBack", fn := fun _ => fun
  | [d] => { results := [.lit (.bool true)], args := [d] }
  | _ => none }
def fnSixBackRow : OpenClaim := { program := "ythogonpjkngpjaa", sum := "f2eafafc834d28d6e29ac458926959db3de4cfa438dcfc9655bdce71488102e1", func := "loop.example/g00655/laws.FnSixBack", spec := "fnSixBack", apart := false }
def FnSixBackSaid : Prop := fnSixBackRow.holds Try.pinned (OpenSpec.ofChange fnSixBackSpec)

/-- ITS FALSE NEIGHBOUR: 'it returns false'. Refute it at one input. -/
def fnSixBackWrong : ChangeSpec := { name := "fnSixBack", fn := fun _ => fun
  | [d] => { results := [.lit (.bool false)], args := [d] }
  | _ => none }
def FnSixBackWrongFalsely : Prop := fnSixBackRow.holds Try.pinned (OpenSpec.ofChange fnSixBackWrong)

/- THE SECOND FORM. 'bulk': how many values and letters a reading holds, each counted each time it is reached (what is shared counts as often as it is met; a slice's spare places count too). A statement '..UptoSaid' is the law's where the arguments, and the package variables that the reading takes, are together of bulk at most 1048576: NARROWER than '..Said'. Prove '..Said' where nothing that the law and all that it calls make is longer than what came in: it says more and counts as full. Else prove '..UptoSaid'. A law counts once. -/
mutual
def uptoBulk {H : Type} : DataW H → Nat
  | .lit (.string bytes) => bytes.length + 1
  | .lit _ => 1
  | .nil => 1
  | .ptr d => uptoBulk d + 1
  | .slice elems spare => uptoBulkAll elems + uptoBulkAll spare + 1
  | .agg parts => uptoBulkAll parts + 1
  | .iface _ d => uptoBulk d + 1
  | .map entries => uptoBulkEntries entries + 1
  | .held _ => 1
def uptoBulkAll {H : Type} : List (DataW H) → Nat
  | [] => 0
  | d :: r => uptoBulk d + uptoBulkAll r
def uptoBulkEntries {H : Type} : List (Lit × DataW H) → Nat
  | [] => 0
  | x :: r => uptoBulkEntry x + uptoBulkEntries r
def uptoBulkEntry {H : Type} : Lit × DataW H → Nat
  | (.string bytes, d) => bytes.length + uptoBulk d + 1
  | (_, d) => uptoBulk d + 1
 end
def uptoSmall : (H : Type) → List (DataW H) → Bool := fun _ ds => decide (uptoBulkAll ds ≤ 1048576)
def OpenSpec.upto (s : _root_.Go.ChangeSpec) : _root_.Go.OpenSpec := { _root_.Go.OpenSpec.ofChange s with cond := some uptoSmall }

/-- 'laws.FnExactKeyOk', WHERE WHAT IT READS IS OF BULK AT MOST 1048576: true; the input reads as it did. -/
def fnExactKeyOkUptoRow : OpenClaim := { program := "ythogonpjkngpjaa", sum := "f2eafafc834d28d6e29ac458926959db3de4cfa438dcfc9655bdce71488102e1", func := "loop.example/g00655/laws.FnExactKeyOk", spec := "fnExactKeyOk", apart := false, narrowed := true }
def FnExactKeyOkUptoSaid : Prop := fnExactKeyOkUptoRow.holds Try.pinned (OpenSpec.upto fnExactKeyOkSpec)

/-- 'laws.FnExactTurned', WHERE WHAT IT READS IS OF BULK AT MOST 1048576: true; the input reads as it did. -/
def fnExactTurnedUptoRow : OpenClaim := { program := "ythogonpjkngpjaa", sum := "f2eafafc834d28d6e29ac458926959db3de4cfa438dcfc9655bdce71488102e1", func := "loop.example/g00655/laws.FnExactTurned", spec := "fnExactTurned", apart := false, narrowed := true }
def FnExactTurnedUptoSaid : Prop := fnExactTurnedUptoRow.holds Try.pinned (OpenSpec.upto fnExactTurnedSpec)

/-- 'laws.FnExactUpperRead', WHERE WHAT IT READS IS OF BULK AT MOST 1048576: true; the input reads as it did. -/
def fnExactUpperReadUptoRow : OpenClaim := { program := "ythogonpjkngpjaa", sum := "f2eafafc834d28d6e29ac458926959db3de4cfa438dcfc9655bdce71488102e1", func := "loop.example/g00655/laws.FnExactUpperRead", spec := "fnExactUpperRead", unfollowed := true, recurses := true, apart := false, narrowed := true }
def FnExactUpperReadUptoSaid : Prop := fnExactUpperReadUptoRow.holds Try.pinned (OpenSpec.upto fnExactUpperReadSpec)

/-- 'laws.FnUpperTurned', WHERE WHAT IT READS IS OF BULK AT MOST 1048576: true; the input reads as it did. -/
def fnUpperTurnedUptoRow : OpenClaim := { program := "ythogonpjkngpjaa", sum := "f2eafafc834d28d6e29ac458926959db3de4cfa438dcfc9655bdce71488102e1", func := "loop.example/g00655/laws.FnUpperTurned", spec := "fnUpperTurned", unfollowed := true, recurses := true, apart := false, narrowed := true }
def FnUpperTurnedUptoSaid : Prop := fnUpperTurnedUptoRow.holds Try.pinned (OpenSpec.upto fnUpperTurnedSpec)

/-- 'laws.FnUpperBack', WHERE WHAT IT READS IS OF BULK AT MOST 1048576: true; the input reads as it did. -/
def fnUpperBackUptoRow : OpenClaim := { program := "ythogonpjkngpjaa", sum := "f2eafafc834d28d6e29ac458926959db3de4cfa438dcfc9655bdce71488102e1", func := "loop.example/g00655/laws.FnUpperBack", spec := "fnUpperBack", unfollowed := true, recurses := true, apart := false, narrowed := true }
def FnUpperBackUptoSaid : Prop := fnUpperBackUptoRow.holds Try.pinned (OpenSpec.upto fnUpperBackSpec)

/-- 'laws.FnSixBack', WHERE WHAT IT READS IS OF BULK AT MOST 1048576: true; the input reads as it did. -/
def fnSixBackUptoRow : OpenClaim := { program := "ythogonpjkngpjaa", sum := "f2eafafc834d28d6e29ac458926959db3de4cfa438dcfc9655bdce71488102e1", func := "loop.example/g00655/laws.FnSixBack", spec := "fnSixBack", apart := false, narrowed := true }
def FnSixBackUptoSaid : Prop := fnSixBackUptoRow.holds Try.pinned (OpenSpec.upto fnSixBackSpec)

end Rows
end Go.Proofs.Ythogonpjkngpjaa
