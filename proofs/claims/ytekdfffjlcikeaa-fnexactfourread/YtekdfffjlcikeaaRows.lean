/-
  No cell of these rows narrows 'for every input' (looked for: loops, veiled, ifaces, maps, wideKeys, modest, calm, conditions, laid).
  DERIVED. THE GIVEN ROWS OF THIS SEAT. 7 by the template 'for every input the law returns true; each argument reads behind the call as it read before'; 0 by the template 'total and deterministic' (their statements: YtekdfffjlcikeaaTotals.lean).
  GIVEN WITH THE SEED: the statements are not yours to turn. If you find one false, say at which input.
  Laid BY PROGRAM, IN A SANDBOX (cutbox-rows.mjs): the forced cells as the released guide's own fill.sh prints them over the translation 7d8de05d19aa847d… (all of the seat's roots in one cut). By AI agents, Wed Nov 11 2026. No macro, syntax, notation, axiom, sorry.
-/
import Derived.Test.YtekdfffjlcikeaaChecked
import GoSem.Claim
import GoSem.ClaimJoined
import GoSem.ClaimMapViews
import Derived.JoinedTies
import Derived.KernelRfl
namespace Go.Proofs.Ytekdfffjlcikeaa
/- THE CELL 'sum', in the pinned program and in every row, IS THE sha256 OF THE DUMP (.gsa) THAT YtekdfffjlcikeaaProg.lean LOADS. Nothing in Lean hashes anything: it is a label: what it is worth is what the hold of that sum in a sandbox is worth. -/
noncomputable def Try.pinned : Pinned := { name := "ytekdfffjlcikeaa", sum := "7d8de05d19aa847d391aecf9d64a7ee2b89c25a67889106a0532451799ad6dc0", checked := Try.checked }
namespace Rows
def none {H : Type} : Left H := { results := [], args := [] }

/-- 'laws.FnExactFourPiece': WHATEVER THE INPUT: true; the input reads as it did. -/
def fnExactFourPieceSpec : ChangeSpec := { name := "fnExactFourPiece", fn := fun _ => fun
  | [d] => { results := [.lit (.bool true)], args := [d] }
  | _ => none }
def fnExactFourPieceRow : OpenClaim := { program := "ytekdfffjlcikeaa", sum := "7d8de05d19aa847d391aecf9d64a7ee2b89c25a67889106a0532451799ad6dc0", func := "loop.example/g00655/laws.FnExactFourPiece", spec := "fnExactFourPiece", apart := false }
def FnExactFourPieceSaid : Prop := fnExactFourPieceRow.holds Try.pinned (OpenSpec.ofChange fnExactFourPieceSpec)

/-- ITS FALSE NEIGHBOUR: 'it returns false'. Refute it at one input. -/
def fnExactFourPieceWrong : ChangeSpec := { name := "fnExactFourPiece", fn := fun _ => fun
  | [d] => { results := [.lit (.bool false)], args := [d] }
  | _ => none }
def FnExactFourPieceWrongFalsely : Prop := fnExactFourPieceRow.holds Try.pinned (OpenSpec.ofChange fnExactFourPieceWrong)

/-- 'laws.FnExactFourOk': WHATEVER THE INPUT: true; the input reads as it did. -/
def fnExactFourOkSpec : ChangeSpec := { name := "fnExactFourOk", fn := fun _ => fun
  | [d] => { results := [.lit (.bool true)], args := [d] }
  | _ => none }
def fnExactFourOkRow : OpenClaim := { program := "ytekdfffjlcikeaa", sum := "7d8de05d19aa847d391aecf9d64a7ee2b89c25a67889106a0532451799ad6dc0", func := "loop.example/g00655/laws.FnExactFourOk", spec := "fnExactFourOk", apart := false }
def FnExactFourOkSaid : Prop := fnExactFourOkRow.holds Try.pinned (OpenSpec.ofChange fnExactFourOkSpec)

/-- ITS FALSE NEIGHBOUR: 'it returns false'. Refute it at one input. -/
def fnExactFourOkWrong : ChangeSpec := { name := "fnExactFourOk", fn := fun _ => fun
  | [d] => { results := [.lit (.bool false)], args := [d] }
  | _ => none }
def FnExactFourOkWrongFalsely : Prop := fnExactFourOkRow.holds Try.pinned (OpenSpec.ofChange fnExactFourOkWrong)

/-- 'laws.FnExactHeadSum': WHATEVER THE INPUT: true; the input reads as it did. -/
def fnExactHeadSumSpec : ChangeSpec := { name := "fnExactHeadSum", fn := fun _ => fun
  | [d] => { results := [.lit (.bool true)], args := [d] }
  | _ => none }
def fnExactHeadSumRow : OpenClaim := { program := "ytekdfffjlcikeaa", sum := "7d8de05d19aa847d391aecf9d64a7ee2b89c25a67889106a0532451799ad6dc0", func := "loop.example/g00655/laws.FnExactHeadSum", spec := "fnExactHeadSum", apart := false }
def FnExactHeadSumSaid : Prop := fnExactHeadSumRow.holds Try.pinned (OpenSpec.ofChange fnExactHeadSumSpec)

/-- ITS FALSE NEIGHBOUR: 'it returns false'. Refute it at one input. -/
def fnExactHeadSumWrong : ChangeSpec := { name := "fnExactHeadSum", fn := fun _ => fun
  | [d] => { results := [.lit (.bool false)], args := [d] }
  | _ => none }
def FnExactHeadSumWrongFalsely : Prop := fnExactHeadSumRow.holds Try.pinned (OpenSpec.ofChange fnExactHeadSumWrong)

/-- 'laws.FnExactFourBytes': WHATEVER THE INPUT: true; the input reads as it did. -/
def fnExactFourBytesSpec : ChangeSpec := { name := "fnExactFourBytes", fn := fun _ => fun
  | [d] => { results := [.lit (.bool true)], args := [d] }
  | _ => none }
def fnExactFourBytesRow : OpenClaim := { program := "ytekdfffjlcikeaa", sum := "7d8de05d19aa847d391aecf9d64a7ee2b89c25a67889106a0532451799ad6dc0", func := "loop.example/g00655/laws.FnExactFourBytes", spec := "fnExactFourBytes", apart := false }
def FnExactFourBytesSaid : Prop := fnExactFourBytesRow.holds Try.pinned (OpenSpec.ofChange fnExactFourBytesSpec)

/-- ITS FALSE NEIGHBOUR: 'it returns false'. Refute it at one input. -/
def fnExactFourBytesWrong : ChangeSpec := { name := "fnExactFourBytes", fn := fun _ => fun
  | [d] => { results := [.lit (.bool false)], args := [d] }
  | _ => none }
def FnExactFourBytesWrongFalsely : Prop := fnExactFourBytesRow.holds Try.pinned (OpenSpec.ofChange fnExactFourBytesWrong)

/-- 'laws.FnExactFourRead': WHATEVER THE INPUT: true; the input reads as it did. -/
def fnExactFourReadSpec : ChangeSpec := { name := "fnExactFourRead", fn := fun _ => fun
  | [d] => { results := [.lit (.bool true)], args := [d] }
  | _ => none }
def fnExactFourReadRow : OpenClaim := { program := "ytekdfffjlcikeaa", sum := "7d8de05d19aa847d391aecf9d64a7ee2b89c25a67889106a0532451799ad6dc0", func := "loop.example/g00655/laws.FnExactFourRead", spec := "fnExactFourRead", apart := false }
def FnExactFourReadSaid : Prop := fnExactFourReadRow.holds Try.pinned (OpenSpec.ofChange fnExactFourReadSpec)

/-- ITS FALSE NEIGHBOUR: 'it returns false'. Refute it at one input. -/
def fnExactFourReadWrong : ChangeSpec := { name := "fnExactFourRead", fn := fun _ => fun
  | [d] => { results := [.lit (.bool false)], args := [d] }
  | _ => none }
def FnExactFourReadWrongFalsely : Prop := fnExactFourReadRow.holds Try.pinned (OpenSpec.ofChange fnExactFourReadWrong)

/-- 'laws.FnFourBack': WHATEVER THE INPUT: true; the input reads as it did. -/
def fnFourBackSpec : ChangeSpec := { name := "fnFourBack", fn := fun _ => fun
  | [d] => { results := [.lit (.bool true)], args := [d] }
  | _ => none }
def fnFourBackRow : OpenClaim := { program := "ytekdfffjlcikeaa", sum := "7d8de05d19aa847d391aecf9d64a7ee2b89c25a67889106a0532451799ad6dc0", func := "loop.example/g00655/laws.FnFourBack", spec := "fnFourBack", apart := false }
def FnFourBackSaid : Prop := fnFourBackRow.holds Try.pinned (OpenSpec.ofChange fnFourBackSpec)

/-- ITS FALSE NEIGHBOUR: 'it returns false'. Refute it at one input. -/
def fnFourBackWrong : ChangeSpec := { name := "fnFourBack", fn := fun _ => fun
  | [d] => { results := [.lit (.bool false)], args := [d] }
  | _ => none }
def FnFourBackWrongFalsely : Prop := fnFourBackRow.holds Try.pinned (OpenSpec.ofChange fnFourBackWrong)

/-- 'laws.FnFourTold': WHATEVER THE INPUT: true; the input reads as it did. -/
def fnFourToldSpec : ChangeSpec := { name := "fnFourTold", fn := fun _ => fun
  | [d] => { results := [.lit (.bool true)], args := [d] }
  | _ => none }
def fnFourToldRow : OpenClaim := { program := "ytekdfffjlcikeaa", sum := "7d8de05d19aa847d391aecf9d64a7ee2b89c25a67889106a0532451799ad6dc0", func := "loop.example/g00655/laws.FnFourTold", spec := "fnFourTold", apart := false }
def FnFourToldSaid : Prop := fnFourToldRow.holds Try.pinned (OpenSpec.ofChange fnFourToldSpec)

/-- ITS FALSE NEIGHBOUR: 'it returns false'. Refute it at one input. -/
def fnFourToldWrong : ChangeSpec := { name := "fnFourTold", fn := fun _ => fun
  | [d] => { results := [.lit (.bool false)], args := [d] }
  | _ => none }
def FnFourToldWrongFalsely : Prop := fnFourToldRow.holds Try.pinned (OpenSpec.ofChange fnFourToldWrong)

/- THE SECOND FORM. 'bulk': how many values and letters a reading holds, each counted each time it is reached (what is shared counts as often as it is met; a slice's spare places count too). A statement '..UptoSaid' is the law's where the arguments, and the package variables that the reading takes, are together of bulk at most 1048576: NARROWER than '..Said'. Prove '..Said' where nothing that the law and all that it calls make is longer than what came in: it says more and counts as full. Else prove '..UptoSaid'. A law counts once. -/
mutual
def uptoBulk {H : Type} : DataW H → Nat
  | .lit (.string bytes) => bytes.length + 1
  | .lit _ => 1
  | .nil => 1
  | .ptr d => uptoBulk d + 1
  | .slice elems spare => uptoBulkAll elems + uptoBulkAll spare + 1
  | .agg parts => uptoBulkAll parts + 1
  | .iface _ d => uptoBulk d + 1
  | .map entries => uptoBulkEntries entries + 1
  | .held _ => 1
def uptoBulkAll {H : Type} : List (DataW H) → Nat
  | [] => 0
  | d :: r => uptoBulk d + uptoBulkAll r
def uptoBulkEntries {H : Type} : List (Lit × DataW H) → Nat
  | [] => 0
  | x :: r => uptoBulkEntry x + uptoBulkEntries r
def uptoBulkEntry {H : Type} : Lit × DataW H → Nat
  | (.string bytes, d) => bytes.length + uptoBulk d + 1
  | (_, d) => uptoBulk d + 1
 end
def uptoSmall : (H : Type) → List (DataW H) → Bool := fun _ ds => decide (uptoBulkAll ds ≤ 1048576)
def OpenSpec.upto (s : _root_.Go.ChangeSpec) : _root_.Go.OpenSpec := { _root_.Go.OpenSpec.ofChange s with cond := some uptoSmall }

/-- 'laws.FnExactFourPiece', WHERE WHAT IT READS IS OF BULK AT MOST 1048576: true; the input reads as it did. -/
def fnExactFourPieceUptoRow : OpenClaim := { program := "ytekdfffjlcikeaa", sum := "7d8de05d19aa847d391aecf9d64a7ee2b89c25a67889106a0532451799ad6dc0", func := "loop.example/g00655/laws.FnExactFourPiece", spec := "fnExactFourPiece", apart := false, narrowed := true }
def FnExactFourPieceUptoSaid : Prop := fnExactFourPieceUptoRow.holds Try.pinned (OpenSpec.upto fnExactFourPieceSpec)

/-- 'laws.FnExactFourOk', WHERE WHAT IT READS IS OF BULK AT MOST 1048576: true; the input reads as it did. -/
def fnExactFourOkUptoRow : OpenClaim := { program := "ytekdfffjlcikeaa", sum := "7d8de05d19aa847d391aecf9d64a7ee2b89c25a67889106a0532451799ad6dc0", func := "loop.example/g00655/laws.FnExactFourOk", spec := "fnExactFourOk", apart := false, narrowed := true }
def FnExactFourOkUptoSaid : Prop := fnExactFourOkUptoRow.holds Try.pinned (OpenSpec.upto fnExactFourOkSpec)

/-- 'laws.FnExactHeadSum', WHERE WHAT IT READS IS OF BULK AT MOST 1048576: true; the input reads as it did. -/
def fnExactHeadSumUptoRow : OpenClaim := { program := "ytekdfffjlcikeaa", sum := "7d8de05d19aa847d391aecf9d64a7ee2b89c25a67889106a0532451799ad6dc0", func := "loop.example/g00655/laws.FnExactHeadSum", spec := "fnExactHeadSum", apart := false, narrowed := true }
def FnExactHeadSumUptoSaid : Prop := fnExactHeadSumUptoRow.holds Try.pinned (OpenSpec.upto fnExactHeadSumSpec)

/-- 'laws.FnExactFourBytes', WHERE WHAT IT READS IS OF BULK AT MOST 1048576: true; the input reads as it did. -/
def fnExactFourBytesUptoRow : OpenClaim := { program := "ytekdfffjlcikeaa", sum := "7d8de05d19aa847d391aecf9d64a7ee2b89c25a67889106a0532451799ad6dc0", func := "loop.example/g00655/laws.FnExactFourBytes", spec := "fnExactFourBytes", apart := false, narrowed := true }
def FnExactFourBytesUptoSaid : Prop := fnExactFourBytesUptoRow.holds Try.pinned (OpenSpec.upto fnExactFourBytesSpec)

/-- 'laws.FnExactFourRead', WHERE WHAT IT READS IS OF BULK AT MOST 1048576: true; the input reads as it did. -/
def fnExactFourReadUptoRow : OpenClaim := { program := "ytekdfffjlcikeaa", sum := "7d8de05d19aa847d391aecf9d64a7ee2b89c25a67889106a0532451799ad6dc0", func := "loop.example/g00655/laws.FnExactFourRead", spec := "fnExactFourRead", apart := false, narrowed := true }
def FnExactFourReadUptoSaid : Prop := fnExactFourReadUptoRow.holds Try.pinned (OpenSpec.upto fnExactFourReadSpec)

/-- 'laws.FnFourBack', WHERE WHAT IT READS IS OF BULK AT MOST 1048576: true; the input reads as it did. -/
def fnFourBackUptoRow : OpenClaim := { program := "ytekdfffjlcikeaa", sum := "7d8de05d19aa847d391aecf9d64a7ee2b89c25a67889106a0532451799ad6dc0", func := "loop.example/g00655/laws.FnFourBack", spec := "fnFourBack", apart := false, narrowed := true }
def FnFourBackUptoSaid : Prop := fnFourBackUptoRow.holds Try.pinned (OpenSpec.upto fnFourBackSpec)

/-- 'laws.FnFourTold', WHERE WHAT IT READS IS OF BULK AT MOST 1048576: true; the input reads as it did. -/
def fnFourToldUptoRow : OpenClaim := { program := "ytekdfffjlcikeaa", sum := "7d8de05d19aa847d391aecf9d64a7ee2b89c25a67889106a0532451799ad6dc0", func := "loop.example/g00655/laws.FnFourTold", spec := "fnFourTold", apart := false, narrowed := true }
def FnFourToldUptoSaid : Prop := fnFourToldUptoRow.holds Try.pinned (OpenSpec.upto fnFourToldSpec)

end Rows
end Go.Proofs.Ytekdfffjlcikeaa
