/-
  No cell of these rows narrows 'for every input' (looked for: loops, veiled, ifaces, maps, wideKeys, modest, calm, conditions, laid).
  DERIVED. THE GIVEN ROWS OF THIS SEAT. 9 by the template 'for every input the law returns true; each argument reads behind the call as it read before'; 0 by the template 'total and deterministic' (their statements: YtfbigjeonajmfaaTotals.lean).
  GIVEN WITH THE SEED: the statements are not yours to turn. If you find one false, say at which input.
  Laid BY PROGRAM, IN A SANDBOX (cutbox-rows.mjs): the forced cells as the released guide's own fill.sh prints them over the translation 164d84d8acb953fb… (all of the seat's roots in one cut). By AI agents, Wed Nov 11 2026. No macro, syntax, notation, axiom, sorry.
-/
import Derived.Test.YtfbigjeonajmfaaChecked
import GoSem.Claim
import GoSem.ClaimJoined
import GoSem.ClaimMapViews
import Derived.JoinedTies
import Derived.KernelRfl
namespace Go.Proofs.Ytfbigjeonajmfaa
/- THE CELL 'sum', in the pinned program and in every row, IS THE sha256 OF THE DUMP (.gsa) THAT YtfbigjeonajmfaaProg.lean LOADS. Nothing in Lean hashes anything: it is a label: what it is worth is what the hold of that sum in a sandbox is worth. -/
noncomputable def Try.pinned : Pinned := { name := "ytfbigjeonajmfaa", sum := "164d84d8acb953fbf3e873243ffd3e10078b929cab0a8edaeb5aede6219a1539", checked := Try.checked }
namespace Rows
def none {H : Type} : Left H := { results := [], args := [] }

/-- 'laws.FnSwapSum': WHATEVER THE INPUT: true; the input reads as it did. -/
def fnSwapSumSpec : ChangeSpec := { name := "fnSwapSum", fn := fun _ => fun
  | [d] => { results := [.lit (.bool true)], args := [d] }
  | _ => none }
def fnSwapSumRow : OpenClaim := { program := "ytfbigjeonajmfaa", sum := "164d84d8acb953fbf3e873243ffd3e10078b929cab0a8edaeb5aede6219a1539", func := "loop.example/g00655/laws.FnSwapSum", spec := "fnSwapSum", apart := false }
def FnSwapSumSaid : Prop := fnSwapSumRow.holds Try.pinned (OpenSpec.ofChange fnSwapSumSpec)

/-- ITS FALSE NEIGHBOUR: 'it returns false'. Refute it at one input. -/
def fnSwapSumWrong : ChangeSpec := { name := "fnSwapSum", fn := fun _ => fun
  | [d] => { results := [.lit (.bool false)], args := [d] }
  | _ => none }
def FnSwapSumWrongFalsely : Prop := fnSwapSumRow.holds Try.pinned (OpenSpec.ofChange fnSwapSumWrong)

/-- 'laws.FnSwapsAny': WHATEVER THE INPUT: true; the input reads as it did. -/
def fnSwapsAnySpec : ChangeSpec := { name := "fnSwapsAny", fn := fun _ => fun
  | [d] => { results := [.lit (.bool true)], args := [d] }
  | _ => none }
def fnSwapsAnyRow : OpenClaim := { program := "ytfbigjeonajmfaa", sum := "164d84d8acb953fbf3e873243ffd3e10078b929cab0a8edaeb5aede6219a1539", func := "loop.example/g00655/laws.FnSwapsAny", spec := "fnSwapsAny", apart := false }
def FnSwapsAnySaid : Prop := fnSwapsAnyRow.holds Try.pinned (OpenSpec.ofChange fnSwapsAnySpec)

/-- ITS FALSE NEIGHBOUR: 'it returns false'. Refute it at one input. -/
def fnSwapsAnyWrong : ChangeSpec := { name := "fnSwapsAny", fn := fun _ => fun
  | [d] => { results := [.lit (.bool false)], args := [d] }
  | _ => none }
def FnSwapsAnyWrongFalsely : Prop := fnSwapsAnyRow.holds Try.pinned (OpenSpec.ofChange fnSwapsAnyWrong)

/-- 'laws.FnTurnedByte': WHATEVER THE INPUT: true; the input reads as it did. -/
def fnTurnedByteSpec : ChangeSpec := { name := "fnTurnedByte", fn := fun _ => fun
  | [d] => { results := [.lit (.bool true)], args := [d] }
  | _ => none }
def fnTurnedByteRow : OpenClaim := { program := "ytfbigjeonajmfaa", sum := "164d84d8acb953fbf3e873243ffd3e10078b929cab0a8edaeb5aede6219a1539", func := "loop.example/g00655/laws.FnTurnedByte", spec := "fnTurnedByte", apart := false }
def FnTurnedByteSaid : Prop := fnTurnedByteRow.holds Try.pinned (OpenSpec.ofChange fnTurnedByteSpec)

/-- ITS FALSE NEIGHBOUR: 'it returns false'. Refute it at one input. -/
def fnTurnedByteWrong : ChangeSpec := { name := "fnTurnedByte", fn := fun _ => fun
  | [d] => { results := [.lit (.bool false)], args := [d] }
  | _ => none }
def FnTurnedByteWrongFalsely : Prop := fnTurnedByteRow.holds Try.pinned (OpenSpec.ofChange fnTurnedByteWrong)

/-- 'laws.FnExactSumAdd': WHATEVER THE INPUT: true; the input reads as it did. -/
def fnExactSumAddSpec : ChangeSpec := { name := "fnExactSumAdd", fn := fun _ => fun
  | [d1, d2] => { results := [.lit (.bool true)], args := [d1, d2] }
  | _ => none }
def fnExactSumAddRow : OpenClaim := { program := "ytfbigjeonajmfaa", sum := "164d84d8acb953fbf3e873243ffd3e10078b929cab0a8edaeb5aede6219a1539", func := "loop.example/g00655/laws.FnExactSumAdd", spec := "fnExactSumAdd", apart := false }
def FnExactSumAddSaid : Prop := fnExactSumAddRow.holds Try.pinned (OpenSpec.ofChange fnExactSumAddSpec)

/-- ITS FALSE NEIGHBOUR: 'it returns false'. Refute it at one input. -/
def fnExactSumAddWrong : ChangeSpec := { name := "fnExactSumAdd", fn := fun _ => fun
  | [d1, d2] => { results := [.lit (.bool false)], args := [d1, d2] }
  | _ => none }
def FnExactSumAddWrongFalsely : Prop := fnExactSumAddRow.holds Try.pinned (OpenSpec.ofChange fnExactSumAddWrong)

/-- 'laws.FnExactOnesSum': WHATEVER THE INPUT: true; the input reads as it did. -/
def fnExactOnesSumSpec : ChangeSpec := { name := "fnExactOnesSum", fn := fun _ => fun
  | [d] => { results := [.lit (.bool true)], args := [d] }
  | _ => none }
def fnExactOnesSumRow : OpenClaim := { program := "ytfbigjeonajmfaa", sum := "164d84d8acb953fbf3e873243ffd3e10078b929cab0a8edaeb5aede6219a1539", func := "loop.example/g00655/laws.FnExactOnesSum", spec := "fnExactOnesSum", apart := false }
def FnExactOnesSumSaid : Prop := fnExactOnesSumRow.holds Try.pinned (OpenSpec.ofChange fnExactOnesSumSpec)

/-- ITS FALSE NEIGHBOUR: 'it returns false'. Refute it at one input. -/
def fnExactOnesSumWrong : ChangeSpec := { name := "fnExactOnesSum", fn := fun _ => fun
  | [d] => { results := [.lit (.bool false)], args := [d] }
  | _ => none }
def FnExactOnesSumWrongFalsely : Prop := fnExactOnesSumRow.holds Try.pinned (OpenSpec.ofChange fnExactOnesSumWrong)

/-- 'laws.FnExactChecksum': WHATEVER THE INPUT: true; the input reads as it did. -/
def fnExactChecksumSpec : ChangeSpec := { name := "fnExactChecksum", fn := fun _ => fun
  | [d] => { results := [.lit (.bool true)], args := [d] }
  | _ => none }
def fnExactChecksumRow : OpenClaim := { program := "ytfbigjeonajmfaa", sum := "164d84d8acb953fbf3e873243ffd3e10078b929cab0a8edaeb5aede6219a1539", func := "loop.example/g00655/laws.FnExactChecksum", spec := "fnExactChecksum", apart := false }
def FnExactChecksumSaid : Prop := fnExactChecksumRow.holds Try.pinned (OpenSpec.ofChange fnExactChecksumSpec)

/-- ITS FALSE NEIGHBOUR: 'it returns false'. Refute it at one input. -/
def fnExactChecksumWrong : ChangeSpec := { name := "fnExactChecksum", fn := fun _ => fun
  | [d] => { results := [.lit (.bool false)], args := [d] }
  | _ => none }
def FnExactChecksumWrongFalsely : Prop := fnExactChecksumRow.holds Try.pinned (OpenSpec.ofChange fnExactChecksumWrong)

/-- 'laws.FnExactSumRight': WHATEVER THE INPUT: true; the input reads as it did. -/
def fnExactSumRightSpec : ChangeSpec := { name := "fnExactSumRight", fn := fun _ => fun
  | [d] => { results := [.lit (.bool true)], args := [d] }
  | _ => none }
def fnExactSumRightRow : OpenClaim := { program := "ytfbigjeonajmfaa", sum := "164d84d8acb953fbf3e873243ffd3e10078b929cab0a8edaeb5aede6219a1539", func := "loop.example/g00655/laws.FnExactSumRight", spec := "fnExactSumRight", apart := false }
def FnExactSumRightSaid : Prop := fnExactSumRightRow.holds Try.pinned (OpenSpec.ofChange fnExactSumRightSpec)

/-- ITS FALSE NEIGHBOUR: 'it returns false'. Refute it at one input. -/
def fnExactSumRightWrong : ChangeSpec := { name := "fnExactSumRight", fn := fun _ => fun
  | [d] => { results := [.lit (.bool false)], args := [d] }
  | _ => none }
def FnExactSumRightWrongFalsely : Prop := fnExactSumRightRow.holds Try.pinned (OpenSpec.ofChange fnExactSumRightWrong)

/-- 'laws.FnExactSumSwap': WHATEVER THE INPUT: true; the input reads as it did. -/
def fnExactSumSwapSpec : ChangeSpec := { name := "fnExactSumSwap", fn := fun _ => fun
  | [d1, d2, d3] => { results := [.lit (.bool true)], args := [d1, d2, d3] }
  | _ => none }
def fnExactSumSwapRow : OpenClaim := { program := "ytfbigjeonajmfaa", sum := "164d84d8acb953fbf3e873243ffd3e10078b929cab0a8edaeb5aede6219a1539", func := "loop.example/g00655/laws.FnExactSumSwap", spec := "fnExactSumSwap", apart := false }
def FnExactSumSwapSaid : Prop := fnExactSumSwapRow.holds Try.pinned (OpenSpec.ofChange fnExactSumSwapSpec)

/-- ITS FALSE NEIGHBOUR: 'it returns false'. Refute it at one input. -/
def fnExactSumSwapWrong : ChangeSpec := { name := "fnExactSumSwap", fn := fun _ => fun
  | [d1, d2, d3] => { results := [.lit (.bool false)], args := [d1, d2, d3] }
  | _ => none }
def FnExactSumSwapWrongFalsely : Prop := fnExactSumSwapRow.holds Try.pinned (OpenSpec.ofChange fnExactSumSwapWrong)

/-- 'laws.FnExactSumSwaps': WHATEVER THE INPUT: true; the input reads as it did. -/
def fnExactSumSwapsSpec : ChangeSpec := { name := "fnExactSumSwaps", fn := fun _ => fun
  | [d1, d2, d3] => { results := [.lit (.bool true)], args := [d1, d2, d3] }
  | _ => none }
def fnExactSumSwapsRow : OpenClaim := { program := "ytfbigjeonajmfaa", sum := "164d84d8acb953fbf3e873243ffd3e10078b929cab0a8edaeb5aede6219a1539", func := "loop.example/g00655/laws.FnExactSumSwaps", spec := "fnExactSumSwaps", apart := false }
def FnExactSumSwapsSaid : Prop := fnExactSumSwapsRow.holds Try.pinned (OpenSpec.ofChange fnExactSumSwapsSpec)

/-- ITS FALSE NEIGHBOUR: 'it returns false'. Refute it at one input. -/
def fnExactSumSwapsWrong : ChangeSpec := { name := "fnExactSumSwaps", fn := fun _ => fun
  | [d1, d2, d3] => { results := [.lit (.bool false)], args := [d1, d2, d3] }
  | _ => none }
def FnExactSumSwapsWrongFalsely : Prop := fnExactSumSwapsRow.holds Try.pinned (OpenSpec.ofChange fnExactSumSwapsWrong)

/- THE SECOND FORM. 'bulk': how many values and letters a reading holds, each counted each time it is reached (what is shared counts as often as it is met; a slice's spare places count too). A statement '..UptoSaid' is the law's where the arguments, and the package variables that the reading takes, are together of bulk at most 1048576: NARROWER than '..Said'. Prove '..Said' where nothing that the law and all that it calls make is longer than what came in: it says more and counts as full. Else prove '..UptoSaid'. A law counts once. -/
mutual
def uptoBulk {H : Type} : DataW H → Nat
  | .lit (.string bytes) => bytes.length + 1
  | .lit _ => 1
  | .nil => 1
  | .ptr d => uptoBulk d + 1
  | .slice elems spare => uptoBulkAll elems + uptoBulkAll spare + 1
  | .agg parts => uptoBulkAll parts + 1
  | .iface _ d => uptoBulk d + 1
  | .map entries => uptoBulkEntries entries + 1
  | .held _ => 1
def uptoBulkAll {H : Type} : List (DataW H) → Nat
  | [] => 0
  | d :: r => uptoBulk d + uptoBulkAll r
def uptoBulkEntries {H : Type} : List (Lit × DataW H) → Nat
  | [] => 0
  | x :: r => uptoBulkEntry x + uptoBulkEntries r
def uptoBulkEntry {H : Type} : Lit × DataW H → Nat
  | (.string bytes, d) => bytes.length + uptoBulk d + 1
  | (_, d) => uptoBulk d + 1
 end
def uptoSmall : (H : Type) → List (DataW H) → Bool := fun _ ds => decide (uptoBulkAll ds ≤ 1048576)
def OpenSpec.upto (s : _root_.Go.ChangeSpec) : _root_.Go.OpenSpec := { _root_.Go.OpenSpec.ofChange s with cond := some uptoSmall }

/-- 'laws.FnSwapSum', WHERE WHAT IT READS IS OF BULK AT MOST 1048576: true; the input reads as it did. -/
def fnSwapSumUptoRow : OpenClaim := { program := "ytfbigjeonajmfaa", sum := "164d84d8acb953fbf3e873243ffd3e10078b929cab0a8edaeb5aede6219a1539", func := "loop.example/g00655/laws.FnSwapSum", spec := "fnSwapSum", apart := false, narrowed := true }
def FnSwapSumUptoSaid : Prop := fnSwapSumUptoRow.holds Try.pinned (OpenSpec.upto fnSwapSumSpec)

/-- 'laws.FnSwapsAny', WHERE WHAT IT READS IS OF BULK AT MOST 1048576: true; the input reads as it did. -/
def fnSwapsAnyUptoRow : OpenClaim := { program := "ytfbigjeonajmfaa", sum := "164d84d8acb953fbf3e873243ffd3e10078b929cab0a8edaeb5aede6219a1539", func := "loop.example/g00655/laws.FnSwapsAny", spec := "fnSwapsAny", apart := false, narrowed := true }
def FnSwapsAnyUptoSaid : Prop := fnSwapsAnyUptoRow.holds Try.pinned (OpenSpec.upto fnSwapsAnySpec)

/-- 'laws.FnTurnedByte', WHERE WHAT IT READS IS OF BULK AT MOST 1048576: true; the input reads as it did. -/
def fnTurnedByteUptoRow : OpenClaim := { program := "ytfbigjeonajmfaa", sum := "164d84d8acb953fbf3e873243ffd3e10078b929cab0a8edaeb5aede6219a1539", func := "loop.example/g00655/laws.FnTurnedByte", spec := "fnTurnedByte", apart := false, narrowed := true }
def FnTurnedByteUptoSaid : Prop := fnTurnedByteUptoRow.holds Try.pinned (OpenSpec.upto fnTurnedByteSpec)

/-- 'laws.FnExactSumAdd', WHERE WHAT IT READS IS OF BULK AT MOST 1048576: true; the input reads as it did. -/
def fnExactSumAddUptoRow : OpenClaim := { program := "ytfbigjeonajmfaa", sum := "164d84d8acb953fbf3e873243ffd3e10078b929cab0a8edaeb5aede6219a1539", func := "loop.example/g00655/laws.FnExactSumAdd", spec := "fnExactSumAdd", apart := false, narrowed := true }
def FnExactSumAddUptoSaid : Prop := fnExactSumAddUptoRow.holds Try.pinned (OpenSpec.upto fnExactSumAddSpec)

/-- 'laws.FnExactOnesSum', WHERE WHAT IT READS IS OF BULK AT MOST 1048576: true; the input reads as it did. -/
def fnExactOnesSumUptoRow : OpenClaim := { program := "ytfbigjeonajmfaa", sum := "164d84d8acb953fbf3e873243ffd3e10078b929cab0a8edaeb5aede6219a1539", func := "loop.example/g00655/laws.FnExactOnesSum", spec := "fnExactOnesSum", apart := false, narrowed := true }
def FnExactOnesSumUptoSaid : Prop := fnExactOnesSumUptoRow.holds Try.pinned (OpenSpec.upto fnExactOnesSumSpec)

/-- 'laws.FnExactChecksum', WHERE WHAT IT READS IS OF BULK AT MOST 1048576: true; the input reads as it did. -/
def fnExactChecksumUptoRow : OpenClaim := { program := "ytfbigjeonajmfaa", sum := "164d84d8acb953fbf3e873243ffd3e10078b929cab0a8edaeb5aede6219a1539", func := "loop.example/g00655/laws.FnExactChecksum", spec := "fnExactChecksum", apart := false, narrowed := true }
def FnExactChecksumUptoSaid : Prop := fnExactChecksumUptoRow.holds Try.pinned (OpenSpec.upto fnExactChecksumSpec)

/-- 'laws.FnExactSumRight', WHERE WHAT IT READS IS OF BULK AT MOST 1048576: true; the input reads as it did. -/
def fnExactSumRightUptoRow : OpenClaim := { program := "ytfbigjeonajmfaa", sum := "164d84d8acb953fbf3e873243ffd3e10078b929cab0a8edaeb5aede6219a1539", func := "loop.example/g00655/laws.FnExactSumRight", spec := "fnExactSumRight", apart := false, narrowed := true }
def FnExactSumRightUptoSaid : Prop := fnExactSumRightUptoRow.holds Try.pinned (OpenSpec.upto fnExactSumRightSpec)

/-- 'laws.FnExactSumSwap', WHERE WHAT IT READS IS OF BULK AT MOST 1048576: true; the input reads as it did. -/
def fnExactSumSwapUptoRow : OpenClaim := { program := "ytfbigjeonajmfaa", sum := "164d84d8acb953fbf3e873243ffd3e10078b929cab0a8edaeb5aede6219a1539", func := "loop.example/g00655/laws.FnExactSumSwap", spec := "fnExactSumSwap", apart := false, narrowed := true }
def FnExactSumSwapUptoSaid : Prop := fnExactSumSwapUptoRow.holds Try.pinned (OpenSpec.upto fnExactSumSwapSpec)

/-- 'laws.FnExactSumSwaps', WHERE WHAT IT READS IS OF BULK AT MOST 1048576: true; the input reads as it did. -/
def fnExactSumSwapsUptoRow : OpenClaim := { program := "ytfbigjeonajmfaa", sum := "164d84d8acb953fbf3e873243ffd3e10078b929cab0a8edaeb5aede6219a1539", func := "loop.example/g00655/laws.FnExactSumSwaps", spec := "fnExactSumSwaps", apart := false, narrowed := true }
def FnExactSumSwapsUptoSaid : Prop := fnExactSumSwapsUptoRow.holds Try.pinned (OpenSpec.upto fnExactSumSwapsSpec)

end Rows
end Go.Proofs.Ytfbigjeonajmfaa
