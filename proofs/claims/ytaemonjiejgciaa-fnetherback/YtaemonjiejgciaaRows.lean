/-
  No cell of these rows narrows 'for every input' (looked for: loops, veiled, ifaces, maps, wideKeys, modest, calm, conditions, laid).
  DERIVED. THE GIVEN ROWS OF THIS SEAT. 5 by the template 'for every input the law returns true; each argument reads behind the call as it read before'; 0 by the template 'total and deterministic' (their statements: YtaemonjiejgciaaTotals.lean).
  GIVEN WITH THE SEED: the statements are not yours to turn. If you find one false, say at which input.
  Laid BY PROGRAM, IN A SANDBOX (cutbox-rows.mjs): the forced cells as the released guide's own fill.sh prints them over the translation 2b86bfecc716460c… (all of the seat's roots in one cut). By AI agents, Wed Nov 11 2026. No macro, syntax, notation, axiom, sorry.
-/
import Derived.Test.YtaemonjiejgciaaChecked
import GoSem.Claim
import GoSem.ClaimJoined
import GoSem.ClaimMapViews
import Derived.JoinedTies
import Derived.KernelRfl
namespace Go.Proofs.Ytaemonjiejgciaa
/- THE CELL 'sum', in the pinned program and in every row, IS THE sha256 OF THE DUMP (.gsa) THAT YtaemonjiejgciaaProg.lean LOADS. Nothing in Lean hashes anything: it is a label: what it is worth is what the hold of that sum in a sandbox is worth. -/
noncomputable def Try.pinned : Pinned := { name := "ytaemonjiejgciaa", sum := "2b86bfecc716460c87f32dd6ea1c04642d246bbcb979df408a0a45671ded62c1", checked := Try.checked }
namespace Rows
def none {H : Type} : Left H := { results := [], args := [] }

/-- 'laws.FnExactEtherOk': WHATEVER THE INPUT: true; the input reads as it did. -/
def fnExactEtherOkSpec : ChangeSpec := { name := "fnExactEtherOk", fn := fun _ => fun
  | [d] => { results := [.lit (.bool true)], args := [d] }
  | _ => none }
def fnExactEtherOkRow : OpenClaim := { program := "ytaemonjiejgciaa", sum := "2b86bfecc716460c87f32dd6ea1c04642d246bbcb979df408a0a45671ded62c1", func := "loop.example/g00655/laws.FnExactEtherOk", spec := "fnExactEtherOk", apart := false }
def FnExactEtherOkSaid : Prop := fnExactEtherOkRow.holds Try.pinned (OpenSpec.ofChange fnExactEtherOkSpec)

/-- ITS FALSE NEIGHBOUR: 'it returns false'. Refute it at one input. -/
def fnExactEtherOkWrong : ChangeSpec := { name := "fnExactEtherOk", fn := fun _ => fun
  | [d] => { results := [.lit (.bool false)], args := [d] }
  | _ => none }
def FnExactEtherOkWrongFalsely : Prop := fnExactEtherOkRow.holds Try.pinned (OpenSpec.ofChange fnExactEtherOkWrong)

/-- 'laws.FnExactTagParts': WHATEVER THE INPUT: true; the input reads as it did. -/
def fnExactTagPartsSpec : ChangeSpec := { name := "fnExactTagParts", fn := fun _ => fun
  | [d] => { results := [.lit (.bool true)], args := [d] }
  | _ => none }
def fnExactTagPartsRow : OpenClaim := { program := "ytaemonjiejgciaa", sum := "2b86bfecc716460c87f32dd6ea1c04642d246bbcb979df408a0a45671ded62c1", func := "loop.example/g00655/laws.FnExactTagParts", spec := "fnExactTagParts", apart := false }
def FnExactTagPartsSaid : Prop := fnExactTagPartsRow.holds Try.pinned (OpenSpec.ofChange fnExactTagPartsSpec)

/-- ITS FALSE NEIGHBOUR: 'it returns false'. Refute it at one input. -/
def fnExactTagPartsWrong : ChangeSpec := { name := "fnExactTagParts", fn := fun _ => fun
  | [d] => { results := [.lit (.bool false)], args := [d] }
  | _ => none }
def FnExactTagPartsWrongFalsely : Prop := fnExactTagPartsRow.holds Try.pinned (OpenSpec.ofChange fnExactTagPartsWrong)

/-- 'laws.FnExactEtherBytes': WHATEVER THE INPUT: true; the input reads as it did. -/
def fnExactEtherBytesSpec : ChangeSpec := { name := "fnExactEtherBytes", fn := fun _ => fun
  | [d] => { results := [.lit (.bool true)], args := [d] }
  | _ => none }
def fnExactEtherBytesRow : OpenClaim := { program := "ytaemonjiejgciaa", sum := "2b86bfecc716460c87f32dd6ea1c04642d246bbcb979df408a0a45671ded62c1", func := "loop.example/g00655/laws.FnExactEtherBytes", spec := "fnExactEtherBytes", apart := false }
def FnExactEtherBytesSaid : Prop := fnExactEtherBytesRow.holds Try.pinned (OpenSpec.ofChange fnExactEtherBytesSpec)

/-- ITS FALSE NEIGHBOUR: 'it returns false'. Refute it at one input. -/
def fnExactEtherBytesWrong : ChangeSpec := { name := "fnExactEtherBytes", fn := fun _ => fun
  | [d] => { results := [.lit (.bool false)], args := [d] }
  | _ => none }
def FnExactEtherBytesWrongFalsely : Prop := fnExactEtherBytesRow.holds Try.pinned (OpenSpec.ofChange fnExactEtherBytesWrong)

/-- 'laws.FnExactEtherRead': WHATEVER THE INPUT: true; the input reads as it did. -/
def fnExactEtherReadSpec : ChangeSpec := { name := "fnExactEtherRead", fn := fun _ => fun
  | [d] => { results := [.lit (.bool true)], args := [d] }
  | _ => none }
def fnExactEtherReadRow : OpenClaim := { program := "ytaemonjiejgciaa", sum := "2b86bfecc716460c87f32dd6ea1c04642d246bbcb979df408a0a45671ded62c1", func := "loop.example/g00655/laws.FnExactEtherRead", spec := "fnExactEtherRead", apart := false }
def FnExactEtherReadSaid : Prop := fnExactEtherReadRow.holds Try.pinned (OpenSpec.ofChange fnExactEtherReadSpec)

/-- ITS FALSE NEIGHBOUR: 'it returns false'. Refute it at one input. -/
def fnExactEtherReadWrong : ChangeSpec := { name := "fnExactEtherRead", fn := fun _ => fun
  | [d] => { results := [.lit (.bool false)], args := [d] }
  | _ => none }
def FnExactEtherReadWrongFalsely : Prop := fnExactEtherReadRow.holds Try.pinned (OpenSpec.ofChange fnExactEtherReadWrong)

/-- 'laws.FnEtherBack': WHATEVER THE INPUT: true; the input reads as it did. -/
def fnEtherBackSpec : ChangeSpec := { name := "fnEtherBack", fn := fun _ => fun
  | [d] => { results := [.lit (.bool true)], args := [d] }
  | _ => none }
def fnEtherBackRow : OpenClaim := { program := "ytaemonjiejgciaa", sum := "2b86bfecc716460c87f32dd6ea1c04642d246bbcb979df408a0a45671ded62c1", func := "loop.example/g00655/laws.FnEtherBack", spec := "fnEtherBack", apart := false }
def FnEtherBackSaid : Prop := fnEtherBackRow.holds Try.pinned (OpenSpec.ofChange fnEtherBackSpec)

/-- ITS FALSE NEIGHBOUR: 'it returns false'. Refute it at one input. -/
def fnEtherBackWrong : ChangeSpec := { name := "fnEtherBack", fn := fun _ => fun
  | [d] => { results := [.lit (.bool false)], args := [d] }
  | _ => none }
def FnEtherBackWrongFalsely : Prop := fnEtherBackRow.holds Try.pinned (OpenSpec.ofChange fnEtherBackWrong)

/- THE SECOND FORM. 'bulk': how many values and letters a reading holds, each counted each time it is reached (what is shared counts as often as it is met; a slice's spare places count too). A statement '..UptoSaid' is the law's where the arguments, and the package variables that the reading takes, are together of bulk at most 1048576: NARROWER than '..Said'. Prove '..Said' where nothing that the law and all that it calls make is longer than what came in: it says more and counts as full. Else prove '..UptoSaid'. A law counts once. -/
mutual
def uptoBulk {H : Type} : DataW H → Nat
  | .lit (.string bytes) => bytes.length + 1
  | .lit _ => 1
  | .nil => 1
  | .ptr d => uptoBulk d + 1
  | .slice elems spare => uptoBulkAll elems + uptoBulkAll spare + 1
  | .agg parts => uptoBulkAll parts + 1
  | .iface _ d => uptoBulk d + 1
  | .map entries => uptoBulkEntries entries + 1
  | .held _ => 1
def uptoBulkAll {H : Type} : List (DataW H) → Nat
  | [] => 0
  | d :: r => uptoBulk d + uptoBulkAll r
def uptoBulkEntries {H : Type} : List (Lit × DataW H) → Nat
  | [] => 0
  | x :: r => uptoBulkEntry x + uptoBulkEntries r
def uptoBulkEntry {H : Type} : Lit × DataW H → Nat
  | (.string bytes, d) => bytes.length + uptoBulk d + 1
  | (_, d) => uptoBulk d + 1
 end
def uptoSmall : (H : Type) → List (DataW H) → Bool := fun _ ds => decide (uptoBulkAll ds ≤ 1048576)
def OpenSpec.upto (s : _root_.Go.ChangeSpec) : _root_.Go.OpenSpec := { _root_.Go.OpenSpec.ofChange s with cond := some uptoSmall }

/-- 'laws.FnExactEtherOk', WHERE WHAT IT READS IS OF BULK AT MOST 1048576: true; the input reads as it did. -/
def fnExactEtherOkUptoRow : OpenClaim := { program := "ytaemonjiejgciaa", sum := "2b86bfecc716460c87f32dd6ea1c04642d246bbcb979df408a0a45671ded62c1", func := "loop.example/g00655/laws.FnExactEtherOk", spec := "fnExactEtherOk", apart := false, narrowed := true }
def FnExactEtherOkUptoSaid : Prop := fnExactEtherOkUptoRow.holds Try.pinned (OpenSpec.upto fnExactEtherOkSpec)

/-- 'laws.FnExactTagParts', WHERE WHAT IT READS IS OF BULK AT MOST 1048576: true; the input reads as it did. -/
def fnExactTagPartsUptoRow : OpenClaim := { program := "ytaemonjiejgciaa", sum := "2b86bfecc716460c87f32dd6ea1c04642d246bbcb979df408a0a45671ded62c1", func := "loop.example/g00655/laws.FnExactTagParts", spec := "fnExactTagParts", apart := false, narrowed := true }
def FnExactTagPartsUptoSaid : Prop := fnExactTagPartsUptoRow.holds Try.pinned (OpenSpec.upto fnExactTagPartsSpec)

/-- 'laws.FnExactEtherBytes', WHERE WHAT IT READS IS OF BULK AT MOST 1048576: true; the input reads as it did. -/
def fnExactEtherBytesUptoRow : OpenClaim := { program := "ytaemonjiejgciaa", sum := "2b86bfecc716460c87f32dd6ea1c04642d246bbcb979df408a0a45671ded62c1", func := "loop.example/g00655/laws.FnExactEtherBytes", spec := "fnExactEtherBytes", apart := false, narrowed := true }
def FnExactEtherBytesUptoSaid : Prop := fnExactEtherBytesUptoRow.holds Try.pinned (OpenSpec.upto fnExactEtherBytesSpec)

/-- 'laws.FnExactEtherRead', WHERE WHAT IT READS IS OF BULK AT MOST 1048576: true; the input reads as it did. -/
def fnExactEtherReadUptoRow : OpenClaim := { program := "ytaemonjiejgciaa", sum := "2b86bfecc716460c87f32dd6ea1c04642d246bbcb979df408a0a45671ded62c1", func := "loop.example/g00655/laws.FnExactEtherRead", spec := "fnExactEtherRead", apart := false, narrowed := true }
def FnExactEtherReadUptoSaid : Prop := fnExactEtherReadUptoRow.holds Try.pinned (OpenSpec.upto fnExactEtherReadSpec)

/-- 'laws.FnEtherBack', WHERE WHAT IT READS IS OF BULK AT MOST 1048576: true; the input reads as it did. -/
def fnEtherBackUptoRow : OpenClaim := { program := "ytaemonjiejgciaa", sum := "2b86bfecc716460c87f32dd6ea1c04642d246bbcb979df408a0a45671ded62c1", func := "loop.example/g00655/laws.FnEtherBack", spec := "fnEtherBack", apart := false, narrowed := true }
def FnEtherBackUptoSaid : Prop := fnEtherBackUptoRow.holds Try.pinned (OpenSpec.upto fnEtherBackSpec)

end Rows
end Go.Proofs.Ytaemonjiejgciaa
