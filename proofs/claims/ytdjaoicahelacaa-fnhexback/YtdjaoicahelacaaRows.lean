/-
  No cell of these rows narrows 'for every input' (looked for: loops, veiled, ifaces, maps, wideKeys, modest, calm, conditions, laid).
  DERIVED. THE GIVEN ROWS OF THIS SEAT. 10 by the template 'for every input the law returns true; each argument reads behind the call as it read before'; 0 by the template 'total and deterministic' (their statements: YtdjaoicahelacaaTotals.lean).
  GIVEN WITH THE SEED: the statements are not yours to turn. If you find one false, say at which input.
  Laid BY PROGRAM, IN A SANDBOX (cutbox-rows.mjs): the forced cells as the released guide's own fill.sh prints them over the translation 57a3aa150ebaa1d4… (all of the seat's roots in one cut). By AI agents, Wed Nov 11 2026. No macro, syntax, notation, axiom, sorry.
-/
import Derived.Test.YtdjaoicahelacaaChecked
import GoSem.Claim
import GoSem.ClaimJoined
import GoSem.ClaimMapViews
import Derived.JoinedTies
import Derived.KernelRfl
namespace Go.Proofs.Ytdjaoicahelacaa
/- THE CELL 'sum', in the pinned program and in every row, IS THE sha256 OF THE DUMP (.gsa) THAT YtdjaoicahelacaaProg.lean LOADS. Nothing in Lean hashes anything: it is a label: what it is worth is what the hold of that sum in a sandbox is worth. -/
noncomputable def Try.pinned : Pinned := { name := "ytdjaoicahelacaa", sum := "57a3aa150ebaa1d4175ebc931569881b3827d67480a16bc74a9b4336a7c37c53", checked := Try.checked }
namespace Rows
def none {H : Type} : Left H := { results := [], args := [] }

/-- 'laws.FnHexBack': WHATEVER THE INPUT: true; the input reads as it did. -/
def fnHexBackSpec : ChangeSpec := { name := "fnHexBack", fn := fun _ => fun
  | [d] => { results := [.lit (.bool true)], args := [d] }
  | _ => none }
def fnHexBackRow : OpenClaim := { program := "ytdjaoicahelacaa", sum := "57a3aa150ebaa1d4175ebc931569881b3827d67480a16bc74a9b4336a7c37c53", func := "loop.example/g00655/laws.FnHexBack", spec := "fnHexBack", apart := false }
def FnHexBackSaid : Prop := fnHexBackRow.holds Try.pinned (OpenSpec.ofChange fnHexBackSpec)

/-- ITS FALSE NEIGHBOUR: 'it returns false'. Refute it at one input. -/
def fnHexBackWrong : ChangeSpec := { name := "fnHexBack", fn := fun _ => fun
  | [d] => { results := [.lit (.bool false)], args := [d] }
  | _ => none }
def FnHexBackWrongFalsely : Prop := fnHexBackRow.holds Try.pinned (OpenSpec.ofChange fnHexBackWrong)

/-- 'laws.FnPutBe': WHATEVER THE INPUT: true; the input reads as it did. -/
def fnPutBeSpec : ChangeSpec := { name := "fnPutBe", fn := fun _ => fun
  | [d] => { results := [.lit (.bool true)], args := [d] }
  | _ => none }
def fnPutBeRow : OpenClaim := { program := "ytdjaoicahelacaa", sum := "57a3aa150ebaa1d4175ebc931569881b3827d67480a16bc74a9b4336a7c37c53", func := "loop.example/g00655/laws.FnPutBe", spec := "fnPutBe", apart := false }
def FnPutBeSaid : Prop := fnPutBeRow.holds Try.pinned (OpenSpec.ofChange fnPutBeSpec)

/-- ITS FALSE NEIGHBOUR: 'it returns false'. Refute it at one input. -/
def fnPutBeWrong : ChangeSpec := { name := "fnPutBe", fn := fun _ => fun
  | [d] => { results := [.lit (.bool false)], args := [d] }
  | _ => none }
def FnPutBeWrongFalsely : Prop := fnPutBeRow.holds Try.pinned (OpenSpec.ofChange fnPutBeWrong)

/-- 'laws.FnExactBe16': WHATEVER THE INPUT: true; the input reads as it did. -/
def fnExactBe16Spec : ChangeSpec := { name := "fnExactBe16", fn := fun _ => fun
  | [d1, d2] => { results := [.lit (.bool true)], args := [d1, d2] }
  | _ => none }
def fnExactBe16Row : OpenClaim := { program := "ytdjaoicahelacaa", sum := "57a3aa150ebaa1d4175ebc931569881b3827d67480a16bc74a9b4336a7c37c53", func := "loop.example/g00655/laws.FnExactBe16", spec := "fnExactBe16", apart := false }
def FnExactBe16Said : Prop := fnExactBe16Row.holds Try.pinned (OpenSpec.ofChange fnExactBe16Spec)

/-- ITS FALSE NEIGHBOUR: 'it returns false'. Refute it at one input. -/
def fnExactBe16Wrong : ChangeSpec := { name := "fnExactBe16", fn := fun _ => fun
  | [d1, d2] => { results := [.lit (.bool false)], args := [d1, d2] }
  | _ => none }
def FnExactBe16WrongFalsely : Prop := fnExactBe16Row.holds Try.pinned (OpenSpec.ofChange fnExactBe16Wrong)

/-- 'laws.FnExactBe32': WHATEVER THE INPUT: true; the input reads as it did. -/
def fnExactBe32Spec : ChangeSpec := { name := "fnExactBe32", fn := fun _ => fun
  | [d1, d2] => { results := [.lit (.bool true)], args := [d1, d2] }
  | _ => none }
def fnExactBe32Row : OpenClaim := { program := "ytdjaoicahelacaa", sum := "57a3aa150ebaa1d4175ebc931569881b3827d67480a16bc74a9b4336a7c37c53", func := "loop.example/g00655/laws.FnExactBe32", spec := "fnExactBe32", apart := false }
def FnExactBe32Said : Prop := fnExactBe32Row.holds Try.pinned (OpenSpec.ofChange fnExactBe32Spec)

/-- ITS FALSE NEIGHBOUR: 'it returns false'. Refute it at one input. -/
def fnExactBe32Wrong : ChangeSpec := { name := "fnExactBe32", fn := fun _ => fun
  | [d1, d2] => { results := [.lit (.bool false)], args := [d1, d2] }
  | _ => none }
def FnExactBe32WrongFalsely : Prop := fnExactBe32Row.holds Try.pinned (OpenSpec.ofChange fnExactBe32Wrong)

/-- 'laws.FnExactPut16': WHATEVER THE INPUT: true; the input reads as it did. -/
def fnExactPut16Spec : ChangeSpec := { name := "fnExactPut16", fn := fun _ => fun
  | [d] => { results := [.lit (.bool true)], args := [d] }
  | _ => none }
def fnExactPut16Row : OpenClaim := { program := "ytdjaoicahelacaa", sum := "57a3aa150ebaa1d4175ebc931569881b3827d67480a16bc74a9b4336a7c37c53", func := "loop.example/g00655/laws.FnExactPut16", spec := "fnExactPut16", apart := false }
def FnExactPut16Said : Prop := fnExactPut16Row.holds Try.pinned (OpenSpec.ofChange fnExactPut16Spec)

/-- ITS FALSE NEIGHBOUR: 'it returns false'. Refute it at one input. -/
def fnExactPut16Wrong : ChangeSpec := { name := "fnExactPut16", fn := fun _ => fun
  | [d] => { results := [.lit (.bool false)], args := [d] }
  | _ => none }
def FnExactPut16WrongFalsely : Prop := fnExactPut16Row.holds Try.pinned (OpenSpec.ofChange fnExactPut16Wrong)

/-- 'laws.FnExactPut32': WHATEVER THE INPUT: true; the input reads as it did. -/
def fnExactPut32Spec : ChangeSpec := { name := "fnExactPut32", fn := fun _ => fun
  | [d] => { results := [.lit (.bool true)], args := [d] }
  | _ => none }
def fnExactPut32Row : OpenClaim := { program := "ytdjaoicahelacaa", sum := "57a3aa150ebaa1d4175ebc931569881b3827d67480a16bc74a9b4336a7c37c53", func := "loop.example/g00655/laws.FnExactPut32", spec := "fnExactPut32", apart := false }
def FnExactPut32Said : Prop := fnExactPut32Row.holds Try.pinned (OpenSpec.ofChange fnExactPut32Spec)

/-- ITS FALSE NEIGHBOUR: 'it returns false'. Refute it at one input. -/
def fnExactPut32Wrong : ChangeSpec := { name := "fnExactPut32", fn := fun _ => fun
  | [d] => { results := [.lit (.bool false)], args := [d] }
  | _ => none }
def FnExactPut32WrongFalsely : Prop := fnExactPut32Row.holds Try.pinned (OpenSpec.ofChange fnExactPut32Wrong)

/-- 'laws.FnExactClip': WHATEVER THE INPUT: true; the input reads as it did. -/
def fnExactClipSpec : ChangeSpec := { name := "fnExactClip", fn := fun _ => fun
  | [d1, d2, d3] => { results := [.lit (.bool true)], args := [d1, d2, d3] }
  | _ => none }
def fnExactClipRow : OpenClaim := { program := "ytdjaoicahelacaa", sum := "57a3aa150ebaa1d4175ebc931569881b3827d67480a16bc74a9b4336a7c37c53", func := "loop.example/g00655/laws.FnExactClip", spec := "fnExactClip", apart := false }
def FnExactClipSaid : Prop := fnExactClipRow.holds Try.pinned (OpenSpec.ofChange fnExactClipSpec)

/-- ITS FALSE NEIGHBOUR: 'it returns false'. Refute it at one input. -/
def fnExactClipWrong : ChangeSpec := { name := "fnExactClip", fn := fun _ => fun
  | [d1, d2, d3] => { results := [.lit (.bool false)], args := [d1, d2, d3] }
  | _ => none }
def FnExactClipWrongFalsely : Prop := fnExactClipRow.holds Try.pinned (OpenSpec.ofChange fnExactClipWrong)

/-- 'laws.FnExactNumRead': WHATEVER THE INPUT: true; the input reads as it did. -/
def fnExactNumReadSpec : ChangeSpec := { name := "fnExactNumRead", fn := fun _ => fun
  | [d] => { results := [.lit (.bool true)], args := [d] }
  | _ => none }
def fnExactNumReadRow : OpenClaim := { program := "ytdjaoicahelacaa", sum := "57a3aa150ebaa1d4175ebc931569881b3827d67480a16bc74a9b4336a7c37c53", func := "loop.example/g00655/laws.FnExactNumRead", spec := "fnExactNumRead", apart := false }
def FnExactNumReadSaid : Prop := fnExactNumReadRow.holds Try.pinned (OpenSpec.ofChange fnExactNumReadSpec)

/-- ITS FALSE NEIGHBOUR: 'it returns false'. Refute it at one input. -/
def fnExactNumReadWrong : ChangeSpec := { name := "fnExactNumRead", fn := fun _ => fun
  | [d] => { results := [.lit (.bool false)], args := [d] }
  | _ => none }
def FnExactNumReadWrongFalsely : Prop := fnExactNumReadRow.holds Try.pinned (OpenSpec.ofChange fnExactNumReadWrong)

/-- 'laws.FnExactHexText': WHATEVER THE INPUT: true; the input reads as it did. -/
def fnExactHexTextSpec : ChangeSpec := { name := "fnExactHexText", fn := fun _ => fun
  | [d] => { results := [.lit (.bool true)], args := [d] }
  | _ => none }
def fnExactHexTextRow : OpenClaim := { program := "ytdjaoicahelacaa", sum := "57a3aa150ebaa1d4175ebc931569881b3827d67480a16bc74a9b4336a7c37c53", func := "loop.example/g00655/laws.FnExactHexText", spec := "fnExactHexText", apart := false }
def FnExactHexTextSaid : Prop := fnExactHexTextRow.holds Try.pinned (OpenSpec.ofChange fnExactHexTextSpec)

/-- ITS FALSE NEIGHBOUR: 'it returns false'. Refute it at one input. -/
def fnExactHexTextWrong : ChangeSpec := { name := "fnExactHexText", fn := fun _ => fun
  | [d] => { results := [.lit (.bool false)], args := [d] }
  | _ => none }
def FnExactHexTextWrongFalsely : Prop := fnExactHexTextRow.holds Try.pinned (OpenSpec.ofChange fnExactHexTextWrong)

/-- 'laws.FnExactHexRead': WHATEVER THE INPUT: true; the input reads as it did. -/
def fnExactHexReadSpec : ChangeSpec := { name := "fnExactHexRead", fn := fun _ => fun
  | [d] => { results := [.lit (.bool true)], args := [d] }
  | _ => none }
def fnExactHexReadRow : OpenClaim := { program := "ytdjaoicahelacaa", sum := "57a3aa150ebaa1d4175ebc931569881b3827d67480a16bc74a9b4336a7c37c53", func := "loop.example/g00655/laws.FnExactHexRead", spec := "fnExactHexRead", apart := false }
def FnExactHexReadSaid : Prop := fnExactHexReadRow.holds Try.pinned (OpenSpec.ofChange fnExactHexReadSpec)

/-- ITS FALSE NEIGHBOUR: 'it returns false'. Refute it at one input. -/
def fnExactHexReadWrong : ChangeSpec := { name := "fnExactHexRead", fn := fun _ => fun
  | [d] => { results := [.lit (.bool false)], args := [d] }
  | _ => none }
def FnExactHexReadWrongFalsely : Prop := fnExactHexReadRow.holds Try.pinned (OpenSpec.ofChange fnExactHexReadWrong)

/- THE SECOND FORM. 'bulk': how many values and letters a reading holds, each counted each time it is reached (what is shared counts as often as it is met; a slice's spare places count too). A statement '..UptoSaid' is the law's where the arguments, and the package variables that the reading takes, are together of bulk at most 1048576: NARROWER than '..Said'. Prove '..Said' where nothing that the law and all that it calls make is longer than what came in: it says more and counts as full. Else prove '..UptoSaid'. A law counts once. -/
mutual
def uptoBulk {H : Type} : DataW H → Nat
  | .lit (.string bytes) => bytes.length + 1
  | .lit _ => 1
  | .nil => 1
  | .ptr d => uptoBulk d + 1
  | .slice elems spare => uptoBulkAll elems + uptoBulkAll spare + 1
  | .agg parts => uptoBulkAll parts + 1
  | .iface _ d => uptoBulk d + 1
  | .map entries => uptoBulkEntries entries + 1
  | .held _ => 1
def uptoBulkAll {H : Type} : List (DataW H) → Nat
  | [] => 0
  | d :: r => uptoBulk d + uptoBulkAll r
def uptoBulkEntries {H : Type} : List (Lit × DataW H) → Nat
  | [] => 0
  | x :: r => uptoBulkEntry x + uptoBulkEntries r
def uptoBulkEntry {H : Type} : Lit × DataW H → Nat
  | (.string bytes, d) => bytes.length + uptoBulk d + 1
  | (_, d) => uptoBulk d + 1
 end
def uptoSmall : (H : Type) → List (DataW H) → Bool := fun _ ds => decide (uptoBulkAll ds ≤ 1048576)
def OpenSpec.upto (s : _root_.Go.ChangeSpec) : _root_.Go.OpenSpec := { _root_.Go.OpenSpec.ofChange s with cond := some uptoSmall }

/-- 'laws.FnHexBack', WHERE WHAT IT READS IS OF BULK AT MOST 1048576: true; the input reads as it did. -/
def fnHexBackUptoRow : OpenClaim := { program := "ytdjaoicahelacaa", sum := "57a3aa150ebaa1d4175ebc931569881b3827d67480a16bc74a9b4336a7c37c53", func := "loop.example/g00655/laws.FnHexBack", spec := "fnHexBack", apart := false, narrowed := true }
def FnHexBackUptoSaid : Prop := fnHexBackUptoRow.holds Try.pinned (OpenSpec.upto fnHexBackSpec)

/-- 'laws.FnPutBe', WHERE WHAT IT READS IS OF BULK AT MOST 1048576: true; the input reads as it did. -/
def fnPutBeUptoRow : OpenClaim := { program := "ytdjaoicahelacaa", sum := "57a3aa150ebaa1d4175ebc931569881b3827d67480a16bc74a9b4336a7c37c53", func := "loop.example/g00655/laws.FnPutBe", spec := "fnPutBe", apart := false, narrowed := true }
def FnPutBeUptoSaid : Prop := fnPutBeUptoRow.holds Try.pinned (OpenSpec.upto fnPutBeSpec)

/-- 'laws.FnExactBe16', WHERE WHAT IT READS IS OF BULK AT MOST 1048576: true; the input reads as it did. -/
def fnExactBe16UptoRow : OpenClaim := { program := "ytdjaoicahelacaa", sum := "57a3aa150ebaa1d4175ebc931569881b3827d67480a16bc74a9b4336a7c37c53", func := "loop.example/g00655/laws.FnExactBe16", spec := "fnExactBe16", apart := false, narrowed := true }
def FnExactBe16UptoSaid : Prop := fnExactBe16UptoRow.holds Try.pinned (OpenSpec.upto fnExactBe16Spec)

/-- 'laws.FnExactBe32', WHERE WHAT IT READS IS OF BULK AT MOST 1048576: true; the input reads as it did. -/
def fnExactBe32UptoRow : OpenClaim := { program := "ytdjaoicahelacaa", sum := "57a3aa150ebaa1d4175ebc931569881b3827d67480a16bc74a9b4336a7c37c53", func := "loop.example/g00655/laws.FnExactBe32", spec := "fnExactBe32", apart := false, narrowed := true }
def FnExactBe32UptoSaid : Prop := fnExactBe32UptoRow.holds Try.pinned (OpenSpec.upto fnExactBe32Spec)

/-- 'laws.FnExactPut16', WHERE WHAT IT READS IS OF BULK AT MOST 1048576: true; the input reads as it did. -/
def fnExactPut16UptoRow : OpenClaim := { program := "ytdjaoicahelacaa", sum := "57a3aa150ebaa1d4175ebc931569881b3827d67480a16bc74a9b4336a7c37c53", func := "loop.example/g00655/laws.FnExactPut16", spec := "fnExactPut16", apart := false, narrowed := true }
def FnExactPut16UptoSaid : Prop := fnExactPut16UptoRow.holds Try.pinned (OpenSpec.upto fnExactPut16Spec)

/-- 'laws.FnExactPut32', WHERE WHAT IT READS IS OF BULK AT MOST 1048576: true; the input reads as it did. -/
def fnExactPut32UptoRow : OpenClaim := { program := "ytdjaoicahelacaa", sum := "57a3aa150ebaa1d4175ebc931569881b3827d67480a16bc74a9b4336a7c37c53", func := "loop.example/g00655/laws.FnExactPut32", spec := "fnExactPut32", apart := false, narrowed := true }
def FnExactPut32UptoSaid : Prop := fnExactPut32UptoRow.holds Try.pinned (OpenSpec.upto fnExactPut32Spec)

/-- 'laws.FnExactClip', WHERE WHAT IT READS IS OF BULK AT MOST 1048576: true; the input reads as it did. -/
def fnExactClipUptoRow : OpenClaim := { program := "ytdjaoicahelacaa", sum := "57a3aa150ebaa1d4175ebc931569881b3827d67480a16bc74a9b4336a7c37c53", func := "loop.example/g00655/laws.FnExactClip", spec := "fnExactClip", apart := false, narrowed := true }
def FnExactClipUptoSaid : Prop := fnExactClipUptoRow.holds Try.pinned (OpenSpec.upto fnExactClipSpec)

/-- 'laws.FnExactNumRead', WHERE WHAT IT READS IS OF BULK AT MOST 1048576: true; the input reads as it did. -/
def fnExactNumReadUptoRow : OpenClaim := { program := "ytdjaoicahelacaa", sum := "57a3aa150ebaa1d4175ebc931569881b3827d67480a16bc74a9b4336a7c37c53", func := "loop.example/g00655/laws.FnExactNumRead", spec := "fnExactNumRead", apart := false, narrowed := true }
def FnExactNumReadUptoSaid : Prop := fnExactNumReadUptoRow.holds Try.pinned (OpenSpec.upto fnExactNumReadSpec)

/-- 'laws.FnExactHexText', WHERE WHAT IT READS IS OF BULK AT MOST 1048576: true; the input reads as it did. -/
def fnExactHexTextUptoRow : OpenClaim := { program := "ytdjaoicahelacaa", sum := "57a3aa150ebaa1d4175ebc931569881b3827d67480a16bc74a9b4336a7c37c53", func := "loop.example/g00655/laws.FnExactHexText", spec := "fnExactHexText", apart := false, narrowed := true }
def FnExactHexTextUptoSaid : Prop := fnExactHexTextUptoRow.holds Try.pinned (OpenSpec.upto fnExactHexTextSpec)

/-- 'laws.FnExactHexRead', WHERE WHAT IT READS IS OF BULK AT MOST 1048576: true; the input reads as it did. -/
def fnExactHexReadUptoRow : OpenClaim := { program := "ytdjaoicahelacaa", sum := "57a3aa150ebaa1d4175ebc931569881b3827d67480a16bc74a9b4336a7c37c53", func := "loop.example/g00655/laws.FnExactHexRead", spec := "fnExactHexRead", apart := false, narrowed := true }
def FnExactHexReadUptoSaid : Prop := fnExactHexReadUptoRow.holds Try.pinned (OpenSpec.upto fnExactHexReadSpec)

end Rows
end Go.Proofs.Ytdjaoicahelacaa
