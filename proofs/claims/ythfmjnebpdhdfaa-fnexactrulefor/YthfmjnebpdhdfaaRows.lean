/-
  No cell of these rows narrows 'for every input' (looked for: loops, veiled, ifaces, maps, wideKeys, modest, calm, conditions, laid).
  DERIVED. THE GIVEN ROWS OF THIS SEAT. 13 by the template 'for every input the law returns true; each argument reads behind the call as it read before'; 0 by the template 'total and deterministic' (their statements: YthfmjnebpdhdfaaTotals.lean).
  GIVEN WITH THE SEED: the statements are not yours to turn. If you find one false, say at which input.
  Laid BY PROGRAM, IN A SANDBOX (cutbox-rows.mjs): the forced cells as the released guide's own fill.sh prints them over the translation 5b1f412467b204cc… (all of the seat's roots in one cut). By AI agents, Wed Nov 11 2026. No macro, syntax, notation, axiom, sorry.
-/
import Derived.Test.YthfmjnebpdhdfaaChecked
import GoSem.Claim
import GoSem.ClaimJoined
import GoSem.ClaimMapViews
import Derived.JoinedTies
import Derived.KernelRfl
namespace Go.Proofs.Ythfmjnebpdhdfaa
/- THE CELL 'sum', in the pinned program and in every row, IS THE sha256 OF THE DUMP (.gsa) THAT YthfmjnebpdhdfaaProg.lean LOADS. Nothing in Lean hashes anything: it is a label: what it is worth is what the hold of that sum in a sandbox is worth. -/
noncomputable def Try.pinned : Pinned := { name := "ythfmjnebpdhdfaa", sum := "5b1f412467b204ccf2e08dd0f0775622db71a95647a8803bfa06f8af80bcab84", checked := Try.checked }
namespace Rows
def none {H : Type} : Left H := { results := [], args := [] }

/-- 'laws.FnExactRuleOk': WHATEVER THE INPUT: true; the input reads as it did. -/
def fnExactRuleOkSpec : ChangeSpec := { name := "fnExactRuleOk", fn := fun _ => fun
  | [d] => { results := [.lit (.bool true)], args := [d] }
  | _ => none }
def fnExactRuleOkRow : OpenClaim := { program := "ythfmjnebpdhdfaa", sum := "5b1f412467b204ccf2e08dd0f0775622db71a95647a8803bfa06f8af80bcab84", func := "loop.example/g00655/laws.FnExactRuleOk", spec := "fnExactRuleOk", apart := false }
def FnExactRuleOkSaid : Prop := fnExactRuleOkRow.holds Try.pinned (OpenSpec.ofChange fnExactRuleOkSpec)

/-- ITS FALSE NEIGHBOUR: 'it returns false'. Refute it at one input. -/
def fnExactRuleOkWrong : ChangeSpec := { name := "fnExactRuleOk", fn := fun _ => fun
  | [d] => { results := [.lit (.bool false)], args := [d] }
  | _ => none }
def FnExactRuleOkWrongFalsely : Prop := fnExactRuleOkRow.holds Try.pinned (OpenSpec.ofChange fnExactRuleOkWrong)

/-- 'laws.FnExactRuleHas': WHATEVER THE INPUT: true; the input reads as it did. -/
def fnExactRuleHasSpec : ChangeSpec := { name := "fnExactRuleHas", fn := fun _ => fun
  | [d1, d2] => { results := [.lit (.bool true)], args := [d1, d2] }
  | _ => none }
def fnExactRuleHasRow : OpenClaim := { program := "ythfmjnebpdhdfaa", sum := "5b1f412467b204ccf2e08dd0f0775622db71a95647a8803bfa06f8af80bcab84", func := "loop.example/g00655/laws.FnExactRuleHas", spec := "fnExactRuleHas", unfollowed := true, recurses := true, apart := false }
def FnExactRuleHasSaid : Prop := fnExactRuleHasRow.holds Try.pinned (OpenSpec.ofChange fnExactRuleHasSpec)

/-- ITS FALSE NEIGHBOUR: 'it returns false'. Refute it at one input. -/
def fnExactRuleHasWrong : ChangeSpec := { name := "fnExactRuleHas", fn := fun _ => fun
  | [d1, d2] => { results := [.lit (.bool false)], args := [d1, d2] }
  | _ => none }
def FnExactRuleHasWrongFalsely : Prop := fnExactRuleHasRow.holds Try.pinned (OpenSpec.ofChange fnExactRuleHasWrong)

/-- 'laws.FnTurnedKey': WHATEVER THE INPUT: true; the input reads as it did. -/
def fnTurnedKeySpec : ChangeSpec := { name := "fnTurnedKey", fn := fun _ => fun
  | [d] => { results := [.lit (.bool true)], args := [d] }
  | _ => none }
def fnTurnedKeyRow : OpenClaim := { program := "ythfmjnebpdhdfaa", sum := "5b1f412467b204ccf2e08dd0f0775622db71a95647a8803bfa06f8af80bcab84", func := "loop.example/g00655/laws.FnTurnedKey", spec := "fnTurnedKey", unfollowed := true, recurses := true, apart := false }
def FnTurnedKeySaid : Prop := fnTurnedKeyRow.holds Try.pinned (OpenSpec.ofChange fnTurnedKeySpec)

/-- ITS FALSE NEIGHBOUR: 'it returns false'. Refute it at one input. -/
def fnTurnedKeyWrong : ChangeSpec := { name := "fnTurnedKey", fn := fun _ => fun
  | [d] => { results := [.lit (.bool false)], args := [d] }
  | _ => none }
def FnTurnedKeyWrongFalsely : Prop := fnTurnedKeyRow.holds Try.pinned (OpenSpec.ofChange fnTurnedKeyWrong)

/-- 'laws.FnExactRuleCovers': WHATEVER THE INPUT: true; the input reads as it did. -/
def fnExactRuleCoversSpec : ChangeSpec := { name := "fnExactRuleCovers", fn := fun _ => fun
  | [d1, d2] => { results := [.lit (.bool true)], args := [d1, d2] }
  | _ => none }
def fnExactRuleCoversRow : OpenClaim := { program := "ythfmjnebpdhdfaa", sum := "5b1f412467b204ccf2e08dd0f0775622db71a95647a8803bfa06f8af80bcab84", func := "loop.example/g00655/laws.FnExactRuleCovers", spec := "fnExactRuleCovers", apart := false }
def FnExactRuleCoversSaid : Prop := fnExactRuleCoversRow.holds Try.pinned (OpenSpec.ofChange fnExactRuleCoversSpec)

/-- ITS FALSE NEIGHBOUR: 'it returns false'. Refute it at one input. -/
def fnExactRuleCoversWrong : ChangeSpec := { name := "fnExactRuleCovers", fn := fun _ => fun
  | [d1, d2] => { results := [.lit (.bool false)], args := [d1, d2] }
  | _ => none }
def FnExactRuleCoversWrongFalsely : Prop := fnExactRuleCoversRow.holds Try.pinned (OpenSpec.ofChange fnExactRuleCoversWrong)

/-- 'laws.FnExactRulesOk': WHATEVER THE INPUT: true; the input reads as it did. -/
def fnExactRulesOkSpec : ChangeSpec := { name := "fnExactRulesOk", fn := fun _ => fun
  | [d] => { results := [.lit (.bool true)], args := [d] }
  | _ => none }
def fnExactRulesOkRow : OpenClaim := { program := "ythfmjnebpdhdfaa", sum := "5b1f412467b204ccf2e08dd0f0775622db71a95647a8803bfa06f8af80bcab84", func := "loop.example/g00655/laws.FnExactRulesOk", spec := "fnExactRulesOk", apart := false }
def FnExactRulesOkSaid : Prop := fnExactRulesOkRow.holds Try.pinned (OpenSpec.ofChange fnExactRulesOkSpec)

/-- ITS FALSE NEIGHBOUR: 'it returns false'. Refute it at one input. -/
def fnExactRulesOkWrong : ChangeSpec := { name := "fnExactRulesOk", fn := fun _ => fun
  | [d] => { results := [.lit (.bool false)], args := [d] }
  | _ => none }
def FnExactRulesOkWrongFalsely : Prop := fnExactRulesOkRow.holds Try.pinned (OpenSpec.ofChange fnExactRulesOkWrong)

/-- 'laws.FnExactRuleFor': WHATEVER THE INPUT: true; the input reads as it did. -/
def fnExactRuleForSpec : ChangeSpec := { name := "fnExactRuleFor", fn := fun _ => fun
  | [d1, d2] => { results := [.lit (.bool true)], args := [d1, d2] }
  | _ => none }
def fnExactRuleForRow : OpenClaim := { program := "ythfmjnebpdhdfaa", sum := "5b1f412467b204ccf2e08dd0f0775622db71a95647a8803bfa06f8af80bcab84", func := "loop.example/g00655/laws.FnExactRuleFor", spec := "fnExactRuleFor", unfollowed := true, recurses := true, apart := false }
def FnExactRuleForSaid : Prop := fnExactRuleForRow.holds Try.pinned (OpenSpec.ofChange fnExactRuleForSpec)

/-- ITS FALSE NEIGHBOUR: 'it returns false'. Refute it at one input. -/
def fnExactRuleForWrong : ChangeSpec := { name := "fnExactRuleFor", fn := fun _ => fun
  | [d1, d2] => { results := [.lit (.bool false)], args := [d1, d2] }
  | _ => none }
def FnExactRuleForWrongFalsely : Prop := fnExactRuleForRow.holds Try.pinned (OpenSpec.ofChange fnExactRuleForWrong)

/-- 'laws.FnExactShadowed': WHATEVER THE INPUT: true; the input reads as it did. -/
def fnExactShadowedSpec : ChangeSpec := { name := "fnExactShadowed", fn := fun _ => fun
  | [d] => { results := [.lit (.bool true)], args := [d] }
  | _ => none }
def fnExactShadowedRow : OpenClaim := { program := "ythfmjnebpdhdfaa", sum := "5b1f412467b204ccf2e08dd0f0775622db71a95647a8803bfa06f8af80bcab84", func := "loop.example/g00655/laws.FnExactShadowed", spec := "fnExactShadowed", unfollowed := true, recurses := true, apart := false }
def FnExactShadowedSaid : Prop := fnExactShadowedRow.holds Try.pinned (OpenSpec.ofChange fnExactShadowedSpec)

/-- ITS FALSE NEIGHBOUR: 'it returns false'. Refute it at one input. -/
def fnExactShadowedWrong : ChangeSpec := { name := "fnExactShadowed", fn := fun _ => fun
  | [d] => { results := [.lit (.bool false)], args := [d] }
  | _ => none }
def FnExactShadowedWrongFalsely : Prop := fnExactShadowedRow.holds Try.pinned (OpenSpec.ofChange fnExactShadowedWrong)

/-- 'laws.FnShadowNever': WHATEVER THE INPUT: true; the input reads as it did. -/
def fnShadowNeverSpec : ChangeSpec := { name := "fnShadowNever", fn := fun _ => fun
  | [d] => { results := [.lit (.bool true)], args := [d] }
  | _ => none }
def fnShadowNeverRow : OpenClaim := { program := "ythfmjnebpdhdfaa", sum := "5b1f412467b204ccf2e08dd0f0775622db71a95647a8803bfa06f8af80bcab84", func := "loop.example/g00655/laws.FnShadowNever", spec := "fnShadowNever", unfollowed := true, recurses := true, apart := false }
def FnShadowNeverSaid : Prop := fnShadowNeverRow.holds Try.pinned (OpenSpec.ofChange fnShadowNeverSpec)

/-- ITS FALSE NEIGHBOUR: 'it returns false'. Refute it at one input. -/
def fnShadowNeverWrong : ChangeSpec := { name := "fnShadowNever", fn := fun _ => fun
  | [d] => { results := [.lit (.bool false)], args := [d] }
  | _ => none }
def FnShadowNeverWrongFalsely : Prop := fnShadowNeverRow.holds Try.pinned (OpenSpec.ofChange fnShadowNeverWrong)

/-- 'laws.FnRuleNext': WHATEVER THE INPUT: true; the input reads as it did. -/
def fnRuleNextSpec : ChangeSpec := { name := "fnRuleNext", fn := fun _ => fun
  | [d] => { results := [.lit (.bool true)], args := [d] }
  | _ => none }
def fnRuleNextRow : OpenClaim := { program := "ythfmjnebpdhdfaa", sum := "5b1f412467b204ccf2e08dd0f0775622db71a95647a8803bfa06f8af80bcab84", func := "loop.example/g00655/laws.FnRuleNext", spec := "fnRuleNext", unfollowed := true, recurses := true, apart := false }
def FnRuleNextSaid : Prop := fnRuleNextRow.holds Try.pinned (OpenSpec.ofChange fnRuleNextSpec)

/-- ITS FALSE NEIGHBOUR: 'it returns false'. Refute it at one input. -/
def fnRuleNextWrong : ChangeSpec := { name := "fnRuleNext", fn := fun _ => fun
  | [d] => { results := [.lit (.bool false)], args := [d] }
  | _ => none }
def FnRuleNextWrongFalsely : Prop := fnRuleNextRow.holds Try.pinned (OpenSpec.ofChange fnRuleNextWrong)

/-- 'laws.FnExactRuleAdd': WHATEVER THE INPUT: true; the input reads as it did. -/
def fnExactRuleAddSpec : ChangeSpec := { name := "fnExactRuleAdd", fn := fun _ => fun
  | [d1, d2] => { results := [.lit (.bool true)], args := [d1, d2] }
  | _ => none }
def fnExactRuleAddRow : OpenClaim := { program := "ythfmjnebpdhdfaa", sum := "5b1f412467b204ccf2e08dd0f0775622db71a95647a8803bfa06f8af80bcab84", func := "loop.example/g00655/laws.FnExactRuleAdd", spec := "fnExactRuleAdd", inPlace := ["slices.overlaps[loop.example/g00655/impl.Rule]"], unfollowed := true, recurses := true, apart := false }
def FnExactRuleAddSaid : Prop := fnExactRuleAddRow.holds Try.pinned (OpenSpec.ofChange fnExactRuleAddSpec)

/-- ITS FALSE NEIGHBOUR: 'it returns false'. Refute it at one input. -/
def fnExactRuleAddWrong : ChangeSpec := { name := "fnExactRuleAdd", fn := fun _ => fun
  | [d1, d2] => { results := [.lit (.bool false)], args := [d1, d2] }
  | _ => none }
def FnExactRuleAddWrongFalsely : Prop := fnExactRuleAddRow.holds Try.pinned (OpenSpec.ofChange fnExactRuleAddWrong)

/-- 'laws.FnExactRuleDrop': WHATEVER THE INPUT: true; the input reads as it did. -/
def fnExactRuleDropSpec : ChangeSpec := { name := "fnExactRuleDrop", fn := fun _ => fun
  | [d1, d2] => { results := [.lit (.bool true)], args := [d1, d2] }
  | _ => none }
def fnExactRuleDropRow : OpenClaim := { program := "ythfmjnebpdhdfaa", sum := "5b1f412467b204ccf2e08dd0f0775622db71a95647a8803bfa06f8af80bcab84", func := "loop.example/g00655/laws.FnExactRuleDrop", spec := "fnExactRuleDrop", unfollowed := true, recurses := true, apart := false }
def FnExactRuleDropSaid : Prop := fnExactRuleDropRow.holds Try.pinned (OpenSpec.ofChange fnExactRuleDropSpec)

/-- ITS FALSE NEIGHBOUR: 'it returns false'. Refute it at one input. -/
def fnExactRuleDropWrong : ChangeSpec := { name := "fnExactRuleDrop", fn := fun _ => fun
  | [d1, d2] => { results := [.lit (.bool false)], args := [d1, d2] }
  | _ => none }
def FnExactRuleDropWrongFalsely : Prop := fnExactRuleDropRow.holds Try.pinned (OpenSpec.ofChange fnExactRuleDropWrong)

/-- 'laws.FnRuleKept': WHATEVER THE INPUT: true; the input reads as it did. -/
def fnRuleKeptSpec : ChangeSpec := { name := "fnRuleKept", fn := fun _ => fun
  | [d] => { results := [.lit (.bool true)], args := [d] }
  | _ => none }
def fnRuleKeptRow : OpenClaim := { program := "ythfmjnebpdhdfaa", sum := "5b1f412467b204ccf2e08dd0f0775622db71a95647a8803bfa06f8af80bcab84", func := "loop.example/g00655/laws.FnRuleKept", spec := "fnRuleKept", inPlace := ["slices.overlaps[loop.example/g00655/impl.Rule]"], unfollowed := true, recurses := true, apart := false }
def FnRuleKeptSaid : Prop := fnRuleKeptRow.holds Try.pinned (OpenSpec.ofChange fnRuleKeptSpec)

/-- ITS FALSE NEIGHBOUR: 'it returns false'. Refute it at one input. -/
def fnRuleKeptWrong : ChangeSpec := { name := "fnRuleKept", fn := fun _ => fun
  | [d] => { results := [.lit (.bool false)], args := [d] }
  | _ => none }
def FnRuleKeptWrongFalsely : Prop := fnRuleKeptRow.holds Try.pinned (OpenSpec.ofChange fnRuleKeptWrong)

/-- 'laws.FnSixBack': WHATEVER THE INPUT: true; the input reads as it did. -/
def fnSixBackSpec : ChangeSpec := { name := "fnSixBack", fn := fun _ => fun
  | [d] => { results := [.lit (.bool true)], args := [d] }
  | _ => none }
def fnSixBackRow : OpenClaim := { program := "ythfmjnebpdhdfaa", sum := "5b1f412467b204ccf2e08dd0f0775622db71a95647a8803bfa06f8af80bcab84", func := "loop.example/g00655/laws.FnSixBack", spec := "fnSixBack", apart := false }
def FnSixBackSaid : Prop := fnSixBackRow.holds Try.pinned (OpenSpec.ofChange fnSixBackSpec)

/-- ITS FALSE NEIGHBOUR: 'it returns false'. Refute it at one input. -/
def fnSixBackWrong : ChangeSpec := { name := "fnSixBack", fn := fun _ => fun
  | [d] => { results := [.lit (.bool false)], args := [d] }
  | _ => none }
def FnSixBackWrongFalsely : Prop := fnSixBackRow.holds Try.pinned (OpenSpec.ofChange fnSixBackWrong)

/- THE SECOND FORM. 'bulk': how many values and letters a reading holds, each counted each time it is reached (what is shared counts as often as it is met; a slice's spare places count too). A statement '..UptoSaid' is the law's where the arguments, and the package variables that the reading takes, are together of bulk at most 1048576: NARROWER than '..Said'. Prove '..Said' where nothing that the law and all that it calls make is longer than what came in: it says more and counts as full. Else prove '..UptoSaid'. A law counts once. -/
mutual
def uptoBulk {H : Type} : DataW H → Nat
  | .lit (.string bytes) => bytes.length + 1
  | .lit _ => 1
  | .nil => 1
  | .ptr d => uptoBulk d + 1
  | .slice elems spare => uptoBulkAll elems + uptoBulkAll spare + 1
  | .agg parts => uptoBulkAll parts + 1
  | .iface _ d => uptoBulk d + 1
  | .map entries => uptoBulkEntries entries + 1
  | .held _ => 1
def uptoBulkAll {H : Type} : List (DataW H) → Nat
  | [] => 0
  | d :: r => uptoBulk d + uptoBulkAll r
def uptoBulkEntries {H : Type} : List (Lit × DataW H) → Nat
  | [] => 0
  | x :: r => uptoBulkEntry x + uptoBulkEntries r
def uptoBulkEntry {H : Type} : Lit × DataW H → Nat
  | (.string bytes, d) => bytes.length + uptoBulk d + 1
  | (_, d) => uptoBulk d + 1
 end
def uptoSmall : (H : Type) → List (DataW H) → Bool := fun _ ds => decide (uptoBulkAll ds ≤ 1048576)
def OpenSpec.upto (s : _root_.Go.ChangeSpec) : _root_.Go.OpenSpec := { _root_.Go.OpenSpec.ofChange s with cond := some uptoSmall }

/-- 'laws.FnExactRuleOk', WHERE WHAT IT READS IS OF BULK AT MOST 1048576: true; the input reads as it did. -/
def fnExactRuleOkUptoRow : OpenClaim := { program := "ythfmjnebpdhdfaa", sum := "5b1f412467b204ccf2e08dd0f0775622db71a95647a8803bfa06f8af80bcab84", func := "loop.example/g00655/laws.FnExactRuleOk", spec := "fnExactRuleOk", apart := false, narrowed := true }
def FnExactRuleOkUptoSaid : Prop := fnExactRuleOkUptoRow.holds Try.pinned (OpenSpec.upto fnExactRuleOkSpec)

/-- 'laws.FnExactRuleHas', WHERE WHAT IT READS IS OF BULK AT MOST 1048576: true; the input reads as it did. -/
def fnExactRuleHasUptoRow : OpenClaim := { program := "ythfmjnebpdhdfaa", sum := "5b1f412467b204ccf2e08dd0f0775622db71a95647a8803bfa06f8af80bcab84", func := "loop.example/g00655/laws.FnExactRuleHas", spec := "fnExactRuleHas", unfollowed := true, recurses := true, apart := false, narrowed := true }
def FnExactRuleHasUptoSaid : Prop := fnExactRuleHasUptoRow.holds Try.pinned (OpenSpec.upto fnExactRuleHasSpec)

/-- 'laws.FnTurnedKey', WHERE WHAT IT READS IS OF BULK AT MOST 1048576: true; the input reads as it did. -/
def fnTurnedKeyUptoRow : OpenClaim := { program := "ythfmjnebpdhdfaa", sum := "5b1f412467b204ccf2e08dd0f0775622db71a95647a8803bfa06f8af80bcab84", func := "loop.example/g00655/laws.FnTurnedKey", spec := "fnTurnedKey", unfollowed := true, recurses := true, apart := false, narrowed := true }
def FnTurnedKeyUptoSaid : Prop := fnTurnedKeyUptoRow.holds Try.pinned (OpenSpec.upto fnTurnedKeySpec)

/-- 'laws.FnExactRuleCovers', WHERE WHAT IT READS IS OF BULK AT MOST 1048576: true; the input reads as it did. -/
def fnExactRuleCoversUptoRow : OpenClaim := { program := "ythfmjnebpdhdfaa", sum := "5b1f412467b204ccf2e08dd0f0775622db71a95647a8803bfa06f8af80bcab84", func := "loop.example/g00655/laws.FnExactRuleCovers", spec := "fnExactRuleCovers", apart := false, narrowed := true }
def FnExactRuleCoversUptoSaid : Prop := fnExactRuleCoversUptoRow.holds Try.pinned (OpenSpec.upto fnExactRuleCoversSpec)

/-- 'laws.FnExactRulesOk', WHERE WHAT IT READS IS OF BULK AT MOST 1048576: true; the input reads as it did. -/
def fnExactRulesOkUptoRow : OpenClaim := { program := "ythfmjnebpdhdfaa", sum := "5b1f412467b204ccf2e08dd0f0775622db71a95647a8803bfa06f8af80bcab84", func := "loop.example/g00655/laws.FnExactRulesOk", spec := "fnExactRulesOk", apart := false, narrowed := true }
def FnExactRulesOkUptoSaid : Prop := fnExactRulesOkUptoRow.holds Try.pinned (OpenSpec.upto fnExactRulesOkSpec)

/-- 'laws.FnExactRuleFor', WHERE WHAT IT READS IS OF BULK AT MOST 1048576: true; the input reads as it did. -/
def fnExactRuleForUptoRow : OpenClaim := { program := "ythfmjnebpdhdfaa", sum := "5b1f412467b204ccf2e08dd0f0775622db71a95647a8803bfa06f8af80bcab84", func := "loop.example/g00655/laws.FnExactRuleFor", spec := "fnExactRuleFor", unfollowed := true, recurses := true, apart := false, narrowed := true }
def FnExactRuleForUptoSaid : Prop := fnExactRuleForUptoRow.holds Try.pinned (OpenSpec.upto fnExactRuleForSpec)

/-- 'laws.FnExactShadowed', WHERE WHAT IT READS IS OF BULK AT MOST 1048576: true; the input reads as it did. -/
def fnExactShadowedUptoRow : OpenClaim := { program := "ythfmjnebpdhdfaa", sum := "5b1f412467b204ccf2e08dd0f0775622db71a95647a8803bfa06f8af80bcab84", func := "loop.example/g00655/laws.FnExactShadowed", spec := "fnExactShadowed", unfollowed := true, recurses := true, apart := false, narrowed := true }
def FnExactShadowedUptoSaid : Prop := fnExactShadowedUptoRow.holds Try.pinned (OpenSpec.upto fnExactShadowedSpec)

/-- 'laws.FnShadowNever', WHERE WHAT IT READS IS OF BULK AT MOST 1048576: true; the input reads as it did. -/
def fnShadowNeverUptoRow : OpenClaim := { program := "ythfmjnebpdhdfaa", sum := "5b1f412467b204ccf2e08dd0f0775622db71a95647a8803bfa06f8af80bcab84", func := "loop.example/g00655/laws.FnShadowNever", spec := "fnShadowNever", unfollowed := true, recurses := true, apart := false, narrowed := true }
def FnShadowNeverUptoSaid : Prop := fnShadowNeverUptoRow.holds Try.pinned (OpenSpec.upto fnShadowNeverSpec)

/-- 'laws.FnRuleNext', WHERE WHAT IT READS IS OF BULK AT MOST 1048576: true; the input reads as it did. -/
def fnRuleNextUptoRow : OpenClaim := { program := "ythfmjnebpdhdfaa", sum := "5b1f412467b204ccf2e08dd0f0775622db71a95647a8803bfa06f8af80bcab84", func := "loop.example/g00655/laws.FnRuleNext", spec := "fnRuleNext", unfollowed := true, recurses := true, apart := false, narrowed := true }
def FnRuleNextUptoSaid : Prop := fnRuleNextUptoRow.holds Try.pinned (OpenSpec.upto fnRuleNextSpec)

/-- 'laws.FnExactRuleAdd', WHERE WHAT IT READS IS OF BULK AT MOST 1048576: true; the input reads as it did. -/
def fnExactRuleAddUptoRow : OpenClaim := { program := "ythfmjnebpdhdfaa", sum := "5b1f412467b204ccf2e08dd0f0775622db71a95647a8803bfa06f8af80bcab84", func := "loop.example/g00655/laws.FnExactRuleAdd", spec := "fnExactRuleAdd", inPlace := ["slices.overlaps[loop.example/g00655/impl.Rule]"], unfollowed := true, recurses := true, apart := false, narrowed := true }
def FnExactRuleAddUptoSaid : Prop := fnExactRuleAddUptoRow.holds Try.pinned (OpenSpec.upto fnExactRuleAddSpec)

/-- 'laws.FnExactRuleDrop', WHERE WHAT IT READS IS OF BULK AT MOST 1048576: true; the input reads as it did. -/
def fnExactRuleDropUptoRow : OpenClaim := { program := "ythfmjnebpdhdfaa", sum := "5b1f412467b204ccf2e08dd0f0775622db71a95647a8803bfa06f8af80bcab84", func := "loop.example/g00655/laws.FnExactRuleDrop", spec := "fnExactRuleDrop", unfollowed := true, recurses := true, apart := false, narrowed := true }
def FnExactRuleDropUptoSaid : Prop := fnExactRuleDropUptoRow.holds Try.pinned (OpenSpec.upto fnExactRuleDropSpec)

/-- 'laws.FnRuleKept', WHERE WHAT IT READS IS OF BULK AT MOST 1048576: true; the input reads as it did. -/
def fnRuleKeptUptoRow : OpenClaim := { program := "ythfmjnebpdhdfaa", sum := "5b1f412467b204ccf2e08dd0f0775622db71a95647a8803bfa06f8af80bcab84", func := "loop.example/g00655/laws.FnRuleKept", spec := "fnRuleKept", inPlace := ["slices.overlaps[loop.example/g00655/impl.Rule]"], unfollowed := true, recurses := true, apart := false, narrowed := true }
def FnRuleKeptUptoSaid : Prop := fnRuleKeptUptoRow.holds Try.pinned (OpenSpec.upto fnRuleKeptSpec)

/-- 'laws.FnSixBack', WHERE WHAT IT READS IS OF BULK AT MOST 1048576: true; the input reads as it did. -/
def fnSixBackUptoRow : OpenClaim := { program := "ythfmjnebpdhdfaa", sum := "5b1f412467b204ccf2e08dd0f0775622db71a95647a8803bfa06f8af80bcab84", func := "loop.example/g00655/laws.FnSixBack", spec := "fnSixBack", apart := false, narrowed := true }
def FnSixBackUptoSaid : Prop := fnSixBackUptoRow.holds Try.pinned (OpenSpec.upto fnSixBackSpec)

end Rows
end Go.Proofs.Ythfmjnebpdhdfaa
