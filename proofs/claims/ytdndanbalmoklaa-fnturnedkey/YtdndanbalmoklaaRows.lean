/-
  No cell of these rows narrows 'for every input' (looked for: loops, veiled, ifaces, maps, wideKeys, modest, calm, conditions, laid).
  DERIVED. THE GIVEN ROWS OF THIS SEAT. 12 by the template 'for every input the law returns true; each argument reads behind the call as it read before'; 0 by the template 'total and deterministic' (their statements: YtdndanbalmoklaaTotals.lean).
  GIVEN WITH THE SEED: the statements are not yours to turn. If you find one false, say at which input.
  Laid BY PROGRAM, IN A SANDBOX (cutbox-rows.mjs): the forced cells as the released guide's own fill.sh prints them over the translation 349f8dbe27e99892… (all of the seat's roots in one cut). By AI agents, Wed Nov 11 2026. No macro, syntax, notation, axiom, sorry.
-/
import Derived.Test.YtdndanbalmoklaaChecked
import GoSem.Claim
import GoSem.ClaimJoined
import GoSem.ClaimMapViews
import Derived.JoinedTies
import Derived.KernelRfl
namespace Go.Proofs.Ytdndanbalmoklaa
/- THE CELL 'sum', in the pinned program and in every row, IS THE sha256 OF THE DUMP (.gsa) THAT YtdndanbalmoklaaProg.lean LOADS. Nothing in Lean hashes anything: it is a label: what it is worth is what the hold of that sum in a sandbox is worth. -/
noncomputable def Try.pinned : Pinned := { name := "ytdndanbalmoklaa", sum := "349f8dbe27e998924bc077b6aa8b1f6b6b04c05112a28b19ed34c432e92e2e85", checked := Try.checked }
namespace Rows
def none {H : Type} : Left H := { results := [], args := [] }

/-- 'laws.FnExactModuleOk': WHATEVER THE INPUT: true; the input reads as it did. -/
def fnExactModuleOkSpec : ChangeSpec := { name := "fnExactModuleOk", fn := fun _ => fun
  | [d] => { results := [.lit (.bool true)], args := [d] }
  | _ => none }
def fnExactModuleOkRow : OpenClaim := { program := "ytdndanbalmoklaa", sum := "349f8dbe27e998924bc077b6aa8b1f6b6b04c05112a28b19ed34c432e92e2e85", func := "loop.example/g00655/laws.FnExactModuleOk", spec := "fnExactModuleOk", apart := false }
def FnExactModuleOkSaid : Prop := fnExactModuleOkRow.holds Try.pinned (OpenSpec.ofChange fnExactModuleOkSpec)

/-- ITS FALSE NEIGHBOUR: 'it returns false'. Refute it at one input. -/
def fnExactModuleOkWrong : ChangeSpec := { name := "fnExactModuleOk", fn := fun _ => fun
  | [d] => { results := [.lit (.bool false)], args := [d] }
  | _ => none }
def FnExactModuleOkWrongFalsely : Prop := fnExactModuleOkRow.holds Try.pinned (OpenSpec.ofChange fnExactModuleOkWrong)

/-- 'laws.FnExactChainOk': WHATEVER THE INPUT: true; the input reads as it did. -/
def fnExactChainOkSpec : ChangeSpec := { name := "fnExactChainOk", fn := fun _ => fun
  | [d] => { results := [.lit (.bool true)], args := [d] }
  | _ => none }
def fnExactChainOkRow : OpenClaim := { program := "ytdndanbalmoklaa", sum := "349f8dbe27e998924bc077b6aa8b1f6b6b04c05112a28b19ed34c432e92e2e85", func := "loop.example/g00655/laws.FnExactChainOk", spec := "fnExactChainOk", unfollowed := true, recurses := true, apart := false }
def FnExactChainOkSaid : Prop := fnExactChainOkRow.holds Try.pinned (OpenSpec.ofChange fnExactChainOkSpec)

/-- ITS FALSE NEIGHBOUR: 'it returns false'. Refute it at one input. -/
def fnExactChainOkWrong : ChangeSpec := { name := "fnExactChainOk", fn := fun _ => fun
  | [d] => { results := [.lit (.bool false)], args := [d] }
  | _ => none }
def FnExactChainOkWrongFalsely : Prop := fnExactChainOkRow.holds Try.pinned (OpenSpec.ofChange fnExactChainOkWrong)

/-- 'laws.FnExactNatAddr': WHATEVER THE INPUT: true; the input reads as it did. -/
def fnExactNatAddrSpec : ChangeSpec := { name := "fnExactNatAddr", fn := fun _ => fun
  | [d1, d2, d3] => { results := [.lit (.bool true)], args := [d1, d2, d3] }
  | _ => none }
def fnExactNatAddrRow : OpenClaim := { program := "ytdndanbalmoklaa", sum := "349f8dbe27e998924bc077b6aa8b1f6b6b04c05112a28b19ed34c432e92e2e85", func := "loop.example/g00655/laws.FnExactNatAddr", spec := "fnExactNatAddr", apart := false }
def FnExactNatAddrSaid : Prop := fnExactNatAddrRow.holds Try.pinned (OpenSpec.ofChange fnExactNatAddrSpec)

/-- ITS FALSE NEIGHBOUR: 'it returns false'. Refute it at one input. -/
def fnExactNatAddrWrong : ChangeSpec := { name := "fnExactNatAddr", fn := fun _ => fun
  | [d1, d2, d3] => { results := [.lit (.bool false)], args := [d1, d2, d3] }
  | _ => none }
def FnExactNatAddrWrongFalsely : Prop := fnExactNatAddrRow.holds Try.pinned (OpenSpec.ofChange fnExactNatAddrWrong)

/-- 'laws.FnExactBackChain': WHATEVER THE INPUT: true; the input reads as it did. -/
def fnExactBackChainSpec : ChangeSpec := { name := "fnExactBackChain", fn := fun _ => fun
  | [d] => { results := [.lit (.bool true)], args := [d] }
  | _ => none }
def fnExactBackChainRow : OpenClaim := { program := "ytdndanbalmoklaa", sum := "349f8dbe27e998924bc077b6aa8b1f6b6b04c05112a28b19ed34c432e92e2e85", func := "loop.example/g00655/laws.FnExactBackChain", spec := "fnExactBackChain", unfollowed := true, recurses := true, apart := false }
def FnExactBackChainSaid : Prop := fnExactBackChainRow.holds Try.pinned (OpenSpec.ofChange fnExactBackChainSpec)

/-- ITS FALSE NEIGHBOUR: 'it returns false'. Refute it at one input. -/
def fnExactBackChainWrong : ChangeSpec := { name := "fnExactBackChain", fn := fun _ => fun
  | [d] => { results := [.lit (.bool false)], args := [d] }
  | _ => none }
def FnExactBackChainWrongFalsely : Prop := fnExactBackChainRow.holds Try.pinned (OpenSpec.ofChange fnExactBackChainWrong)

/-- 'laws.FnTurnedKey': WHATEVER THE INPUT: true; the input reads as it did. -/
def fnTurnedKeySpec : ChangeSpec := { name := "fnTurnedKey", fn := fun _ => fun
  | [d] => { results := [.lit (.bool true)], args := [d] }
  | _ => none }
def fnTurnedKeyRow : OpenClaim := { program := "ytdndanbalmoklaa", sum := "349f8dbe27e998924bc077b6aa8b1f6b6b04c05112a28b19ed34c432e92e2e85", func := "loop.example/g00655/laws.FnTurnedKey", spec := "fnTurnedKey", unfollowed := true, recurses := true, apart := false }
def FnTurnedKeySaid : Prop := fnTurnedKeyRow.holds Try.pinned (OpenSpec.ofChange fnTurnedKeySpec)

/-- ITS FALSE NEIGHBOUR: 'it returns false'. Refute it at one input. -/
def fnTurnedKeyWrong : ChangeSpec := { name := "fnTurnedKey", fn := fun _ => fun
  | [d] => { results := [.lit (.bool false)], args := [d] }
  | _ => none }
def FnTurnedKeyWrongFalsely : Prop := fnTurnedKeyRow.holds Try.pinned (OpenSpec.ofChange fnTurnedKeyWrong)

/-- 'laws.FnShadowNever': WHATEVER THE INPUT: true; the input reads as it did. -/
def fnShadowNeverSpec : ChangeSpec := { name := "fnShadowNever", fn := fun _ => fun
  | [d] => { results := [.lit (.bool true)], args := [d] }
  | _ => none }
def fnShadowNeverRow : OpenClaim := { program := "ytdndanbalmoklaa", sum := "349f8dbe27e998924bc077b6aa8b1f6b6b04c05112a28b19ed34c432e92e2e85", func := "loop.example/g00655/laws.FnShadowNever", spec := "fnShadowNever", unfollowed := true, recurses := true, apart := false }
def FnShadowNeverSaid : Prop := fnShadowNeverRow.holds Try.pinned (OpenSpec.ofChange fnShadowNeverSpec)

/-- ITS FALSE NEIGHBOUR: 'it returns false'. Refute it at one input. -/
def fnShadowNeverWrong : ChangeSpec := { name := "fnShadowNever", fn := fun _ => fun
  | [d] => { results := [.lit (.bool false)], args := [d] }
  | _ => none }
def FnShadowNeverWrongFalsely : Prop := fnShadowNeverRow.holds Try.pinned (OpenSpec.ofChange fnShadowNeverWrong)

/-- 'laws.FnRuleNext': WHATEVER THE INPUT: true; the input reads as it did. -/
def fnRuleNextSpec : ChangeSpec := { name := "fnRuleNext", fn := fun _ => fun
  | [d] => { results := [.lit (.bool true)], args := [d] }
  | _ => none }
def fnRuleNextRow : OpenClaim := { program := "ytdndanbalmoklaa", sum := "349f8dbe27e998924bc077b6aa8b1f6b6b04c05112a28b19ed34c432e92e2e85", func := "loop.example/g00655/laws.FnRuleNext", spec := "fnRuleNext", unfollowed := true, recurses := true, apart := false }
def FnRuleNextSaid : Prop := fnRuleNextRow.holds Try.pinned (OpenSpec.ofChange fnRuleNextSpec)

/-- ITS FALSE NEIGHBOUR: 'it returns false'. Refute it at one input. -/
def fnRuleNextWrong : ChangeSpec := { name := "fnRuleNext", fn := fun _ => fun
  | [d] => { results := [.lit (.bool false)], args := [d] }
  | _ => none }
def FnRuleNextWrongFalsely : Prop := fnRuleNextRow.holds Try.pinned (OpenSpec.ofChange fnRuleNextWrong)

/-- 'laws.FnRuleKept': WHATEVER THE INPUT: true; the input reads as it did. -/
def fnRuleKeptSpec : ChangeSpec := { name := "fnRuleKept", fn := fun _ => fun
  | [d] => { results := [.lit (.bool true)], args := [d] }
  | _ => none }
def fnRuleKeptRow : OpenClaim := { program := "ytdndanbalmoklaa", sum := "349f8dbe27e998924bc077b6aa8b1f6b6b04c05112a28b19ed34c432e92e2e85", func := "loop.example/g00655/laws.FnRuleKept", spec := "fnRuleKept", inPlace := ["slices.overlaps[loop.example/g00655/impl.Rule]"], unfollowed := true, recurses := true, apart := false }
def FnRuleKeptSaid : Prop := fnRuleKeptRow.holds Try.pinned (OpenSpec.ofChange fnRuleKeptSpec)

/-- ITS FALSE NEIGHBOUR: 'it returns false'. Refute it at one input. -/
def fnRuleKeptWrong : ChangeSpec := { name := "fnRuleKept", fn := fun _ => fun
  | [d] => { results := [.lit (.bool false)], args := [d] }
  | _ => none }
def FnRuleKeptWrongFalsely : Prop := fnRuleKeptRow.holds Try.pinned (OpenSpec.ofChange fnRuleKeptWrong)

/-- 'laws.FnExactShadowed': WHATEVER THE INPUT: true; the input reads as it did. -/
def fnExactShadowedSpec : ChangeSpec := { name := "fnExactShadowed", fn := fun _ => fun
  | [d] => { results := [.lit (.bool true)], args := [d] }
  | _ => none }
def fnExactShadowedRow : OpenClaim := { program := "ytdndanbalmoklaa", sum := "349f8dbe27e998924bc077b6aa8b1f6b6b04c05112a28b19ed34c432e92e2e85", func := "loop.example/g00655/laws.FnExactShadowed", spec := "fnExactShadowed", unfollowed := true, recurses := true, apart := false }
def FnExactShadowedSaid : Prop := fnExactShadowedRow.holds Try.pinned (OpenSpec.ofChange fnExactShadowedSpec)

/-- ITS FALSE NEIGHBOUR: 'it returns false'. Refute it at one input. -/
def fnExactShadowedWrong : ChangeSpec := { name := "fnExactShadowed", fn := fun _ => fun
  | [d] => { results := [.lit (.bool false)], args := [d] }
  | _ => none }
def FnExactShadowedWrongFalsely : Prop := fnExactShadowedRow.holds Try.pinned (OpenSpec.ofChange fnExactShadowedWrong)

/-- 'laws.FnExactRuleAdd': WHATEVER THE INPUT: true; the input reads as it did. -/
def fnExactRuleAddSpec : ChangeSpec := { name := "fnExactRuleAdd", fn := fun _ => fun
  | [d1, d2] => { results := [.lit (.bool true)], args := [d1, d2] }
  | _ => none }
def fnExactRuleAddRow : OpenClaim := { program := "ytdndanbalmoklaa", sum := "349f8dbe27e998924bc077b6aa8b1f6b6b04c05112a28b19ed34c432e92e2e85", func := "loop.example/g00655/laws.FnExactRuleAdd", spec := "fnExactRuleAdd", inPlace := ["slices.overlaps[loop.example/g00655/impl.Rule]"], unfollowed := true, recurses := true, apart := false }
def FnExactRuleAddSaid : Prop := fnExactRuleAddRow.holds Try.pinned (OpenSpec.ofChange fnExactRuleAddSpec)

/-- ITS FALSE NEIGHBOUR: 'it returns false'. Refute it at one input. -/
def fnExactRuleAddWrong : ChangeSpec := { name := "fnExactRuleAdd", fn := fun _ => fun
  | [d1, d2] => { results := [.lit (.bool false)], args := [d1, d2] }
  | _ => none }
def FnExactRuleAddWrongFalsely : Prop := fnExactRuleAddRow.holds Try.pinned (OpenSpec.ofChange fnExactRuleAddWrong)

/-- 'laws.FnExactRuleDrop': WHATEVER THE INPUT: true; the input reads as it did. -/
def fnExactRuleDropSpec : ChangeSpec := { name := "fnExactRuleDrop", fn := fun _ => fun
  | [d1, d2] => { results := [.lit (.bool true)], args := [d1, d2] }
  | _ => none }
def fnExactRuleDropRow : OpenClaim := { program := "ytdndanbalmoklaa", sum := "349f8dbe27e998924bc077b6aa8b1f6b6b04c05112a28b19ed34c432e92e2e85", func := "loop.example/g00655/laws.FnExactRuleDrop", spec := "fnExactRuleDrop", unfollowed := true, recurses := true, apart := false }
def FnExactRuleDropSaid : Prop := fnExactRuleDropRow.holds Try.pinned (OpenSpec.ofChange fnExactRuleDropSpec)

/-- ITS FALSE NEIGHBOUR: 'it returns false'. Refute it at one input. -/
def fnExactRuleDropWrong : ChangeSpec := { name := "fnExactRuleDrop", fn := fun _ => fun
  | [d1, d2] => { results := [.lit (.bool false)], args := [d1, d2] }
  | _ => none }
def FnExactRuleDropWrongFalsely : Prop := fnExactRuleDropRow.holds Try.pinned (OpenSpec.ofChange fnExactRuleDropWrong)

/-- 'laws.FnSixBack': WHATEVER THE INPUT: true; the input reads as it did. -/
def fnSixBackSpec : ChangeSpec := { name := "fnSixBack", fn := fun _ => fun
  | [d] => { results := [.lit (.bool true)], args := [d] }
  | _ => none }
def fnSixBackRow : OpenClaim := { program := "ytdndanbalmoklaa", sum := "349f8dbe27e998924bc077b6aa8b1f6b6b04c05112a28b19ed34c432e92e2e85", func := "loop.example/g00655/laws.FnSixBack", spec := "fnSixBack", apart := false }
def FnSixBackSaid : Prop := fnSixBackRow.holds Try.pinned (OpenSpec.ofChange fnSixBackSpec)

/-- ITS FALSE NEIGHBOUR: 'it returns false'. Refute it at one input. -/
def fnSixBackWrong : ChangeSpec := { name := "fnSixBack", fn := fun _ => fun
  | [d] => { results := [.lit (.bool false)], args := [d] }
  | _ => none }
def FnSixBackWrongFalsely : Prop := fnSixBackRow.holds Try.pinned (OpenSpec.ofChange fnSixBackWrong)

/- THE SECOND FORM. 'bulk': how many values and letters a reading holds, each counted each time it is reached (what is shared counts as often as it is met; a slice's spare places count too). A statement '..UptoSaid' is the law's where the arguments, and the package variables that the reading takes, are together of bulk at most 1048576: NARROWER than '..Said'. Prove '..Said' where nothing that the law and all that it calls make is longer than what came in: it says more and counts as full. Else prove '..UptoSaid'. A law counts once. -/
mutual
def uptoBulk {H : Type} : DataW H → Nat
  | .lit (.string bytes) => bytes.length + 1
  | .lit _ => 1
  | .nil => 1
  | .ptr d => uptoBulk d + 1
  | .slice elems spare => uptoBulkAll elems + uptoBulkAll spare + 1
  | .agg parts => uptoBulkAll parts + 1
  | .iface _ d => uptoBulk d + 1
  | .map entries => uptoBulkEntries entries + 1
  | .held _ => 1
def uptoBulkAll {H : Type} : List (DataW H) → Nat
  | [] => 0
  | d :: r => uptoBulk d + uptoBulkAll r
def uptoBulkEntries {H : Type} : List (Lit × DataW H) → Nat
  | [] => 0
  | x :: r => uptoBulkEntry x + uptoBulkEntries r
def uptoBulkEntry {H : Type} : Lit × DataW H → Nat
  | (.string bytes, d) => bytes.length + uptoBulk d + 1
  | (_, d) => uptoBulk d + 1
 end
def uptoSmall : (H : Type) → List (DataW H) → Bool := fun _ ds => decide (uptoBulkAll ds ≤ 1048576)
def OpenSpec.upto (s : _root_.Go.ChangeSpec) : _root_.Go.OpenSpec := { _root_.Go.OpenSpec.ofChange s with cond := some uptoSmall }

/-- 'laws.FnExactModuleOk', WHERE WHAT IT READS IS OF BULK AT MOST 1048576: true; the input reads as it did. -/
def fnExactModuleOkUptoRow : OpenClaim := { program := "ytdndanbalmoklaa", sum := "349f8dbe27e998924bc077b6aa8b1f6b6b04c05112a28b19ed34c432e92e2e85", func := "loop.example/g00655/laws.FnExactModuleOk", spec := "fnExactModuleOk", apart := false, narrowed := true }
def FnExactModuleOkUptoSaid : Prop := fnExactModuleOkUptoRow.holds Try.pinned (OpenSpec.upto fnExactModuleOkSpec)

/-- 'laws.FnExactChainOk', WHERE WHAT IT READS IS OF BULK AT MOST 1048576: true; the input reads as it did. -/
def fnExactChainOkUptoRow : OpenClaim := { program := "ytdndanbalmoklaa", sum := "349f8dbe27e998924bc077b6aa8b1f6b6b04c05112a28b19ed34c432e92e2e85", func := "loop.example/g00655/laws.FnExactChainOk", spec := "fnExactChainOk", unfollowed := true, recurses := true, apart := false, narrowed := true }
def FnExactChainOkUptoSaid : Prop := fnExactChainOkUptoRow.holds Try.pinned (OpenSpec.upto fnExactChainOkSpec)

/-- 'laws.FnExactNatAddr', WHERE WHAT IT READS IS OF BULK AT MOST 1048576: true; the input reads as it did. -/
def fnExactNatAddrUptoRow : OpenClaim := { program := "ytdndanbalmoklaa", sum := "349f8dbe27e998924bc077b6aa8b1f6b6b04c05112a28b19ed34c432e92e2e85", func := "loop.example/g00655/laws.FnExactNatAddr", spec := "fnExactNatAddr", apart := false, narrowed := true }
def FnExactNatAddrUptoSaid : Prop := fnExactNatAddrUptoRow.holds Try.pinned (OpenSpec.upto fnExactNatAddrSpec)

/-- 'laws.FnExactBackChain', WHERE WHAT IT READS IS OF BULK AT MOST 1048576: true; the input reads as it did. -/
def fnExactBackChainUptoRow : OpenClaim := { program := "ytdndanbalmoklaa", sum := "349f8dbe27e998924bc077b6aa8b1f6b6b04c05112a28b19ed34c432e92e2e85", func := "loop.example/g00655/laws.FnExactBackChain", spec := "fnExactBackChain", unfollowed := true, recurses := true, apart := false, narrowed := true }
def FnExactBackChainUptoSaid : Prop := fnExactBackChainUptoRow.holds Try.pinned (OpenSpec.upto fnExactBackChainSpec)

/-- 'laws.FnTurnedKey', WHERE WHAT IT READS IS OF BULK AT MOST 1048576: true; the input reads as it did. -/
def fnTurnedKeyUptoRow : OpenClaim := { program := "ytdndanbalmoklaa", sum := "349f8dbe27e998924bc077b6aa8b1f6b6b04c05112a28b19ed34c432e92e2e85", func := "loop.example/g00655/laws.FnTurnedKey", spec := "fnTurnedKey", unfollowed := true, recurses := true, apart := false, narrowed := true }
def FnTurnedKeyUptoSaid : Prop := fnTurnedKeyUptoRow.holds Try.pinned (OpenSpec.upto fnTurnedKeySpec)

/-- 'laws.FnShadowNever', WHERE WHAT IT READS IS OF BULK AT MOST 1048576: true; the input reads as it did. -/
def fnShadowNeverUptoRow : OpenClaim := { program := "ytdndanbalmoklaa", sum := "349f8dbe27e998924bc077b6aa8b1f6b6b04c05112a28b19ed34c432e92e2e85", func := "loop.example/g00655/laws.FnShadowNever", spec := "fnShadowNever", unfollowed := true, recurses := true, apart := false, narrowed := true }
def FnShadowNeverUptoSaid : Prop := fnShadowNeverUptoRow.holds Try.pinned (OpenSpec.upto fnShadowNeverSpec)

/-- 'laws.FnRuleNext', WHERE WHAT IT READS IS OF BULK AT MOST 1048576: true; the input reads as it did. -/
def fnRuleNextUptoRow : OpenClaim := { program := "ytdndanbalmoklaa", sum := "349f8dbe27e998924bc077b6aa8b1f6b6b04c05112a28b19ed34c432e92e2e85", func := "loop.example/g00655/laws.FnRuleNext", spec := "fnRuleNext", unfollowed := true, recurses := true, apart := false, narrowed := true }
def FnRuleNextUptoSaid : Prop := fnRuleNextUptoRow.holds Try.pinned (OpenSpec.upto fnRuleNextSpec)

/-- 'laws.FnRuleKept', WHERE WHAT IT READS IS OF BULK AT MOST 1048576: true; the input reads as it did. -/
def fnRuleKeptUptoRow : OpenClaim := { program := "ytdndanbalmoklaa", sum := "349f8dbe27e998924bc077b6aa8b1f6b6b04c05112a28b19ed34c432e92e2e85", func := "loop.example/g00655/laws.FnRuleKept", spec := "fnRuleKept", inPlace := ["slices.overlaps[loop.example/g00655/impl.Rule]"], unfollowed := true, recurses := true, apart := false, narrowed := true }
def FnRuleKeptUptoSaid : Prop := fnRuleKeptUptoRow.holds Try.pinned (OpenSpec.upto fnRuleKeptSpec)

/-- 'laws.FnExactShadowed', WHERE WHAT IT READS IS OF BULK AT MOST 1048576: true; the input reads as it did. -/
def fnExactShadowedUptoRow : OpenClaim := { program := "ytdndanbalmoklaa", sum := "349f8dbe27e998924bc077b6aa8b1f6b6b04c05112a28b19ed34c432e92e2e85", func := "loop.example/g00655/laws.FnExactShadowed", spec := "fnExactShadowed", unfollowed := true, recurses := true, apart := false, narrowed := true }
def FnExactShadowedUptoSaid : Prop := fnExactShadowedUptoRow.holds Try.pinned (OpenSpec.upto fnExactShadowedSpec)

/-- 'laws.FnExactRuleAdd', WHERE WHAT IT READS IS OF BULK AT MOST 1048576: true; the input reads as it did. -/
def fnExactRuleAddUptoRow : OpenClaim := { program := "ytdndanbalmoklaa", sum := "349f8dbe27e998924bc077b6aa8b1f6b6b04c05112a28b19ed34c432e92e2e85", func := "loop.example/g00655/laws.FnExactRuleAdd", spec := "fnExactRuleAdd", inPlace := ["slices.overlaps[loop.example/g00655/impl.Rule]"], unfollowed := true, recurses := true, apart := false, narrowed := true }
def FnExactRuleAddUptoSaid : Prop := fnExactRuleAddUptoRow.holds Try.pinned (OpenSpec.upto fnExactRuleAddSpec)

/-- 'laws.FnExactRuleDrop', WHERE WHAT IT READS IS OF BULK AT MOST 1048576: true; the input reads as it did. -/
def fnExactRuleDropUptoRow : OpenClaim := { program := "ytdndanbalmoklaa", sum := "349f8dbe27e998924bc077b6aa8b1f6b6b04c05112a28b19ed34c432e92e2e85", func := "loop.example/g00655/laws.FnExactRuleDrop", spec := "fnExactRuleDrop", unfollowed := true, recurses := true, apart := false, narrowed := true }
def FnExactRuleDropUptoSaid : Prop := fnExactRuleDropUptoRow.holds Try.pinned (OpenSpec.upto fnExactRuleDropSpec)

/-- 'laws.FnSixBack', WHERE WHAT IT READS IS OF BULK AT MOST 1048576: true; the input reads as it did. -/
def fnSixBackUptoRow : OpenClaim := { program := "ytdndanbalmoklaa", sum := "349f8dbe27e998924bc077b6aa8b1f6b6b04c05112a28b19ed34c432e92e2e85", func := "loop.example/g00655/laws.FnSixBack", spec := "fnSixBack", apart := false, narrowed := true }
def FnSixBackUptoSaid : Prop := fnSixBackUptoRow.holds Try.pinned (OpenSpec.upto fnSixBackSpec)

end Rows
end Go.Proofs.Ytdndanbalmoklaa
