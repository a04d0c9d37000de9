/-
  DERIVED. GIVEN WITH THE SEED: THE CARDS: each row of YtckakpcjbndijabDoorRows.lean that lists a variable, with what it lists TIED to the program's text (the seventh form; the later family's looks); each row that meets fmt, with fmt's text TOLD by the authors' own Lean function (tested against real Go, not proved from fmt's source: count such statements apart). THE CARD IS WHAT COUNTS. Prove the row's statement (the work); the ties are given (YtckakpcjbndijabDoorTie.lean); close each card by the builder's one call (the guide's Derived/Test/ToyasCard.lean, 'card_holds'). Laid BY PROGRAM, IN A SANDBOX (cutbox-door.mjs). By AI agents, Wed Nov 11 2026. No macro, syntax, notation, axiom, sorry.
-/
import Derived.Test.YtckakpcjbndijabDoorRows
import GoSem.ClaimSeven
namespace Go.Proofs.YtckakpcjbndijabDoor
namespace Rows

/-- THE TIED CARD OF 'laws.FnExactAddrText'. -/
def fnExactAddrTextCard : Claim7 := { stood := { row := fnExactAddrTextRow, standIns := [], harness := (true, "f7320980e02a6bdb4e9675f9964b869f312e18c0a67b3f41794cc8a23d914077"), looks := false }, kinds := [], alts := [], laidByText := true, laidKinds := [.data, .data, .data], laidTests := true, laidLooks := .later }
def FnExactAddrTextCardSaid : Prop := Claim7.holds Tryd.pinned (.plain (OpenSpec.ofChange fnExactAddrTextSpec)) fnExactAddrTextCard

/-- THE TIED CARD OF 'laws.FnExactAddrRead'. -/
def fnExactAddrReadCard : Claim7 := { stood := { row := fnExactAddrReadRow, standIns := [], harness := (true, "f7320980e02a6bdb4e9675f9964b869f312e18c0a67b3f41794cc8a23d914077"), looks := false }, kinds := [], alts := [], laidByText := true, laidKinds := [.data, .pinned], laidTests := true, laidLooks := .later }
def FnExactAddrReadCardSaid : Prop := Claim7.holds Tryd.pinned (.plain (OpenSpec.ofChange fnExactAddrReadSpec)) fnExactAddrReadCard

/-- THE TIED CARD OF 'laws.FnExactPrefixText'. -/
def fnExactPrefixTextCard : Claim7 := { stood := { row := fnExactPrefixTextRow, standIns := [], harness := (true, "f7320980e02a6bdb4e9675f9964b869f312e18c0a67b3f41794cc8a23d914077"), looks := false }, kinds := [], alts := [], laidByText := true, laidKinds := [.data, .data, .data], laidTests := true, laidLooks := .later }
def FnExactPrefixTextCardSaid : Prop := Claim7.holds Tryd.pinned (.plain (OpenSpec.ofChange fnExactPrefixTextSpec)) fnExactPrefixTextCard

/-- THE TIED CARD OF 'laws.FnExactPrefixRead'. -/
def fnExactPrefixReadCard : Claim7 := { stood := { row := fnExactPrefixReadRow, standIns := [], harness := (true, "f7320980e02a6bdb4e9675f9964b869f312e18c0a67b3f41794cc8a23d914077"), looks := false }, kinds := [], alts := [], laidByText := true, laidKinds := [.data, .pinned], laidTests := true, laidLooks := .later }
def FnExactPrefixReadCardSaid : Prop := Claim7.holds Tryd.pinned (.plain (OpenSpec.ofChange fnExactPrefixReadSpec)) fnExactPrefixReadCard

/-- THE TIED CARD OF 'laws.FnAddrBack'. -/
def fnAddrBackCard : Claim7 := { stood := { row := fnAddrBackRow, standIns := [], harness := (true, "f7320980e02a6bdb4e9675f9964b869f312e18c0a67b3f41794cc8a23d914077"), looks := false }, kinds := [], alts := [], laidByText := true, laidKinds := [.data, .data, .data, .data, .pinned], laidTests := true, laidLooks := .later }
def FnAddrBackCardSaid : Prop := Claim7.holds Tryd.pinned (.plain (OpenSpec.ofChange fnAddrBackSpec)) fnAddrBackCard

/-- THE TIED CARD OF 'laws.FnPrefixBack'. -/
def fnPrefixBackCard : Claim7 := { stood := { row := fnPrefixBackRow, standIns := [], harness := (true, "f7320980e02a6bdb4e9675f9964b869f312e18c0a67b3f41794cc8a23d914077"), looks := false }, kinds := [], alts := [], laidByText := true, laidKinds := [.data, .data, .data, .data, .pinned], laidTests := true, laidLooks := .later }
def FnPrefixBackCardSaid : Prop := Claim7.holds Tryd.pinned (.plain (OpenSpec.ofChange fnPrefixBackSpec)) fnPrefixBackCard

/-- THE SECOND FORM's CARD OF 'laws.FnExactAddrText'. -/
def fnExactAddrTextUptoCard : Claim7 := { stood := { row := fnExactAddrTextUptoRow, standIns := [], harness := (true, "f7320980e02a6bdb4e9675f9964b869f312e18c0a67b3f41794cc8a23d914077"), looks := false }, kinds := [], alts := [], laidByText := true, laidKinds := [.data, .data, .data], laidTests := true, laidLooks := .later }
def FnExactAddrTextUptoCardSaid : Prop := Claim7.holds Tryd.pinned (.plain (OpenSpec.upto fnExactAddrTextSpec)) fnExactAddrTextUptoCard

/-- THE SECOND FORM's CARD OF 'laws.FnExactAddrRead'. -/
def fnExactAddrReadUptoCard : Claim7 := { stood := { row := fnExactAddrReadUptoRow, standIns := [], harness := (true, "f7320980e02a6bdb4e9675f9964b869f312e18c0a67b3f41794cc8a23d914077"), looks := false }, kinds := [], alts := [], laidByText := true, laidKinds := [.data, .pinned], laidTests := true, laidLooks := .later }
def FnExactAddrReadUptoCardSaid : Prop := Claim7.holds Tryd.pinned (.plain (OpenSpec.upto fnExactAddrReadSpec)) fnExactAddrReadUptoCard

/-- THE SECOND FORM's CARD OF 'laws.FnExactPrefixText'. -/
def fnExactPrefixTextUptoCard : Claim7 := { stood := { row := fnExactPrefixTextUptoRow, standIns := [], harness := (true, "f7320980e02a6bdb4e9675f9964b869f312e18c0a67b3f41794cc8a23d914077"), looks := false }, kinds := [], alts := [], laidByText := true, laidKinds := [.data, .data, .data], laidTests := true, laidLooks := .later }
def FnExactPrefixTextUptoCardSaid : Prop := Claim7.holds Tryd.pinned (.plain (OpenSpec.upto fnExactPrefixTextSpec)) fnExactPrefixTextUptoCard

/-- THE SECOND FORM's CARD OF 'laws.FnExactPrefixRead'. -/
def fnExactPrefixReadUptoCard : Claim7 := { stood := { row := fnExactPrefixReadUptoRow, standIns := [], harness := (true, "f7320980e02a6bdb4e9675f9964b869f312e18c0a67b3f41794cc8a23d914077"), looks := false }, kinds := [], alts := [], laidByText := true, laidKinds := [.data, .pinned], laidTests := true, laidLooks := .later }
def FnExactPrefixReadUptoCardSaid : Prop := Claim7.holds Tryd.pinned (.plain (OpenSpec.upto fnExactPrefixReadSpec)) fnExactPrefixReadUptoCard

/-- THE SECOND FORM's CARD OF 'laws.FnAddrBack'. -/
def fnAddrBackUptoCard : Claim7 := { stood := { row := fnAddrBackUptoRow, standIns := [], harness := (true, "f7320980e02a6bdb4e9675f9964b869f312e18c0a67b3f41794cc8a23d914077"), looks := false }, kinds := [], alts := [], laidByText := true, laidKinds := [.data, .data, .data, .data, .pinned], laidTests := true, laidLooks := .later }
def FnAddrBackUptoCardSaid : Prop := Claim7.holds Tryd.pinned (.plain (OpenSpec.upto fnAddrBackSpec)) fnAddrBackUptoCard

/-- THE SECOND FORM's CARD OF 'laws.FnPrefixBack'. -/
def fnPrefixBackUptoCard : Claim7 := { stood := { row := fnPrefixBackUptoRow, standIns := [], harness := (true, "f7320980e02a6bdb4e9675f9964b869f312e18c0a67b3f41794cc8a23d914077"), looks := false }, kinds := [], alts := [], laidByText := true, laidKinds := [.data, .data, .data, .data, .pinned], laidTests := true, laidLooks := .later }
def FnPrefixBackUptoCardSaid : Prop := Claim7.holds Tryd.pinned (.plain (OpenSpec.upto fnPrefixBackSpec)) fnPrefixBackUptoCard
end Rows
end Go.Proofs.YtckakpcjbndijabDoor
