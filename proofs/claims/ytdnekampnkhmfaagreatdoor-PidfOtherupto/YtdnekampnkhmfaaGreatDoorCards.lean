/-
  DERIVED. GIVEN WITH THE SEED: THE CARDS: each row of YtdnekampnkhmfaaGreatDoorRows.lean that lists a variable, with what it lists TIED to the program's text (the seventh form; the later family's looks); each row that meets fmt, with fmt's text TOLD by the authors' own Lean function (tested against real Go, not proved from fmt's source: count such statements apart). THE CARD IS WHAT COUNTS. Prove the row's statement (the work); the ties are given (YtdnekampnkhmfaaGreatDoorTie.lean); close each card by the builder's one call (the guide's Derived/Test/ToyasCard.lean, 'card_holds'). Laid BY PROGRAM, IN A SANDBOX (cutbox-door.mjs). By AI agents, Wed Nov 11 2026. No macro, syntax, notation, axiom, sorry.
-/
import Derived.Test.YtdnekampnkhmfaaGreatDoorRows
import GoSem.ClaimSeven
namespace Go.Proofs.YtdnekampnkhmfaaGreatDoor
namespace Rows

/-- THE TIED CARD OF 'rosterlaw14.PidfPrints'. -/
def pidfPrintsCard : Claim7 := { stood := { row := pidfPrintsRow, standIns := [], harness := (true, "017901a4e43d28008fb50a55d6993cbdf2a0fc902a5cc0cffa00f03f03f4bb11"), looks := true }, kinds := [], alts := [], laidByText := true, laidKinds := [.data, .pinned], laidTests := true, laidLooks := .later }
def PidfPrintsCardSaid : Prop := Claim7.holds Tryz.pinned (.plain (OpenSpec.ofChange pidfPrintsSpec)) pidfPrintsCard

/-- THE TIED CARD OF 'rosterlaw14.PidfParses'. -/
def pidfParsesCard : Claim7 := { stood := { row := pidfParsesRow, standIns := [], harness := (true, "017901a4e43d28008fb50a55d6993cbdf2a0fc902a5cc0cffa00f03f03f4bb11"), looks := true }, kinds := [], alts := [], laidByText := true, laidKinds := [.data, .pinned], laidTests := true, laidLooks := .later }
def PidfParsesCardSaid : Prop := Claim7.holds Tryz.pinned (.plain (OpenSpec.ofChange pidfParsesSpec)) pidfParsesCard

/-- THE TIED CARD OF 'rosterlaw14.PidfDecimals'. -/
def pidfDecimalsCard : Claim7 := { stood := { row := pidfDecimalsRow, standIns := [], harness := (true, "017901a4e43d28008fb50a55d6993cbdf2a0fc902a5cc0cffa00f03f03f4bb11"), looks := true }, kinds := [], alts := [], laidByText := true, laidKinds := [.data, .pinned], laidTests := true, laidLooks := .later }
def PidfDecimalsCardSaid : Prop := Claim7.holds Tryz.pinned (.plain (OpenSpec.ofChange pidfDecimalsSpec)) pidfDecimalsCard

/-- THE TIED CARD OF 'rosterlaw14.PidfBack'. -/
def pidfBackCard : Claim7 := { stood := { row := pidfBackRow, standIns := [], harness := (true, "017901a4e43d28008fb50a55d6993cbdf2a0fc902a5cc0cffa00f03f03f4bb11"), looks := true }, kinds := [], alts := [], laidByText := true, laidKinds := [.data, .pinned], laidTests := true, laidLooks := .later }
def PidfBackCardSaid : Prop := Claim7.holds Tryz.pinned (.plain (OpenSpec.ofChange pidfBackSpec)) pidfBackCard

/-- THE TIED CARD OF 'rosterlaw14.PidfOnce'. -/
def pidfOnceCard : Claim7 := { stood := { row := pidfOnceRow, standIns := [], harness := (true, "017901a4e43d28008fb50a55d6993cbdf2a0fc902a5cc0cffa00f03f03f4bb11"), looks := true }, kinds := [], alts := [], laidByText := true, laidKinds := [.data, .pinned], laidTests := true, laidLooks := .later }
def PidfOnceCardSaid : Prop := Claim7.holds Tryz.pinned (.plain (OpenSpec.ofChange pidfOnceSpec)) pidfOnceCard

/-- THE TIED CARD OF 'rosterlaw14.PidfOther'. -/
def pidfOtherCard : Claim7 := { stood := { row := pidfOtherRow, standIns := [], harness := (true, "017901a4e43d28008fb50a55d6993cbdf2a0fc902a5cc0cffa00f03f03f4bb11"), looks := true }, kinds := [], alts := [], laidByText := true, laidKinds := [.data, .pinned], laidTests := true, laidLooks := .later }
def PidfOtherCardSaid : Prop := Claim7.holds Tryz.pinned (.plain (OpenSpec.ofChange pidfOtherSpec)) pidfOtherCard

/-- THE SECOND FORM's CARD OF 'rosterlaw14.PidfPrints'. -/
def pidfPrintsUptoCard : Claim7 := { stood := { row := pidfPrintsUptoRow, standIns := [], harness := (true, "017901a4e43d28008fb50a55d6993cbdf2a0fc902a5cc0cffa00f03f03f4bb11"), looks := true }, kinds := [], alts := [], laidByText := true, laidKinds := [.data, .pinned], laidTests := true, laidLooks := .later }
def PidfPrintsUptoCardSaid : Prop := Claim7.holds Tryz.pinned (.plain (OpenSpec.upto pidfPrintsSpec)) pidfPrintsUptoCard

/-- THE SECOND FORM's CARD OF 'rosterlaw14.PidfParses'. -/
def pidfParsesUptoCard : Claim7 := { stood := { row := pidfParsesUptoRow, standIns := [], harness := (true, "017901a4e43d28008fb50a55d6993cbdf2a0fc902a5cc0cffa00f03f03f4bb11"), looks := true }, kinds := [], alts := [], laidByText := true, laidKinds := [.data, .pinned], laidTests := true, laidLooks := .later }
def PidfParsesUptoCardSaid : Prop := Claim7.holds Tryz.pinned (.plain (OpenSpec.upto pidfParsesSpec)) pidfParsesUptoCard

/-- THE SECOND FORM's CARD OF 'rosterlaw14.PidfDecimals'. -/
def pidfDecimalsUptoCard : Claim7 := { stood := { row := pidfDecimalsUptoRow, standIns := [], harness := (true, "017901a4e43d28008fb50a55d6993cbdf2a0fc902a5cc0cffa00f03f03f4bb11"), looks := true }, kinds := [], alts := [], laidByText := true, laidKinds := [.data, .pinned], laidTests := true, laidLooks := .later }
def PidfDecimalsUptoCardSaid : Prop := Claim7.holds Tryz.pinned (.plain (OpenSpec.upto pidfDecimalsSpec)) pidfDecimalsUptoCard

/-- THE SECOND FORM's CARD OF 'rosterlaw14.PidfBack'. -/
def pidfBackUptoCard : Claim7 := { stood := { row := pidfBackUptoRow, standIns := [], harness := (true, "017901a4e43d28008fb50a55d6993cbdf2a0fc902a5cc0cffa00f03f03f4bb11"), looks := true }, kinds := [], alts := [], laidByText := true, laidKinds := [.data, .pinned], laidTests := true, laidLooks := .later }
def PidfBackUptoCardSaid : Prop := Claim7.holds Tryz.pinned (.plain (OpenSpec.upto pidfBackSpec)) pidfBackUptoCard

/-- THE SECOND FORM's CARD OF 'rosterlaw14.PidfOnce'. -/
def pidfOnceUptoCard : Claim7 := { stood := { row := pidfOnceUptoRow, standIns := [], harness := (true, "017901a4e43d28008fb50a55d6993cbdf2a0fc902a5cc0cffa00f03f03f4bb11"), looks := true }, kinds := [], alts := [], laidByText := true, laidKinds := [.data, .pinned], laidTests := true, laidLooks := .later }
def PidfOnceUptoCardSaid : Prop := Claim7.holds Tryz.pinned (.plain (OpenSpec.upto pidfOnceSpec)) pidfOnceUptoCard

/-- THE SECOND FORM's CARD OF 'rosterlaw14.PidfOther'. -/
def pidfOtherUptoCard : Claim7 := { stood := { row := pidfOtherUptoRow, standIns := [], harness := (true, "017901a4e43d28008fb50a55d6993cbdf2a0fc902a5cc0cffa00f03f03f4bb11"), looks := true }, kinds := [], alts := [], laidByText := true, laidKinds := [.data, .pinned], laidTests := true, laidLooks := .later }
def PidfOtherUptoCardSaid : Prop := Claim7.holds Tryz.pinned (.plain (OpenSpec.upto pidfOtherSpec)) pidfOtherUptoCard
end Rows
end Go.Proofs.YtdnekampnkhmfaaGreatDoor
