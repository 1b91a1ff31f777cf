/-
  DERIVED. GIVEN WITH THE SEED: THE CARDS: each row of YtdbalahkmeknaaaGreatDoorRows.lean that lists a variable, with what it lists TIED to the program's text (the seventh form; the later family's looks); each row that meets fmt, with fmt's text TOLD by the authors' own Lean function (tested against real Go, not proved from fmt's source: count such statements apart). THE CARD IS WHAT COUNTS. Prove the row's statement (the work); the ties are given (YtdbalahkmeknaaaGreatDoorTie.lean); close each card by the builder's one call (the guide's Derived/Test/ToyasCard.lean, 'card_holds'). Laid BY PROGRAM, IN A SANDBOX (cutbox-door.mjs). By AI agents, Wed Nov 11 2026. No macro, syntax, notation, axiom, sorry.
-/
import Derived.Test.YtdbalahkmeknaaaGreatDoorRows
import GoSem.ClaimSeven
namespace Go.Proofs.YtdbalahkmeknaaaGreatDoor
namespace Rows

/-- THE TIED CARD OF 'rosterlaw15.WinfoPrints'. -/
def winfoPrintsCard : Claim7 := { stood := { row := winfoPrintsRow, standIns := [], harness := (true, "7c0b0fd407cb373e8829b010efcd43fdbaac5c15c50966b82dc2635e4a2f3f6a"), looks := true }, kinds := [], alts := [], laidByText := true, laidKinds := [.data, .pinned], laidTests := true, laidLooks := .later }
def WinfoPrintsCardSaid : Prop := Claim7.holds Tryz.pinned (.plain (OpenSpec.ofChange winfoPrintsSpec)) winfoPrintsCard

/-- THE TIED CARD OF 'rosterlaw15.WinfoParses'. -/
def winfoParsesCard : Claim7 := { stood := { row := winfoParsesRow, standIns := [], harness := (true, "7c0b0fd407cb373e8829b010efcd43fdbaac5c15c50966b82dc2635e4a2f3f6a"), looks := true }, kinds := [], alts := [], laidByText := true, laidKinds := [.data, .pinned], laidTests := true, laidLooks := .later }
def WinfoParsesCardSaid : Prop := Claim7.holds Tryz.pinned (.plain (OpenSpec.ofChange winfoParsesSpec)) winfoParsesCard

/-- THE TIED CARD OF 'rosterlaw15.WinfoBack'. -/
def winfoBackCard : Claim7 := { stood := { row := winfoBackRow, standIns := [], harness := (true, "7c0b0fd407cb373e8829b010efcd43fdbaac5c15c50966b82dc2635e4a2f3f6a"), looks := true }, kinds := [], alts := [], laidByText := true, laidKinds := [.data, .pinned], laidTests := true, laidLooks := .later }
def WinfoBackCardSaid : Prop := Claim7.holds Tryz.pinned (.plain (OpenSpec.ofChange winfoBackSpec)) winfoBackCard

/-- THE TIED CARD OF 'rosterlaw15.WinfoOnce'. -/
def winfoOnceCard : Claim7 := { stood := { row := winfoOnceRow, standIns := [], harness := (true, "7c0b0fd407cb373e8829b010efcd43fdbaac5c15c50966b82dc2635e4a2f3f6a"), looks := true }, kinds := [], alts := [], laidByText := true, laidKinds := [.data, .pinned], laidTests := true, laidLooks := .later }
def WinfoOnceCardSaid : Prop := Claim7.holds Tryz.pinned (.plain (OpenSpec.ofChange winfoOnceSpec)) winfoOnceCard

/-- THE TIED CARD OF 'rosterlaw15.WinfoEach'. -/
def winfoEachCard : Claim7 := { stood := { row := winfoEachRow, standIns := [], harness := (true, "7c0b0fd407cb373e8829b010efcd43fdbaac5c15c50966b82dc2635e4a2f3f6a"), looks := true }, kinds := [], alts := [], laidByText := true, laidKinds := [.data, .pinned], laidTests := true, laidLooks := .later }
def WinfoEachCardSaid : Prop := Claim7.holds Tryz.pinned (.plain (OpenSpec.ofChange winfoEachSpec)) winfoEachCard

/-- THE SECOND FORM's CARD OF 'rosterlaw15.WinfoPrints'. -/
def winfoPrintsUptoCard : Claim7 := { stood := { row := winfoPrintsUptoRow, standIns := [], harness := (true, "7c0b0fd407cb373e8829b010efcd43fdbaac5c15c50966b82dc2635e4a2f3f6a"), looks := true }, kinds := [], alts := [], laidByText := true, laidKinds := [.data, .pinned], laidTests := true, laidLooks := .later }
def WinfoPrintsUptoCardSaid : Prop := Claim7.holds Tryz.pinned (.plain (OpenSpec.upto winfoPrintsSpec)) winfoPrintsUptoCard

/-- THE SECOND FORM's CARD OF 'rosterlaw15.WinfoParses'. -/
def winfoParsesUptoCard : Claim7 := { stood := { row := winfoParsesUptoRow, standIns := [], harness := (true, "7c0b0fd407cb373e8829b010efcd43fdbaac5c15c50966b82dc2635e4a2f3f6a"), looks := true }, kinds := [], alts := [], laidByText := true, laidKinds := [.data, .pinned], laidTests := true, laidLooks := .later }
def WinfoParsesUptoCardSaid : Prop := Claim7.holds Tryz.pinned (.plain (OpenSpec.upto winfoParsesSpec)) winfoParsesUptoCard

/-- THE SECOND FORM's CARD OF 'rosterlaw15.WinfoBack'. -/
def winfoBackUptoCard : Claim7 := { stood := { row := winfoBackUptoRow, standIns := [], harness := (true, "7c0b0fd407cb373e8829b010efcd43fdbaac5c15c50966b82dc2635e4a2f3f6a"), looks := true }, kinds := [], alts := [], laidByText := true, laidKinds := [.data, .pinned], laidTests := true, laidLooks := .later }
def WinfoBackUptoCardSaid : Prop := Claim7.holds Tryz.pinned (.plain (OpenSpec.upto winfoBackSpec)) winfoBackUptoCard

/-- THE SECOND FORM's CARD OF 'rosterlaw15.WinfoOnce'. -/
def winfoOnceUptoCard : Claim7 := { stood := { row := winfoOnceUptoRow, standIns := [], harness := (true, "7c0b0fd407cb373e8829b010efcd43fdbaac5c15c50966b82dc2635e4a2f3f6a"), looks := true }, kinds := [], alts := [], laidByText := true, laidKinds := [.data, .pinned], laidTests := true, laidLooks := .later }
def WinfoOnceUptoCardSaid : Prop := Claim7.holds Tryz.pinned (.plain (OpenSpec.upto winfoOnceSpec)) winfoOnceUptoCard

/-- THE SECOND FORM's CARD OF 'rosterlaw15.WinfoEach'. -/
def winfoEachUptoCard : Claim7 := { stood := { row := winfoEachUptoRow, standIns := [], harness := (true, "7c0b0fd407cb373e8829b010efcd43fdbaac5c15c50966b82dc2635e4a2f3f6a"), looks := true }, kinds := [], alts := [], laidByText := true, laidKinds := [.data, .pinned], laidTests := true, laidLooks := .later }
def WinfoEachUptoCardSaid : Prop := Claim7.holds Tryz.pinned (.plain (OpenSpec.upto winfoEachSpec)) winfoEachUptoCard
end Rows
end Go.Proofs.YtdbalahkmeknaaaGreatDoor
