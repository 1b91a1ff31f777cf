/-
  DERIVED. GIVEN WITH THE SEED: THE CARDS: each row of YtgboekilhldejaaGreatDoorRows.lean that lists a variable, with what it lists TIED to the program's text (the seventh form; the later family's looks); each row that meets fmt, with fmt's text TOLD by the authors' own Lean function (tested against real Go, not proved from fmt's source: count such statements apart). THE CARD IS WHAT COUNTS. Prove the row's statement (the work); the ties are given (YtgboekilhldejaaGreatDoorTie.lean); close each card by the builder's one call (the guide's Derived/Test/ToyasCard.lean, 'card_holds'). Laid BY PROGRAM, IN A SANDBOX (cutbox-door.mjs). By AI agents, Wed Nov 11 2026. No macro, syntax, notation, axiom, sorry.
-/
import Derived.Test.YtgboekilhldejaaGreatDoorRows
import GoSem.ClaimSeven
namespace Go.Proofs.YtgboekilhldejaaGreatDoor
namespace Rows

/-- THE TIED CARD OF 'rosterlaw05.AddrFields'. -/
def addrFieldsCard : Claim7 := { stood := { row := addrFieldsRow, standIns := [], harness := (true, "618d6e461b731f2e2cb6bd508c44681af07471bdbe33d5ac20367d2e071fc00a"), looks := false }, kinds := [], alts := [], laidByText := true, laidKinds := [.data, .pinned], laidTests := true, laidLooks := .later }
def AddrFieldsCardSaid : Prop := Claim7.holds Tryz.pinned (.plain (OpenSpec.ofChange addrFieldsSpec)) addrFieldsCard

/-- THE TIED CARD OF 'rosterlaw05.AddrPrints'. -/
def addrPrintsCard : Claim7 := { stood := { row := addrPrintsRow, standIns := [], harness := (true, "618d6e461b731f2e2cb6bd508c44681af07471bdbe33d5ac20367d2e071fc00a"), looks := false }, kinds := [], alts := [], laidByText := true, laidKinds := [.data, .pinned], laidTests := true, laidLooks := .later }
def AddrPrintsCardSaid : Prop := Claim7.holds Tryz.pinned (.plain (OpenSpec.ofChange addrPrintsSpec)) addrPrintsCard

/-- THE TIED CARD OF 'rosterlaw05.AddrParses'. -/
def addrParsesCard : Claim7 := { stood := { row := addrParsesRow, standIns := [], harness := (true, "618d6e461b731f2e2cb6bd508c44681af07471bdbe33d5ac20367d2e071fc00a"), looks := false }, kinds := [], alts := [], laidByText := true, laidKinds := [.data, .pinned], laidTests := true, laidLooks := .later }
def AddrParsesCardSaid : Prop := Claim7.holds Tryz.pinned (.plain (OpenSpec.ofChange addrParsesSpec)) addrParsesCard

/-- THE TIED CARD OF 'rosterlaw05.AddrLists'. -/
def addrListsCard : Claim7 := { stood := { row := addrListsRow, standIns := [], harness := (true, "618d6e461b731f2e2cb6bd508c44681af07471bdbe33d5ac20367d2e071fc00a"), looks := false }, kinds := [], alts := [], laidByText := true, laidKinds := [.data, .pinned], laidTests := true, laidLooks := .later }
def AddrListsCardSaid : Prop := Claim7.holds Tryz.pinned (.plain (OpenSpec.ofChange addrListsSpec)) addrListsCard

/-- THE SECOND FORM's CARD OF 'rosterlaw05.AddrFields'. -/
def addrFieldsUptoCard : Claim7 := { stood := { row := addrFieldsUptoRow, standIns := [], harness := (true, "618d6e461b731f2e2cb6bd508c44681af07471bdbe33d5ac20367d2e071fc00a"), looks := false }, kinds := [], alts := [], laidByText := true, laidKinds := [.data, .pinned], laidTests := true, laidLooks := .later }
def AddrFieldsUptoCardSaid : Prop := Claim7.holds Tryz.pinned (.plain (OpenSpec.upto addrFieldsSpec)) addrFieldsUptoCard

/-- THE SECOND FORM's CARD OF 'rosterlaw05.AddrPrints'. -/
def addrPrintsUptoCard : Claim7 := { stood := { row := addrPrintsUptoRow, standIns := [], harness := (true, "618d6e461b731f2e2cb6bd508c44681af07471bdbe33d5ac20367d2e071fc00a"), looks := false }, kinds := [], alts := [], laidByText := true, laidKinds := [.data, .pinned], laidTests := true, laidLooks := .later }
def AddrPrintsUptoCardSaid : Prop := Claim7.holds Tryz.pinned (.plain (OpenSpec.upto addrPrintsSpec)) addrPrintsUptoCard

/-- THE SECOND FORM's CARD OF 'rosterlaw05.AddrParses'. -/
def addrParsesUptoCard : Claim7 := { stood := { row := addrParsesUptoRow, standIns := [], harness := (true, "618d6e461b731f2e2cb6bd508c44681af07471bdbe33d5ac20367d2e071fc00a"), looks := false }, kinds := [], alts := [], laidByText := true, laidKinds := [.data, .pinned], laidTests := true, laidLooks := .later }
def AddrParsesUptoCardSaid : Prop := Claim7.holds Tryz.pinned (.plain (OpenSpec.upto addrParsesSpec)) addrParsesUptoCard

/-- THE SECOND FORM's CARD OF 'rosterlaw05.AddrLists'. -/
def addrListsUptoCard : Claim7 := { stood := { row := addrListsUptoRow, standIns := [], harness := (true, "618d6e461b731f2e2cb6bd508c44681af07471bdbe33d5ac20367d2e071fc00a"), looks := false }, kinds := [], alts := [], laidByText := true, laidKinds := [.data, .pinned], laidTests := true, laidLooks := .later }
def AddrListsUptoCardSaid : Prop := Claim7.holds Tryz.pinned (.plain (OpenSpec.upto addrListsSpec)) addrListsUptoCard
end Rows
end Go.Proofs.YtgboekilhldejaaGreatDoor
