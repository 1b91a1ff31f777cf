/-
  DERIVED. GIVEN WITH THE SEED: THE CARDS: each row of YtjbfdbccidhdfabDoorRows.lean that lists a variable, with what it lists TIED to the program's text (the seventh form; the later family's looks); each row that meets fmt, with fmt's text TOLD by the authors' own Lean function (tested against real Go, not proved from fmt's source: count such statements apart). THE CARD IS WHAT COUNTS. Prove the row's statement (the work); the ties are given (YtjbfdbccidhdfabDoorTie.lean); close each card by the builder's one call (the guide's Derived/Test/ToyasCard.lean, 'card_holds'). Laid BY PROGRAM, IN A SANDBOX (cutbox-door.mjs). By AI agents, Wed Nov 11 2026. No macro, syntax, notation, axiom, sorry.
-/
import Derived.Test.YtjbfdbccidhdfabDoorRows
import GoSem.ClaimSeven
namespace Go.Proofs.YtjbfdbccidhdfabDoor
namespace Rows

/-- THE TIED CARD OF 'rosterlaw08.HeadTakes'. -/
def headTakesCard : Claim7 := { stood := { row := headTakesRow, standIns := [], harness := (true, "44c814de6212a50773fcb8e9b44eaea188f1db1562b75eb4446b1a4fbe5a110a"), looks := false }, kinds := [], alts := [], laidByText := true, laidKinds := [.data, .pinned], laidTests := true, laidLooks := .later }
def HeadTakesCardSaid : Prop := Claim7.holds Tryd.pinned (.plain (OpenSpec.ofChange headTakesSpec)) headTakesCard

/-- THE TIED CARD OF 'rosterlaw08.HeadTimes'. -/
def headTimesCard : Claim7 := { stood := { row := headTimesRow, standIns := [], harness := (true, "44c814de6212a50773fcb8e9b44eaea188f1db1562b75eb4446b1a4fbe5a110a"), looks := false }, kinds := [], alts := [], laidByText := true, laidKinds := [.data, .pinned], laidTests := true, laidLooks := .later }
def HeadTimesCardSaid : Prop := Claim7.holds Tryd.pinned (.plain (OpenSpec.ofChange headTimesSpec)) headTimesCard

/-- THE SECOND FORM's CARD OF 'rosterlaw08.HeadTakes'. -/
def headTakesUptoCard : Claim7 := { stood := { row := headTakesUptoRow, standIns := [], harness := (true, "44c814de6212a50773fcb8e9b44eaea188f1db1562b75eb4446b1a4fbe5a110a"), looks := false }, kinds := [], alts := [], laidByText := true, laidKinds := [.data, .pinned], laidTests := true, laidLooks := .later }
def HeadTakesUptoCardSaid : Prop := Claim7.holds Tryd.pinned (.plain (OpenSpec.upto headTakesSpec)) headTakesUptoCard

/-- THE SECOND FORM's CARD OF 'rosterlaw08.HeadTimes'. -/
def headTimesUptoCard : Claim7 := { stood := { row := headTimesUptoRow, standIns := [], harness := (true, "44c814de6212a50773fcb8e9b44eaea188f1db1562b75eb4446b1a4fbe5a110a"), looks := false }, kinds := [], alts := [], laidByText := true, laidKinds := [.data, .pinned], laidTests := true, laidLooks := .later }
def HeadTimesUptoCardSaid : Prop := Claim7.holds Tryd.pinned (.plain (OpenSpec.upto headTimesSpec)) headTimesUptoCard
end Rows
end Go.Proofs.YtjbfdbccidhdfabDoor
