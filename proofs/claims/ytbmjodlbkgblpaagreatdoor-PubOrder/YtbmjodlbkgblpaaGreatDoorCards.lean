/-
  DERIVED. GIVEN WITH THE SEED: THE CARDS: each row of YtbmjodlbkgblpaaGreatDoorRows.lean that lists a variable, with what it lists TIED to the program's text (the seventh form; the later family's looks); each row that meets fmt, with fmt's text TOLD by the authors' own Lean function (tested against real Go, not proved from fmt's source: count such statements apart). THE CARD IS WHAT COUNTS. Prove the row's statement (the work); the ties are given (YtbmjodlbkgblpaaGreatDoorTie.lean); close each card by the builder's one call (the guide's Derived/Test/ToyasCard.lean, 'card_holds'). Laid BY PROGRAM, IN A SANDBOX (cutbox-door.mjs). By AI agents, Wed Nov 11 2026. No macro, syntax, notation, axiom, sorry.
-/
import Derived.Test.YtbmjodlbkgblpaaGreatDoorRows
import GoSem.ClaimSeven
namespace Go.Proofs.YtbmjodlbkgblpaaGreatDoor
namespace Rows

/-- THE TIED CARD OF 'rosterlaw16.PubOrder'. -/
def pubOrderCard : Claim7 := { stood := { row := pubOrderRow, standIns := [], harness := (true, "356ee2689a6f7d17745d5b2631c3e389e4db74ae0757e2879e3a04c7f21784a5"), looks := true }, kinds := [], alts := [], laidByText := true, laidKinds := [.data, .pinned], laidTests := true, laidLooks := .later }
def PubOrderCardSaid : Prop := Claim7.holds Tryz.pinned (.plain (OpenSpec.ofChange pubOrderSpec)) pubOrderCard

/-- THE SECOND FORM's CARD OF 'rosterlaw16.PubOrder'. -/
def pubOrderUptoCard : Claim7 := { stood := { row := pubOrderUptoRow, standIns := [], harness := (true, "356ee2689a6f7d17745d5b2631c3e389e4db74ae0757e2879e3a04c7f21784a5"), looks := true }, kinds := [], alts := [], laidByText := true, laidKinds := [.data, .pinned], laidTests := true, laidLooks := .later }
def PubOrderUptoCardSaid : Prop := Claim7.holds Tryz.pinned (.plain (OpenSpec.upto pubOrderSpec)) pubOrderUptoCard
end Rows
end Go.Proofs.YtbmjodlbkgblpaaGreatDoor
