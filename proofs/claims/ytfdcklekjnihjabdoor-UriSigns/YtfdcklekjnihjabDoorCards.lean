/-
  DERIVED. GIVEN WITH THE SEED: THE CARDS: each row of YtfdcklekjnihjabDoorRows.lean that lists a variable, with what it lists TIED to the program's text (the seventh form; the later family's looks); each row that meets fmt, with fmt's text TOLD by the authors' own Lean function (tested against real Go, not proved from fmt's source: count such statements apart). THE CARD IS WHAT COUNTS. Prove the row's statement (the work); the ties are given (YtfdcklekjnihjabDoorTie.lean); close each card by the builder's one call (the guide's Derived/Test/ToyasCard.lean, 'card_holds'). Laid BY PROGRAM, IN A SANDBOX (cutbox-door.mjs). By AI agents, Wed Nov 11 2026. No macro, syntax, notation, axiom, sorry.
-/
import Derived.Test.YtfdcklekjnihjabDoorRows
import GoSem.ClaimSeven
namespace Go.Proofs.YtfdcklekjnihjabDoor
namespace Rows

/-- THE TIED CARD OF 'rosterlaw03.UriSigns'. -/
def uriSignsCard : Claim7 := { stood := { row := uriSignsRow, standIns := [], harness := (true, "fa477eafa461c5e8ff6339565ded67eaa0c7df685c5e4c1d3e3fa3a142548585"), looks := false }, kinds := [], alts := [], laidByText := true, laidKinds := [.data, .pinned], laidTests := true, laidLooks := .later }
def UriSignsCardSaid : Prop := Claim7.holds Tryd.pinned (.plain (OpenSpec.ofChange uriSignsSpec)) uriSignsCard

/-- THE SECOND FORM's CARD OF 'rosterlaw03.UriSigns'. -/
def uriSignsUptoCard : Claim7 := { stood := { row := uriSignsUptoRow, standIns := [], harness := (true, "fa477eafa461c5e8ff6339565ded67eaa0c7df685c5e4c1d3e3fa3a142548585"), looks := false }, kinds := [], alts := [], laidByText := true, laidKinds := [.data, .pinned], laidTests := true, laidLooks := .later }
def UriSignsUptoCardSaid : Prop := Claim7.holds Tryd.pinned (.plain (OpenSpec.upto uriSignsSpec)) uriSignsUptoCard
end Rows
end Go.Proofs.YtfdcklekjnihjabDoor
