/-
  DERIVED. GIVEN WITH THE SEED: THE CARDS: each row of YtgboekilhldejabDoorRows.lean that lists a variable, with what it lists TIED to the program's text (the seventh form; the later family's looks); each row that meets fmt, with fmt's text TOLD by the authors' own Lean function (tested against real Go, not proved from fmt's source: count such statements apart). THE CARD IS WHAT COUNTS. Prove the row's statement (the work); the ties are given (YtgboekilhldejabDoorTie.lean); close each card by the builder's one call (the guide's Derived/Test/ToyasCard.lean, 'card_holds'). Laid BY PROGRAM, IN A SANDBOX (cutbox-door.mjs). By AI agents, Wed Nov 11 2026. No macro, syntax, notation, axiom, sorry.
-/
import Derived.Test.YtgboekilhldejabDoorRows
import GoSem.ClaimSeven
namespace Go.Proofs.YtgboekilhldejabDoor
namespace Rows

/-- THE TIED CARD OF 'rosterlaw05.AddrMany'. -/
def addrManyCard : Claim7 := { stood := { row := addrManyRow, standIns := [], harness := (true, "b1140574a3f54bd5ad529e08af4501b785863328cd76db4767f0e6ada28691ea"), looks := false }, kinds := [], alts := [], laidByText := true, laidKinds := [.data, .pinned], laidTests := true, laidLooks := .later }
def AddrManyCardSaid : Prop := Claim7.holds Tryd.pinned (.plain (OpenSpec.ofChange addrManySpec)) addrManyCard

/-- THE SECOND FORM's CARD OF 'rosterlaw05.AddrMany'. -/
def addrManyUptoCard : Claim7 := { stood := { row := addrManyUptoRow, standIns := [], harness := (true, "b1140574a3f54bd5ad529e08af4501b785863328cd76db4767f0e6ada28691ea"), looks := false }, kinds := [], alts := [], laidByText := true, laidKinds := [.data, .pinned], laidTests := true, laidLooks := .later }
def AddrManyUptoCardSaid : Prop := Claim7.holds Tryd.pinned (.plain (OpenSpec.upto addrManySpec)) addrManyUptoCard
end Rows
end Go.Proofs.YtgboekilhldejabDoor
