/-
  DERIVED. GIVEN WITH THE SEED: THE CARDS: each row of YtgboekilhldejaaDoorRows.lean that lists a variable, with what it lists TIED to the program's text (the seventh form; the later family's looks); each row that meets fmt, with fmt's text TOLD by the authors' own Lean function (tested against real Go, not proved from fmt's source: count such statements apart). THE CARD IS WHAT COUNTS. Prove the row's statement (the work); the ties are given (YtgboekilhldejaaDoorTie.lean); close each card by the builder's one call (the guide's Derived/Test/ToyasCard.lean, 'card_holds'). Laid BY PROGRAM, IN A SANDBOX (cutbox-door.mjs). By AI agents, Wed Nov 11 2026. No macro, syntax, notation, axiom, sorry.
-/
import Derived.Test.YtgboekilhldejaaDoorRows
import GoSem.ClaimSeven
namespace Go.Proofs.YtgboekilhldejaaDoor
namespace Rows

/-- THE TIED CARD OF 'rosterlaw05.AddrBack'. -/
def addrBackCard : Claim7 := { stood := { row := addrBackRow, standIns := [], harness := (true, "3051848b583e68b94f11d9d26d4f9bdf7a3d2fe65660ff7b715539fa22737c2c"), looks := false }, kinds := [], alts := [], laidByText := true, laidKinds := [.data, .pinned], laidTests := true, laidLooks := .later }
def AddrBackCardSaid : Prop := Claim7.holds Tryd.pinned (.plain (OpenSpec.ofChange addrBackSpec)) addrBackCard

/-- THE TIED CARD OF 'rosterlaw05.AddrOnce'. -/
def addrOnceCard : Claim7 := { stood := { row := addrOnceRow, standIns := [], harness := (true, "3051848b583e68b94f11d9d26d4f9bdf7a3d2fe65660ff7b715539fa22737c2c"), looks := false }, kinds := [], alts := [], laidByText := true, laidKinds := [.data, .pinned], laidTests := true, laidLooks := .later }
def AddrOnceCardSaid : Prop := Claim7.holds Tryd.pinned (.plain (OpenSpec.ofChange addrOnceSpec)) addrOnceCard

/-- THE SECOND FORM's CARD OF 'rosterlaw05.AddrBack'. -/
def addrBackUptoCard : Claim7 := { stood := { row := addrBackUptoRow, standIns := [], harness := (true, "3051848b583e68b94f11d9d26d4f9bdf7a3d2fe65660ff7b715539fa22737c2c"), looks := false }, kinds := [], alts := [], laidByText := true, laidKinds := [.data, .pinned], laidTests := true, laidLooks := .later }
def AddrBackUptoCardSaid : Prop := Claim7.holds Tryd.pinned (.plain (OpenSpec.upto addrBackSpec)) addrBackUptoCard

/-- THE SECOND FORM's CARD OF 'rosterlaw05.AddrOnce'. -/
def addrOnceUptoCard : Claim7 := { stood := { row := addrOnceUptoRow, standIns := [], harness := (true, "3051848b583e68b94f11d9d26d4f9bdf7a3d2fe65660ff7b715539fa22737c2c"), looks := false }, kinds := [], alts := [], laidByText := true, laidKinds := [.data, .pinned], laidTests := true, laidLooks := .later }
def AddrOnceUptoCardSaid : Prop := Claim7.holds Tryd.pinned (.plain (OpenSpec.upto addrOnceSpec)) addrOnceUptoCard
end Rows
end Go.Proofs.YtgboekilhldejaaDoor
