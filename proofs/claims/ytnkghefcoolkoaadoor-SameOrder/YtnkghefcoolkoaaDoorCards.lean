/-
  DERIVED. GIVEN WITH THE SEED: THE CARDS: each row of YtnkghefcoolkoaaDoorRows.lean that lists a variable, with what it lists TIED to the program's text (the seventh form; the later family's looks); each row that meets fmt, with fmt's text TOLD by the authors' own Lean function (tested against real Go, not proved from fmt's source: count such statements apart). THE CARD IS WHAT COUNTS. Prove the row's statement (the work); the ties are given (YtnkghefcoolkoaaDoorTie.lean); close each card by the builder's one call (the guide's Derived/Test/ToyasCard.lean, 'card_holds'). Laid BY PROGRAM, IN A SANDBOX (cutbox-door.mjs). By AI agents, Wed Nov 11 2026. No macro, syntax, notation, axiom, sorry.
-/
import Derived.Test.YtnkghefcoolkoaaDoorRows
import GoSem.ClaimSeven
namespace Go.Proofs.YtnkghefcoolkoaaDoor
namespace Rows

/-- THE TIED CARD OF 'rosterlaw04.SameEquals'. -/
def sameEqualsCard : Claim7 := { stood := { row := sameEqualsRow, standIns := [], harness := (true, "a0d4f9b72cb2c17f77c72f2ca5d7d5a236847b621886f5fc505fa024e58973ba"), looks := false }, kinds := [], alts := [], laidByText := true, laidKinds := [.data, .pinned], laidTests := true, laidLooks := .later }
def SameEqualsCardSaid : Prop := Claim7.holds Tryd.pinned (.plain (OpenSpec.ofChange sameEqualsSpec)) sameEqualsCard

/-- THE TIED CARD OF 'rosterlaw04.SameWho'. -/
def sameWhoCard : Claim7 := { stood := { row := sameWhoRow, standIns := [], harness := (true, "a0d4f9b72cb2c17f77c72f2ca5d7d5a236847b621886f5fc505fa024e58973ba"), looks := false }, kinds := [], alts := [], laidByText := true, laidKinds := [.data, .pinned], laidTests := true, laidLooks := .later }
def SameWhoCardSaid : Prop := Claim7.holds Tryd.pinned (.plain (OpenSpec.ofChange sameWhoSpec)) sameWhoCard

/-- THE TIED CARD OF 'rosterlaw04.SameTurns'. -/
def sameTurnsCard : Claim7 := { stood := { row := sameTurnsRow, standIns := [], harness := (true, "a0d4f9b72cb2c17f77c72f2ca5d7d5a236847b621886f5fc505fa024e58973ba"), looks := false }, kinds := [], alts := [], laidByText := true, laidKinds := [.data, .pinned], laidTests := true, laidLooks := .later }
def SameTurnsCardSaid : Prop := Claim7.holds Tryd.pinned (.plain (OpenSpec.ofChange sameTurnsSpec)) sameTurnsCard

/-- THE TIED CARD OF 'rosterlaw04.SameOrder'. -/
def sameOrderCard : Claim7 := { stood := { row := sameOrderRow, standIns := [], harness := (true, "a0d4f9b72cb2c17f77c72f2ca5d7d5a236847b621886f5fc505fa024e58973ba"), looks := false }, kinds := [], alts := [], laidByText := true, laidKinds := [.data, .pinned], laidTests := true, laidLooks := .later }
def SameOrderCardSaid : Prop := Claim7.holds Tryd.pinned (.plain (OpenSpec.ofChange sameOrderSpec)) sameOrderCard

/-- THE TIED CARD OF 'rosterlaw04.SamePlain'. -/
def samePlainCard : Claim7 := { stood := { row := samePlainRow, standIns := [], harness := (true, "a0d4f9b72cb2c17f77c72f2ca5d7d5a236847b621886f5fc505fa024e58973ba"), looks := false }, kinds := [], alts := [], laidByText := true, laidKinds := [.data, .pinned], laidTests := true, laidLooks := .later }
def SamePlainCardSaid : Prop := Claim7.holds Tryd.pinned (.plain (OpenSpec.ofChange samePlainSpec)) samePlainCard

/-- THE TIED CARD OF 'rosterlaw04.SameOwn'. -/
def sameOwnCard : Claim7 := { stood := { row := sameOwnRow, standIns := [], harness := (true, "a0d4f9b72cb2c17f77c72f2ca5d7d5a236847b621886f5fc505fa024e58973ba"), looks := false }, kinds := [], alts := [], laidByText := true, laidKinds := [.data, .pinned], laidTests := true, laidLooks := .later }
def SameOwnCardSaid : Prop := Claim7.holds Tryd.pinned (.plain (OpenSpec.ofChange sameOwnSpec)) sameOwnCard

/-- THE SECOND FORM's CARD OF 'rosterlaw04.SameEquals'. -/
def sameEqualsUptoCard : Claim7 := { stood := { row := sameEqualsUptoRow, standIns := [], harness := (true, "a0d4f9b72cb2c17f77c72f2ca5d7d5a236847b621886f5fc505fa024e58973ba"), looks := false }, kinds := [], alts := [], laidByText := true, laidKinds := [.data, .pinned], laidTests := true, laidLooks := .later }
def SameEqualsUptoCardSaid : Prop := Claim7.holds Tryd.pinned (.plain (OpenSpec.upto sameEqualsSpec)) sameEqualsUptoCard

/-- THE SECOND FORM's CARD OF 'rosterlaw04.SameWho'. -/
def sameWhoUptoCard : Claim7 := { stood := { row := sameWhoUptoRow, standIns := [], harness := (true, "a0d4f9b72cb2c17f77c72f2ca5d7d5a236847b621886f5fc505fa024e58973ba"), looks := false }, kinds := [], alts := [], laidByText := true, laidKinds := [.data, .pinned], laidTests := true, laidLooks := .later }
def SameWhoUptoCardSaid : Prop := Claim7.holds Tryd.pinned (.plain (OpenSpec.upto sameWhoSpec)) sameWhoUptoCard

/-- THE SECOND FORM's CARD OF 'rosterlaw04.SameTurns'. -/
def sameTurnsUptoCard : Claim7 := { stood := { row := sameTurnsUptoRow, standIns := [], harness := (true, "a0d4f9b72cb2c17f77c72f2ca5d7d5a236847b621886f5fc505fa024e58973ba"), looks := false }, kinds := [], alts := [], laidByText := true, laidKinds := [.data, .pinned], laidTests := true, laidLooks := .later }
def SameTurnsUptoCardSaid : Prop := Claim7.holds Tryd.pinned (.plain (OpenSpec.upto sameTurnsSpec)) sameTurnsUptoCard

/-- THE SECOND FORM's CARD OF 'rosterlaw04.SameOrder'. -/
def sameOrderUptoCard : Claim7 := { stood := { row := sameOrderUptoRow, standIns := [], harness := (true, "a0d4f9b72cb2c17f77c72f2ca5d7d5a236847b621886f5fc505fa024e58973ba"), looks := false }, kinds := [], alts := [], laidByText := true, laidKinds := [.data, .pinned], laidTests := true, laidLooks := .later }
def SameOrderUptoCardSaid : Prop := Claim7.holds Tryd.pinned (.plain (OpenSpec.upto sameOrderSpec)) sameOrderUptoCard

/-- THE SECOND FORM's CARD OF 'rosterlaw04.SamePlain'. -/
def samePlainUptoCard : Claim7 := { stood := { row := samePlainUptoRow, standIns := [], harness := (true, "a0d4f9b72cb2c17f77c72f2ca5d7d5a236847b621886f5fc505fa024e58973ba"), looks := false }, kinds := [], alts := [], laidByText := true, laidKinds := [.data, .pinned], laidTests := true, laidLooks := .later }
def SamePlainUptoCardSaid : Prop := Claim7.holds Tryd.pinned (.plain (OpenSpec.upto samePlainSpec)) samePlainUptoCard

/-- THE SECOND FORM's CARD OF 'rosterlaw04.SameOwn'. -/
def sameOwnUptoCard : Claim7 := { stood := { row := sameOwnUptoRow, standIns := [], harness := (true, "a0d4f9b72cb2c17f77c72f2ca5d7d5a236847b621886f5fc505fa024e58973ba"), looks := false }, kinds := [], alts := [], laidByText := true, laidKinds := [.data, .pinned], laidTests := true, laidLooks := .later }
def SameOwnUptoCardSaid : Prop := Claim7.holds Tryd.pinned (.plain (OpenSpec.upto sameOwnSpec)) sameOwnUptoCard
end Rows
end Go.Proofs.YtnkghefcoolkoaaDoor
