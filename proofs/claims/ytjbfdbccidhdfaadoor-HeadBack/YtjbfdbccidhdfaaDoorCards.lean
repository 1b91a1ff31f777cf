/-
  DERIVED. GIVEN WITH THE SEED: THE CARDS: each row of YtjbfdbccidhdfaaDoorRows.lean that lists a variable, with what it lists TIED to the program's text (the seventh form; the later family's looks); each row that meets fmt, with fmt's text TOLD by the authors' own Lean function (tested against real Go, not proved from fmt's source: count such statements apart). THE CARD IS WHAT COUNTS. Prove the row's statement (the work); the ties are given (YtjbfdbccidhdfaaDoorTie.lean); close each card by the builder's one call (the guide's Derived/Test/ToyasCard.lean, 'card_holds'). Laid BY PROGRAM, IN A SANDBOX (cutbox-door.mjs). By AI agents, Wed Nov 11 2026. No macro, syntax, notation, axiom, sorry.
-/
import Derived.Test.YtjbfdbccidhdfaaDoorRows
import GoSem.ClaimSeven
namespace Go.Proofs.YtjbfdbccidhdfaaDoor
namespace Rows

/-- THE TIED CARD OF 'rosterlaw08.HeadSeqs'. -/
def headSeqsCard : Claim7 := { stood := { row := headSeqsRow, standIns := [], harness := (true, "1a3fc0b4da02756107c3af4beffab15e4bb6cc5305dab45279a873eabd91b871"), looks := false }, kinds := [], alts := [], laidByText := true, laidKinds := [.data, .pinned], laidTests := true, laidLooks := .later }
def HeadSeqsCardSaid : Prop := Claim7.holds Tryd.pinned (.plain (OpenSpec.ofChange headSeqsSpec)) headSeqsCard

/-- THE TIED CARD OF 'rosterlaw08.HeadEvents'. -/
def headEventsCard : Claim7 := { stood := { row := headEventsRow, standIns := [], harness := (true, "1a3fc0b4da02756107c3af4beffab15e4bb6cc5305dab45279a873eabd91b871"), looks := false }, kinds := [], alts := [], laidByText := true, laidKinds := [.data, .pinned], laidTests := true, laidLooks := .later }
def HeadEventsCardSaid : Prop := Claim7.holds Tryd.pinned (.plain (OpenSpec.ofChange headEventsSpec)) headEventsCard

/-- THE TIED CARD OF 'rosterlaw08.HeadStates'. -/
def headStatesCard : Claim7 := { stood := { row := headStatesRow, standIns := [], harness := (true, "1a3fc0b4da02756107c3af4beffab15e4bb6cc5305dab45279a873eabd91b871"), looks := false }, kinds := [], alts := [], laidByText := true, laidKinds := [.data, .pinned], laidTests := true, laidLooks := .later }
def HeadStatesCardSaid : Prop := Claim7.holds Tryd.pinned (.plain (OpenSpec.ofChange headStatesSpec)) headStatesCard

/-- THE TIED CARD OF 'rosterlaw08.HeadTypes'. -/
def headTypesCard : Claim7 := { stood := { row := headTypesRow, standIns := [], harness := (true, "1a3fc0b4da02756107c3af4beffab15e4bb6cc5305dab45279a873eabd91b871"), looks := false }, kinds := [], alts := [], laidByText := true, laidKinds := [.data, .pinned], laidTests := true, laidLooks := .later }
def HeadTypesCardSaid : Prop := Claim7.holds Tryd.pinned (.plain (OpenSpec.ofChange headTypesSpec)) headTypesCard

/-- THE TIED CARD OF 'rosterlaw08.HeadBack'. -/
def headBackCard : Claim7 := { stood := { row := headBackRow, standIns := [], harness := (true, "1a3fc0b4da02756107c3af4beffab15e4bb6cc5305dab45279a873eabd91b871"), looks := false }, kinds := [], alts := [], laidByText := true, laidKinds := [.data, .pinned], laidTests := true, laidLooks := .later }
def HeadBackCardSaid : Prop := Claim7.holds Tryd.pinned (.plain (OpenSpec.ofChange headBackSpec)) headBackCard

/-- THE TIED CARD OF 'rosterlaw08.HeadOnce'. -/
def headOnceCard : Claim7 := { stood := { row := headOnceRow, standIns := [], harness := (true, "1a3fc0b4da02756107c3af4beffab15e4bb6cc5305dab45279a873eabd91b871"), looks := false }, kinds := [], alts := [], laidByText := true, laidKinds := [.data, .pinned], laidTests := true, laidLooks := .later }
def HeadOnceCardSaid : Prop := Claim7.holds Tryd.pinned (.plain (OpenSpec.ofChange headOnceSpec)) headOnceCard

/-- THE SECOND FORM's CARD OF 'rosterlaw08.HeadSeqs'. -/
def headSeqsUptoCard : Claim7 := { stood := { row := headSeqsUptoRow, standIns := [], harness := (true, "1a3fc0b4da02756107c3af4beffab15e4bb6cc5305dab45279a873eabd91b871"), looks := false }, kinds := [], alts := [], laidByText := true, laidKinds := [.data, .pinned], laidTests := true, laidLooks := .later }
def HeadSeqsUptoCardSaid : Prop := Claim7.holds Tryd.pinned (.plain (OpenSpec.upto headSeqsSpec)) headSeqsUptoCard

/-- THE SECOND FORM's CARD OF 'rosterlaw08.HeadEvents'. -/
def headEventsUptoCard : Claim7 := { stood := { row := headEventsUptoRow, standIns := [], harness := (true, "1a3fc0b4da02756107c3af4beffab15e4bb6cc5305dab45279a873eabd91b871"), looks := false }, kinds := [], alts := [], laidByText := true, laidKinds := [.data, .pinned], laidTests := true, laidLooks := .later }
def HeadEventsUptoCardSaid : Prop := Claim7.holds Tryd.pinned (.plain (OpenSpec.upto headEventsSpec)) headEventsUptoCard

/-- THE SECOND FORM's CARD OF 'rosterlaw08.HeadStates'. -/
def headStatesUptoCard : Claim7 := { stood := { row := headStatesUptoRow, standIns := [], harness := (true, "1a3fc0b4da02756107c3af4beffab15e4bb6cc5305dab45279a873eabd91b871"), looks := false }, kinds := [], alts := [], laidByText := true, laidKinds := [.data, .pinned], laidTests := true, laidLooks := .later }
def HeadStatesUptoCardSaid : Prop := Claim7.holds Tryd.pinned (.plain (OpenSpec.upto headStatesSpec)) headStatesUptoCard

/-- THE SECOND FORM's CARD OF 'rosterlaw08.HeadTypes'. -/
def headTypesUptoCard : Claim7 := { stood := { row := headTypesUptoRow, standIns := [], harness := (true, "1a3fc0b4da02756107c3af4beffab15e4bb6cc5305dab45279a873eabd91b871"), looks := false }, kinds := [], alts := [], laidByText := true, laidKinds := [.data, .pinned], laidTests := true, laidLooks := .later }
def HeadTypesUptoCardSaid : Prop := Claim7.holds Tryd.pinned (.plain (OpenSpec.upto headTypesSpec)) headTypesUptoCard

/-- THE SECOND FORM's CARD OF 'rosterlaw08.HeadBack'. -/
def headBackUptoCard : Claim7 := { stood := { row := headBackUptoRow, standIns := [], harness := (true, "1a3fc0b4da02756107c3af4beffab15e4bb6cc5305dab45279a873eabd91b871"), looks := false }, kinds := [], alts := [], laidByText := true, laidKinds := [.data, .pinned], laidTests := true, laidLooks := .later }
def HeadBackUptoCardSaid : Prop := Claim7.holds Tryd.pinned (.plain (OpenSpec.upto headBackSpec)) headBackUptoCard

/-- THE SECOND FORM's CARD OF 'rosterlaw08.HeadOnce'. -/
def headOnceUptoCard : Claim7 := { stood := { row := headOnceUptoRow, standIns := [], harness := (true, "1a3fc0b4da02756107c3af4beffab15e4bb6cc5305dab45279a873eabd91b871"), looks := false }, kinds := [], alts := [], laidByText := true, laidKinds := [.data, .pinned], laidTests := true, laidLooks := .later }
def HeadOnceUptoCardSaid : Prop := Claim7.holds Tryd.pinned (.plain (OpenSpec.upto headOnceSpec)) headOnceUptoCard
end Rows
end Go.Proofs.YtjbfdbccidhdfaaDoor
