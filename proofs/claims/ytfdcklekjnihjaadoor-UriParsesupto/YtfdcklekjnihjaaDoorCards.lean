/-
  DERIVED. GIVEN WITH THE SEED: THE CARDS: each row of YtfdcklekjnihjaaDoorRows.lean that lists a variable, with what it lists TIED to the program's text (the seventh form; the later family's looks); each row that meets fmt, with fmt's text TOLD by the authors' own Lean function (tested against real Go, not proved from fmt's source: count such statements apart). THE CARD IS WHAT COUNTS. Prove the row's statement (the work); the ties are given (YtfdcklekjnihjaaDoorTie.lean); close each card by the builder's one call (the guide's Derived/Test/ToyasCard.lean, 'card_holds'). Laid BY PROGRAM, IN A SANDBOX (cutbox-door.mjs). By AI agents, Wed Nov 11 2026. No macro, syntax, notation, axiom, sorry.
-/
import Derived.Test.YtfdcklekjnihjaaDoorRows
import GoSem.ClaimSeven
namespace Go.Proofs.YtfdcklekjnihjaaDoor
namespace Rows

/-- THE TIED CARD OF 'rosterlaw03.UriHosts'. -/
def uriHostsCard : Claim7 := { stood := { row := uriHostsRow, standIns := [], harness := (true, "cd0ef2261d2ffbde0e29ea6e7412fd05869602bbcbd4ca56cb3f69d969365d3a"), looks := false }, kinds := [], alts := [], laidByText := true, laidKinds := [.data, .pinned], laidTests := true, laidLooks := .later }
def UriHostsCardSaid : Prop := Claim7.holds Tryd.pinned (.plain (OpenSpec.ofChange uriHostsSpec)) uriHostsCard

/-- THE TIED CARD OF 'rosterlaw03.UriPrints'. -/
def uriPrintsCard : Claim7 := { stood := { row := uriPrintsRow, standIns := [], harness := (true, "cd0ef2261d2ffbde0e29ea6e7412fd05869602bbcbd4ca56cb3f69d969365d3a"), looks := false }, kinds := [], alts := [], laidByText := true, laidKinds := [.data, .pinned], laidTests := true, laidLooks := .later }
def UriPrintsCardSaid : Prop := Claim7.holds Tryd.pinned (.plain (OpenSpec.ofChange uriPrintsSpec)) uriPrintsCard

/-- THE TIED CARD OF 'rosterlaw03.UriParses'. -/
def uriParsesCard : Claim7 := { stood := { row := uriParsesRow, standIns := [], harness := (true, "cd0ef2261d2ffbde0e29ea6e7412fd05869602bbcbd4ca56cb3f69d969365d3a"), looks := false }, kinds := [], alts := [], laidByText := true, laidKinds := [.data, .pinned], laidTests := true, laidLooks := .later }
def UriParsesCardSaid : Prop := Claim7.holds Tryd.pinned (.plain (OpenSpec.ofChange uriParsesSpec)) uriParsesCard

/-- THE TIED CARD OF 'rosterlaw03.UriBack'. -/
def uriBackCard : Claim7 := { stood := { row := uriBackRow, standIns := [], harness := (true, "cd0ef2261d2ffbde0e29ea6e7412fd05869602bbcbd4ca56cb3f69d969365d3a"), looks := false }, kinds := [], alts := [], laidByText := true, laidKinds := [.data, .pinned], laidTests := true, laidLooks := .later }
def UriBackCardSaid : Prop := Claim7.holds Tryd.pinned (.plain (OpenSpec.ofChange uriBackSpec)) uriBackCard

/-- THE TIED CARD OF 'rosterlaw03.UriOnce'. -/
def uriOnceCard : Claim7 := { stood := { row := uriOnceRow, standIns := [], harness := (true, "cd0ef2261d2ffbde0e29ea6e7412fd05869602bbcbd4ca56cb3f69d969365d3a"), looks := false }, kinds := [], alts := [], laidByText := true, laidKinds := [.data, .pinned], laidTests := true, laidLooks := .later }
def UriOnceCardSaid : Prop := Claim7.holds Tryd.pinned (.plain (OpenSpec.ofChange uriOnceSpec)) uriOnceCard

/-- THE TIED CARD OF 'rosterlaw03.UriLetters'. -/
def uriLettersCard : Claim7 := { stood := { row := uriLettersRow, standIns := [], harness := (true, "cd0ef2261d2ffbde0e29ea6e7412fd05869602bbcbd4ca56cb3f69d969365d3a"), looks := false }, kinds := [], alts := [], laidByText := true, laidKinds := [.data, .pinned], laidTests := true, laidLooks := .later }
def UriLettersCardSaid : Prop := Claim7.holds Tryd.pinned (.plain (OpenSpec.ofChange uriLettersSpec)) uriLettersCard

/-- THE SECOND FORM's CARD OF 'rosterlaw03.UriHosts'. -/
def uriHostsUptoCard : Claim7 := { stood := { row := uriHostsUptoRow, standIns := [], harness := (true, "cd0ef2261d2ffbde0e29ea6e7412fd05869602bbcbd4ca56cb3f69d969365d3a"), looks := false }, kinds := [], alts := [], laidByText := true, laidKinds := [.data, .pinned], laidTests := true, laidLooks := .later }
def UriHostsUptoCardSaid : Prop := Claim7.holds Tryd.pinned (.plain (OpenSpec.upto uriHostsSpec)) uriHostsUptoCard

/-- THE SECOND FORM's CARD OF 'rosterlaw03.UriPrints'. -/
def uriPrintsUptoCard : Claim7 := { stood := { row := uriPrintsUptoRow, standIns := [], harness := (true, "cd0ef2261d2ffbde0e29ea6e7412fd05869602bbcbd4ca56cb3f69d969365d3a"), looks := false }, kinds := [], alts := [], laidByText := true, laidKinds := [.data, .pinned], laidTests := true, laidLooks := .later }
def UriPrintsUptoCardSaid : Prop := Claim7.holds Tryd.pinned (.plain (OpenSpec.upto uriPrintsSpec)) uriPrintsUptoCard

/-- THE SECOND FORM's CARD OF 'rosterlaw03.UriParses'. -/
def uriParsesUptoCard : Claim7 := { stood := { row := uriParsesUptoRow, standIns := [], harness := (true, "cd0ef2261d2ffbde0e29ea6e7412fd05869602bbcbd4ca56cb3f69d969365d3a"), looks := false }, kinds := [], alts := [], laidByText := true, laidKinds := [.data, .pinned], laidTests := true, laidLooks := .later }
def UriParsesUptoCardSaid : Prop := Claim7.holds Tryd.pinned (.plain (OpenSpec.upto uriParsesSpec)) uriParsesUptoCard

/-- THE SECOND FORM's CARD OF 'rosterlaw03.UriBack'. -/
def uriBackUptoCard : Claim7 := { stood := { row := uriBackUptoRow, standIns := [], harness := (true, "cd0ef2261d2ffbde0e29ea6e7412fd05869602bbcbd4ca56cb3f69d969365d3a"), looks := false }, kinds := [], alts := [], laidByText := true, laidKinds := [.data, .pinned], laidTests := true, laidLooks := .later }
def UriBackUptoCardSaid : Prop := Claim7.holds Tryd.pinned (.plain (OpenSpec.upto uriBackSpec)) uriBackUptoCard

/-- THE SECOND FORM's CARD OF 'rosterlaw03.UriOnce'. -/
def uriOnceUptoCard : Claim7 := { stood := { row := uriOnceUptoRow, standIns := [], harness := (true, "cd0ef2261d2ffbde0e29ea6e7412fd05869602bbcbd4ca56cb3f69d969365d3a"), looks := false }, kinds := [], alts := [], laidByText := true, laidKinds := [.data, .pinned], laidTests := true, laidLooks := .later }
def UriOnceUptoCardSaid : Prop := Claim7.holds Tryd.pinned (.plain (OpenSpec.upto uriOnceSpec)) uriOnceUptoCard

/-- THE SECOND FORM's CARD OF 'rosterlaw03.UriLetters'. -/
def uriLettersUptoCard : Claim7 := { stood := { row := uriLettersUptoRow, standIns := [], harness := (true, "cd0ef2261d2ffbde0e29ea6e7412fd05869602bbcbd4ca56cb3f69d969365d3a"), looks := false }, kinds := [], alts := [], laidByText := true, laidKinds := [.data, .pinned], laidTests := true, laidLooks := .later }
def UriLettersUptoCardSaid : Prop := Claim7.holds Tryd.pinned (.plain (OpenSpec.upto uriLettersSpec)) uriLettersUptoCard
end Rows
end Go.Proofs.YtfdcklekjnihjaaDoor
