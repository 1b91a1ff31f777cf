/-
  NARROWER THAN 'FOR EVERY INPUT', by the rows' own cells (each row's printed sentence says how): CompComposes: laid · CompRight: laid · CompAlone: laid · CompBehind: laid · CompAgain: laid · CompOwn: laid.
  DERIVED. THE GIVEN ROWS OF THIS SEAT. 6 by the template 'for every input the law returns true; each argument reads behind the call as it read before'; 0 by the template 'total and deterministic' (their statements: YtldkidljjbkmbaaGreatDoorTotals.lean).
  GIVEN WITH THE SEED: the statements are not yours to turn. If you find one false, say at which input.
  Laid BY PROGRAM, IN A SANDBOX (cutbox-rows.mjs): the forced cells as the released guide's own fill.sh prints them over the translation 75c767f6c71f454d… (all of the seat's roots in one cut). By AI agents, Wed Nov 11 2026. No macro, syntax, notation, axiom, sorry.
-/
import Derived.Test.YtldkidljjbkmbaaGreatDoorChecked
import GoSem.PinnedTables
import GoSem.Claim
import GoSem.ClaimJoined
import GoSem.ClaimMapViews
import Derived.JoinedTies
import Derived.KernelRfl
namespace Go.Proofs.YtldkidljjbkmbaaGreatDoor
/- THE CELL 'sum', in the pinned program and in every row, IS THE sha256 OF THE DUMP (.gsa) THAT YtldkidljjbkmbaaGreatDoorProg.lean LOADS. Nothing in Lean hashes anything: it is a label: what it is worth is what the hold of that sum in a sandbox is worth. -/
noncomputable def Tryz.pinned : Pinned := { name := "ytldkidljjbkmbaagreatdoor", sum := "75c767f6c71f454dd8f403a336932d787cb5517707d2989cc4205234ccb698e7", checked := Tryz.checked }
namespace Rows
def none {H : Type} : Left H := { results := [], args := [] }

/- WHAT THE LISTED PACKAGE-LEVEL VARIABLES READ AS WHEN THE CALL BEGINS. Each datum BY PROGRAM (the guide's laid-datum.mjs) off the statement by which the dump's own 'gosem.cut.vars' lays the variable. In a bare row this is a premise. The card (YtldkidljjbkmbaaGreatDoorCards.lean) ties it to the program's text. -/
def laid_unicode_utf8_acceptRanges {H : Type} : DataW H := .agg [.agg [.lit (.int .u8 128), .lit (.int .u8 191)], .agg [.lit (.int .u8 160), .lit (.int .u8 191)], .agg [.lit (.int .u8 128), .lit (.int .u8 159)], .agg [.lit (.int .u8 144), .lit (.int .u8 191)], .agg [.lit (.int .u8 128), .lit (.int .u8 143)], .agg [.lit (.int .u8 0), .lit (.int .u8 0)], .agg [.lit (.int .u8 0), .lit (.int .u8 0)], .agg [.lit (.int .u8 0), .lit (.int .u8 0)], .agg [.lit (.int .u8 0), .lit (.int .u8 0)], .agg [.lit (.int .u8 0), .lit (.int .u8 0)], .agg [.lit (.int .u8 0), .lit (.int .u8 0)], .agg [.lit (.int .u8 0), .lit (.int .u8 0)], .agg [.lit (.int .u8 0), .lit (.int .u8 0)], .agg [.lit (.int .u8 0), .lit (.int .u8 0)], .agg [.lit (.int .u8 0), .lit (.int .u8 0)], .agg [.lit (.int .u8 0), .lit (.int .u8 0)]]
/-- One of Go's own tables, pinned by name: the form's constant. -/
def laid_unicode_utf8_first : DataW Unit := Go.Pinned.utf8First

/-- 'rosterlaw17.CompComposes': WHATEVER THE INPUT: true; the input reads as it did. -/
def compComposesSpec : ChangeSpec := { name := "compComposes", fn := fun _ => fun
  | [d1, d2] => { results := [.lit (.bool true)], args := [d1, d2] }
  | _ => none }
def compComposesRow : OpenClaim := { program := "ytldkidljjbkmbaagreatdoor", sum := "75c767f6c71f454dd8f403a336932d787cb5517707d2989cc4205234ccb698e7", func := "roster/rosterlaw17.CompComposes", spec := "compComposes", inPlace := ["internal/bytealg.IndexByteString", "internal/bytealg.IndexString", "internal/bytealg.CountString", "internal/abi.NoEscape"], unfollowed := true, recurses := true, named := ["internal/bytealg.MaxLen", "unicode/utf8.first", "unicode/utf8.acceptRanges"], plainKeys := false, apart := false, laid := [("unicode/utf8.acceptRanges", laid_unicode_utf8_acceptRanges), ("unicode/utf8.first", laid_unicode_utf8_first)] }
def CompComposesSaid : Prop := compComposesRow.holds Tryz.pinned (OpenSpec.ofChange compComposesSpec)

/-- ITS FALSE NEIGHBOUR: 'it returns false'. Refute it at one input. -/
def compComposesWrong : ChangeSpec := { name := "compComposes", fn := fun _ => fun
  | [d1, d2] => { results := [.lit (.bool false)], args := [d1, d2] }
  | _ => none }
def CompComposesWrongFalsely : Prop := compComposesRow.holds Tryz.pinned (OpenSpec.ofChange compComposesWrong)

/-- 'rosterlaw17.CompRight': WHATEVER THE INPUT: true; the input reads as it did. -/
def compRightSpec : ChangeSpec := { name := "compRight", fn := fun _ => fun
  | [d1, d2] => { results := [.lit (.bool true)], args := [d1, d2] }
  | _ => none }
def compRightRow : OpenClaim := { program := "ytldkidljjbkmbaagreatdoor", sum := "75c767f6c71f454dd8f403a336932d787cb5517707d2989cc4205234ccb698e7", func := "roster/rosterlaw17.CompRight", spec := "compRight", inPlace := ["internal/bytealg.IndexByteString", "internal/bytealg.IndexString", "internal/bytealg.CountString", "internal/abi.NoEscape"], unfollowed := true, recurses := true, named := ["internal/bytealg.MaxLen", "unicode/utf8.first", "unicode/utf8.acceptRanges"], plainKeys := false, apart := false, laid := [("unicode/utf8.acceptRanges", laid_unicode_utf8_acceptRanges), ("unicode/utf8.first", laid_unicode_utf8_first)] }
def CompRightSaid : Prop := compRightRow.holds Tryz.pinned (OpenSpec.ofChange compRightSpec)

/-- ITS FALSE NEIGHBOUR: 'it returns false'. Refute it at one input. -/
def compRightWrong : ChangeSpec := { name := "compRight", fn := fun _ => fun
  | [d1, d2] => { results := [.lit (.bool false)], args := [d1, d2] }
  | _ => none }
def CompRightWrongFalsely : Prop := compRightRow.holds Tryz.pinned (OpenSpec.ofChange compRightWrong)

/-- 'rosterlaw17.CompAlone': WHATEVER THE INPUT: true; the input reads as it did. -/
def compAloneSpec : ChangeSpec := { name := "compAlone", fn := fun _ => fun
  | [d1, d2] => { results := [.lit (.bool true)], args := [d1, d2] }
  | _ => none }
def compAloneRow : OpenClaim := { program := "ytldkidljjbkmbaagreatdoor", sum := "75c767f6c71f454dd8f403a336932d787cb5517707d2989cc4205234ccb698e7", func := "roster/rosterlaw17.CompAlone", spec := "compAlone", inPlace := ["internal/bytealg.IndexByteString", "internal/bytealg.IndexString", "internal/bytealg.CountString"], unfollowed := true, recurses := true, named := ["internal/bytealg.MaxLen", "unicode/utf8.first", "unicode/utf8.acceptRanges"], plainKeys := false, apart := false, laid := [("unicode/utf8.acceptRanges", laid_unicode_utf8_acceptRanges), ("unicode/utf8.first", laid_unicode_utf8_first)] }
def CompAloneSaid : Prop := compAloneRow.holds Tryz.pinned (OpenSpec.ofChange compAloneSpec)

/-- ITS FALSE NEIGHBOUR: 'it returns false'. Refute it at one input. -/
def compAloneWrong : ChangeSpec := { name := "compAlone", fn := fun _ => fun
  | [d1, d2] => { results := [.lit (.bool false)], args := [d1, d2] }
  | _ => none }
def CompAloneWrongFalsely : Prop := compAloneRow.holds Tryz.pinned (OpenSpec.ofChange compAloneWrong)

/-- 'rosterlaw17.CompBehind': WHATEVER THE INPUT: true; the input reads as it did. -/
def compBehindSpec : ChangeSpec := { name := "compBehind", fn := fun _ => fun
  | [d1, d2, d3] => { results := [.lit (.bool true)], args := [d1, d2, d3] }
  | _ => none }
def compBehindRow : OpenClaim := { program := "ytldkidljjbkmbaagreatdoor", sum := "75c767f6c71f454dd8f403a336932d787cb5517707d2989cc4205234ccb698e7", func := "roster/rosterlaw17.CompBehind", spec := "compBehind", inPlace := ["internal/bytealg.IndexByteString", "internal/bytealg.IndexString", "internal/bytealg.CountString"], unfollowed := true, recurses := true, named := ["internal/bytealg.MaxLen", "unicode/utf8.first", "unicode/utf8.acceptRanges"], plainKeys := false, apart := false, laid := [("unicode/utf8.acceptRanges", laid_unicode_utf8_acceptRanges), ("unicode/utf8.first", laid_unicode_utf8_first)] }
def CompBehindSaid : Prop := compBehindRow.holds Tryz.pinned (OpenSpec.ofChange compBehindSpec)

/-- ITS FALSE NEIGHBOUR: 'it returns false'. Refute it at one input. -/
def compBehindWrong : ChangeSpec := { name := "compBehind", fn := fun _ => fun
  | [d1, d2, d3] => { results := [.lit (.bool false)], args := [d1, d2, d3] }
  | _ => none }
def CompBehindWrongFalsely : Prop := compBehindRow.holds Tryz.pinned (OpenSpec.ofChange compBehindWrong)

/-- 'rosterlaw17.CompAgain': WHATEVER THE INPUT: true; the input reads as it did. -/
def compAgainSpec : ChangeSpec := { name := "compAgain", fn := fun _ => fun
  | [d1, d2, d3] => { results := [.lit (.bool true)], args := [d1, d2, d3] }
  | _ => none }
def compAgainRow : OpenClaim := { program := "ytldkidljjbkmbaagreatdoor", sum := "75c767f6c71f454dd8f403a336932d787cb5517707d2989cc4205234ccb698e7", func := "roster/rosterlaw17.CompAgain", spec := "compAgain", inPlace := ["internal/bytealg.IndexByteString", "internal/bytealg.IndexString", "internal/bytealg.CountString"], unfollowed := true, recurses := true, named := ["internal/bytealg.MaxLen", "unicode/utf8.first", "unicode/utf8.acceptRanges"], plainKeys := false, apart := false, laid := [("unicode/utf8.acceptRanges", laid_unicode_utf8_acceptRanges), ("unicode/utf8.first", laid_unicode_utf8_first)] }
def CompAgainSaid : Prop := compAgainRow.holds Tryz.pinned (OpenSpec.ofChange compAgainSpec)

/-- ITS FALSE NEIGHBOUR: 'it returns false'. Refute it at one input. -/
def compAgainWrong : ChangeSpec := { name := "compAgain", fn := fun _ => fun
  | [d1, d2, d3] => { results := [.lit (.bool false)], args := [d1, d2, d3] }
  | _ => none }
def CompAgainWrongFalsely : Prop := compAgainRow.holds Tryz.pinned (OpenSpec.ofChange compAgainWrong)

/-- 'rosterlaw17.CompOwn': WHATEVER THE INPUT: true; the input reads as it did. -/
def compOwnSpec : ChangeSpec := { name := "compOwn", fn := fun _ => fun
  | [d1, d2] => { results := [.lit (.bool true)], args := [d1, d2] }
  | _ => none }
def compOwnRow : OpenClaim := { program := "ytldkidljjbkmbaagreatdoor", sum := "75c767f6c71f454dd8f403a336932d787cb5517707d2989cc4205234ccb698e7", func := "roster/rosterlaw17.CompOwn", spec := "compOwn", inPlace := ["internal/bytealg.IndexByteString", "internal/bytealg.IndexString", "internal/bytealg.CountString"], unfollowed := true, recurses := true, named := ["internal/bytealg.MaxLen", "unicode/utf8.first", "unicode/utf8.acceptRanges"], plainKeys := false, apart := false, laid := [("unicode/utf8.acceptRanges", laid_unicode_utf8_acceptRanges), ("unicode/utf8.first", laid_unicode_utf8_first)] }
def CompOwnSaid : Prop := compOwnRow.holds Tryz.pinned (OpenSpec.ofChange compOwnSpec)

/-- ITS FALSE NEIGHBOUR: 'it returns false'. Refute it at one input. -/
def compOwnWrong : ChangeSpec := { name := "compOwn", fn := fun _ => fun
  | [d1, d2] => { results := [.lit (.bool false)], args := [d1, d2] }
  | _ => none }
def CompOwnWrongFalsely : Prop := compOwnRow.holds Tryz.pinned (OpenSpec.ofChange compOwnWrong)

/- THE SECOND FORM. 'bulk': how many values and letters a reading holds, each counted each time it is reached (what is shared counts as often as it is met; a slice's spare places count too). A statement '..UptoSaid' is the law's where the arguments, and the package variables that the reading takes, are together of bulk at most 1048576: NARROWER than '..Said'. Prove '..Said' where nothing that the law and all that it calls make is longer than what came in: it says more and counts as full. Else prove '..UptoSaid'. A law counts once. -/
mutual
def uptoBulk {H : Type} : DataW H → Nat
  | .lit (.string bytes) => bytes.length + 1
  | .lit _ => 1
  | .nil => 1
  | .ptr d => uptoBulk d + 1
  | .slice elems spare => uptoBulkAll elems + uptoBulkAll spare + 1
  | .agg parts => uptoBulkAll parts + 1
  | .iface _ d => uptoBulk d + 1
  | .map entries => uptoBulkEntries entries + 1
  | .held _ => 1
def uptoBulkAll {H : Type} : List (DataW H) → Nat
  | [] => 0
  | d :: r => uptoBulk d + uptoBulkAll r
def uptoBulkEntries {H : Type} : List (Lit × DataW H) → Nat
  | [] => 0
  | x :: r => uptoBulkEntry x + uptoBulkEntries r
def uptoBulkEntry {H : Type} : Lit × DataW H → Nat
  | (.string bytes, d) => bytes.length + uptoBulk d + 1
  | (_, d) => uptoBulk d + 1
 end
def uptoSmall : (H : Type) → List (DataW H) → Bool := fun _ ds => decide (uptoBulkAll ds ≤ 1048576)
def OpenSpec.upto (s : _root_.Go.ChangeSpec) : _root_.Go.OpenSpec := { _root_.Go.OpenSpec.ofChange s with cond := some uptoSmall }

/-- 'rosterlaw17.CompComposes', WHERE WHAT IT READS IS OF BULK AT MOST 1048576: true; the input reads as it did. -/
def compComposesUptoRow : OpenClaim := { program := "ytldkidljjbkmbaagreatdoor", sum := "75c767f6c71f454dd8f403a336932d787cb5517707d2989cc4205234ccb698e7", func := "roster/rosterlaw17.CompComposes", spec := "compComposes", inPlace := ["internal/bytealg.IndexByteString", "internal/bytealg.IndexString", "internal/bytealg.CountString", "internal/abi.NoEscape"], unfollowed := true, recurses := true, named := ["internal/bytealg.MaxLen", "unicode/utf8.first", "unicode/utf8.acceptRanges"], plainKeys := false, apart := false, laid := [("unicode/utf8.acceptRanges", laid_unicode_utf8_acceptRanges), ("unicode/utf8.first", laid_unicode_utf8_first)], narrowed := true }
def CompComposesUptoSaid : Prop := compComposesUptoRow.holds Tryz.pinned (OpenSpec.upto compComposesSpec)

/-- 'rosterlaw17.CompRight', WHERE WHAT IT READS IS OF BULK AT MOST 1048576: true; the input reads as it did. -/
def compRightUptoRow : OpenClaim := { program := "ytldkidljjbkmbaagreatdoor", sum := "75c767f6c71f454dd8f403a336932d787cb5517707d2989cc4205234ccb698e7", func := "roster/rosterlaw17.CompRight", spec := "compRight", inPlace := ["internal/bytealg.IndexByteString", "internal/bytealg.IndexString", "internal/bytealg.CountString", "internal/abi.NoEscape"], unfollowed := true, recurses := true, named := ["internal/bytealg.MaxLen", "unicode/utf8.first", "unicode/utf8.acceptRanges"], plainKeys := false, apart := false, laid := [("unicode/utf8.acceptRanges", laid_unicode_utf8_acceptRanges), ("unicode/utf8.first", laid_unicode_utf8_first)], narrowed := true }
def CompRightUptoSaid : Prop := compRightUptoRow.holds Tryz.pinned (OpenSpec.upto compRightSpec)

/-- 'rosterlaw17.CompAlone', WHERE WHAT IT READS IS OF BULK AT MOST 1048576: true; the input reads as it did. -/
def compAloneUptoRow : OpenClaim := { program := "ytldkidljjbkmbaagreatdoor", sum := "75c767f6c71f454dd8f403a336932d787cb5517707d2989cc4205234ccb698e7", func := "roster/rosterlaw17.CompAlone", spec := "compAlone", inPlace := ["internal/bytealg.IndexByteString", "internal/bytealg.IndexString", "internal/bytealg.CountString"], unfollowed := true, recurses := true, named := ["internal/bytealg.MaxLen", "unicode/utf8.first", "unicode/utf8.acceptRanges"], plainKeys := false, apart := false, laid := [("unicode/utf8.acceptRanges", laid_unicode_utf8_acceptRanges), ("unicode/utf8.first", laid_unicode_utf8_first)], narrowed := true }
def CompAloneUptoSaid : Prop := compAloneUptoRow.holds Tryz.pinned (OpenSpec.upto compAloneSpec)

/-- 'rosterlaw17.CompBehind', WHERE WHAT IT READS IS OF BULK AT MOST 1048576: true; the input reads as it did. -/
def compBehindUptoRow : OpenClaim := { program := "ytldkidljjbkmbaagreatdoor", sum := "75c767f6c71f454dd8f403a336932d787cb5517707d2989cc4205234ccb698e7", func := "roster/rosterlaw17.CompBehind", spec := "compBehind", inPlace := ["internal/bytealg.IndexByteString", "internal/bytealg.IndexString", "internal/bytealg.CountString"], unfollowed := true, recurses := true, named := ["internal/bytealg.MaxLen", "unicode/utf8.first", "unicode/utf8.acceptRanges"], plainKeys := false, apart := false, laid := [("unicode/utf8.acceptRanges", laid_unicode_utf8_acceptRanges), ("unicode/utf8.first", laid_unicode_utf8_first)], narrowed := true }
def CompBehindUptoSaid : Prop := compBehindUptoRow.holds Tryz.pinned (OpenSpec.upto compBehindSpec)

/-- 'rosterlaw17.CompAgain', WHERE WHAT IT READS IS OF BULK AT MOST 1048576: true; the input reads as it did. -/
def compAgainUptoRow : OpenClaim := { program := "ytldkidljjbkmbaagreatdoor", sum := "75c767f6c71f454dd8f403a336932d787cb5517707d2989cc4205234ccb698e7", func := "roster/rosterlaw17.CompAgain", spec := "compAgain", inPlace := ["internal/bytealg.IndexByteString", "internal/bytealg.IndexString", "internal/bytealg.CountString"], unfollowed := true, recurses := true, named := ["internal/bytealg.MaxLen", "unicode/utf8.first", "unicode/utf8.acceptRanges"], plainKeys := false, apart := false, laid := [("unicode/utf8.acceptRanges", laid_unicode_utf8_acceptRanges), ("unicode/utf8.first", laid_unicode_utf8_first)], narrowed := true }
def CompAgainUptoSaid : Prop := compAgainUptoRow.holds Tryz.pinned (OpenSpec.upto compAgainSpec)

/-- 'rosterlaw17.CompOwn', WHERE WHAT IT READS IS OF BULK AT MOST 1048576: true; the input reads as it did. -/
def compOwnUptoRow : OpenClaim := { program := "ytldkidljjbkmbaagreatdoor", sum := "75c767f6c71f454dd8f403a336932d787cb5517707d2989cc4205234ccb698e7", func := "roster/rosterlaw17.CompOwn", spec := "compOwn", inPlace := ["internal/bytealg.IndexByteString", "internal/bytealg.IndexString", "internal/bytealg.CountString"], unfollowed := true, recurses := true, named := ["internal/bytealg.MaxLen", "unicode/utf8.first", "unicode/utf8.acceptRanges"], plainKeys := false, apart := false, laid := [("unicode/utf8.acceptRanges", laid_unicode_utf8_acceptRanges), ("unicode/utf8.first", laid_unicode_utf8_first)], narrowed := true }
def CompOwnUptoSaid : Prop := compOwnUptoRow.holds Tryz.pinned (OpenSpec.upto compOwnSpec)

end Rows
end Go.Proofs.YtldkidljjbkmbaaGreatDoor
