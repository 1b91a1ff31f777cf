/-
  NARROWER THAN 'FOR EVERY INPUT', by the rows' own cells (each row's printed sentence says how): PidfPrints: laid · PidfParses: laid · PidfDecimals: laid · PidfBack: laid · PidfOnce: laid · PidfOther: laid.
  DERIVED. THE GIVEN ROWS OF THIS SEAT. 6 by the template 'for every input the law returns true; each argument reads behind the call as it read before'; 0 by the template 'total and deterministic' (their statements: YtdnekampnkhmfaaGreatDoorTotals.lean).
  GIVEN WITH THE SEED: the statements are not yours to turn. If you find one false, say at which input.
  Laid BY PROGRAM, IN A SANDBOX (cutbox-rows.mjs): the forced cells as the released guide's own fill.sh prints them over the translation f642291d9cd4a483… (all of the seat's roots in one cut). By AI agents, Wed Nov 11 2026. No macro, syntax, notation, axiom, sorry.
-/
import Derived.Test.YtdnekampnkhmfaaGreatDoorChecked
import GoSem.PinnedTables
import GoSem.Claim
import GoSem.ClaimJoined
import GoSem.ClaimMapViews
import Derived.JoinedTies
import Derived.KernelRfl
namespace Go.Proofs.YtdnekampnkhmfaaGreatDoor
/- THE CELL 'sum', in the pinned program and in every row, IS THE sha256 OF THE DUMP (.gsa) THAT YtdnekampnkhmfaaGreatDoorProg.lean LOADS. Nothing in Lean hashes anything: it is a label: what it is worth is what the hold of that sum in a sandbox is worth. -/
noncomputable def Tryz.pinned : Pinned := { name := "ytdnekampnkhmfaagreatdoor", sum := "f642291d9cd4a4832d95adf52b4b7c7ba57855035abbeca1ac9091f5cf1e62dc", checked := Tryz.checked }
namespace Rows
def none {H : Type} : Left H := { results := [], args := [] }

/- WHAT THE LISTED PACKAGE-LEVEL VARIABLES READ AS WHEN THE CALL BEGINS. Each datum BY PROGRAM (the guide's laid-datum.mjs) off the statement by which the dump's own 'gosem.cut.vars' lays the variable. In a bare row this is a premise. The card (YtdnekampnkhmfaaGreatDoorCards.lean) ties it to the program's text. -/
def laid_unicode_utf8_acceptRanges {H : Type} : DataW H := .agg [.agg [.lit (.int .u8 128), .lit (.int .u8 191)], .agg [.lit (.int .u8 160), .lit (.int .u8 191)], .agg [.lit (.int .u8 128), .lit (.int .u8 159)], .agg [.lit (.int .u8 144), .lit (.int .u8 191)], .agg [.lit (.int .u8 128), .lit (.int .u8 143)], .agg [.lit (.int .u8 0), .lit (.int .u8 0)], .agg [.lit (.int .u8 0), .lit (.int .u8 0)], .agg [.lit (.int .u8 0), .lit (.int .u8 0)], .agg [.lit (.int .u8 0), .lit (.int .u8 0)], .agg [.lit (.int .u8 0), .lit (.int .u8 0)], .agg [.lit (.int .u8 0), .lit (.int .u8 0)], .agg [.lit (.int .u8 0), .lit (.int .u8 0)], .agg [.lit (.int .u8 0), .lit (.int .u8 0)], .agg [.lit (.int .u8 0), .lit (.int .u8 0)], .agg [.lit (.int .u8 0), .lit (.int .u8 0)], .agg [.lit (.int .u8 0), .lit (.int .u8 0)]]
/-- One of Go's own tables, pinned by name: the form's constant. -/
def laid_unicode_utf8_first : DataW Unit := Go.Pinned.utf8First

/-- 'rosterlaw14.PidfPrints': WHATEVER THE INPUT: true; the input reads as it did. -/
def pidfPrintsSpec : ChangeSpec := { name := "pidfPrints", fn := fun _ => fun
  | [d] => { results := [.lit (.bool true)], args := [d] }
  | _ => none }
def pidfPrintsRow : OpenClaim := { program := "ytdnekampnkhmfaagreatdoor", sum := "f642291d9cd4a4832d95adf52b4b7c7ba57855035abbeca1ac9091f5cf1e62dc", func := "roster/rosterlaw14.PidfPrints", spec := "pidfPrints", inPlace := ["internal/bytealg.IndexByteString", "internal/bytealg.IndexString", "internal/abi.NoEscape", "internal/bytealg.MakeNoZero", "internal/bytealg.CountString"], unfollowed := true, recurses := true, named := ["internal/bytealg.MaxLen", "unicode/utf8.first", "unicode/utf8.acceptRanges"], apart := false, laid := [("unicode/utf8.acceptRanges", laid_unicode_utf8_acceptRanges), ("unicode/utf8.first", laid_unicode_utf8_first)] }
def PidfPrintsSaid : Prop := pidfPrintsRow.holds Tryz.pinned (OpenSpec.ofChange pidfPrintsSpec)

/-- ITS FALSE NEIGHBOUR: 'it returns false'. Refute it at one input. -/
def pidfPrintsWrong : ChangeSpec := { name := "pidfPrints", fn := fun _ => fun
  | [d] => { results := [.lit (.bool false)], args := [d] }
  | _ => none }
def PidfPrintsWrongFalsely : Prop := pidfPrintsRow.holds Tryz.pinned (OpenSpec.ofChange pidfPrintsWrong)

/-- 'rosterlaw14.PidfParses': WHATEVER THE INPUT: true; the input reads as it did. -/
def pidfParsesSpec : ChangeSpec := { name := "pidfParses", fn := fun _ => fun
  | [d] => { results := [.lit (.bool true)], args := [d] }
  | _ => none }
def pidfParsesRow : OpenClaim := { program := "ytdnekampnkhmfaagreatdoor", sum := "f642291d9cd4a4832d95adf52b4b7c7ba57855035abbeca1ac9091f5cf1e62dc", func := "roster/rosterlaw14.PidfParses", spec := "pidfParses", inPlace := ["internal/bytealg.IndexByteString", "internal/bytealg.IndexString", "internal/bytealg.CountString", "internal/abi.NoEscape", "internal/bytealg.MakeNoZero"], unfollowed := true, recurses := true, named := ["unicode/utf8.first", "unicode/utf8.acceptRanges", "internal/bytealg.MaxLen"], apart := false, laid := [("unicode/utf8.acceptRanges", laid_unicode_utf8_acceptRanges), ("unicode/utf8.first", laid_unicode_utf8_first)] }
def PidfParsesSaid : Prop := pidfParsesRow.holds Tryz.pinned (OpenSpec.ofChange pidfParsesSpec)

/-- ITS FALSE NEIGHBOUR: 'it returns false'. Refute it at one input. -/
def pidfParsesWrong : ChangeSpec := { name := "pidfParses", fn := fun _ => fun
  | [d] => { results := [.lit (.bool false)], args := [d] }
  | _ => none }
def PidfParsesWrongFalsely : Prop := pidfParsesRow.holds Tryz.pinned (OpenSpec.ofChange pidfParsesWrong)

/-- 'rosterlaw14.PidfDecimals': WHATEVER THE INPUT: true; the input reads as it did. -/
def pidfDecimalsSpec : ChangeSpec := { name := "pidfDecimals", fn := fun _ => fun
  | [d1, d2] => { results := [.lit (.bool true)], args := [d1, d2] }
  | _ => none }
def pidfDecimalsRow : OpenClaim := { program := "ytdnekampnkhmfaagreatdoor", sum := "f642291d9cd4a4832d95adf52b4b7c7ba57855035abbeca1ac9091f5cf1e62dc", func := "roster/rosterlaw14.PidfDecimals", spec := "pidfDecimals", inPlace := ["internal/bytealg.IndexByteString", "internal/bytealg.IndexString", "internal/abi.NoEscape", "internal/bytealg.MakeNoZero", "internal/bytealg.CountString"], unfollowed := true, recurses := true, named := ["internal/bytealg.MaxLen", "unicode/utf8.first", "unicode/utf8.acceptRanges"], apart := false, laid := [("unicode/utf8.acceptRanges", laid_unicode_utf8_acceptRanges), ("unicode/utf8.first", laid_unicode_utf8_first)] }
def PidfDecimalsSaid : Prop := pidfDecimalsRow.holds Tryz.pinned (OpenSpec.ofChange pidfDecimalsSpec)

/-- ITS FALSE NEIGHBOUR: 'it returns false'. Refute it at one input. -/
def pidfDecimalsWrong : ChangeSpec := { name := "pidfDecimals", fn := fun _ => fun
  | [d1, d2] => { results := [.lit (.bool false)], args := [d1, d2] }
  | _ => none }
def PidfDecimalsWrongFalsely : Prop := pidfDecimalsRow.holds Tryz.pinned (OpenSpec.ofChange pidfDecimalsWrong)

/-- 'rosterlaw14.PidfBack': WHATEVER THE INPUT: true; the input reads as it did. -/
def pidfBackSpec : ChangeSpec := { name := "pidfBack", fn := fun _ => fun
  | [d] => { results := [.lit (.bool true)], args := [d] }
  | _ => none }
def pidfBackRow : OpenClaim := { program := "ytdnekampnkhmfaagreatdoor", sum := "f642291d9cd4a4832d95adf52b4b7c7ba57855035abbeca1ac9091f5cf1e62dc", func := "roster/rosterlaw14.PidfBack", spec := "pidfBack", inPlace := ["internal/bytealg.IndexByteString", "internal/bytealg.IndexString", "internal/bytealg.CountString", "internal/abi.NoEscape", "internal/bytealg.MakeNoZero"], unfollowed := true, recurses := true, named := ["internal/bytealg.MaxLen", "unicode/utf8.first", "unicode/utf8.acceptRanges"], apart := false, laid := [("unicode/utf8.acceptRanges", laid_unicode_utf8_acceptRanges), ("unicode/utf8.first", laid_unicode_utf8_first)] }
def PidfBackSaid : Prop := pidfBackRow.holds Tryz.pinned (OpenSpec.ofChange pidfBackSpec)

/-- ITS FALSE NEIGHBOUR: 'it returns false'. Refute it at one input. -/
def pidfBackWrong : ChangeSpec := { name := "pidfBack", fn := fun _ => fun
  | [d] => { results := [.lit (.bool false)], args := [d] }
  | _ => none }
def PidfBackWrongFalsely : Prop := pidfBackRow.holds Tryz.pinned (OpenSpec.ofChange pidfBackWrong)

/-- 'rosterlaw14.PidfOnce': WHATEVER THE INPUT: true; the input reads as it did. -/
def pidfOnceSpec : ChangeSpec := { name := "pidfOnce", fn := fun _ => fun
  | [d] => { results := [.lit (.bool true)], args := [d] }
  | _ => none }
def pidfOnceRow : OpenClaim := { program := "ytdnekampnkhmfaagreatdoor", sum := "f642291d9cd4a4832d95adf52b4b7c7ba57855035abbeca1ac9091f5cf1e62dc", func := "roster/rosterlaw14.PidfOnce", spec := "pidfOnce", inPlace := ["internal/bytealg.IndexByteString", "internal/bytealg.IndexString", "internal/bytealg.CountString", "internal/abi.NoEscape", "internal/bytealg.MakeNoZero"], unfollowed := true, recurses := true, named := ["unicode/utf8.first", "unicode/utf8.acceptRanges", "internal/bytealg.MaxLen"], apart := false, laid := [("unicode/utf8.acceptRanges", laid_unicode_utf8_acceptRanges), ("unicode/utf8.first", laid_unicode_utf8_first)] }
def PidfOnceSaid : Prop := pidfOnceRow.holds Tryz.pinned (OpenSpec.ofChange pidfOnceSpec)

/-- ITS FALSE NEIGHBOUR: 'it returns false'. Refute it at one input. -/
def pidfOnceWrong : ChangeSpec := { name := "pidfOnce", fn := fun _ => fun
  | [d] => { results := [.lit (.bool false)], args := [d] }
  | _ => none }
def PidfOnceWrongFalsely : Prop := pidfOnceRow.holds Tryz.pinned (OpenSpec.ofChange pidfOnceWrong)

/-- 'rosterlaw14.PidfOther': WHATEVER THE INPUT: true; the input reads as it did. -/
def pidfOtherSpec : ChangeSpec := { name := "pidfOther", fn := fun _ => fun
  | [d1, d2, d3, d4] => { results := [.lit (.bool true)], args := [d1, d2, d3, d4] }
  | _ => none }
def pidfOtherRow : OpenClaim := { program := "ytdnekampnkhmfaagreatdoor", sum := "f642291d9cd4a4832d95adf52b4b7c7ba57855035abbeca1ac9091f5cf1e62dc", func := "roster/rosterlaw14.PidfOther", spec := "pidfOther", inPlace := ["internal/bytealg.IndexByteString", "internal/bytealg.IndexString", "internal/bytealg.CountString", "internal/abi.NoEscape", "internal/bytealg.MakeNoZero"], unfollowed := true, recurses := true, named := ["internal/bytealg.MaxLen", "unicode/utf8.first", "unicode/utf8.acceptRanges"], apart := false, laid := [("unicode/utf8.acceptRanges", laid_unicode_utf8_acceptRanges), ("unicode/utf8.first", laid_unicode_utf8_first)] }
def PidfOtherSaid : Prop := pidfOtherRow.holds Tryz.pinned (OpenSpec.ofChange pidfOtherSpec)

/-- ITS FALSE NEIGHBOUR: 'it returns false'. Refute it at one input. -/
def pidfOtherWrong : ChangeSpec := { name := "pidfOther", fn := fun _ => fun
  | [d1, d2, d3, d4] => { results := [.lit (.bool false)], args := [d1, d2, d3, d4] }
  | _ => none }
def PidfOtherWrongFalsely : Prop := pidfOtherRow.holds Tryz.pinned (OpenSpec.ofChange pidfOtherWrong)

/- THE SECOND FORM. 'bulk': how many values and letters a reading holds, each counted each time it is reached (what is shared counts as often as it is met; a slice's spare places count too). A statement '..UptoSaid' is the law's where the arguments, and the package variables that the reading takes, are together of bulk at most 1048576: NARROWER than '..Said'. Prove '..Said' where nothing that the law and all that it calls make is longer than what came in: it says more and counts as full. Else prove '..UptoSaid'. A law counts once. -/
mutual
def uptoBulk {H : Type} : DataW H → Nat
  | .lit (.string bytes) => bytes.length + 1
  | .lit _ => 1
  | .nil => 1
  | .ptr d => uptoBulk d + 1
  | .slice elems spare => uptoBulkAll elems + uptoBulkAll spare + 1
  | .agg parts => uptoBulkAll parts + 1
  | .iface _ d => uptoBulk d + 1
  | .map entries => uptoBulkEntries entries + 1
  | .held _ => 1
def uptoBulkAll {H : Type} : List (DataW H) → Nat
  | [] => 0
  | d :: r => uptoBulk d + uptoBulkAll r
def uptoBulkEntries {H : Type} : List (Lit × DataW H) → Nat
  | [] => 0
  | x :: r => uptoBulkEntry x + uptoBulkEntries r
def uptoBulkEntry {H : Type} : Lit × DataW H → Nat
  | (.string bytes, d) => bytes.length + uptoBulk d + 1
  | (_, d) => uptoBulk d + 1
 end
def uptoSmall : (H : Type) → List (DataW H) → Bool := fun _ ds => decide (uptoBulkAll ds ≤ 1048576)
def OpenSpec.upto (s : _root_.Go.ChangeSpec) : _root_.Go.OpenSpec := { _root_.Go.OpenSpec.ofChange s with cond := some uptoSmall }

/-- 'rosterlaw14.PidfPrints', WHERE WHAT IT READS IS OF BULK AT MOST 1048576: true; the input reads as it did. -/
def pidfPrintsUptoRow : OpenClaim := { program := "ytdnekampnkhmfaagreatdoor", sum := "f642291d9cd4a4832d95adf52b4b7c7ba57855035abbeca1ac9091f5cf1e62dc", func := "roster/rosterlaw14.PidfPrints", spec := "pidfPrints", inPlace := ["internal/bytealg.IndexByteString", "internal/bytealg.IndexString", "internal/abi.NoEscape", "internal/bytealg.MakeNoZero", "internal/bytealg.CountString"], unfollowed := true, recurses := true, named := ["internal/bytealg.MaxLen", "unicode/utf8.first", "unicode/utf8.acceptRanges"], apart := false, laid := [("unicode/utf8.acceptRanges", laid_unicode_utf8_acceptRanges), ("unicode/utf8.first", laid_unicode_utf8_first)], narrowed := true }
def PidfPrintsUptoSaid : Prop := pidfPrintsUptoRow.holds Tryz.pinned (OpenSpec.upto pidfPrintsSpec)

/-- 'rosterlaw14.PidfParses', WHERE WHAT IT READS IS OF BULK AT MOST 1048576: true; the input reads as it did. -/
def pidfParsesUptoRow : OpenClaim := { program := "ytdnekampnkhmfaagreatdoor", sum := "f642291d9cd4a4832d95adf52b4b7c7ba57855035abbeca1ac9091f5cf1e62dc", func := "roster/rosterlaw14.PidfParses", spec := "pidfParses", inPlace := ["internal/bytealg.IndexByteString", "internal/bytealg.IndexString", "internal/bytealg.CountString", "internal/abi.NoEscape", "internal/bytealg.MakeNoZero"], unfollowed := true, recurses := true, named := ["unicode/utf8.first", "unicode/utf8.acceptRanges", "internal/bytealg.MaxLen"], apart := false, laid := [("unicode/utf8.acceptRanges", laid_unicode_utf8_acceptRanges), ("unicode/utf8.first", laid_unicode_utf8_first)], narrowed := true }
def PidfParsesUptoSaid : Prop := pidfParsesUptoRow.holds Tryz.pinned (OpenSpec.upto pidfParsesSpec)

/-- 'rosterlaw14.PidfDecimals', WHERE WHAT IT READS IS OF BULK AT MOST 1048576: true; the input reads as it did. -/
def pidfDecimalsUptoRow : OpenClaim := { program := "ytdnekampnkhmfaagreatdoor", sum := "f642291d9cd4a4832d95adf52b4b7c7ba57855035abbeca1ac9091f5cf1e62dc", func := "roster/rosterlaw14.PidfDecimals", spec := "pidfDecimals", inPlace := ["internal/bytealg.IndexByteString", "internal/bytealg.IndexString", "internal/abi.NoEscape", "internal/bytealg.MakeNoZero", "internal/bytealg.CountString"], unfollowed := true, recurses := true, named := ["internal/bytealg.MaxLen", "unicode/utf8.first", "unicode/utf8.acceptRanges"], apart := false, laid := [("unicode/utf8.acceptRanges", laid_unicode_utf8_acceptRanges), ("unicode/utf8.first", laid_unicode_utf8_first)], narrowed := true }
def PidfDecimalsUptoSaid : Prop := pidfDecimalsUptoRow.holds Tryz.pinned (OpenSpec.upto pidfDecimalsSpec)

/-- 'rosterlaw14.PidfBack', WHERE WHAT IT READS IS OF BULK AT MOST 1048576: true; the input reads as it did. -/
def pidfBackUptoRow : OpenClaim := { program := "ytdnekampnkhmfaagreatdoor", sum := "f642291d9cd4a4832d95adf52b4b7c7ba57855035abbeca1ac9091f5cf1e62dc", func := "roster/rosterlaw14.PidfBack", spec := "pidfBack", inPlace := ["internal/bytealg.IndexByteString", "internal/bytealg.IndexString", "internal/bytealg.CountString", "internal/abi.NoEscape", "internal/bytealg.MakeNoZero"], unfollowed := true, recurses := true, named := ["internal/bytealg.MaxLen", "unicode/utf8.first", "unicode/utf8.acceptRanges"], apart := false, laid := [("unicode/utf8.acceptRanges", laid_unicode_utf8_acceptRanges), ("unicode/utf8.first", laid_unicode_utf8_first)], narrowed := true }
def PidfBackUptoSaid : Prop := pidfBackUptoRow.holds Tryz.pinned (OpenSpec.upto pidfBackSpec)

/-- 'rosterlaw14.PidfOnce', WHERE WHAT IT READS IS OF BULK AT MOST 1048576: true; the input reads as it did. -/
def pidfOnceUptoRow : OpenClaim := { program := "ytdnekampnkhmfaagreatdoor", sum := "f642291d9cd4a4832d95adf52b4b7c7ba57855035abbeca1ac9091f5cf1e62dc", func := "roster/rosterlaw14.PidfOnce", spec := "pidfOnce", inPlace := ["internal/bytealg.IndexByteString", "internal/bytealg.IndexString", "internal/bytealg.CountString", "internal/abi.NoEscape", "internal/bytealg.MakeNoZero"], unfollowed := true, recurses := true, named := ["unicode/utf8.first", "unicode/utf8.acceptRanges", "internal/bytealg.MaxLen"], apart := false, laid := [("unicode/utf8.acceptRanges", laid_unicode_utf8_acceptRanges), ("unicode/utf8.first", laid_unicode_utf8_first)], narrowed := true }
def PidfOnceUptoSaid : Prop := pidfOnceUptoRow.holds Tryz.pinned (OpenSpec.upto pidfOnceSpec)

/-- 'rosterlaw14.PidfOther', WHERE WHAT IT READS IS OF BULK AT MOST 1048576: true; the input reads as it did. -/
def pidfOtherUptoRow : OpenClaim := { program := "ytdnekampnkhmfaagreatdoor", sum := "f642291d9cd4a4832d95adf52b4b7c7ba57855035abbeca1ac9091f5cf1e62dc", func := "roster/rosterlaw14.PidfOther", spec := "pidfOther", inPlace := ["internal/bytealg.IndexByteString", "internal/bytealg.IndexString", "internal/bytealg.CountString", "internal/abi.NoEscape", "internal/bytealg.MakeNoZero"], unfollowed := true, recurses := true, named := ["internal/bytealg.MaxLen", "unicode/utf8.first", "unicode/utf8.acceptRanges"], apart := false, laid := [("unicode/utf8.acceptRanges", laid_unicode_utf8_acceptRanges), ("unicode/utf8.first", laid_unicode_utf8_first)], narrowed := true }
def PidfOtherUptoSaid : Prop := pidfOtherUptoRow.holds Tryz.pinned (OpenSpec.upto pidfOtherSpec)

end Rows
end Go.Proofs.YtdnekampnkhmfaaGreatDoor
