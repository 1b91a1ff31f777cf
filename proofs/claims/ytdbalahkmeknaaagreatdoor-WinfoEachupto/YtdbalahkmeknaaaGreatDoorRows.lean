/-
  NARROWER THAN 'FOR EVERY INPUT', by the rows' own cells (each row's printed sentence says how): WinfoPrints: laid · WinfoParses: laid · WinfoBack: laid · WinfoOnce: laid · WinfoEach: laid.
  DERIVED. THE GIVEN ROWS OF THIS SEAT. 5 by the template 'for every input the law returns true; each argument reads behind the call as it read before'; 0 by the template 'total and deterministic' (their statements: YtdbalahkmeknaaaGreatDoorTotals.lean).
  GIVEN WITH THE SEED: the statements are not yours to turn. If you find one false, say at which input.
  Laid BY PROGRAM, IN A SANDBOX (cutbox-rows.mjs): the forced cells as the released guide's own fill.sh prints them over the translation 73dca10bfc1aa0d1… (all of the seat's roots in one cut). By AI agents, Wed Nov 11 2026. No macro, syntax, notation, axiom, sorry.
-/
import Derived.Test.YtdbalahkmeknaaaGreatDoorChecked
import GoSem.PinnedTables
import GoSem.Claim
import GoSem.ClaimJoined
import GoSem.ClaimMapViews
import Derived.JoinedTies
import Derived.KernelRfl
namespace Go.Proofs.YtdbalahkmeknaaaGreatDoor
/- THE CELL 'sum', in the pinned program and in every row, IS THE sha256 OF THE DUMP (.gsa) THAT YtdbalahkmeknaaaGreatDoorProg.lean LOADS. Nothing in Lean hashes anything: it is a label: what it is worth is what the hold of that sum in a sandbox is worth. -/
noncomputable def Tryz.pinned : Pinned := { name := "ytdbalahkmeknaaagreatdoor", sum := "73dca10bfc1aa0d1182b9093729373c8176f01bc963e2bb02651b035355e468e", checked := Tryz.checked }
namespace Rows
def none {H : Type} : Left H := { results := [], args := [] }

/- WHAT THE LISTED PACKAGE-LEVEL VARIABLES READ AS WHEN THE CALL BEGINS. Each datum BY PROGRAM (the guide's laid-datum.mjs) off the statement by which the dump's own 'gosem.cut.vars' lays the variable. In a bare row this is a premise. The card (YtdbalahkmeknaaaGreatDoorCards.lean) ties it to the program's text. -/
def laid_unicode_utf8_acceptRanges {H : Type} : DataW H := .agg [.agg [.lit (.int .u8 128), .lit (.int .u8 191)], .agg [.lit (.int .u8 160), .lit (.int .u8 191)], .agg [.lit (.int .u8 128), .lit (.int .u8 159)], .agg [.lit (.int .u8 144), .lit (.int .u8 191)], .agg [.lit (.int .u8 128), .lit (.int .u8 143)], .agg [.lit (.int .u8 0), .lit (.int .u8 0)], .agg [.lit (.int .u8 0), .lit (.int .u8 0)], .agg [.lit (.int .u8 0), .lit (.int .u8 0)], .agg [.lit (.int .u8 0), .lit (.int .u8 0)], .agg [.lit (.int .u8 0), .lit (.int .u8 0)], .agg [.lit (.int .u8 0), .lit (.int .u8 0)], .agg [.lit (.int .u8 0), .lit (.int .u8 0)], .agg [.lit (.int .u8 0), .lit (.int .u8 0)], .agg [.lit (.int .u8 0), .lit (.int .u8 0)], .agg [.lit (.int .u8 0), .lit (.int .u8 0)], .agg [.lit (.int .u8 0), .lit (.int .u8 0)]]
/-- One of Go's own tables, pinned by name: the form's constant. -/
def laid_unicode_utf8_first : DataW Unit := Go.Pinned.utf8First

/-- 'rosterlaw15.WinfoPrints': WHATEVER THE INPUT: true; the input reads as it did. -/
def winfoPrintsSpec : ChangeSpec := { name := "winfoPrints", fn := fun _ => fun
  | [d] => { results := [.lit (.bool true)], args := [d] }
  | _ => none }
def winfoPrintsRow : OpenClaim := { program := "ytdbalahkmeknaaagreatdoor", sum := "73dca10bfc1aa0d1182b9093729373c8176f01bc963e2bb02651b035355e468e", func := "roster/rosterlaw15.WinfoPrints", spec := "winfoPrints", inPlace := ["internal/bytealg.IndexByteString", "internal/bytealg.IndexString", "internal/bytealg.CountString", "internal/abi.NoEscape"], unfollowed := true, recurses := true, named := ["internal/bytealg.MaxLen", "unicode/utf8.first", "unicode/utf8.acceptRanges"], apart := false, laid := [("unicode/utf8.acceptRanges", laid_unicode_utf8_acceptRanges), ("unicode/utf8.first", laid_unicode_utf8_first)] }
def WinfoPrintsSaid : Prop := winfoPrintsRow.holds Tryz.pinned (OpenSpec.ofChange winfoPrintsSpec)

/-- ITS FALSE NEIGHBOUR: 'it returns false'. Refute it at one input. -/
def winfoPrintsWrong : ChangeSpec := { name := "winfoPrints", fn := fun _ => fun
  | [d] => { results := [.lit (.bool false)], args := [d] }
  | _ => none }
def WinfoPrintsWrongFalsely : Prop := winfoPrintsRow.holds Tryz.pinned (OpenSpec.ofChange winfoPrintsWrong)

/-- 'rosterlaw15.WinfoParses': WHATEVER THE INPUT: true; the input reads as it did. -/
def winfoParsesSpec : ChangeSpec := { name := "winfoParses", fn := fun _ => fun
  | [d] => { results := [.lit (.bool true)], args := [d] }
  | _ => none }
def winfoParsesRow : OpenClaim := { program := "ytdbalahkmeknaaagreatdoor", sum := "73dca10bfc1aa0d1182b9093729373c8176f01bc963e2bb02651b035355e468e", func := "roster/rosterlaw15.WinfoParses", spec := "winfoParses", inPlace := ["internal/bytealg.IndexByteString", "internal/bytealg.IndexString", "internal/bytealg.CountString", "internal/abi.NoEscape"], unfollowed := true, recurses := true, named := ["unicode/utf8.first", "unicode/utf8.acceptRanges", "internal/bytealg.MaxLen"], apart := false, laid := [("unicode/utf8.acceptRanges", laid_unicode_utf8_acceptRanges), ("unicode/utf8.first", laid_unicode_utf8_first)] }
def WinfoParsesSaid : Prop := winfoParsesRow.holds Tryz.pinned (OpenSpec.ofChange winfoParsesSpec)

/-- ITS FALSE NEIGHBOUR: 'it returns false'. Refute it at one input. -/
def winfoParsesWrong : ChangeSpec := { name := "winfoParses", fn := fun _ => fun
  | [d] => { results := [.lit (.bool false)], args := [d] }
  | _ => none }
def WinfoParsesWrongFalsely : Prop := winfoParsesRow.holds Tryz.pinned (OpenSpec.ofChange winfoParsesWrong)

/-- 'rosterlaw15.WinfoBack': WHATEVER THE INPUT: true; the input reads as it did. -/
def winfoBackSpec : ChangeSpec := { name := "winfoBack", fn := fun _ => fun
  | [d] => { results := [.lit (.bool true)], args := [d] }
  | _ => none }
def winfoBackRow : OpenClaim := { program := "ytdbalahkmeknaaagreatdoor", sum := "73dca10bfc1aa0d1182b9093729373c8176f01bc963e2bb02651b035355e468e", func := "roster/rosterlaw15.WinfoBack", spec := "winfoBack", inPlace := ["internal/bytealg.IndexByteString", "internal/bytealg.IndexString", "internal/bytealg.CountString", "internal/abi.NoEscape"], unfollowed := true, recurses := true, named := ["internal/bytealg.MaxLen", "unicode/utf8.first", "unicode/utf8.acceptRanges"], apart := false, laid := [("unicode/utf8.acceptRanges", laid_unicode_utf8_acceptRanges), ("unicode/utf8.first", laid_unicode_utf8_first)] }
def WinfoBackSaid : Prop := winfoBackRow.holds Tryz.pinned (OpenSpec.ofChange winfoBackSpec)

/-- ITS FALSE NEIGHBOUR: 'it returns false'. Refute it at one input. -/
def winfoBackWrong : ChangeSpec := { name := "winfoBack", fn := fun _ => fun
  | [d] => { results := [.lit (.bool false)], args := [d] }
  | _ => none }
def WinfoBackWrongFalsely : Prop := winfoBackRow.holds Tryz.pinned (OpenSpec.ofChange winfoBackWrong)

/-- 'rosterlaw15.WinfoOnce': WHATEVER THE INPUT: true; the input reads as it did. -/
def winfoOnceSpec : ChangeSpec := { name := "winfoOnce", fn := fun _ => fun
  | [d] => { results := [.lit (.bool true)], args := [d] }
  | _ => none }
def winfoOnceRow : OpenClaim := { program := "ytdbalahkmeknaaagreatdoor", sum := "73dca10bfc1aa0d1182b9093729373c8176f01bc963e2bb02651b035355e468e", func := "roster/rosterlaw15.WinfoOnce", spec := "winfoOnce", inPlace := ["internal/bytealg.IndexByteString", "internal/bytealg.IndexString", "internal/bytealg.CountString", "internal/abi.NoEscape"], unfollowed := true, recurses := true, named := ["unicode/utf8.first", "unicode/utf8.acceptRanges", "internal/bytealg.MaxLen"], apart := false, laid := [("unicode/utf8.acceptRanges", laid_unicode_utf8_acceptRanges), ("unicode/utf8.first", laid_unicode_utf8_first)] }
def WinfoOnceSaid : Prop := winfoOnceRow.holds Tryz.pinned (OpenSpec.ofChange winfoOnceSpec)

/-- ITS FALSE NEIGHBOUR: 'it returns false'. Refute it at one input. -/
def winfoOnceWrong : ChangeSpec := { name := "winfoOnce", fn := fun _ => fun
  | [d] => { results := [.lit (.bool false)], args := [d] }
  | _ => none }
def WinfoOnceWrongFalsely : Prop := winfoOnceRow.holds Tryz.pinned (OpenSpec.ofChange winfoOnceWrong)

/-- 'rosterlaw15.WinfoEach': WHATEVER THE INPUT: true; the input reads as it did. -/
def winfoEachSpec : ChangeSpec := { name := "winfoEach", fn := fun _ => fun
  | [d] => { results := [.lit (.bool true)], args := [d] }
  | _ => none }
def winfoEachRow : OpenClaim := { program := "ytdbalahkmeknaaagreatdoor", sum := "73dca10bfc1aa0d1182b9093729373c8176f01bc963e2bb02651b035355e468e", func := "roster/rosterlaw15.WinfoEach", spec := "winfoEach", inPlace := ["internal/bytealg.IndexByteString", "internal/bytealg.IndexString", "internal/bytealg.CountString", "internal/abi.NoEscape"], unfollowed := true, recurses := true, named := ["internal/bytealg.MaxLen", "unicode/utf8.first", "unicode/utf8.acceptRanges"], apart := false, laid := [("unicode/utf8.acceptRanges", laid_unicode_utf8_acceptRanges), ("unicode/utf8.first", laid_unicode_utf8_first)] }
def WinfoEachSaid : Prop := winfoEachRow.holds Tryz.pinned (OpenSpec.ofChange winfoEachSpec)

/-- ITS FALSE NEIGHBOUR: 'it returns false'. Refute it at one input. -/
def winfoEachWrong : ChangeSpec := { name := "winfoEach", fn := fun _ => fun
  | [d] => { results := [.lit (.bool false)], args := [d] }
  | _ => none }
def WinfoEachWrongFalsely : Prop := winfoEachRow.holds Tryz.pinned (OpenSpec.ofChange winfoEachWrong)

/- THE SECOND FORM. 'bulk': how many values and letters a reading holds, each counted each time it is reached (what is shared counts as often as it is met; a slice's spare places count too). A statement '..UptoSaid' is the law's where the arguments, and the package variables that the reading takes, are together of bulk at most 1048576: NARROWER than '..Said'. Prove '..Said' where nothing that the law and all that it calls make is longer than what came in: it says more and counts as full. Else prove '..UptoSaid'. A law counts once. -/
mutual
def uptoBulk {H : Type} : DataW H → Nat
  | .lit (.string bytes) => bytes.length + 1
  | .lit _ => 1
  | .nil => 1
  | .ptr d => uptoBulk d + 1
  | .slice elems spare => uptoBulkAll elems + uptoBulkAll spare + 1
  | .agg parts => uptoBulkAll parts + 1
  | .iface _ d => uptoBulk d + 1
  | .map entries => uptoBulkEntries entries + 1
  | .held _ => 1
def uptoBulkAll {H : Type} : List (DataW H) → Nat
  | [] => 0
  | d :: r => uptoBulk d + uptoBulkAll r
def uptoBulkEntries {H : Type} : List (Lit × DataW H) → Nat
  | [] => 0
  | x :: r => uptoBulkEntry x + uptoBulkEntries r
def uptoBulkEntry {H : Type} : Lit × DataW H → Nat
  | (.string bytes, d) => bytes.length + uptoBulk d + 1
  | (_, d) => uptoBulk d + 1
 end
def uptoSmall : (H : Type) → List (DataW H) → Bool := fun _ ds => decide (uptoBulkAll ds ≤ 1048576)
def OpenSpec.upto (s : _root_.Go.ChangeSpec) : _root_.Go.OpenSpec := { _root_.Go.OpenSpec.ofChange s with cond := some uptoSmall }

/-- 'rosterlaw15.WinfoPrints', WHERE WHAT IT READS IS OF BULK AT MOST 1048576: true; the input reads as it did. -/
def winfoPrintsUptoRow : OpenClaim := { program := "ytdbalahkmeknaaagreatdoor", sum := "73dca10bfc1aa0d1182b9093729373c8176f01bc963e2bb02651b035355e468e", func := "roster/rosterlaw15.WinfoPrints", spec := "winfoPrints", inPlace := ["internal/bytealg.IndexByteString", "internal/bytealg.IndexString", "internal/bytealg.CountString", "internal/abi.NoEscape"], unfollowed := true, recurses := true, named := ["internal/bytealg.MaxLen", "unicode/utf8.first", "unicode/utf8.acceptRanges"], apart := false, laid := [("unicode/utf8.acceptRanges", laid_unicode_utf8_acceptRanges), ("unicode/utf8.first", laid_unicode_utf8_first)], narrowed := true }
def WinfoPrintsUptoSaid : Prop := winfoPrintsUptoRow.holds Tryz.pinned (OpenSpec.upto winfoPrintsSpec)

/-- 'rosterlaw15.WinfoParses', WHERE WHAT IT READS IS OF BULK AT MOST 1048576: true; the input reads as it did. -/
def winfoParsesUptoRow : OpenClaim := { program := "ytdbalahkmeknaaagreatdoor", sum := "73dca10bfc1aa0d1182b9093729373c8176f01bc963e2bb02651b035355e468e", func := "roster/rosterlaw15.WinfoParses", spec := "winfoParses", inPlace := ["internal/bytealg.IndexByteString", "internal/bytealg.IndexString", "internal/bytealg.CountString", "internal/abi.NoEscape"], unfollowed := true, recurses := true, named := ["unicode/utf8.first", "unicode/utf8.acceptRanges", "internal/bytealg.MaxLen"], apart := false, laid := [("unicode/utf8.acceptRanges", laid_unicode_utf8_acceptRanges), ("unicode/utf8.first", laid_unicode_utf8_first)], narrowed := true }
def WinfoParsesUptoSaid : Prop := winfoParsesUptoRow.holds Tryz.pinned (OpenSpec.upto winfoParsesSpec)

/-- 'rosterlaw15.WinfoBack', WHERE WHAT IT READS IS OF BULK AT MOST 1048576: true; the input reads as it did. -/
def winfoBackUptoRow : OpenClaim := { program := "ytdbalahkmeknaaagreatdoor", sum := "73dca10bfc1aa0d1182b9093729373c8176f01bc963e2bb02651b035355e468e", func := "roster/rosterlaw15.WinfoBack", spec := "winfoBack", inPlace := ["internal/bytealg.IndexByteString", "internal/bytealg.IndexString", "internal/bytealg.CountString", "internal/abi.NoEscape"], unfollowed := true, recurses := true, named := ["internal/bytealg.MaxLen", "unicode/utf8.first", "unicode/utf8.acceptRanges"], apart := false, laid := [("unicode/utf8.acceptRanges", laid_unicode_utf8_acceptRanges), ("unicode/utf8.first", laid_unicode_utf8_first)], narrowed := true }
def WinfoBackUptoSaid : Prop := winfoBackUptoRow.holds Tryz.pinned (OpenSpec.upto winfoBackSpec)

/-- 'rosterlaw15.WinfoOnce', WHERE WHAT IT READS IS OF BULK AT MOST 1048576: true; the input reads as it did. -/
def winfoOnceUptoRow : OpenClaim := { program := "ytdbalahkmeknaaagreatdoor", sum := "73dca10bfc1aa0d1182b9093729373c8176f01bc963e2bb02651b035355e468e", func := "roster/rosterlaw15.WinfoOnce", spec := "winfoOnce", inPlace := ["internal/bytealg.IndexByteString", "internal/bytealg.IndexString", "internal/bytealg.CountString", "internal/abi.NoEscape"], unfollowed := true, recurses := true, named := ["unicode/utf8.first", "unicode/utf8.acceptRanges", "internal/bytealg.MaxLen"], apart := false, laid := [("unicode/utf8.acceptRanges", laid_unicode_utf8_acceptRanges), ("unicode/utf8.first", laid_unicode_utf8_first)], narrowed := true }
def WinfoOnceUptoSaid : Prop := winfoOnceUptoRow.holds Tryz.pinned (OpenSpec.upto winfoOnceSpec)

/-- 'rosterlaw15.WinfoEach', WHERE WHAT IT READS IS OF BULK AT MOST 1048576: true; the input reads as it did. -/
def winfoEachUptoRow : OpenClaim := { program := "ytdbalahkmeknaaagreatdoor", sum := "73dca10bfc1aa0d1182b9093729373c8176f01bc963e2bb02651b035355e468e", func := "roster/rosterlaw15.WinfoEach", spec := "winfoEach", inPlace := ["internal/bytealg.IndexByteString", "internal/bytealg.IndexString", "internal/bytealg.CountString", "internal/abi.NoEscape"], unfollowed := true, recurses := true, named := ["internal/bytealg.MaxLen", "unicode/utf8.first", "unicode/utf8.acceptRanges"], apart := false, laid := [("unicode/utf8.acceptRanges", laid_unicode_utf8_acceptRanges), ("unicode/utf8.first", laid_unicode_utf8_first)], narrowed := true }
def WinfoEachUptoSaid : Prop := winfoEachUptoRow.holds Tryz.pinned (OpenSpec.upto winfoEachSpec)

end Rows
end Go.Proofs.YtdbalahkmeknaaaGreatDoor
