/-
  NARROWER THAN 'FOR EVERY INPUT', by the rows' own cells (each row's printed sentence says how): SameEquals: laid · SameWho: laid · SameTurns: laid · SameOrder: laid · SamePlain: laid · SameOwn: laid.
  DERIVED. THE GIVEN ROWS OF THIS SEAT. 6 by the template 'for every input the law returns true; each argument reads behind the call as it read before'; 0 by the template 'total and deterministic' (their statements: YtnkghefcoolkoaaDoorTotals.lean).
  GIVEN WITH THE SEED: the statements are not yours to turn. If you find one false, say at which input.
  Laid BY PROGRAM, IN A SANDBOX (cutbox-rows.mjs): the forced cells as the released guide's own fill.sh prints them over the translation cea93b1e02023b4c… (all of the seat's roots in one cut). By AI agents, Wed Nov 11 2026. No macro, syntax, notation, axiom, sorry.
-/
import Derived.Test.YtnkghefcoolkoaaDoorChecked
import GoSem.PinnedTables
import GoSem.Claim
import GoSem.ClaimJoined
import GoSem.ClaimMapViews
import Derived.JoinedTies
import Derived.KernelRfl
namespace Go.Proofs.YtnkghefcoolkoaaDoor
/- THE CELL 'sum', in the pinned program and in every row, IS THE sha256 OF THE DUMP (.gsa) THAT YtnkghefcoolkoaaDoorProg.lean LOADS. Nothing in Lean hashes anything: it is a label: what it is worth is what the hold of that sum in a sandbox is worth. -/
noncomputable def Tryd.pinned : Pinned := { name := "ytnkghefcoolkoaadoor", sum := "cea93b1e02023b4cca6f45ea8c7b424ba4117bcedf16e7c26bcc9304b013e3dc", checked := Tryd.checked }
namespace Rows
def none {H : Type} : Left H := { results := [], args := [] }

/- WHAT THE LISTED PACKAGE-LEVEL VARIABLES READ AS WHEN THE CALL BEGINS. Each datum BY PROGRAM (the guide's laid-datum.mjs) off the statement by which the dump's own 'gosem.cut.vars' lays the variable. In a bare row this is a premise. The card (YtnkghefcoolkoaaDoorCards.lean) ties it to the program's text. -/
def laid_unicode_utf8_acceptRanges {H : Type} : DataW H := .agg [.agg [.lit (.int .u8 128), .lit (.int .u8 191)], .agg [.lit (.int .u8 160), .lit (.int .u8 191)], .agg [.lit (.int .u8 128), .lit (.int .u8 159)], .agg [.lit (.int .u8 144), .lit (.int .u8 191)], .agg [.lit (.int .u8 128), .lit (.int .u8 143)], .agg [.lit (.int .u8 0), .lit (.int .u8 0)], .agg [.lit (.int .u8 0), .lit (.int .u8 0)], .agg [.lit (.int .u8 0), .lit (.int .u8 0)], .agg [.lit (.int .u8 0), .lit (.int .u8 0)], .agg [.lit (.int .u8 0), .lit (.int .u8 0)], .agg [.lit (.int .u8 0), .lit (.int .u8 0)], .agg [.lit (.int .u8 0), .lit (.int .u8 0)], .agg [.lit (.int .u8 0), .lit (.int .u8 0)], .agg [.lit (.int .u8 0), .lit (.int .u8 0)], .agg [.lit (.int .u8 0), .lit (.int .u8 0)], .agg [.lit (.int .u8 0), .lit (.int .u8 0)]]
/-- One of Go's own tables, pinned by name: the form's constant. -/
def laid_unicode_utf8_first : DataW Unit := Go.Pinned.utf8First

/-- 'rosterlaw04.SameEquals': WHATEVER THE INPUT: true; the input reads as it did. -/
def sameEqualsSpec : ChangeSpec := { name := "sameEquals", fn := fun _ => fun
  | [d1, d2, d3] => { results := [.lit (.bool true)], args := [d1, d2, d3] }
  | _ => none }
def sameEqualsRow : OpenClaim := { program := "ytnkghefcoolkoaadoor", sum := "cea93b1e02023b4cca6f45ea8c7b424ba4117bcedf16e7c26bcc9304b013e3dc", func := "roster/rosterlaw04.SameEquals", spec := "sameEquals", inPlace := ["internal/bytealg.CountString", "internal/bytealg.IndexByteString", "internal/bytealg.IndexString"], named := ["unicode/utf8.first", "unicode/utf8.acceptRanges", "internal/bytealg.MaxLen"], apart := false, laid := [("unicode/utf8.acceptRanges", laid_unicode_utf8_acceptRanges), ("unicode/utf8.first", laid_unicode_utf8_first)] }
def SameEqualsSaid : Prop := sameEqualsRow.holds Tryd.pinned (OpenSpec.ofChange sameEqualsSpec)

/-- ITS FALSE NEIGHBOUR: 'it returns false'. Refute it at one input. -/
def sameEqualsWrong : ChangeSpec := { name := "sameEquals", fn := fun _ => fun
  | [d1, d2, d3] => { results := [.lit (.bool false)], args := [d1, d2, d3] }
  | _ => none }
def SameEqualsWrongFalsely : Prop := sameEqualsRow.holds Tryd.pinned (OpenSpec.ofChange sameEqualsWrong)

/-- 'rosterlaw04.SameWho': WHATEVER THE INPUT: true; the input reads as it did. -/
def sameWhoSpec : ChangeSpec := { name := "sameWho", fn := fun _ => fun
  | [d1, d2] => { results := [.lit (.bool true)], args := [d1, d2] }
  | _ => none }
def sameWhoRow : OpenClaim := { program := "ytnkghefcoolkoaadoor", sum := "cea93b1e02023b4cca6f45ea8c7b424ba4117bcedf16e7c26bcc9304b013e3dc", func := "roster/rosterlaw04.SameWho", spec := "sameWho", inPlace := ["internal/bytealg.CountString", "internal/bytealg.IndexByteString", "internal/bytealg.IndexString"], named := ["unicode/utf8.first", "unicode/utf8.acceptRanges", "internal/bytealg.MaxLen"], apart := false, laid := [("unicode/utf8.acceptRanges", laid_unicode_utf8_acceptRanges), ("unicode/utf8.first", laid_unicode_utf8_first)] }
def SameWhoSaid : Prop := sameWhoRow.holds Tryd.pinned (OpenSpec.ofChange sameWhoSpec)

/-- ITS FALSE NEIGHBOUR: 'it returns false'. Refute it at one input. -/
def sameWhoWrong : ChangeSpec := { name := "sameWho", fn := fun _ => fun
  | [d1, d2] => { results := [.lit (.bool false)], args := [d1, d2] }
  | _ => none }
def SameWhoWrongFalsely : Prop := sameWhoRow.holds Tryd.pinned (OpenSpec.ofChange sameWhoWrong)

/-- 'rosterlaw04.SameTurns': WHATEVER THE INPUT: true; the input reads as it did. -/
def sameTurnsSpec : ChangeSpec := { name := "sameTurns", fn := fun _ => fun
  | [d1, d2] => { results := [.lit (.bool true)], args := [d1, d2] }
  | _ => none }
def sameTurnsRow : OpenClaim := { program := "ytnkghefcoolkoaadoor", sum := "cea93b1e02023b4cca6f45ea8c7b424ba4117bcedf16e7c26bcc9304b013e3dc", func := "roster/rosterlaw04.SameTurns", spec := "sameTurns", inPlace := ["internal/bytealg.CountString", "internal/bytealg.IndexByteString", "internal/bytealg.IndexString"], named := ["unicode/utf8.first", "unicode/utf8.acceptRanges", "internal/bytealg.MaxLen"], apart := false, laid := [("unicode/utf8.acceptRanges", laid_unicode_utf8_acceptRanges), ("unicode/utf8.first", laid_unicode_utf8_first)] }
def SameTurnsSaid : Prop := sameTurnsRow.holds Tryd.pinned (OpenSpec.ofChange sameTurnsSpec)

/-- ITS FALSE NEIGHBOUR: 'it returns false'. Refute it at one input. -/
def sameTurnsWrong : ChangeSpec := { name := "sameTurns", fn := fun _ => fun
  | [d1, d2] => { results := [.lit (.bool false)], args := [d1, d2] }
  | _ => none }
def SameTurnsWrongFalsely : Prop := sameTurnsRow.holds Tryd.pinned (OpenSpec.ofChange sameTurnsWrong)

/-- 'rosterlaw04.SameOrder': WHATEVER THE INPUT: true; the input reads as it did. -/
def sameOrderSpec : ChangeSpec := { name := "sameOrder", fn := fun _ => fun
  | [d1, d2] => { results := [.lit (.bool true)], args := [d1, d2] }
  | _ => none }
def sameOrderRow : OpenClaim := { program := "ytnkghefcoolkoaadoor", sum := "cea93b1e02023b4cca6f45ea8c7b424ba4117bcedf16e7c26bcc9304b013e3dc", func := "roster/rosterlaw04.SameOrder", spec := "sameOrder", inPlace := ["internal/bytealg.CountString", "internal/bytealg.IndexByteString", "internal/bytealg.IndexString"], named := ["unicode/utf8.first", "unicode/utf8.acceptRanges", "internal/bytealg.MaxLen"], apart := false, laid := [("unicode/utf8.acceptRanges", laid_unicode_utf8_acceptRanges), ("unicode/utf8.first", laid_unicode_utf8_first)] }
def SameOrderSaid : Prop := sameOrderRow.holds Tryd.pinned (OpenSpec.ofChange sameOrderSpec)

/-- ITS FALSE NEIGHBOUR: 'it returns false'. Refute it at one input. -/
def sameOrderWrong : ChangeSpec := { name := "sameOrder", fn := fun _ => fun
  | [d1, d2] => { results := [.lit (.bool false)], args := [d1, d2] }
  | _ => none }
def SameOrderWrongFalsely : Prop := sameOrderRow.holds Tryd.pinned (OpenSpec.ofChange sameOrderWrong)

/-- 'rosterlaw04.SamePlain': WHATEVER THE INPUT: true; the input reads as it did. -/
def samePlainSpec : ChangeSpec := { name := "samePlain", fn := fun _ => fun
  | [d1, d2] => { results := [.lit (.bool true)], args := [d1, d2] }
  | _ => none }
def samePlainRow : OpenClaim := { program := "ytnkghefcoolkoaadoor", sum := "cea93b1e02023b4cca6f45ea8c7b424ba4117bcedf16e7c26bcc9304b013e3dc", func := "roster/rosterlaw04.SamePlain", spec := "samePlain", inPlace := ["internal/bytealg.CountString", "internal/bytealg.IndexByteString", "internal/bytealg.IndexString"], named := ["unicode/utf8.first", "unicode/utf8.acceptRanges", "internal/bytealg.MaxLen"], apart := false, laid := [("unicode/utf8.acceptRanges", laid_unicode_utf8_acceptRanges), ("unicode/utf8.first", laid_unicode_utf8_first)] }
def SamePlainSaid : Prop := samePlainRow.holds Tryd.pinned (OpenSpec.ofChange samePlainSpec)

/-- ITS FALSE NEIGHBOUR: 'it returns false'. Refute it at one input. -/
def samePlainWrong : ChangeSpec := { name := "samePlain", fn := fun _ => fun
  | [d1, d2] => { results := [.lit (.bool false)], args := [d1, d2] }
  | _ => none }
def SamePlainWrongFalsely : Prop := samePlainRow.holds Tryd.pinned (OpenSpec.ofChange samePlainWrong)

/-- 'rosterlaw04.SameOwn': WHATEVER THE INPUT: true; the input reads as it did. -/
def sameOwnSpec : ChangeSpec := { name := "sameOwn", fn := fun _ => fun
  | [d1, d2] => { results := [.lit (.bool true)], args := [d1, d2] }
  | _ => none }
def sameOwnRow : OpenClaim := { program := "ytnkghefcoolkoaadoor", sum := "cea93b1e02023b4cca6f45ea8c7b424ba4117bcedf16e7c26bcc9304b013e3dc", func := "roster/rosterlaw04.SameOwn", spec := "sameOwn", inPlace := ["internal/bytealg.CountString", "internal/bytealg.IndexByteString", "internal/bytealg.IndexString"], named := ["unicode/utf8.first", "unicode/utf8.acceptRanges", "internal/bytealg.MaxLen"], apart := false, laid := [("unicode/utf8.acceptRanges", laid_unicode_utf8_acceptRanges), ("unicode/utf8.first", laid_unicode_utf8_first)] }
def SameOwnSaid : Prop := sameOwnRow.holds Tryd.pinned (OpenSpec.ofChange sameOwnSpec)

/-- ITS FALSE NEIGHBOUR: 'it returns false'. Refute it at one input. -/
def sameOwnWrong : ChangeSpec := { name := "sameOwn", fn := fun _ => fun
  | [d1, d2] => { results := [.lit (.bool false)], args := [d1, d2] }
  | _ => none }
def SameOwnWrongFalsely : Prop := sameOwnRow.holds Tryd.pinned (OpenSpec.ofChange sameOwnWrong)

/- THE SECOND FORM. 'bulk': how many values and letters a reading holds, each counted each time it is reached (what is shared counts as often as it is met; a slice's spare places count too). A statement '..UptoSaid' is the law's where the arguments, and the package variables that the reading takes, are together of bulk at most 1048576: NARROWER than '..Said'. Prove '..Said' where nothing that the law and all that it calls make is longer than what came in: it says more and counts as full. Else prove '..UptoSaid'. A law counts once. -/
mutual
def uptoBulk {H : Type} : DataW H → Nat
  | .lit (.string bytes) => bytes.length + 1
  | .lit _ => 1
  | .nil => 1
  | .ptr d => uptoBulk d + 1
  | .slice elems spare => uptoBulkAll elems + uptoBulkAll spare + 1
  | .agg parts => uptoBulkAll parts + 1
  | .iface _ d => uptoBulk d + 1
  | .map entries => uptoBulkEntries entries + 1
  | .held _ => 1
def uptoBulkAll {H : Type} : List (DataW H) → Nat
  | [] => 0
  | d :: r => uptoBulk d + uptoBulkAll r
def uptoBulkEntries {H : Type} : List (Lit × DataW H) → Nat
  | [] => 0
  | x :: r => uptoBulkEntry x + uptoBulkEntries r
def uptoBulkEntry {H : Type} : Lit × DataW H → Nat
  | (.string bytes, d) => bytes.length + uptoBulk d + 1
  | (_, d) => uptoBulk d + 1
 end
def uptoSmall : (H : Type) → List (DataW H) → Bool := fun _ ds => decide (uptoBulkAll ds ≤ 1048576)
def OpenSpec.upto (s : _root_.Go.ChangeSpec) : _root_.Go.OpenSpec := { _root_.Go.OpenSpec.ofChange s with cond := some uptoSmall }

/-- 'rosterlaw04.SameEquals', WHERE WHAT IT READS IS OF BULK AT MOST 1048576: true; the input reads as it did. -/
def sameEqualsUptoRow : OpenClaim := { program := "ytnkghefcoolkoaadoor", sum := "cea93b1e02023b4cca6f45ea8c7b424ba4117bcedf16e7c26bcc9304b013e3dc", func := "roster/rosterlaw04.SameEquals", spec := "sameEquals", inPlace := ["internal/bytealg.CountString", "internal/bytealg.IndexByteString", "internal/bytealg.IndexString"], named := ["unicode/utf8.first", "unicode/utf8.acceptRanges", "internal/bytealg.MaxLen"], apart := false, laid := [("unicode/utf8.acceptRanges", laid_unicode_utf8_acceptRanges), ("unicode/utf8.first", laid_unicode_utf8_first)], narrowed := true }
def SameEqualsUptoSaid : Prop := sameEqualsUptoRow.holds Tryd.pinned (OpenSpec.upto sameEqualsSpec)

/-- 'rosterlaw04.SameWho', WHERE WHAT IT READS IS OF BULK AT MOST 1048576: true; the input reads as it did. -/
def sameWhoUptoRow : OpenClaim := { program := "ytnkghefcoolkoaadoor", sum := "cea93b1e02023b4cca6f45ea8c7b424ba4117bcedf16e7c26bcc9304b013e3dc", func := "roster/rosterlaw04.SameWho", spec := "sameWho", inPlace := ["internal/bytealg.CountString", "internal/bytealg.IndexByteString", "internal/bytealg.IndexString"], named := ["unicode/utf8.first", "unicode/utf8.acceptRanges", "internal/bytealg.MaxLen"], apart := false, laid := [("unicode/utf8.acceptRanges", laid_unicode_utf8_acceptRanges), ("unicode/utf8.first", laid_unicode_utf8_first)], narrowed := true }
def SameWhoUptoSaid : Prop := sameWhoUptoRow.holds Tryd.pinned (OpenSpec.upto sameWhoSpec)

/-- 'rosterlaw04.SameTurns', WHERE WHAT IT READS IS OF BULK AT MOST 1048576: true; the input reads as it did. -/
def sameTurnsUptoRow : OpenClaim := { program := "ytnkghefcoolkoaadoor", sum := "cea93b1e02023b4cca6f45ea8c7b424ba4117bcedf16e7c26bcc9304b013e3dc", func := "roster/rosterlaw04.SameTurns", spec := "sameTurns", inPlace := ["internal/bytealg.CountString", "internal/bytealg.IndexByteString", "internal/bytealg.IndexString"], named := ["unicode/utf8.first", "unicode/utf8.acceptRanges", "internal/bytealg.MaxLen"], apart := false, laid := [("unicode/utf8.acceptRanges", laid_unicode_utf8_acceptRanges), ("unicode/utf8.first", laid_unicode_utf8_first)], narrowed := true }
def SameTurnsUptoSaid : Prop := sameTurnsUptoRow.holds Tryd.pinned (OpenSpec.upto sameTurnsSpec)

/-- 'rosterlaw04.SameOrder', WHERE WHAT IT READS IS OF BULK AT MOST 1048576: true; the input reads as it did. -/
def sameOrderUptoRow : OpenClaim := { program := "ytnkghefcoolkoaadoor", sum := "cea93b1e02023b4cca6f45ea8c7b424ba4117bcedf16e7c26bcc9304b013e3dc", func := "roster/rosterlaw04.SameOrder", spec := "sameOrder", inPlace := ["internal/bytealg.CountString", "internal/bytealg.IndexByteString", "internal/bytealg.IndexString"], named := ["unicode/utf8.first", "unicode/utf8.acceptRanges", "internal/bytealg.MaxLen"], apart := false, laid := [("unicode/utf8.acceptRanges", laid_unicode_utf8_acceptRanges), ("unicode/utf8.first", laid_unicode_utf8_first)], narrowed := true }
def SameOrderUptoSaid : Prop := sameOrderUptoRow.holds Tryd.pinned (OpenSpec.upto sameOrderSpec)

/-- 'rosterlaw04.SamePlain', WHERE WHAT IT READS IS OF BULK AT MOST 1048576: true; the input reads as it did. -/
def samePlainUptoRow : OpenClaim := { program := "ytnkghefcoolkoaadoor", sum := "cea93b1e02023b4cca6f45ea8c7b424ba4117bcedf16e7c26bcc9304b013e3dc", func := "roster/rosterlaw04.SamePlain", spec := "samePlain", inPlace := ["internal/bytealg.CountString", "internal/bytealg.IndexByteString", "internal/bytealg.IndexString"], named := ["unicode/utf8.first", "unicode/utf8.acceptRanges", "internal/bytealg.MaxLen"], apart := false, laid := [("unicode/utf8.acceptRanges", laid_unicode_utf8_acceptRanges), ("unicode/utf8.first", laid_unicode_utf8_first)], narrowed := true }
def SamePlainUptoSaid : Prop := samePlainUptoRow.holds Tryd.pinned (OpenSpec.upto samePlainSpec)

/-- 'rosterlaw04.SameOwn', WHERE WHAT IT READS IS OF BULK AT MOST 1048576: true; the input reads as it did. -/
def sameOwnUptoRow : OpenClaim := { program := "ytnkghefcoolkoaadoor", sum := "cea93b1e02023b4cca6f45ea8c7b424ba4117bcedf16e7c26bcc9304b013e3dc", func := "roster/rosterlaw04.SameOwn", spec := "sameOwn", inPlace := ["internal/bytealg.CountString", "internal/bytealg.IndexByteString", "internal/bytealg.IndexString"], named := ["unicode/utf8.first", "unicode/utf8.acceptRanges", "internal/bytealg.MaxLen"], apart := false, laid := [("unicode/utf8.acceptRanges", laid_unicode_utf8_acceptRanges), ("unicode/utf8.first", laid_unicode_utf8_first)], narrowed := true }
def SameOwnUptoSaid : Prop := sameOwnUptoRow.holds Tryd.pinned (OpenSpec.upto sameOwnSpec)

end Rows
end Go.Proofs.YtnkghefcoolkoaaDoor
