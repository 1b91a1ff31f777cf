/-
  No cell of these rows narrows 'for every input' (looked for: loops, veiled, ifaces, maps, wideKeys, modest, calm, conditions, laid).
  DERIVED. THE GIVEN ROWS OF THIS SEAT. 6 by the template 'for every input the law returns true; each argument reads behind the call as it read before'; 0 by the template 'total and deterministic' (their statements: YtbnmdljlfldgoaaTotals.lean).
  GIVEN WITH THE SEED: the statements are not yours to turn. If you find one false, say at which input.
  Laid BY PROGRAM, IN A SANDBOX (cutbox-rows.mjs): the forced cells as the released guide's own fill.sh prints them over the translation 7dab0403bafe3531… (all of the seat's roots in one cut). By AI agents, Wed Nov 11 2026. No macro, syntax, notation, axiom, sorry.
-/
import Derived.Test.YtbnmdljlfldgoaaChecked
import GoSem.Claim
import GoSem.ClaimJoined
import GoSem.ClaimMapViews
import Derived.JoinedTies
import Derived.KernelRfl
namespace Go.Proofs.Ytbnmdljlfldgoaa
/- THE CELL 'sum', in the pinned program and in every row, IS THE sha256 OF THE DUMP (.gsa) THAT YtbnmdljlfldgoaaProg.lean LOADS. Nothing in Lean hashes anything: it is a label: what it is worth is what the hold of that sum in a sandbox is worth. -/
noncomputable def Try.pinned : Pinned := { name := "ytbnmdljlfldgoaa", sum := "7dab0403bafe3531ca6aadd351565fdd68205c47f191c823ac4e965170aa1df1", checked := Try.checked }
namespace Rows
def none {H : Type} : Left H := { results := [], args := [] }

/-- 'rosterlaw11.ServerPlays': WHATEVER THE INPUT: true; the input reads as it did. -/
def serverPlaysSpec : ChangeSpec := { name := "serverPlays", fn := fun _ => fun
  | [d1, d2] => { results := [.lit (.bool true)], args := [d1, d2] }
  | _ => none }
def serverPlaysRow : OpenClaim := { program := "ytbnmdljlfldgoaa", sum := "7dab0403bafe3531ca6aadd351565fdd68205c47f191c823ac4e965170aa1df1", func := "roster/rosterlaw11.ServerPlays", spec := "serverPlays", unfollowed := true, recurses := true, plainKeys := false, apart := false }
def ServerPlaysSaid : Prop := serverPlaysRow.holds Try.pinned (OpenSpec.ofChange serverPlaysSpec)

/-- ITS FALSE NEIGHBOUR: 'it returns false'. Refute it at one input. -/
def serverPlaysWrong : ChangeSpec := { name := "serverPlays", fn := fun _ => fun
  | [d1, d2] => { results := [.lit (.bool false)], args := [d1, d2] }
  | _ => none }
def ServerPlaysWrongFalsely : Prop := serverPlaysRow.holds Try.pinned (OpenSpec.ofChange serverPlaysWrong)

/-- 'rosterlaw11.ServerAgain': WHATEVER THE INPUT: true; the input reads as it did. -/
def serverAgainSpec : ChangeSpec := { name := "serverAgain", fn := fun _ => fun
  | [d1, d2, d3, d4, d5, d6, d7] => { results := [.lit (.bool true)], args := [d1, d2, d3, d4, d5, d6, d7] }
  | _ => none }
def serverAgainRow : OpenClaim := { program := "ytbnmdljlfldgoaa", sum := "7dab0403bafe3531ca6aadd351565fdd68205c47f191c823ac4e965170aa1df1", func := "roster/rosterlaw11.ServerAgain", spec := "serverAgain", unfollowed := true, recurses := true, plainKeys := false, apart := false }
def ServerAgainSaid : Prop := serverAgainRow.holds Try.pinned (OpenSpec.ofChange serverAgainSpec)

/-- ITS FALSE NEIGHBOUR: 'it returns false'. Refute it at one input. -/
def serverAgainWrong : ChangeSpec := { name := "serverAgain", fn := fun _ => fun
  | [d1, d2, d3, d4, d5, d6, d7] => { results := [.lit (.bool false)], args := [d1, d2, d3, d4, d5, d6, d7] }
  | _ => none }
def ServerAgainWrongFalsely : Prop := serverAgainRow.holds Try.pinned (OpenSpec.ofChange serverAgainWrong)

/-- 'rosterlaw11.ServerFull': WHATEVER THE INPUT: true; the input reads as it did. -/
def serverFullSpec : ChangeSpec := { name := "serverFull", fn := fun _ => fun
  | [d1, d2, d3] => { results := [.lit (.bool true)], args := [d1, d2, d3] }
  | _ => none }
def serverFullRow : OpenClaim := { program := "ytbnmdljlfldgoaa", sum := "7dab0403bafe3531ca6aadd351565fdd68205c47f191c823ac4e965170aa1df1", func := "roster/rosterlaw11.ServerFull", spec := "serverFull", unfollowed := true, recurses := true, plainKeys := false, apart := false }
def ServerFullSaid : Prop := serverFullRow.holds Try.pinned (OpenSpec.ofChange serverFullSpec)

/-- ITS FALSE NEIGHBOUR: 'it returns false'. Refute it at one input. -/
def serverFullWrong : ChangeSpec := { name := "serverFull", fn := fun _ => fun
  | [d1, d2, d3] => { results := [.lit (.bool false)], args := [d1, d2, d3] }
  | _ => none }
def ServerFullWrongFalsely : Prop := serverFullRow.holds Try.pinned (OpenSpec.ofChange serverFullWrong)

/-- 'rosterlaw11.ServerNobody': WHATEVER THE INPUT: true; the input reads as it did. -/
def serverNobodySpec : ChangeSpec := { name := "serverNobody", fn := fun _ => fun
  | [d] => { results := [.lit (.bool true)], args := [d] }
  | _ => none }
def serverNobodyRow : OpenClaim := { program := "ytbnmdljlfldgoaa", sum := "7dab0403bafe3531ca6aadd351565fdd68205c47f191c823ac4e965170aa1df1", func := "roster/rosterlaw11.ServerNobody", spec := "serverNobody", unfollowed := true, recurses := true, plainKeys := false, apart := false }
def ServerNobodySaid : Prop := serverNobodyRow.holds Try.pinned (OpenSpec.ofChange serverNobodySpec)

/-- ITS FALSE NEIGHBOUR: 'it returns false'. Refute it at one input. -/
def serverNobodyWrong : ChangeSpec := { name := "serverNobody", fn := fun _ => fun
  | [d] => { results := [.lit (.bool false)], args := [d] }
  | _ => none }
def ServerNobodyWrongFalsely : Prop := serverNobodyRow.holds Try.pinned (OpenSpec.ofChange serverNobodyWrong)

/-- 'rosterlaw11.ServerApart': WHATEVER THE INPUT: true; the input reads as it did. -/
def serverApartSpec : ChangeSpec := { name := "serverApart", fn := fun _ => fun
  | [d1, d2] => { results := [.lit (.bool true)], args := [d1, d2] }
  | _ => none }
def serverApartRow : OpenClaim := { program := "ytbnmdljlfldgoaa", sum := "7dab0403bafe3531ca6aadd351565fdd68205c47f191c823ac4e965170aa1df1", func := "roster/rosterlaw11.ServerApart", spec := "serverApart", unfollowed := true, recurses := true, plainKeys := false, apart := false }
def ServerApartSaid : Prop := serverApartRow.holds Try.pinned (OpenSpec.ofChange serverApartSpec)

/-- ITS FALSE NEIGHBOUR: 'it returns false'. Refute it at one input. -/
def serverApartWrong : ChangeSpec := { name := "serverApart", fn := fun _ => fun
  | [d1, d2] => { results := [.lit (.bool false)], args := [d1, d2] }
  | _ => none }
def ServerApartWrongFalsely : Prop := serverApartRow.holds Try.pinned (OpenSpec.ofChange serverApartWrong)

/-- 'rosterlaw11.ServerRises': WHATEVER THE INPUT: true; the input reads as it did. -/
def serverRisesSpec : ChangeSpec := { name := "serverRises", fn := fun _ => fun
  | [d1, d2] => { results := [.lit (.bool true)], args := [d1, d2] }
  | _ => none }
def serverRisesRow : OpenClaim := { program := "ytbnmdljlfldgoaa", sum := "7dab0403bafe3531ca6aadd351565fdd68205c47f191c823ac4e965170aa1df1", func := "roster/rosterlaw11.ServerRises", spec := "serverRises", unfollowed := true, recurses := true, plainKeys := false, apart := false }
def ServerRisesSaid : Prop := serverRisesRow.holds Try.pinned (OpenSpec.ofChange serverRisesSpec)

/-- ITS FALSE NEIGHBOUR: 'it returns false'. Refute it at one input. -/
def serverRisesWrong : ChangeSpec := { name := "serverRises", fn := fun _ => fun
  | [d1, d2] => { results := [.lit (.bool false)], args := [d1, d2] }
  | _ => none }
def ServerRisesWrongFalsely : Prop := serverRisesRow.holds Try.pinned (OpenSpec.ofChange serverRisesWrong)

/- THE SECOND FORM. 'bulk': how many values and letters a reading holds, each counted each time it is reached (what is shared counts as often as it is met; a slice's spare places count too). A statement '..UptoSaid' is the law's where the arguments, and the package variables that the reading takes, are together of bulk at most 1048576: NARROWER than '..Said'. Prove '..Said' where nothing that the law and all that it calls make is longer than what came in: it says more and counts as full. Else prove '..UptoSaid'. A law counts once. -/
mutual
def uptoBulk {H : Type} : DataW H → Nat
  | .lit (.string bytes) => bytes.length + 1
  | .lit _ => 1
  | .nil => 1
  | .ptr d => uptoBulk d + 1
  | .slice elems spare => uptoBulkAll elems + uptoBulkAll spare + 1
  | .agg parts => uptoBulkAll parts + 1
  | .iface _ d => uptoBulk d + 1
  | .map entries => uptoBulkEntries entries + 1
  | .held _ => 1
def uptoBulkAll {H : Type} : List (DataW H) → Nat
  | [] => 0
  | d :: r => uptoBulk d + uptoBulkAll r
def uptoBulkEntries {H : Type} : List (Lit × DataW H) → Nat
  | [] => 0
  | x :: r => uptoBulkEntry x + uptoBulkEntries r
def uptoBulkEntry {H : Type} : Lit × DataW H → Nat
  | (.string bytes, d) => bytes.length + uptoBulk d + 1
  | (_, d) => uptoBulk d + 1
 end
def uptoSmall : (H : Type) → List (DataW H) → Bool := fun _ ds => decide (uptoBulkAll ds ≤ 1048576)
def OpenSpec.upto (s : _root_.Go.ChangeSpec) : _root_.Go.OpenSpec := { _root_.Go.OpenSpec.ofChange s with cond := some uptoSmall }

/-- 'rosterlaw11.ServerPlays', WHERE WHAT IT READS IS OF BULK AT MOST 1048576: true; the input reads as it did. -/
def serverPlaysUptoRow : OpenClaim := { program := "ytbnmdljlfldgoaa", sum := "7dab0403bafe3531ca6aadd351565fdd68205c47f191c823ac4e965170aa1df1", func := "roster/rosterlaw11.ServerPlays", spec := "serverPlays", unfollowed := true, recurses := true, plainKeys := false, apart := false, narrowed := true }
def ServerPlaysUptoSaid : Prop := serverPlaysUptoRow.holds Try.pinned (OpenSpec.upto serverPlaysSpec)

/-- 'rosterlaw11.ServerAgain', WHERE WHAT IT READS IS OF BULK AT MOST 1048576: true; the input reads as it did. -/
def serverAgainUptoRow : OpenClaim := { program := "ytbnmdljlfldgoaa", sum := "7dab0403bafe3531ca6aadd351565fdd68205c47f191c823ac4e965170aa1df1", func := "roster/rosterlaw11.ServerAgain", spec := "serverAgain", unfollowed := true, recurses := true, plainKeys := false, apart := false, narrowed := true }
def ServerAgainUptoSaid : Prop := serverAgainUptoRow.holds Try.pinned (OpenSpec.upto serverAgainSpec)

/-- 'rosterlaw11.ServerFull', WHERE WHAT IT READS IS OF BULK AT MOST 1048576: true; the input reads as it did. -/
def serverFullUptoRow : OpenClaim := { program := "ytbnmdljlfldgoaa", sum := "7dab0403bafe3531ca6aadd351565fdd68205c47f191c823ac4e965170aa1df1", func := "roster/rosterlaw11.ServerFull", spec := "serverFull", unfollowed := true, recurses := true, plainKeys := false, apart := false, narrowed := true }
def ServerFullUptoSaid : Prop := serverFullUptoRow.holds Try.pinned (OpenSpec.upto serverFullSpec)

/-- 'rosterlaw11.ServerNobody', WHERE WHAT IT READS IS OF BULK AT MOST 1048576: true; the input reads as it did. -/
def serverNobodyUptoRow : OpenClaim := { program := "ytbnmdljlfldgoaa", sum := "7dab0403bafe3531ca6aadd351565fdd68205c47f191c823ac4e965170aa1df1", func := "roster/rosterlaw11.ServerNobody", spec := "serverNobody", unfollowed := true, recurses := true, plainKeys := false, apart := false, narrowed := true }
def ServerNobodyUptoSaid : Prop := serverNobodyUptoRow.holds Try.pinned (OpenSpec.upto serverNobodySpec)

/-- 'rosterlaw11.ServerApart', WHERE WHAT IT READS IS OF BULK AT MOST 1048576: true; the input reads as it did. -/
def serverApartUptoRow : OpenClaim := { program := "ytbnmdljlfldgoaa", sum := "7dab0403bafe3531ca6aadd351565fdd68205c47f191c823ac4e965170aa1df1", func := "roster/rosterlaw11.ServerApart", spec := "serverApart", unfollowed := true, recurses := true, plainKeys := false, apart := false, narrowed := true }
def ServerApartUptoSaid : Prop := serverApartUptoRow.holds Try.pinned (OpenSpec.upto serverApartSpec)

/-- 'rosterlaw11.ServerRises', WHERE WHAT IT READS IS OF BULK AT MOST 1048576: true; the input reads as it did. -/
def serverRisesUptoRow : OpenClaim := { program := "ytbnmdljlfldgoaa", sum := "7dab0403bafe3531ca6aadd351565fdd68205c47f191c823ac4e965170aa1df1", func := "roster/rosterlaw11.ServerRises", spec := "serverRises", unfollowed := true, recurses := true, plainKeys := false, apart := false, narrowed := true }
def ServerRisesUptoSaid : Prop := serverRisesUptoRow.holds Try.pinned (OpenSpec.upto serverRisesSpec)

end Rows
end Go.Proofs.Ytbnmdljlfldgoaa
