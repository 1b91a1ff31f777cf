/-
  Base texts, one behind another: WrittenL, Params, PListL, OpenUri.
-/
import Derived.Test.YtagopboofmjnfaaDoorFE
import Derived.Test.YtagopboofmjnfaaDoorFC
import Derived.Deep.QuietTactic
import Derived.BigQuiet
import Derived.Laws.StructEq
import Derived.ChangeKeysEq
import Derived.Test.YtagopboofmjnfaaDoorFD
import Derived.Deep.Slices
import Derived.ChangeArms

/-
  What a text stands for that may be written with some signs; parameters of texts. Plain functions on lists of bytes.
-/
namespace Go.Proofs.YtagopboofmjnfaaDoor
open Go.RowKit Sc
set_option linter.unusedVariables false
set_option maxRecDepth 20000

def okw (keep : List UInt8) (b : UInt8) : Bool := b == 37 || (isB b.toNat 16 || hasL b keep)
def writtenV (keep l : List UInt8) : List UInt8 × Bool := if l.all (okw keep) = true then ((unescV l).1, (unescV l).2 == 0) else ([], false)
structure Par where
  name : List UInt8
  value : List UInt8
  has : Bool
deriving DecidableEq
def parCells (p : Par) : List Value := [.string ⟨p.name.toArray⟩, .string ⟨p.value.toArray⟩, .bool p.has]
def parOf (keep l : List UInt8) : Option Par :=
  if (writtenV keep (cutL 61 l).1).2 = true ∧ (writtenV keep (cutL 61 l).2.1).2 = true then some ⟨(writtenV keep (cutL 61 l).1).1, (writtenV keep (cutL 61 l).2.1).1, (cutL 61 l).2.2⟩ else none
def parsOf (keep : List UInt8) : List (List UInt8) → Option (List Par)
  | [] => some []
  | l :: ls => match parOf keep l, parsOf keep ls with
    | some p, some ps => some (p :: ps)
    | _, _ => none

theorem okw_snoc {keep : List UInt8} {s : ByteArray} {k : Nat} (hk : k < s.size) (h : (s.data.toList.take k).all (okw keep) = true) (hb : okw keep s[k] = true) : (s.data.toList.take (k + 1)).all (okw keep) = true := by
  rw [take_snoc s k hk, List.all_append, h]; simp [hb]
theorem written_bad {keep : List UInt8} {s : ByteArray} {k : Nat} (hk : k < s.size) (hb : okw keep s[k] = false) : writtenV keep s.data.toList = ([], false) := by
  have : s.data.toList.all (okw keep) = false := by
    rw [List.all_eq_false]
    refine ⟨s[k], ?_, by simp [hb]⟩
    have := getL s k hk
    exact List.mem_of_getElem? this
  rw [writtenV, this]; rfl
theorem written_all {keep l : List UInt8} (h : l.all (okw keep) = true) : writtenV keep l = ((unescV l).1, (unescV l).2 == 0) := by rw [writtenV, if_pos h]

end Go.Proofs.YtagopboofmjnfaaDoor

/-
  Lists of parameters as rows of three cells each; the document's own Lists and Same.
-/
namespace Go.Proofs.YtagopboofmjnfaaDoor
open Go.RowKit Sc
set_option linter.unusedVariables false
set_option maxRecDepth 20000
set_option linter.unusedSimpArgs false

/-- Element k of the row at a holds p. -/
def ParAt (w : World) (a : Addr) (k : Nat) (p : Par) : Prop :=
  w.cell? (a.add (k * 3)) = some (.string ⟨p.name.toArray⟩) ∧ w.cell? ⟨(a.add (k * 3)).block, (a.add (k * 3)).off + 1, none⟩ = some (.string ⟨p.value.toArray⟩) ∧ w.cell? ⟨(a.add (k * 3)).block, (a.add (k * 3)).off + 2, none⟩ = some (.bool p.has)
/-- The slice v holds the parameters ps. -/
def ParsAt (w : World) (v : Value) (ps : List Par) : Prop :=
  (v = .slice none 0 0 ∧ ps = []) ∨ ∃ (a : Addr) (cap : Nat), v = .slice (some a) ps.length cap ∧ ∀ k (hk : k < ps.length), a.block < w.heap.size ∧ ParAt w a k ps[k]

theorem cell_below {B : Nat} {w w' : World} (h : Below B w w') {a : Addr} (ha : a.block < B) {v : Value} (hc : w.cell? a = some v) : w'.cell? a = some v := by
  rw [← hc]
  simp only [World.cell?]
  rw [h.block a.block ha]
theorem add_block (a : Addr) (i : Nat) : (a.add i).block = a.block := by unfold Addr.add; split <;> rfl
theorem ParAt.below {B : Nat} {w w' : World} {a : Addr} {k : Nat} {p : Par} (h : ParAt w a k p) (hb : Below B w w') (ha : a.block < B) : ParAt w' a k p :=
  ⟨cell_below hb (by rw [add_block]; exact ha) h.1, cell_below hb (by simp only [add_block]; exact ha) h.2.1, cell_below hb (by simp only [add_block]; exact ha) h.2.2⟩
theorem ParsAt.below {w w' : World} {v : Value} {ps : List Par} (h : ParsAt w v ps) (hb : Below w.heap.size w w') : ParsAt w' v ps := by
  rcases h with h | ⟨a, cap, hv, hc⟩
  · exact Or.inl h
  · exact Or.inr ⟨a, cap, hv, fun k hk => ⟨Nat.lt_of_lt_of_le (hc k hk).1 hb.size, (hc k hk).2.below hb (hc k hk).1⟩⟩
theorem ParsAt.form {w : World} {v : Value} {ps : List Par} (h : ParsAt w v ps) : ∃ a cap, v = .slice a ps.length cap := by
  rcases h with ⟨rfl, rfl⟩ | ⟨a, cap, rfl, _⟩
  · exact ⟨none, 0, rfl⟩
  · exact ⟨_, cap, rfl⟩

theorem plainStr : Tryd.prog.plainKey 9 = true := by kernel_rfl
theorem plainBool : Tryd.prog.plainKey 4 = true := by kernel_rfl
/-- A URI's parts. -/
structure Uri where
  scheme : List UInt8
  user : List UInt8
  host : List UInt8
  port : Int
  params : List Par
  headers : List Par
deriving DecidableEq
def uriV (u : Uri) (p h : Value) : Value := .agg #[.string ⟨u.scheme.toArray⟩, .string ⟨u.user.toArray⟩, .string ⟨u.host.toArray⟩, .int .i64 u.port, p, h]

theorem ParsAt.alloc {w : World} {v : Value} {ps : List Par} (h : ParsAt w v ps) (o : Obj) : ParsAt (w.alloc o) v ps := h.below ((Below.refl _ w).alloc (Nat.le_refl _) o)

end Go.Proofs.YtagopboofmjnfaaDoor

/-
  Which lists of parameters may be; which URIs. Plain functions.
-/
namespace Go.Proofs.YtagopboofmjnfaaDoor
open Go.RowKit Sc
set_option linter.unusedVariables false
set_option maxRecDepth 20000

def parB (p : Par) : Bool := decide (1 ≤ p.name.length) && (decide (p.name.length ≤ 64) && (decide (p.value.length ≤ 64) && (p.has || p.value.isEmpty)))
/-- Each stands alone by its name, as far as small letters tell. -/
def apartB (ps : List Par) (nm : List UInt8) : Bool := ps.all fun q => !sameB q.name nm
def listGo : List Par → List Par → Bool
  | _, [] => true
  | before, p :: ps => parB p && (apartB before p.name && listGo (before ++ [p]) ps)
def listB (ps : List Par) : Bool := decide (ps.length ≤ 16) && listGo [] ps
def checkV (u : Uri) : Int :=
  if schemeB u.scheme = false then 30 else if 64 < u.user.length then 31 else if hostB u.host = false then 32 else if u.port < 0 ∨ 65535 < u.port then 33
  else if listB u.params = false then 34 else if listB u.headers = false then 34 else if u.headers.all (·.has) = false then 34 else 0

theorem listGo_at (ps : List Par) (k : Nat) (hk : k < ps.length) : listGo (ps.take k) (ps.drop k) = (parB ps[k] && (apartB (ps.take k) ps[k].name && listGo (ps.take (k + 1)) (ps.drop (k + 1)))) := by
  rw [List.drop_eq_getElem_cons hk, listGo, List.take_succ_eq_append_getElem hk]

end Go.Proofs.YtagopboofmjnfaaDoor

/-
  A URI that comes in, opened: its texts, its port, its two lists of parameters.
-/
namespace Go.Proofs.YtagopboofmjnfaaDoor
open Go.RowKit Go.ChangeShapes Go.WideShapes Go.Deep
set_option linter.unusedVariables false
set_option maxRecDepth 20000

def parD {H : Type} (p : Par) : DataW H := .agg [.lit (.string p.name), .lit (.string p.value), .lit (.bool p.has)]
def ParD {H : Type} (d : DataW H) (ps : List Par) : Prop := (d = .nil ∧ ps = []) ∨ ∃ sp, d = .slice (ps.map parD) sp
theorem cellsStr : Tryd.prog.cellsOf 9 = 1 := by kernel_rfl
theorem cellsBool : Tryd.prog.cellsOf 4 = 1 := by kernel_rfl
theorem cellsInt : Tryd.prog.cellsOf 3 = 1 := by kernel_rfl
theorem back (s : ByteArray) : (⟨s.data.toList.toArray⟩ : ByteArray) = s := by apply ByteArray.ext; simp

section
variable {H : Type} {enc : TypeId × Value → H} {W : World} {sp : Nat → Bool}

/-- No text and no list of it is longer than B. -/
def SmallP (B : Nat) (ps : List Par) : Prop := ps.length ≤ B ∧ ∀ p ∈ ps, p.name.length ≤ B ∧ p.value.length ≤ B
def SmallU (B : Nat) (u : Uri) : Prop := u.scheme.length ≤ B ∧ u.user.length ≤ B ∧ u.host.length ≤ B ∧ SmallP B u.params ∧ SmallP B u.headers
/-- A URI that came in. -/
def UriIn (B : Nat) (W : World) (v : Value) : Prop :=
  ∃ (u : Uri) (pv hv : Value), v = uriV u pv hv ∧ ParsAt W pv u.params ∧ ParsAt W hv u.headers ∧ SmallU B u ∧ (Lit.int .i64 u.port).wf = true

theorem bulk_pars (ps : List Par) : (∀ p ∈ ps, p.name.length + p.value.length + 1 ≤ Rows.uptoBulkAll (ps.map (parD (H := H)))) ∧ ps.length ≤ Rows.uptoBulkAll (ps.map (parD (H := H))) := by
  induction ps with
  | nil => simp
  | cons q ps ih =>
    simp only [List.map_cons, Rows.uptoBulkAll, parD, Rows.uptoBulk] at ih ⊢
    refine ⟨fun p hp => ?_, by simp; omega⟩
    rcases List.mem_cons.1 hp with rfl | hp
    · omega
    · have := ih.1 p hp; omega
theorem small_upto {B : Nat} {d : DataW H} {ps : List Par} (hd : ParD d ps) (hz : Rows.uptoBulk d ≤ B) : SmallP B ps := by
  rcases hd with ⟨rfl, rfl⟩ | ⟨sp, rfl⟩
  · exact ⟨by simp, by simp⟩
  · simp only [Rows.uptoBulk] at hz
    have hb := bulk_pars (H := H) ps
    exact ⟨by omega, fun p hp => by have := hb.1 p hp; omega⟩
end
end Go.Proofs.YtagopboofmjnfaaDoor
