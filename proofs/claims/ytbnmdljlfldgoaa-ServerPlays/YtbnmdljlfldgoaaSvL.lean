/-
  Server transactions: plain functions; a row of them in memory.
-/
import Derived.Test.YtbnmdljlfldgoaaRow
namespace Go.Proofs.Ytbnmdljlfldgoaa
open Go.RowKit
set_option linter.unusedVariables false
set_option maxRecDepth 20000
set_option linter.unusedSimpArgs false

structure Cl where
  id : Int
  br : List UInt8
  hop : List UInt8
  me : List UInt8
  over : Int
  told : Bool
  to : List UInt8
  tx : List UInt8
structure Tb where
  most : Int
  last : Int
  l : List Cl
def isC (br hop me : List UInt8) (c : Cl) : Bool := c.br == br && (c.hop == hop && c.me == me)
def findT (l : List Cl) (br hop me : List UInt8) : Int × Bool := match l.find? (isC br hop me) with | some c => (c.id, true) | none => (0, false)
def placeT (l : List Cl) (id : Int) : Int := match l.findIdx? (fun c => c.id == id) with | some k => (k : Int) | none => -1
def newC (t : Tb) (br hop me : List UInt8) (now : Int) : Cl := ⟨t.last + 1, br, hop, me, now + 320, false, [], []⟩
def startT (t : Tb) (br hop me : List UInt8) (now : Int) : Tb × Int × Int :=
  if now < 0 ∨ 1099511627456 < now then (t, 0, 1)
  else if (findT t.l br hop me).2 = true then (t, 0, 7)
  else if t.most ≤ t.l.length then (t, 0, 5)
  else (⟨t.most, t.last + 1, t.l ++ [newC t br hop me now]⟩, t.last + 1, 0)
def tellC (c : Cl) (to tx : List UInt8) : Cl := { c with told := true, to := to, tx := tx }
def answerT (t : Tb) (id : Int) (to tx : List UInt8) : Tb × Int :=
  match t.l.findIdx? (fun c => c.id == id) with
  | none => (t, 6)
  | some k => match t.l[k]? with
    | none => (t, 6)
    | some c => if c.told = true then (t, 7) else (⟨t.most, t.last, t.l.set k (tellC c to tx)⟩, 0)
def cachedT (t : Tb) (id : Int) : (List UInt8 × List UInt8) × Bool :=
  match t.l.find? (fun c => c.id == id) with
  | none => (([], []), false)
  | some c => if c.told = true then ((c.to, c.tx), true) else (([], []), false)
def expireT (t : Tb) (now : Int) : Tb × List Int := (⟨t.most, t.last, t.l.filter fun c => !decide (c.over ≤ now)⟩, (t.l.filter fun c => decide (c.over ≤ now)).map Cl.id)

def clCells (c : Cl) : List Value := [.int .i64 c.id, .string ⟨c.br.toArray⟩, .string ⟨c.hop.toArray⟩, .string ⟨c.me.toArray⟩, .int .i64 c.over, .bool c.told, .string ⟨c.to.toArray⟩, .string ⟨c.tx.toArray⟩]
def clsCells (cs : List Cl) : List Value := cs.flatMap clCells
theorem clCells_len (c : Cl) : (clCells c).length = 8 := rfl
theorem clsCells_len (cs : List Cl) : (clsCells cs).length = cs.length * 8 := by
  induction cs with
  | nil => rfl
  | cons c cs ih =>
    have e : clsCells (c :: cs) = clCells c ++ clsCells cs := rfl
    rw [e, List.length_append, ih, clCells_len, List.length_cons]; omega
theorem clsCells_get (cs : List Cl) (k : Nat) (hk : k < cs.length) (j : Nat) (u : Value) (h : (clCells cs[k])[j]? = some u) : (clsCells cs)[k * 8 + j]? = some u := by
  induction cs generalizing k with
  | nil => simp at hk
  | cons c cs ih =>
    have e : clsCells (c :: cs) = clCells c ++ clsCells cs := rfl
    cases k with
    | zero =>
      have hj : j < 8 := by have := (List.getElem?_eq_some_iff.1 h).1; simpa [clCells] using this
      rw [e, List.getElem?_append_left (by rw [clCells_len]; omega), Nat.zero_mul, Nat.zero_add]
      exact h
    | succ k =>
      have := ih k (by simpa using hk) (by simpa using h)
      rw [e, List.getElem?_append_right (by rw [clCells_len]; omega), clCells_len, show (k + 1) * 8 + j - 8 = k * 8 + j by omega]
      exact this
/-- The slice v owns the transactions cs, in a block from B on. -/
def OwnC (w : World) (B : Nat) (v : Value) (cs : List Cl) : Prop := w.ownsRow B 71 8 v cs.length (clsCells cs)
theorem OwnC.nil (w : World) (B : Nat) : OwnC w B (.slice none 0 0) [] := World.ownsRow_nil _ _ _ _
theorem OwnC.below {w w' : World} {B : Nat} {v : Value} {cs : List Cl} (h : OwnC w B v cs) (hb : Below w.heap.size w w') : OwnC w' B v cs := by
  obtain ⟨h1, h2⟩ := h
  refine ⟨h1, ?_⟩
  rcases h2 with h2 | ⟨g, cap, cur, hv, hg, hh, r⟩
  · exact Or.inl h2
  · exact Or.inr ⟨g, cap, cur, hv, hg, by rw [hb.block g (Array.getElem?_eq_some_iff.1 hh).1]; exact hh, r⟩
theorem OwnC.mono {w : World} {B C : Nat} {v : Value} {cs : List Cl} (h : OwnC w B v cs) (hc : C ≤ B) : OwnC w C v cs := by
  obtain ⟨h1, h2⟩ := h
  refine ⟨h1, ?_⟩
  rcases h2 with h2 | ⟨g, cap, cur, hv, hg, r⟩
  · exact Or.inl h2
  · exact Or.inr ⟨g, cap, cur, hv, Nat.le_trans hc hg, r⟩
theorem OwnC.alloc {w : World} {B : Nat} {v : Value} {cs : List Cl} (h : OwnC w B v cs) (o : Obj) : OwnC (w.alloc o) B v cs := World.ownsRow.alloc h o
theorem OwnC.form {w : World} {B : Nat} {v : Value} {cs : List Cl} (h : OwnC w B v cs) : ∃ a cap, v = .slice a cs.length cap := by
  rcases h.2 with ⟨rfl, hn⟩ | ⟨g, cap, cur, rfl, _⟩
  · exact ⟨none, 0, by rw [hn]⟩
  · exact ⟨_, cap, rfl⟩
/-- Where the rows of v lie. -/
structure ClAt (w : World) (g k : Nat) (c : Cl) : Prop where
  c0 : w.cell? ⟨g, k * 8, none⟩ = some (.int .i64 c.id)
  c1 : w.cell? ⟨g, k * 8 + 1, none⟩ = some (.string ⟨c.br.toArray⟩)
  c2 : w.cell? ⟨g, k * 8 + 2, none⟩ = some (.string ⟨c.hop.toArray⟩)
  c3 : w.cell? ⟨g, k * 8 + 3, none⟩ = some (.string ⟨c.me.toArray⟩)
  c4 : w.cell? ⟨g, k * 8 + 4, none⟩ = some (.int .i64 c.over)
  c5 : w.cell? ⟨g, k * 8 + 5, none⟩ = some (.bool c.told)
  c6 : w.cell? ⟨g, k * 8 + 6, none⟩ = some (.string ⟨c.to.toArray⟩)
  c7 : w.cell? ⟨g, k * 8 + 7, none⟩ = some (.string ⟨c.tx.toArray⟩)
theorem OwnC.get {w : World} {B : Nat} {v : Value} {cs : List Cl} (h : OwnC w B v cs) : (v = .slice none 0 0 ∧ cs = []) ∨ ∃ g cap, v = .slice (some ⟨g, 0, none⟩) cs.length cap ∧ B ≤ g ∧ g < w.heap.size ∧ cs.length ≤ cap ∧ ∀ k (hk : k < cs.length), ClAt w g k cs[k] := by
  have h0 := h
  rcases h.2 with ⟨rfl, hn⟩ | ⟨g, cap, cur, rfl, hb, hg, r⟩
  · exact Or.inl ⟨rfl, List.eq_nil_of_length_eq_zero hn⟩
  · refine Or.inr ⟨g, cap, rfl, hb, (Array.getElem?_eq_some_iff.1 hg).1, r.1, fun k hk => ?_⟩
    have e : ∀ j, (⟨g, 0, none⟩ : Addr).add j = ⟨g, j, none⟩ := fun j => by unfold Addr.add; split <;> simp_all
    have a0 : ∀ j u, (clCells cs[k])[j]? = some u → w.cell? ⟨g, k * 8 + j, none⟩ = some u := fun j u hj => by
      have := World.ownsRow.cells h0 (g := g) rfl (k * 8 + j) _ (clsCells_get cs k hk j u hj)
      rw [e] at this; exact this
    exact ⟨a0 0 _ rfl, a0 1 _ rfl, a0 2 _ rfl, a0 3 _ rfl, a0 4 _ rfl, a0 5 _ rfl, a0 6 _ rfl, a0 7 _ rfl⟩
theorem cell_bel {w w' : World} {B : Nat} (hb : Below B w w') {a : Addr} (ha : a.block < B) {v : Value} (h : w.cell? a = some v) : w'.cell? a = some v := by rw [World.cell?_of_block (hb.block _ ha)]; exact h
theorem ClAt.below {w w' : World} {B g k : Nat} {c : Cl} (h : ClAt w g k c) (hb : Below B w w') (hg : g < B) : ClAt w' g k c :=
  ⟨cell_bel hb hg h.c0, cell_bel hb hg h.c1, cell_bel hb hg h.c2, cell_bel hb hg h.c3, cell_bel hb hg h.c4, cell_bel hb hg h.c5, cell_bel hb hg h.c6, cell_bel hb hg h.c7⟩
def tbV (t : Tb) (v : Value) : Value := .agg #[.int .i64 t.most, .int .i64 t.last, v]
end Go.Proofs.Ytbnmdljlfldgoaa
