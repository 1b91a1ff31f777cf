/-
  Rows of parameters that a call made itself; the contract of the document's own parameters.
-/
import Derived.Test.YtfdcklekjnihjaaDoorRefWritten
import Derived.Test.YtfdcklekjnihjaaDoorOpenUri
namespace Go.Proofs.YtfdcklekjnihjaaDoor
open Go.RowKit Sc
set_option linter.unusedVariables false
set_option maxRecDepth 20000

def parsCells (ps : List Par) : List Value := ps.flatMap parCells
theorem parsCells_len (ps : List Par) : (parsCells ps).length = ps.length * 3 := by
  induction ps with
  | nil => rfl
  | cons p ps ih => simp [parsCells, parCells] at ih ⊢; omega
theorem parsCells_get (ps : List Par) (k : Nat) (hk : k < ps.length) : (parsCells ps)[k * 3]? = some (.string ⟨ps[k].name.toArray⟩) ∧ (parsCells ps)[k * 3 + 1]? = some (.string ⟨ps[k].value.toArray⟩) ∧ (parsCells ps)[k * 3 + 2]? = some (.bool ps[k].has) := by
  induction ps generalizing k with
  | nil => simp at hk
  | cons p ps ih =>
    have e : parsCells (p :: ps) = parCells p ++ parsCells ps := rfl
    cases k with
    | zero => rw [e]; simp [parCells]
    | succ k =>
      have := ih k (by simpa using hk)
      rw [e, show (k + 1) * 3 = k * 3 + 3 by omega]
      simpa [parCells] using this
/-- The slice v owns the parameters ps, in a block from B on. -/
def OwnP (w : World) (B : Nat) (v : Value) (ps : List Par) : Prop := w.ownsRow B 66 3 v ps.length (parsCells ps)
theorem OwnP.nil (w : World) (B : Nat) : OwnP w B (.slice none 0 0) [] := World.ownsRow_nil _ _ _ _
theorem OwnP.alloc {w : World} {B : Nat} {v : Value} {ps : List Par} (h : OwnP w B v ps) (o : Obj) : OwnP (w.alloc o) B v ps := World.ownsRow.alloc h o
theorem OwnP.below {w w' : World} {B : Nat} {v : Value} {ps : List Par} (h : OwnP w B v ps) (hb : Below w.heap.size w w') : OwnP w' B v ps := by
  obtain ⟨h1, h2⟩ := h
  refine ⟨h1, ?_⟩
  rcases h2 with h2 | ⟨g, cap, cur, hv, hg, hh, r⟩
  · exact Or.inl h2
  · exact Or.inr ⟨g, cap, cur, hv, hg, by rw [hb.block g (Array.getElem?_eq_some_iff.1 hh).1]; exact hh, r⟩
theorem OwnP.parsAt {w : World} {B : Nat} {v : Value} {ps : List Par} (h : OwnP w B v ps) : ParsAt w v ps := by
  have h0 := h
  rcases h.2 with ⟨rfl, hn⟩ | ⟨g, cap, cur, rfl, hb, hg, r⟩
  · exact Or.inl ⟨rfl, List.eq_nil_of_length_eq_zero hn⟩
  · refine Or.inr ⟨⟨g, 0, none⟩, cap, rfl, fun k hk => ⟨(Array.getElem?_eq_some_iff.1 hg).1, ?_⟩⟩
    obtain ⟨c0, c1, c2⟩ := parsCells_get ps k hk
    have a0 := World.ownsRow.cells h0 (g := g) rfl (k * 3) _ c0
    have a1 := World.ownsRow.cells h0 (g := g) rfl (k * 3 + 1) _ c1
    have a2 := World.ownsRow.cells h0 (g := g) rfl (k * 3 + 2) _ c2
    have e : ∀ j, (⟨g, 0, none⟩ : Addr).add j = ⟨g, j, none⟩ := fun j => by unfold Addr.add; split <;> simp_all
    rw [e] at a0 a1 a2
    unfold ParAt
    rw [e]
    exact ⟨a0, a1, a2⟩
theorem infoPar : (Tryd.prog.info? 66).map (fun i => (i.zero, i.size, i.bytes)) = some (some (.agg #[.string .empty, .string .empty, .bool false]), 3, 40) := by kernel_rfl

/-- append of one parameter. -/
theorem wp_appP {P : Program} (w : World) {ops : Array Oper} {rest : List Oper} {o : Oper} {a : Act} {Q : Exit → Act → World → Prop} (hgd : o.guard = none)
    (s x : Operand) (t : TypeId) (ho : o.op = Op.call { callee := Callee.builtin Builtin.append, args := #[s, x], argTypes := #[t, t] }) (B : Nat) (i : TypeInfo)
    (z : Value) (ht : P.underlying t = some (TypeDesc.slice 66)) (hi : P.info? 66 = some i) (hz : i.zero = some z) (hsize : i.size = 3) (hby : i.bytes = 40) (hzs : z.cells.size = 3)
    (v : Value) (ps : List Par) (hs : a.eval s = v) (hown : OwnP w B v ps) (ad : Addr) (c : Nat) (p : Par) (hx : a.eval x = Value.slice (some ad) 1 c)
    (hnews : ∀ (j : Nat) (u : Value), (parCells p)[j]? = some u → w.cell? (ad.add j) = some u)
    (hlen : ps.length ≤ 2000000) (w0 : World) (hb : Below B w0 w) (hB : B ≤ w.heap.size)
    (h : ∀ (v' : Value) (w' : World), OwnP w' B v' (ps ++ [p]) → Below B w0 w' → B ≤ w'.heap.size → wpList P ops Q rest (a.put o.dst v') w') : wpList P ops Q (o :: rest) a w := by
  refine wpList_append_own w hgd s x t ho B 66 i z 3 40 ht hi hz hsize hby hzs (by decide) v ps.length (parsCells ps) hs hown ad 1 c (parCells p) hx rfl hnews (by intro u hu; simp [parCells] at hu; rcases hu with rfl | rfl | rfl <;> rfl) (by unfold maxLen; omega) (by omega) hB ?_
  intro v' w' hown' hgr _
  refine h v' w' ?_ (hb.grown hgr hB (fun k hk => (World.ownsRow.lt hown k hk).1)) (Nat.le_trans hB hgr.size)
  unfold OwnP
  have e : parsCells (ps ++ [p]) = parsCells ps ++ parCells p := by simp [parsCells]
  rw [e, List.length_append]
  exact hown'

end Go.Proofs.YtfdcklekjnihjaaDoor
