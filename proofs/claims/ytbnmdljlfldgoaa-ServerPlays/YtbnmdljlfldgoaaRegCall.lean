/-
  A region that draws its order: reads, one call that makes memory, what the call gives parted, a new record that it is stored to.
-/
import Derived.Test.YtbnmdljlfldgoaaRSt9b
namespace Go.Proofs.Ytbnmdljlfldgoaa
open Go.RowKit
set_option linter.unusedVariables false
set_option maxRecDepth 20000
set_option linter.unusedSimpArgs false

theorem act_list {a : Act} {n : Nat} (hs : a.tmps.size = n) (hd : a.defers = []) : a = ⟨((List.range n).map fun s => a.eval (.tmp s)).toArray, []⟩ := by
  obtain ⟨tm, df⟩ := a
  simp only at hs hd
  subst hd
  congr 1
  apply Array.ext (by simpa using hs)
  intro i h1 h2
  simp [Act.eval, Array.getD_eq_getD_getElem?, h1]
structure RP (X : Type) where
  W : World
  n : Nat
  base : List (Nat × Value)
  T : List (Nat × Nat × Value)
  D : X → List (Nat × Nat × Value)
  R : X → World → Prop
  c : Nat
  al : Nat
  dal : Nat
  st : Nat
  Ty : TypeId
  zero : List Value
  cells : X → List Value
structure GI {X : Type} (p : RP X) (L : Array Bool) (a : Act) (w : World) (x : X) (nb : Nat) : Prop where
  sz : a.tmps.size = p.n
  df : a.defers = []
  base : ∀ e ∈ p.base, a.eval (.tmp e.1) = e.2
  tab : TabOk p.T L a
  dyn : TabOk (p.D x) L a
  clo : ∀ e ∈ p.D x, L.getD e.1 false = true → L.getD p.c false = true
  bel : Below p.W.heap.size p.W w
  r : L.getD p.c false = true → p.R x w
  al : L.getD p.al false = true → a.eval (.tmp p.dal) = .pointer (some ⟨nb, 0, none⟩) ∧ p.W.heap.size ≤ nb ∧ RowIs w nb p.Ty (if L.getD p.st false = true then p.cells x else p.zero)
  cst : L.getD p.st false = true → L.getD p.c false = true
  cal : L.getD p.st false = true → L.getD p.al false = true
theorem OpIs.enter {P : Program} {ops : Array Oper} {Q : Exit → Act → World → Prop} {i d : Nat} {K : Act → World → Prop} {a : Act} {w : World} {f : FuncId} {ags : Array Operand} {ts : Array TypeId} (h : OpIs ops i (some d) (.call { callee := .value (.func f), args := ags, argTypes := ts })) {vals : Array Value} (hv : ags.map a.eval = vals) (hf : ∀ (xs : Array Value) (u : World), (callFunc f xs).run P u = .ok (.enter f xs) u)
    (hC : Calls P f vals w fun e w' => ∃ v, e = .returned v ∧ K (a.put (some d) v) w') : wpOp P ops Q i K a w := by
  obtain ⟨o, ho, hg, hd, hop⟩ := h
  unfold wpOp
  rw [ho]
  simp only
  have hw : Region.wanted o (yielded ops a.tmps) = true := by simp [Region.wanted, hg]
  rw [if_pos hw]
  refine Or.inl ?_
  unfold Oper.wp
  have hr : (execOp a.eval o).run P w = .ok (.enter f vals) w := by
    have e1 : a.eval (.func f) = .func (.func f) #[] #[] := rfl
    simp [execOp, hop, resolve, invoke, e1, hv, Result.andThen, Deferred.ofValue, hf]
  rw [hr, Oper.upon_enter]
  refine hC.mono ?_
  rintro e w' ⟨v, rfl, hK⟩
  simp only
  rw [hd]
  exact hK
section
variable {X : Type} {p : RP X} {L : Array Bool} {a : Act} {w w' : World} {x x' : X} {nb : Nat}
theorem GI.begin {n : Nat} (hs : a.tmps.size = p.n) (hd : a.defers = []) (hb : ∀ e ∈ p.base, a.eval (.tmp e.1) = e.2) (x : X) (nb : Nat) : GI p (Array.replicate n false) a { p.W with drawn := p.W.drawn + 1 } x nb := by
  have gz : ∀ j, (Array.replicate n false).getD j false = false := fun j => by rw [Array.getD_eq_getD_getElem?, Array.getElem?_replicate]; split <;> rfl
  refine ⟨hs, hd, hb, fun e _ hl => (by rw [gz] at hl; cases hl), fun e _ hl => (by rw [gz] at hl; cases hl), fun e _ hl => (by rw [gz] at hl; cases hl), (Below.refl _ p.W).drew, fun hl => (by rw [gz] at hl; cases hl), fun hl => (by rw [gz] at hl; cases hl), fun hl => (by rw [gz] at hl; cases hl), fun hl => (by rw [gz] at hl; cases hl)⟩
theorem GI.put (h : GI p L a w x nb) (i d : Nat) (v : Value) (hd : d < p.n) (hi : i ≠ p.c ∧ i ≠ p.al ∧ i ≠ p.st) (hdal : d ≠ p.dal) (hb : ∀ e ∈ p.base, e.1 ≠ d) (hT : ∀ e ∈ p.T, (e.2.1 = d ∧ e.2.2 = v) ∨ (e.1 ≠ i ∧ e.2.1 ≠ d)) (hD : ∀ e ∈ p.D x, (e.2.1 = d ∧ e.2.2 = v) ∨ (e.1 ≠ i ∧ e.2.1 ≠ d)) (hc : (∃ e ∈ p.D x, e.1 = i) → L.getD p.c false = true) :
    GI p (L.setIfInBounds i true) (a.put (some d) v) w x nb := by
  obtain ⟨i1, i2, i3⟩ := hi
  have g1 : (L.setIfInBounds i true).getD p.c false = L.getD p.c false := getD_set_ne (Ne.symm i1)
  have g2 : (L.setIfInBounds i true).getD p.al false = L.getD p.al false := getD_set_ne (Ne.symm i2)
  have g3 : (L.setIfInBounds i true).getD p.st false = L.getD p.st false := getD_set_ne (Ne.symm i3)
  refine ⟨by rw [put_size]; exact h.sz, by rw [put_defers]; exact h.df, fun e he => by rw [eval_put_ne (hb e he)]; exact h.base e he, h.tab.put (by rw [h.sz]; exact hd) hT, h.dyn.put (by rw [h.sz]; exact hd) hD, fun e he hl => ?_, h.bel, fun hl => h.r (by rwa [g1] at hl), fun hl => ?_, by rw [g1, g3]; exact h.cst, by rw [g2, g3]; exact h.cal⟩
  · rw [g1]
    by_cases e1 : e.1 = i
    · exact hc ⟨e, he, e1⟩
    · rw [getD_set_ne e1] at hl
      exact h.clo e he hl
  · rw [g2] at hl
    rw [g3, eval_put_ne (Ne.symm hdal)]
    exact h.al hl
theorem GI.call (h : GI p L a w x nb) (hL : p.c < L.size) (d : Nat) (v : Value) (hn : L.getD p.c false = false) (hd : d < p.n) (hne : p.c ≠ p.al ∧ p.c ≠ p.st) (hdal : d ≠ p.dal) (hb : ∀ e ∈ p.base, e.1 ≠ d) (hT : ∀ e ∈ p.T, e.1 ≠ p.c ∧ e.2.1 ≠ d)
    (hD : ∀ e ∈ p.D x', ((e.2.1 = d ∧ e.2.2 = v) ∨ e.2.1 ≠ d) ∧ ((e.1 = p.c ∧ e.2.1 = d) ∨ e.1 ≠ p.c)) (hDD : (p.D x').map (fun e => e.1) = (p.D x).map (fun e => e.1)) (hw : Below w.heap.size w w') (hr : p.R x' w') :
    GI p (L.setIfInBounds p.c true) (a.put (some d) v) w' x' nb := by
  have g1 : (L.setIfInBounds p.c true).getD p.c false = true := getD_set_same hL
  have g2 : (L.setIfInBounds p.c true).getD p.al false = L.getD p.al false := getD_set_ne (Ne.symm hne.1)
  have g3 : (L.setIfInBounds p.c true).getD p.st false = L.getD p.st false := getD_set_ne (Ne.symm hne.2)
  have hst : L.getD p.st false = false := by
    cases e : L.getD p.st false
    · rfl
    · have := h.cst e; rw [hn] at this; cases this
  have hno : ∀ e ∈ p.D x', L.getD e.1 false = false := fun e he => by
    have : e.1 ∈ (p.D x).map (fun e => e.1) := by rw [← hDD]; exact List.mem_map.2 ⟨e, he, rfl⟩
    obtain ⟨e', he', e1⟩ := List.mem_map.1 this
    cases e2 : L.getD e.1 false
    · rfl
    · have := h.clo e' he' (by rw [e1]; exact e2); rw [hn] at this; cases this
  refine ⟨by rw [put_size]; exact h.sz, by rw [put_defers]; exact h.df, fun e he => by rw [eval_put_ne (hb e he)]; exact h.base e he, h.tab.put (by rw [h.sz]; exact hd) (fun e he => .inr (hT e he)), fun e he hl => ?_, fun e he hl => g1, h.bel.trans (hw.mono h.bel.size), fun _ => hr, fun hl => ?_, fun _ => g1, by rw [g2, g3]; exact h.cal⟩
  · obtain ⟨h1, h2⟩ := hD e he
    by_cases e1 : e.1 = p.c
    · rcases h1 with ⟨h3, h4⟩ | h3
      · rw [h3, h4]; exact eval_put_same (by rw [h.sz]; exact hd)
      · rcases h2 with ⟨_, h4⟩ | h4
        · exact absurd h4 h3
        · exact absurd e1 h4
    · rw [getD_set_ne e1, hno e he] at hl; cases hl
  · rw [g2] at hl
    obtain ⟨a1, a2, a3⟩ := h.al hl
    rw [g3, hst, if_neg (by decide), eval_put_ne (Ne.symm hdal)]
    rw [hst, if_neg (by decide)] at a3
    exact ⟨a1, a2, a3.below hw (Array.getElem?_eq_some_iff.1 a3).1⟩
theorem GI.alloc (h : GI p L a w x nb) (hL : p.al < L.size) (hn : L.getD p.al false = false) (hd : p.dal < p.n) (hne : p.al ≠ p.c ∧ p.al ≠ p.st) (hb : ∀ e ∈ p.base, e.1 ≠ p.dal) (hT : ∀ e ∈ p.T, e.1 ≠ p.al ∧ e.2.1 ≠ p.dal) (hD : ∀ e ∈ p.D x, e.1 ≠ p.al ∧ e.2.1 ≠ p.dal) (hra : ∀ (u : World) (o : Obj), p.R x u → p.R x (u.alloc o)) :
    GI p (L.setIfInBounds p.al true) (a.put (some p.dal) (.pointer (some ⟨w.heap.size, 0, none⟩))) (w.alloc (.cells p.zero.toArray p.Ty)) x w.heap.size := by
  have g1 : (L.setIfInBounds p.al true).getD p.c false = L.getD p.c false := getD_set_ne (Ne.symm hne.1)
  have g2 : (L.setIfInBounds p.al true).getD p.al false = true := getD_set_same hL
  have g3 : (L.setIfInBounds p.al true).getD p.st false = L.getD p.st false := getD_set_ne (Ne.symm hne.2)
  have hst : L.getD p.st false = false := by
    cases e : L.getD p.st false
    · rfl
    · have := h.cal e; rw [hn] at this; cases this
  have hw : Below w.heap.size w (w.alloc (.cells p.zero.toArray p.Ty)) := (Below.refl _ w).alloc (Nat.le_refl _) _
  refine ⟨by rw [put_size]; exact h.sz, by rw [put_defers]; exact h.df, fun e he => by rw [eval_put_ne (hb e he)]; exact h.base e he, h.tab.put (by rw [h.sz]; exact hd) (fun e he => .inr (hT e he)), h.dyn.put (by rw [h.sz]; exact hd) (fun e he => .inr (hD e he)), fun e he hl => ?_, h.bel.trans (hw.mono h.bel.size), fun hl => hra _ _ (h.r (by rwa [g1] at hl)), fun _ => ⟨eval_put_same (by rw [h.sz]; exact hd), h.bel.size, ?_⟩, by rw [g1, g3]; exact h.cst, fun _ => g2⟩
  · rw [g1]; rw [getD_set_ne (hD e he).1] at hl; exact h.clo e he hl
  · rw [g3, hst, if_neg (by decide)]
    unfold RowIs
    rw [heap_alloc_new]
theorem GI.store (h : GI p L a w x nb) (hL : p.st < L.size) (hn : L.getD p.st false = false) (hc : L.getD p.c false = true) (hal : L.getD p.al false = true) (hne : p.st ≠ p.c ∧ p.st ≠ p.al) (hT : ∀ e ∈ p.T, e.1 ≠ p.st) (hD : ∀ e ∈ p.D x, e.1 ≠ p.st)
    (hw : Below p.W.heap.size w w') (hr : p.R x w') (hrow : RowIs w' nb p.Ty (p.cells x)) : GI p (L.setIfInBounds p.st true) a w' x nb := by
  have g1 : (L.setIfInBounds p.st true).getD p.c false = L.getD p.c false := getD_set_ne (Ne.symm hne.1)
  have g2 : (L.setIfInBounds p.st true).getD p.al false = L.getD p.al false := getD_set_ne (Ne.symm hne.2)
  have g3 : (L.setIfInBounds p.st true).getD p.st false = true := getD_set_same hL
  refine ⟨h.sz, h.df, h.base, h.tab.skip hT, h.dyn.skip hD, fun e he hl => by rw [g1]; exact hc, h.bel.trans hw, fun _ => hr, fun hl => ?_, fun _ => by rw [g1]; exact hc, fun _ => by rw [g2]; exact hal⟩
  obtain ⟨a1, a2, a3⟩ := h.al hal
  rw [g3, if_pos rfl]
  exact ⟨a1, a2, hrow⟩
end
end Go.Proofs.Ytbnmdljlfldgoaa
