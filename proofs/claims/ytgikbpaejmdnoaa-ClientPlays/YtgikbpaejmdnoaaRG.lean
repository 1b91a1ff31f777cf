/-
  Base texts, one behind another: InvAny, OpKit, RegCall, RegStore, RegAl.
-/
import Derived.Test.YtgikbpaejmdnoaaKit
import Derived.Orders
import Derived.Test.YtgikbpaejmdnoaaRow
import Derived.OwnWalk
import Derived.Laws.OwnMore

/-
  A region that draws its order, by an invariant: each operation is walked once, from whatever was listed ahead of it.
-/
namespace Go.Proofs.Ytgikbpaejmdnoaa
set_option linter.unusedVariables false
set_option maxRecDepth 20000
set_option linter.unusedSimpArgs false

section
variable {P : Program} {md : Region.Mode} {ops : Array Oper} {Q : Exit → Act → World → Prop}
theorem count_set {L : Array Bool} {i : Nat} (h : L.getD i true = false) : (L.setIfInBounds i true).toList.count false + 1 = L.toList.count false := by
  have hi : i < L.size := by
    rcases Nat.lt_or_ge i L.size with h1 | h1
    · exact h1
    · rw [Array.getD_eq_getD_getElem?, Array.getElem?_eq_none h1] at h; simp at h
  have hv : L.toList[i]'(by simpa using hi) = false := by
    rw [Array.getD_eq_getD_getElem?, Array.getElem?_eq_getElem hi] at h
    simpa using h
  have hm : false ∈ L.toList := by rw [← hv]; exact List.getElem_mem _
  have hc : 0 < L.toList.count false := List.count_pos_iff.2 hm
  rw [Array.toList_setIfInBounds, List.count_set (by simpa using hi), hv]
  have a1 : (if (false == false) = true then (1 : Nat) else 0) = 1 := by decide
  have a2 : (if (true == false) = true then (1 : Nat) else 0) = 0 := by decide
  rw [a1, a2]
  omega
/-- The invariant: what holds whatever is listed. -/
theorem wpAny_inv (Inv : Array Bool → Act → World → Prop)
    (hend : ∀ L a w, L.size = ops.size → Region.ready md ops L = [] → Inv L a w → Q .normal a w)
    (hstep : ∀ L a w i, L.size = ops.size → i ∈ Region.ready md ops L → Inv L a w → wpOp P ops Q i (Inv (L.setIfInBounds i true)) a w) :
    ∀ (f : Nat) (L : Array Bool) (a : Act) (w : World), L.size = ops.size → L.toList.count false ≤ f → Inv L a w → wpAny P md ops Q f L a w := by
  intro f
  induction f with
  | zero =>
    intro L a w hs hc hI
    have hr : Region.ready md ops L = [] := by
      apply List.eq_nil_iff_forall_not_mem.2
      intro i hi
      have := count_set (mem_ready.1 hi).1
      omega
    exact ⟨hr, hend L a w hs hr hI⟩
  | succ f ih =>
    intro L a w hs hc hI
    refine ⟨fun hr => hend L a w hs hr hI, fun i hi => ?_⟩
    refine wpOp_mono (fun a' w' k => ih _ a' w' (by simpa using hs) ?_ k) (hstep L a w i hs hi hI)
    have := count_set (mem_ready.1 hi).1
    omega
/-- Each operation waits for earlier ones alone. -/
def lowB (md : Region.Mode) (ops : Array Oper) : Bool := (List.range ops.size).all fun j => match ops[j]? with
  | some o => o.after.all fun e => !Region.binds md e || decide (e.on < j)
  | none => false
theorem all_listed (hl : lowB md ops = true) {L : Array Bool} (hs : L.size = ops.size) (hr : Region.ready md ops L = []) : ∀ j, j < ops.size → L.getD j false = true := by
  intro j
  induction j using Nat.strongRecOn with
  | _ j ih =>
    intro hj
    have h1 := List.all_eq_true.1 hl j (List.mem_range.2 hj)
    have ho : ops[j]? = some ops[j] := Array.getElem?_eq_getElem hj
    rw [ho] at h1
    simp only at h1
    cases e : L[j]? with
    | none => rw [Array.getElem?_eq_none_iff] at e; omega
    | some b =>
      cases b with
      | true => rw [Array.getD_eq_getD_getElem?, e]; rfl
      | false =>
        exfalso
        have : j ∈ Region.ready md ops L := by
          rw [mem_ready]
          refine ⟨by rw [Array.getD_eq_getD_getElem?, e]; rfl, ops[j], ho, fun x hx hb => ?_⟩
          have h2 := Array.all_eq_true_iff_forall_mem.1 h1 x hx
          simp only [hb, Bool.not_true, Bool.false_or, decide_eq_true_eq] at h2
          exact ih x.on h2 (by omega)
        rw [hr] at this
        cases this
theorem wp_region_inv {id : Nat} {a : Act} {w : World} (hm : P.follows .mixedOrders = true) (Inv : Array Bool → Act → World → Prop) (h0 : Inv (Array.replicate ops.size false) a { w with drawn := w.drawn + 1 })
    (hend : ∀ L a w, L.size = ops.size → Region.ready .any ops L = [] → Inv L a w → Q .normal a w)
    (hstep : ∀ L a w i, L.size = ops.size → i ∈ Region.ready .any ops L → Inv L a w → wpOp P ops Q i (Inv (L.setIfInBounds i true)) a w) : (Code.region id ops true).wp P Q a w :=
  wp_region_any hm (wpAny_inv Inv hend hstep ops.size _ a _ (by simp) (by simp) h0)
theorem wp_region_name {id : Nat} {a : Act} {w : World} (h : ∀ ops', ops' = ops → (Code.region id ops' true).wp P Q a w) : (Code.region id ops true).wp P Q a w := h ops rfl
/-- An operation that gives a value. -/
theorem wpOp_val {i : Nat} {o : Oper} {K : Act → World → Prop} {a : Act} {w w' : World} {v : Value} (ho : ops[i]? = some o) (hg : o.guard = none) (hr : (execOp a.eval o).run P w = .ok (.value v) w') (h : K (a.put o.dst v) w') : wpOp P ops Q i K a w := by
  unfold wpOp
  rw [ho]
  simp only
  have hw : Region.wanted o (yielded ops a.tmps) = true := by simp [Region.wanted, hg]
  rw [if_pos hw]
  refine Or.inl ?_
  unfold Oper.wp
  rw [hr]
  exact h
theorem wpOp_of {i : Nat} {o : Oper} {K : Act → World → Prop} {a : Act} {w : World} (ho : ops[i]? = some o) {E : Prop} (h : if Region.wanted o (yielded ops a.tmps) = true then Oper.wp P o a w K Q else E) (hg : o.guard = none) : wpOp P ops Q i K a w := by
  unfold wpOp
  rw [ho]
  simp only
  have hw : Region.wanted o (yielded ops a.tmps) = true := by simp [Region.wanted, hg]
  rw [if_pos hw] at h ⊢
  exact Or.inl h
theorem eval_put_ne {a : Act} {d s : Nat} {v : Value} (h : s ≠ d) : (a.put (some d) v).eval (.tmp s) = a.eval (.tmp s) := by
  simp [Act.put, Act.eval, Array.getD_eq_getD_getElem?, Array.getElem?_setIfInBounds, Ne.symm h]
theorem eval_put_same {a : Act} {d : Nat} {v : Value} (h : d < a.tmps.size) : (a.put (some d) v).eval (.tmp d) = v := by
  simp [Act.put, Act.eval, Array.getD_eq_getD_getElem?, Array.getElem?_setIfInBounds, h]
theorem put_size (a : Act) (d : Option Nat) (v : Value) : (a.put d v).tmps.size = a.tmps.size := by
  cases d <;> simp [Act.put]
theorem put_defers (a : Act) (d : Option Nat) (v : Value) : (a.put d v).defers = a.defers := by
  cases d <;> simp [Act.put]
theorem getD_set_ne {L : Array Bool} {i j : Nat} (h : j ≠ i) : (L.setIfInBounds i true).getD j false = L.getD j false := by
  simp [Array.getD_eq_getD_getElem?, Array.getElem?_setIfInBounds, Ne.symm h]
theorem getD_set_same {L : Array Bool} {i : Nat} (h : i < L.size) : (L.setIfInBounds i true).getD i false = true := by
  simp [Array.getD_eq_getD_getElem?, Array.getElem?_setIfInBounds, h]
/-- What slots hold, where their operations are listed. -/
def TabOk (T : List (Nat × Nat × Value)) (L : Array Bool) (a : Act) : Prop := ∀ e ∈ T, L.getD e.1 false = true → a.eval (.tmp e.2.1) = e.2.2
theorem TabOk.put {T : List (Nat × Nat × Value)} {L : Array Bool} {a : Act} (h : TabOk T L a) {i d : Nat} {v : Value} (hd : d < a.tmps.size) (hT : ∀ e ∈ T, (e.2.1 = d ∧ e.2.2 = v) ∨ (e.1 ≠ i ∧ e.2.1 ≠ d)) : TabOk T (L.setIfInBounds i true) (a.put (some d) v) := by
  intro e he hl
  rcases hT e he with ⟨h1, h2⟩ | ⟨h1, h2⟩
  · rw [h1, h2]; exact eval_put_same hd
  · rw [eval_put_ne h2]
    exact h e he (by rwa [getD_set_ne h1] at hl)
theorem TabOk.skip {T : List (Nat × Nat × Value)} {L : Array Bool} {a : Act} (h : TabOk T L a) {i : Nat} (hT : ∀ e ∈ T, e.1 ≠ i) : TabOk T (L.setIfInBounds i true) a := by
  intro e he hl
  exact h e he (by rwa [getD_set_ne (hT e he)] at hl)
end
end Go.Proofs.Ytgikbpaejmdnoaa

/-
  Rows of three cells; operations of a region that draws its order, one by one.
-/
namespace Go.Proofs.Ytgikbpaejmdnoaa
open Go.RowKit
set_option linter.unusedVariables false
set_option maxRecDepth 20000
set_option linter.unusedSimpArgs false

theorem sv_row3 (w : World) (v0 v1 v2 : Value) (t : TypeId) : RowIs (w.alloc (.cells #[v0, v1, v2] t)) w.heap.size t [v0, v1, v2] := by
  unfold RowIs; rw [heap_alloc_new]
theorem sv_store3 {w : World} {b : Nat} {e : TypeId} {u0 u1 u2 : Value} (h : RowIs w b e [u0, u1, u2]) (v0 v1 v2 : Value) : RowIs (((w.setCell ⟨b, 0, none⟩ v0).setCell ⟨b, 1, none⟩ v1).setCell ⟨b, 2, none⟩ v2) b e [v0, v1, v2] := by
  have := ((h.set 0 v0).set 1 v1).set 2 v2
  simpa using this
theorem sv_below3 {B : Nat} {a w : World} (h : Below B a w) (b : Nat) (hb : B ≤ b) (v0 v1 v2 : Value) : Below B a (((w.setCell ⟨b, 0, none⟩ v0).setCell ⟨b, 1, none⟩ v1).setCell ⟨b, 2, none⟩ v2) := ((h.setCell hb _).setCell hb _).setCell hb _
structure Row3 (w : World) (b : Nat) (v0 v1 v2 : Value) : Prop where
  c0 : w.cell? ⟨b, 0, none⟩ = some v0
  c1 : w.cell? ⟨b, 1, none⟩ = some v1
  c2 : w.cell? ⟨b, 2, none⟩ = some v2
  f0 : w.frozen? ⟨b, 0, none⟩ = false
  f1 : w.frozen? ⟨b, 1, none⟩ = false
  f2 : w.frozen? ⟨b, 2, none⟩ = false
theorem RowIs.sv3 {w : World} {b : Nat} {e : TypeId} {v0 v1 v2 : Value} (h : RowIs w b e [v0, v1, v2]) : Row3 w b v0 v1 v2 := ⟨h.cell 0 (by simp), h.cell 1 (by simp), h.cell 2 (by simp), h.frozen 0, h.frozen 1, h.frozen 2⟩
theorem sv_mono {w : World} {B C e s n : Nat} {v : Value} {xs : List Value} (h : w.ownsRow B e s v n xs) (hc : C ≤ B) : w.ownsRow C e s v n xs := by
  obtain ⟨h1, h2⟩ := h
  refine ⟨h1, ?_⟩
  rcases h2 with h2 | ⟨g, cap, cur, hv, hg, r⟩
  · exact Or.inl h2
  · exact Or.inr ⟨g, cap, cur, hv, Nat.le_trans hc hg, r⟩
theorem sv_set3 {w : World} {B e s n b : Nat} {v : Value} {xs : List Value} (h : w.ownsRow B e s v n xs) (hb : b < B) (v0 v1 v2 : Value) : (((w.setCell ⟨b, 0, none⟩ v0).setCell ⟨b, 1, none⟩ v1).setCell ⟨b, 2, none⟩ v2).ownsRow B e s v n xs :=
  ownsRow_setCell_below (ownsRow_setCell_below (ownsRow_setCell_below h hb _) hb _) hb _
section
variable {w w' : World}
theorem row_kept {b : Nat} {e : TypeId} {us : List Value} (h : RowIs w b e us) {r : Option Nat} (hg : w.grownBy w' r) (hne : some b ≠ r) : RowIs w' b e us := by
  unfold RowIs at *; rw [hg.block b (Array.getElem?_eq_some_iff.1 h).1 hne]; exact h
theorem alloc_grown (w : World) (o : Obj) (r : Option Nat) : w.grownBy (w.alloc o) r := ⟨rfl, rfl, rfl, by simp, fun k hk _ => Below.heap_alloc _ _ _ hk⟩
theorem bel_grown {B : Nat} {a w w' : World} (h : Below B a w) {r : Option Nat} (hB : B ≤ w.heap.size) (hg : w.grownBy w' r) (hr : ∀ g, r = some g → B ≤ g) : Below B a w' := h.grown hg hB hr
theorem set3_block (w : World) {b g : Nat} (h : g ≠ b) (v0 v1 v2 : Value) : (((w.setCell ⟨b, 0, none⟩ v0).setCell ⟨b, 1, none⟩ v1).setCell ⟨b, 2, none⟩ v2).heap[g]? = w.heap[g]? := by
  rw [Below.heap_setCell _ ⟨b, 2, none⟩ _ _ h, Below.heap_setCell _ ⟨b, 1, none⟩ _ _ h, Below.heap_setCell _ ⟨b, 0, none⟩ _ _ h]
end
/-- The operation at i. -/
def OpIs (ops : Array Oper) (i : Nat) (d : Option Nat) (op : Op) : Prop := ∃ o, ops[i]? = some o ∧ o.guard = none ∧ o.dst = d ∧ o.op = op
/-- The operation at i waits for the one at j. -/
def Waits (ops : Array Oper) (i j : Nat) : Prop := ∃ o, ops[i]? = some o ∧ ∃ e ∈ o.after, Region.binds .any e = true ∧ e.on = j
section
variable {P : Program} {ops : Array Oper} {Q : Exit → Act → World → Prop} {L : Array Bool} {a : Act} {w : World} {i j d : Nat} {K : Act → World → Prop}
theorem Waits.on (h : Waits ops i j) (hi : i ∈ Region.ready .any ops L) : L.getD j false = true := by
  obtain ⟨o, ho, e, he, hb, rfl⟩ := h
  obtain ⟨_, o', ho', hall⟩ := mem_ready.1 hi
  rw [ho] at ho'
  injection ho' with e'
  subst e'
  exact hall e he hb
theorem OpIs.val {op : Op} (h : OpIs ops i (some d) op) {v : Value} {w' : World} (hr : ∀ o : Oper, o.op = op → (execOp a.eval o).run P w = .ok (.value v) w') (hK : K (a.put (some d) v) w') : wpOp P ops Q i K a w := by
  obtain ⟨o, ho, hg, hd, hop⟩ := h
  refine wpOp_val ho hg (hr o hop) ?_
  rw [hd]; exact hK
theorem OpIs.skip {op : Op} (h : OpIs ops i none op) {w' : World} (hr : ∀ o : Oper, o.op = op → (execOp a.eval o).run P w = .ok .skip w') (hK : K a w') : wpOp P ops Q i K a w := by
  obtain ⟨o, ho, hg, hd, hop⟩ := h
  unfold wpOp
  rw [ho]
  simp only
  have hw : Region.wanted o (yielded ops a.tmps) = true := by simp [Region.wanted, hg]
  rw [if_pos hw]
  refine Or.inl ?_
  unfold Oper.wp
  rw [hr o hop, Oper.upon_skip, hd]
  exact hK
end
end Go.Proofs.Ytgikbpaejmdnoaa

/-
  A region that draws its order: reads, one call that makes memory, what the call gives parted, a new record that it is stored to.
-/
namespace Go.Proofs.Ytgikbpaejmdnoaa
open Go.RowKit
set_option linter.unusedVariables false
set_option maxRecDepth 20000
set_option linter.unusedSimpArgs false

theorem act_list {a : Act} {n : Nat} (hs : a.tmps.size = n) (hd : a.defers = []) : a = ⟨((List.range n).map fun s => a.eval (.tmp s)).toArray, []⟩ := by
  obtain ⟨tm, df⟩ := a
  simp only at hs hd
  subst hd
  congr 1
  apply Array.ext (by simpa using hs)
  intro i h1 h2
  simp [Act.eval, Array.getD_eq_getD_getElem?, h1]
structure RP (X : Type) where
  W : World
  n : Nat
  base : List (Nat × Value)
  T : List (Nat × Nat × Value)
  D : X → List (Nat × Nat × Value)
  R : X → World → Prop
  c : Nat
  al : Nat
  dal : Nat
  st : Nat
  Ty : TypeId
  zero : List Value
  cells : X → List Value
structure GI {X : Type} (p : RP X) (L : Array Bool) (a : Act) (w : World) (x : X) (nb : Nat) : Prop where
  sz : a.tmps.size = p.n
  df : a.defers = []
  base : ∀ e ∈ p.base, a.eval (.tmp e.1) = e.2
  tab : TabOk p.T L a
  dyn : TabOk (p.D x) L a
  clo : ∀ e ∈ p.D x, L.getD e.1 false = true → L.getD p.c false = true
  bel : Below p.W.heap.size p.W w
  r : L.getD p.c false = true → p.R x w
  al : L.getD p.al false = true → a.eval (.tmp p.dal) = .pointer (some ⟨nb, 0, none⟩) ∧ p.W.heap.size ≤ nb ∧ RowIs w nb p.Ty (if L.getD p.st false = true then p.cells x else p.zero)
  cst : L.getD p.st false = true → L.getD p.c false = true
  cal : L.getD p.st false = true → L.getD p.al false = true
theorem OpIs.enter {P : Program} {ops : Array Oper} {Q : Exit → Act → World → Prop} {i d : Nat} {K : Act → World → Prop} {a : Act} {w : World} {f : FuncId} {ags : Array Operand} {ts : Array TypeId} (h : OpIs ops i (some d) (.call { callee := .value (.func f), args := ags, argTypes := ts })) {vals : Array Value} (hv : ags.map a.eval = vals) (hf : ∀ (xs : Array Value) (u : World), (callFunc f xs).run P u = .ok (.enter f xs) u)
    (hC : Calls P f vals w fun e w' => ∃ v, e = .returned v ∧ K (a.put (some d) v) w') : wpOp P ops Q i K a w := by
  obtain ⟨o, ho, hg, hd, hop⟩ := h
  unfold wpOp
  rw [ho]
  simp only
  have hw : Region.wanted o (yielded ops a.tmps) = true := by simp [Region.wanted, hg]
  rw [if_pos hw]
  refine Or.inl ?_
  unfold Oper.wp
  have hr : (execOp a.eval o).run P w = .ok (.enter f vals) w := by
    have e1 : a.eval (.func f) = .func (.func f) #[] #[] := rfl
    simp [execOp, hop, resolve, invoke, e1, hv, Result.andThen, Deferred.ofValue, hf]
  rw [hr, Oper.upon_enter]
  refine hC.mono ?_
  rintro e w' ⟨v, rfl, hK⟩
  simp only
  rw [hd]
  exact hK
section
variable {X : Type} {p : RP X} {L : Array Bool} {a : Act} {w w' : World} {x x' : X} {nb : Nat}
theorem GI.begin {n : Nat} (hs : a.tmps.size = p.n) (hd : a.defers = []) (hb : ∀ e ∈ p.base, a.eval (.tmp e.1) = e.2) (x : X) (nb : Nat) : GI p (Array.replicate n false) a { p.W with drawn := p.W.drawn + 1 } x nb := by
  have gz : ∀ j, (Array.replicate n false).getD j false = false := fun j => by rw [Array.getD_eq_getD_getElem?, Array.getElem?_replicate]; split <;> rfl
  refine ⟨hs, hd, hb, fun e _ hl => (by rw [gz] at hl; cases hl), fun e _ hl => (by rw [gz] at hl; cases hl), fun e _ hl => (by rw [gz] at hl; cases hl), (Below.refl _ p.W).drew, fun hl => (by rw [gz] at hl; cases hl), fun hl => (by rw [gz] at hl; cases hl), fun hl => (by rw [gz] at hl; cases hl), fun hl => (by rw [gz] at hl; cases hl)⟩
theorem GI.put (h : GI p L a w x nb) (i d : Nat) (v : Value) (hd : d < p.n) (hi : i ≠ p.c ∧ i ≠ p.al ∧ i ≠ p.st) (hdal : d ≠ p.dal) (hb : ∀ e ∈ p.base, e.1 ≠ d) (hT : ∀ e ∈ p.T, (e.2.1 = d ∧ e.2.2 = v) ∨ (e.1 ≠ i ∧ e.2.1 ≠ d)) (hD : ∀ e ∈ p.D x, (e.2.1 = d ∧ e.2.2 = v) ∨ (e.1 ≠ i ∧ e.2.1 ≠ d)) (hc : (∃ e ∈ p.D x, e.1 = i) → L.getD p.c false = true) :
    GI p (L.setIfInBounds i true) (a.put (some d) v) w x nb := by
  obtain ⟨i1, i2, i3⟩ := hi
  have g1 : (L.setIfInBounds i true).getD p.c false = L.getD p.c false := getD_set_ne (Ne.symm i1)
  have g2 : (L.setIfInBounds i true).getD p.al false = L.getD p.al false := getD_set_ne (Ne.symm i2)
  have g3 : (L.setIfInBounds i true).getD p.st false = L.getD p.st false := getD_set_ne (Ne.symm i3)
  refine ⟨by rw [put_size]; exact h.sz, by rw [put_defers]; exact h.df, fun e he => by rw [eval_put_ne (hb e he)]; exact h.base e he, h.tab.put (by rw [h.sz]; exact hd) hT, h.dyn.put (by rw [h.sz]; exact hd) hD, fun e he hl => ?_, h.bel, fun hl => h.r (by rwa [g1] at hl), fun hl => ?_, by rw [g1, g3]; exact h.cst, by rw [g2, g3]; exact h.cal⟩
  · rw [g1]
    by_cases e1 : e.1 = i
    · exact hc ⟨e, he, e1⟩
    · rw [getD_set_ne e1] at hl
      exact h.clo e he hl
  · rw [g2] at hl
    rw [g3, eval_put_ne (Ne.symm hdal)]
    exact h.al hl
theorem GI.call (h : GI p L a w x nb) (hL : p.c < L.size) (d : Nat) (v : Value) (hn : L.getD p.c false = false) (hd : d < p.n) (hne : p.c ≠ p.al ∧ p.c ≠ p.st) (hdal : d ≠ p.dal) (hb : ∀ e ∈ p.base, e.1 ≠ d) (hT : ∀ e ∈ p.T, e.1 ≠ p.c ∧ e.2.1 ≠ d)
    (hD : ∀ e ∈ p.D x', ((e.2.1 = d ∧ e.2.2 = v) ∨ e.2.1 ≠ d) ∧ ((e.1 = p.c ∧ e.2.1 = d) ∨ e.1 ≠ p.c)) (hDD : (p.D x').map (fun e => e.1) = (p.D x).map (fun e => e.1)) (hw : Below w.heap.size w w') (hr : p.R x' w') :
    GI p (L.setIfInBounds p.c true) (a.put (some d) v) w' x' nb := by
  have g1 : (L.setIfInBounds p.c true).getD p.c false = true := getD_set_same hL
  have g2 : (L.setIfInBounds p.c true).getD p.al false = L.getD p.al false := getD_set_ne (Ne.symm hne.1)
  have g3 : (L.setIfInBounds p.c true).getD p.st false = L.getD p.st false := getD_set_ne (Ne.symm hne.2)
  have hst : L.getD p.st false = false := by
    cases e : L.getD p.st false
    · rfl
    · have := h.cst e; rw [hn] at this; cases this
  have hno : ∀ e ∈ p.D x', L.getD e.1 false = false := fun e he => by
    have : e.1 ∈ (p.D x).map (fun e => e.1) := by rw [← hDD]; exact List.mem_map.2 ⟨e, he, rfl⟩
    obtain ⟨e', he', e1⟩ := List.mem_map.1 this
    cases e2 : L.getD e.1 false
    · rfl
    · have := h.clo e' he' (by rw [e1]; exact e2); rw [hn] at this; cases this
  refine ⟨by rw [put_size]; exact h.sz, by rw [put_defers]; exact h.df, fun e he => by rw [eval_put_ne (hb e he)]; exact h.base e he, h.tab.put (by rw [h.sz]; exact hd) (fun e he => .inr (hT e he)), fun e he hl => ?_, fun e he hl => g1, h.bel.trans (hw.mono h.bel.size), fun _ => hr, fun hl => ?_, fun _ => g1, by rw [g2, g3]; exact h.cal⟩
  · obtain ⟨h1, h2⟩ := hD e he
    by_cases e1 : e.1 = p.c
    · rcases h1 with ⟨h3, h4⟩ | h3
      · rw [h3, h4]; exact eval_put_same (by rw [h.sz]; exact hd)
      · rcases h2 with ⟨_, h4⟩ | h4
        · exact absurd h4 h3
        · exact absurd e1 h4
    · rw [getD_set_ne e1, hno e he] at hl; cases hl
  · rw [g2] at hl
    obtain ⟨a1, a2, a3⟩ := h.al hl
    rw [g3, hst, if_neg (by decide), eval_put_ne (Ne.symm hdal)]
    rw [hst, if_neg (by decide)] at a3
    exact ⟨a1, a2, a3.below hw (Array.getElem?_eq_some_iff.1 a3).1⟩
theorem GI.alloc (h : GI p L a w x nb) (hL : p.al < L.size) (hn : L.getD p.al false = false) (hd : p.dal < p.n) (hne : p.al ≠ p.c ∧ p.al ≠ p.st) (hb : ∀ e ∈ p.base, e.1 ≠ p.dal) (hT : ∀ e ∈ p.T, e.1 ≠ p.al ∧ e.2.1 ≠ p.dal) (hD : ∀ e ∈ p.D x, e.1 ≠ p.al ∧ e.2.1 ≠ p.dal) (hra : ∀ (u : World) (o : Obj), p.R x u → p.R x (u.alloc o)) :
    GI p (L.setIfInBounds p.al true) (a.put (some p.dal) (.pointer (some ⟨w.heap.size, 0, none⟩))) (w.alloc (.cells p.zero.toArray p.Ty)) x w.heap.size := by
  have g1 : (L.setIfInBounds p.al true).getD p.c false = L.getD p.c false := getD_set_ne (Ne.symm hne.1)
  have g2 : (L.setIfInBounds p.al true).getD p.al false = true := getD_set_same hL
  have g3 : (L.setIfInBounds p.al true).getD p.st false = L.getD p.st false := getD_set_ne (Ne.symm hne.2)
  have hst : L.getD p.st false = false := by
    cases e : L.getD p.st false
    · rfl
    · have := h.cal e; rw [hn] at this; cases this
  have hw : Below w.heap.size w (w.alloc (.cells p.zero.toArray p.Ty)) := (Below.refl _ w).alloc (Nat.le_refl _) _
  refine ⟨by rw [put_size]; exact h.sz, by rw [put_defers]; exact h.df, fun e he => by rw [eval_put_ne (hb e he)]; exact h.base e he, h.tab.put (by rw [h.sz]; exact hd) (fun e he => .inr (hT e he)), h.dyn.put (by rw [h.sz]; exact hd) (fun e he => .inr (hD e he)), fun e he hl => ?_, h.bel.trans (hw.mono h.bel.size), fun hl => hra _ _ (h.r (by rwa [g1] at hl)), fun _ => ⟨eval_put_same (by rw [h.sz]; exact hd), h.bel.size, ?_⟩, by rw [g1, g3]; exact h.cst, fun _ => g2⟩
  · rw [g1]; rw [getD_set_ne (hD e he).1] at hl; exact h.clo e he hl
  · rw [g3, hst, if_neg (by decide)]
    unfold RowIs
    rw [heap_alloc_new]
theorem GI.store (h : GI p L a w x nb) (hL : p.st < L.size) (hn : L.getD p.st false = false) (hc : L.getD p.c false = true) (hal : L.getD p.al false = true) (hne : p.st ≠ p.c ∧ p.st ≠ p.al) (hT : ∀ e ∈ p.T, e.1 ≠ p.st) (hD : ∀ e ∈ p.D x, e.1 ≠ p.st)
    (hw : Below p.W.heap.size w w') (hr : p.R x w') (hrow : RowIs w' nb p.Ty (p.cells x)) : GI p (L.setIfInBounds p.st true) a w' x nb := by
  have g1 : (L.setIfInBounds p.st true).getD p.c false = L.getD p.c false := getD_set_ne (Ne.symm hne.1)
  have g2 : (L.setIfInBounds p.st true).getD p.al false = L.getD p.al false := getD_set_ne (Ne.symm hne.2)
  have g3 : (L.setIfInBounds p.st true).getD p.st false = true := getD_set_same hL
  refine ⟨h.sz, h.df, h.base, h.tab.skip hT, h.dyn.skip hD, fun e he hl => by rw [g1]; exact hc, h.bel.trans hw, fun _ => hr, fun hl => ?_, fun _ => by rw [g1]; exact hc, fun _ => by rw [g2]; exact hal⟩
  obtain ⟨a1, a2, a3⟩ := h.al hal
  rw [g3, if_pos rfl]
  exact ⟨a1, a2, hrow⟩
end
end Go.Proofs.Ytgikbpaejmdnoaa

/-
  A region that draws its order: reads, assigns, and one store of a record.
-/
namespace Go.Proofs.Ytgikbpaejmdnoaa
open Go.RowKit
set_option linter.unusedVariables false
set_option maxRecDepth 20000
set_option linter.unusedSimpArgs false

structure SP where
  W1 : World
  W2 : World
  n : Nat
  base : List (Nat × Value)
  T : List (Nat × Nat × Value)
  st : Nat
structure SI (p : SP) (L : Array Bool) (a : Act) (w : World) : Prop where
  sz : a.tmps.size = p.n
  df : a.defers = []
  base : ∀ e ∈ p.base, a.eval (.tmp e.1) = e.2
  tab : TabOk p.T L a
  wd : w = if L.getD p.st false = true then p.W2 else p.W1
section
variable {p : SP} {L : Array Bool} {a : Act} {w w' : World}
theorem SI.begin {n : Nat} (hs : a.tmps.size = p.n) (hd : a.defers = []) (hb : ∀ e ∈ p.base, a.eval (.tmp e.1) = e.2) : SI p (Array.replicate n false) a p.W1 := by
  have gz : ∀ j, (Array.replicate n false).getD j false = false := fun j => by rw [Array.getD_eq_getD_getElem?, Array.getElem?_replicate]; split <;> rfl
  exact ⟨hs, hd, hb, fun e _ hl => (by rw [gz] at hl; cases hl), by rw [gz, if_neg (by decide)]⟩
theorem SI.two (h : SI p L a w) : w = p.W1 ∨ w = p.W2 := by
  have := h.wd
  split at this
  · exact Or.inr this
  · exact Or.inl this
theorem SI.put (h : SI p L a w) (i d : Nat) (v : Value) (hd : d < p.n) (hi : i ≠ p.st) (hb : ∀ e ∈ p.base, e.1 ≠ d) (hT : ∀ e ∈ p.T, (e.2.1 = d ∧ e.2.2 = v) ∨ (e.1 ≠ i ∧ e.2.1 ≠ d)) :
    SI p (L.setIfInBounds i true) (a.put (some d) v) w := by
  have g3 : (L.setIfInBounds i true).getD p.st false = L.getD p.st false := getD_set_ne (Ne.symm hi)
  exact ⟨by rw [put_size]; exact h.sz, by rw [put_defers]; exact h.df, fun e he => by rw [eval_put_ne (hb e he)]; exact h.base e he, h.tab.put (by rw [h.sz]; exact hd) hT, by rw [g3]; exact h.wd⟩
theorem SI.store (h : SI p L a w) (hL : p.st < L.size) (hT : ∀ e ∈ p.T, e.1 ≠ p.st) : SI p (L.setIfInBounds p.st true) a p.W2 := by
  have g3 : (L.setIfInBounds p.st true).getD p.st false = true := getD_set_same hL
  exact ⟨h.sz, h.df, h.base, h.tab.skip hT, by rw [g3, if_pos rfl]⟩
end
end Go.Proofs.Ytgikbpaejmdnoaa

/-
  A region that draws its order: reads, one slice that is built, and one call that only makes memory. What the other slots hold stays as it was.
-/
namespace Go.Proofs.Ytgikbpaejmdnoaa
open Go.RowKit
set_option linter.unusedVariables false
set_option maxRecDepth 20000
set_option linter.unusedSimpArgs false

structure AP where
  a0 : Act
  lo : Nat
  hi : Nat
  n : Nat
  T : List (Nat × Nat × Value)
  W1 : World
  W2 : World
  al : Nat
  i1 : Nat
  i2 : Nat
structure AI (p : AP) (L : Array Bool) (a : Act) (w : World) : Prop where
  sz : a.tmps.size = p.n
  df : a.defers = []
  out : ∀ s, s < p.lo ∨ p.hi ≤ s → a.eval (.tmp s) = p.a0.eval (.tmp s)
  tab : TabOk p.T L a
  wd : if L.getD p.al false = true then Below p.W2.heap.size p.W2 w else w = p.W1
  j1 : L.getD p.i1 false = true → L.getD p.al false = true
  j2 : L.getD p.i2 false = true → L.getD p.al false = true
section
variable {p : AP} {L : Array Bool} {a : Act} {w w' : World}
theorem AI.begin {n : Nat} (hs : p.a0.tmps.size = p.n) (hd : p.a0.defers = []) : AI p (Array.replicate n false) p.a0 p.W1 := by
  have gz : ∀ j, (Array.replicate n false).getD j false = false := fun j => by rw [Array.getD_eq_getD_getElem?, Array.getElem?_replicate]; split <;> rfl
  exact ⟨hs, hd, fun _ _ => rfl, fun e _ hl => (by rw [gz] at hl; cases hl), by rw [gz, if_neg (by decide)], fun hl => (by rw [gz] at hl; cases hl), fun hl => (by rw [gz] at hl; cases hl)⟩
theorem AI.two (h : AI p L a w) : w = p.W1 ∨ Below p.W2.heap.size p.W2 w := by
  have := h.wd
  split at this
  · exact Or.inr this
  · exact Or.inl this
theorem AI.bel (h : AI p L a w) (hl : L.getD p.al false = true) : Below p.W2.heap.size p.W2 w := by
  have := h.wd
  rw [if_pos hl] at this
  exact this
theorem AI.put (h : AI p L a w) (i d : Nat) (v : Value) (hd1 : p.lo ≤ d) (hd2 : d < p.hi) (hn : p.hi ≤ p.n) (hi : i ≠ p.al) (h1 : i = p.i1 → L.getD p.al false = true) (h2 : i = p.i2 → L.getD p.al false = true) (hT : ∀ e ∈ p.T, (e.2.1 = d ∧ e.2.2 = v) ∨ (e.1 ≠ i ∧ e.2.1 ≠ d)) :
    AI p (L.setIfInBounds i true) (a.put (some d) v) w := by
  have g : (L.setIfInBounds i true).getD p.al false = L.getD p.al false := getD_set_ne (Ne.symm hi)
  refine ⟨by rw [put_size]; exact h.sz, by rw [put_defers]; exact h.df, fun s hs => by rw [eval_put_ne (by omega)]; exact h.out s hs, h.tab.put (by rw [h.sz]; omega) hT, by rw [g]; exact h.wd, fun hl => ?_, fun hl => ?_⟩
  · rw [g]
    by_cases e : p.i1 = i
    · exact h1 e.symm
    · rw [getD_set_ne e] at hl; exact h.j1 hl
  · rw [g]
    by_cases e : p.i2 = i
    · exact h2 e.symm
    · rw [getD_set_ne e] at hl; exact h.j2 hl
theorem AI.alloc (h : AI p L a w) (hL : p.al < L.size) (d : Nat) (v : Value) (hd1 : p.lo ≤ d) (hd2 : d < p.hi) (hn : p.hi ≤ p.n) (hT : ∀ e ∈ p.T, (e.2.1 = d ∧ e.2.2 = v) ∨ (e.1 ≠ p.al ∧ e.2.1 ≠ d)) : AI p (L.setIfInBounds p.al true) (a.put (some d) v) p.W2 := by
  have g : (L.setIfInBounds p.al true).getD p.al false = true := getD_set_same hL
  exact ⟨by rw [put_size]; exact h.sz, by rw [put_defers]; exact h.df, fun s hs => by rw [eval_put_ne (by omega)]; exact h.out s hs, h.tab.put (by rw [h.sz]; omega) hT, by rw [g, if_pos rfl]; exact Below.refl _ _, fun _ => g, fun _ => g⟩
theorem AI.call (h : AI p L a w) (i d : Nat) (v : Value) (hd1 : p.lo ≤ d) (hd2 : d < p.hi) (hn : p.hi ≤ p.n) (hi : i ≠ p.al ∧ i ≠ p.i1 ∧ i ≠ p.i2) (hl : L.getD p.al false = true) (hT : ∀ e ∈ p.T, e.1 ≠ i ∧ e.2.1 ≠ d) (hw : Below w.heap.size w w') : AI p (L.setIfInBounds i true) (a.put (some d) v) w' := by
  have g : (L.setIfInBounds i true).getD p.al false = L.getD p.al false := getD_set_ne (Ne.symm hi.1)
  have hb := h.bel hl
  exact ⟨by rw [put_size]; exact h.sz, by rw [put_defers]; exact h.df, fun s hs => by rw [eval_put_ne (by omega)]; exact h.out s hs, h.tab.put (by rw [h.sz]; omega) (fun e he => .inr (hT e he)), by rw [g, if_pos hl]; exact hb.trans (hw.mono hb.size), fun _ => by rw [g]; exact hl, fun _ => by rw [g]; exact hl⟩
/-- Behind the region: the slots outside are as they were. -/
theorem AI.fin (h : AI p L a w) (h0 : p.a0.tmps.size = p.n) (hle : p.lo ≤ p.hi) (hn : p.hi ≤ p.n) : ∃ us : List Value, us.length = p.hi - p.lo ∧ a = ⟨(p.a0.tmps.toList.take p.lo ++ (us ++ p.a0.tmps.toList.drop p.hi)).toArray, []⟩ := by
  have key : ∀ s, s < p.lo ∨ p.hi ≤ s → a.tmps.toList[s]? = p.a0.tmps.toList[s]? := fun s hs => by
    have e := h.out s hs
    by_cases hlt : s < p.n
    · have l1 : s < a.tmps.size := by rw [h.sz]; exact hlt
      have l2 : s < p.a0.tmps.size := by rw [h0]; exact hlt
      simp [Act.eval, Array.getD_eq_getD_getElem?, l1, l2] at e
      simp [l1, l2, e]
    · rw [List.getElem?_eq_none (by simp; rw [h.sz]; omega), List.getElem?_eq_none (by simp; rw [h0]; omega)]
  refine ⟨(a.tmps.toList.take p.hi).drop p.lo, by simp [h.sz]; omega, ?_⟩
  have e1 : p.a0.tmps.toList.take p.lo = a.tmps.toList.take p.lo := by
    apply List.ext_getElem?
    intro s
    rw [List.getElem?_take, List.getElem?_take]
    split
    · exact (key s (.inl ‹_›)).symm
    · rfl
  have e2 : p.a0.tmps.toList.drop p.hi = a.tmps.toList.drop p.hi := by
    apply List.ext_getElem?
    intro s
    rw [List.getElem?_drop, List.getElem?_drop]
    exact (key _ (.inr (by omega))).symm
  have e3 : a.tmps.toList = a.tmps.toList.take p.lo ++ ((a.tmps.toList.take p.hi).drop p.lo ++ a.tmps.toList.drop p.hi) := by
    have := List.take_append_drop p.lo (a.tmps.toList.take p.hi)
    rw [← List.append_assoc]
    rw [List.take_take, Nat.min_eq_left hle] at this
    rw [this, List.take_append_drop]
  rw [e1, e2, ← e3]
  obtain ⟨tm, df⟩ := a
  have := h.df
  simp only at this
  subst this
  rfl
end
theorem nots {L : Array Bool} {ops : Array Oper} {i : Nat} (hi : i ∈ Region.ready .any ops L) : L.getD i false = false ∧ i < ops.size := by
  refine ⟨?_, ?_⟩
  · have := (mem_ready.1 hi).1
    rw [Array.getD_eq_getD_getElem?] at this ⊢
    cases e : L[i]? with
    | none => rw [e] at this; simp at this
    | some b => rw [e] at this; simpa using this
  · obtain ⟨_, o, ho, _⟩ := mem_ready.1 hi
    exact (Array.getElem?_eq_some_iff.1 ho).1
end Go.Proofs.Ytgikbpaejmdnoaa
