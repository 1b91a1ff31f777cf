/-
  A region that draws its order, by an invariant: each operation is walked once, from whatever was listed ahead of it.
-/
import Derived.Test.YtbnmdljlfldgoaaKit
import Derived.Orders
namespace Go.Proofs.Ytbnmdljlfldgoaa
set_option linter.unusedVariables false
set_option maxRecDepth 20000
set_option linter.unusedSimpArgs false

section
variable {P : Program} {md : Region.Mode} {ops : Array Oper} {Q : Exit → Act → World → Prop}
theorem count_set {L : Array Bool} {i : Nat} (h : L.getD i true = false) : (L.setIfInBounds i true).toList.count false + 1 = L.toList.count false := by
  have hi : i < L.size := by
    rcases Nat.lt_or_ge i L.size with h1 | h1
    · exact h1
    · rw [Array.getD_eq_getD_getElem?, Array.getElem?_eq_none h1] at h; simp at h
  have hv : L.toList[i]'(by simpa using hi) = false := by
    rw [Array.getD_eq_getD_getElem?, Array.getElem?_eq_getElem hi] at h
    simpa using h
  have hm : false ∈ L.toList := by rw [← hv]; exact List.getElem_mem _
  have hc : 0 < L.toList.count false := List.count_pos_iff.2 hm
  rw [Array.toList_setIfInBounds, List.count_set (by simpa using hi), hv]
  have a1 : (if (false == false) = true then (1 : Nat) else 0) = 1 := by decide
  have a2 : (if (true == false) = true then (1 : Nat) else 0) = 0 := by decide
  rw [a1, a2]
  omega
/-- The invariant: what holds whatever is listed. -/
theorem wpAny_inv (Inv : Array Bool → Act → World → Prop)
    (hend : ∀ L a w, L.size = ops.size → Region.ready md ops L = [] → Inv L a w → Q .normal a w)
    (hstep : ∀ L a w i, L.size = ops.size → i ∈ Region.ready md ops L → Inv L a w → wpOp P ops Q i (Inv (L.setIfInBounds i true)) a w) :
    ∀ (f : Nat) (L : Array Bool) (a : Act) (w : World), L.size = ops.size → L.toList.count false ≤ f → Inv L a w → wpAny P md ops Q f L a w := by
  intro f
  induction f with
  | zero =>
    intro L a w hs hc hI
    have hr : Region.ready md ops L = [] := by
      apply List.eq_nil_iff_forall_not_mem.2
      intro i hi
      have := count_set (mem_ready.1 hi).1
      omega
    exact ⟨hr, hend L a w hs hr hI⟩
  | succ f ih =>
    intro L a w hs hc hI
    refine ⟨fun hr => hend L a w hs hr hI, fun i hi => ?_⟩
    refine wpOp_mono (fun a' w' k => ih _ a' w' (by simpa using hs) ?_ k) (hstep L a w i hs hi hI)
    have := count_set (mem_ready.1 hi).1
    omega
/-- Each operation waits for earlier ones alone. -/
def lowB (md : Region.Mode) (ops : Array Oper) : Bool := (List.range ops.size).all fun j => match ops[j]? with
  | some o => o.after.all fun e => !Region.binds md e || decide (e.on < j)
  | none => false
theorem all_listed (hl : lowB md ops = true) {L : Array Bool} (hs : L.size = ops.size) (hr : Region.ready md ops L = []) : ∀ j, j < ops.size → L.getD j false = true := by
  intro j
  induction j using Nat.strongRecOn with
  | _ j ih =>
    intro hj
    have h1 := List.all_eq_true.1 hl j (List.mem_range.2 hj)
    have ho : ops[j]? = some ops[j] := Array.getElem?_eq_getElem hj
    rw [ho] at h1
    simp only at h1
    cases e : L[j]? with
    | none => rw [Array.getElem?_eq_none_iff] at e; omega
    | some b =>
      cases b with
      | true => rw [Array.getD_eq_getD_getElem?, e]; rfl
      | false =>
        exfalso
        have : j ∈ Region.ready md ops L := by
          rw [mem_ready]
          refine ⟨by rw [Array.getD_eq_getD_getElem?, e]; rfl, ops[j], ho, fun x hx hb => ?_⟩
          have h2 := Array.all_eq_true_iff_forall_mem.1 h1 x hx
          simp only [hb, Bool.not_true, Bool.false_or, decide_eq_true_eq] at h2
          exact ih x.on h2 (by omega)
        rw [hr] at this
        cases this
theorem wp_region_inv {id : Nat} {a : Act} {w : World} (hm : P.follows .mixedOrders = true) (Inv : Array Bool → Act → World → Prop) (h0 : Inv (Array.replicate ops.size false) a { w with drawn := w.drawn + 1 })
    (hend : ∀ L a w, L.size = ops.size → Region.ready .any ops L = [] → Inv L a w → Q .normal a w)
    (hstep : ∀ L a w i, L.size = ops.size → i ∈ Region.ready .any ops L → Inv L a w → wpOp P ops Q i (Inv (L.setIfInBounds i true)) a w) : (Code.region id ops true).wp P Q a w :=
  wp_region_any hm (wpAny_inv Inv hend hstep ops.size _ a _ (by simp) (by simp) h0)
theorem wp_region_name {id : Nat} {a : Act} {w : World} (h : ∀ ops', ops' = ops → (Code.region id ops' true).wp P Q a w) : (Code.region id ops true).wp P Q a w := h ops rfl
/-- An operation that gives a value. -/
theorem wpOp_val {i : Nat} {o : Oper} {K : Act → World → Prop} {a : Act} {w w' : World} {v : Value} (ho : ops[i]? = some o) (hg : o.guard = none) (hr : (execOp a.eval o).run P w = .ok (.value v) w') (h : K (a.put o.dst v) w') : wpOp P ops Q i K a w := by
  unfold wpOp
  rw [ho]
  simp only
  have hw : Region.wanted o (yielded ops a.tmps) = true := by simp [Region.wanted, hg]
  rw [if_pos hw]
  refine Or.inl ?_
  unfold Oper.wp
  rw [hr]
  exact h
theorem wpOp_of {i : Nat} {o : Oper} {K : Act → World → Prop} {a : Act} {w : World} (ho : ops[i]? = some o) {E : Prop} (h : if Region.wanted o (yielded ops a.tmps) = true then Oper.wp P o a w K Q else E) (hg : o.guard = none) : wpOp P ops Q i K a w := by
  unfold wpOp
  rw [ho]
  simp only
  have hw : Region.wanted o (yielded ops a.tmps) = true := by simp [Region.wanted, hg]
  rw [if_pos hw] at h ⊢
  exact Or.inl h
theorem eval_put_ne {a : Act} {d s : Nat} {v : Value} (h : s ≠ d) : (a.put (some d) v).eval (.tmp s) = a.eval (.tmp s) := by
  simp [Act.put, Act.eval, Array.getD_eq_getD_getElem?, Array.getElem?_setIfInBounds, Ne.symm h]
theorem eval_put_same {a : Act} {d : Nat} {v : Value} (h : d < a.tmps.size) : (a.put (some d) v).eval (.tmp d) = v := by
  simp [Act.put, Act.eval, Array.getD_eq_getD_getElem?, Array.getElem?_setIfInBounds, h]
theorem put_size (a : Act) (d : Option Nat) (v : Value) : (a.put d v).tmps.size = a.tmps.size := by
  cases d <;> simp [Act.put]
theorem put_defers (a : Act) (d : Option Nat) (v : Value) : (a.put d v).defers = a.defers := by
  cases d <;> simp [Act.put]
theorem getD_set_ne {L : Array Bool} {i j : Nat} (h : j ≠ i) : (L.setIfInBounds i true).getD j false = L.getD j false := by
  simp [Array.getD_eq_getD_getElem?, Array.getElem?_setIfInBounds, Ne.symm h]
theorem getD_set_same {L : Array Bool} {i : Nat} (h : i < L.size) : (L.setIfInBounds i true).getD i false = true := by
  simp [Array.getD_eq_getD_getElem?, Array.getElem?_setIfInBounds, h]
/-- What slots hold, where their operations are listed. -/
def TabOk (T : List (Nat × Nat × Value)) (L : Array Bool) (a : Act) : Prop := ∀ e ∈ T, L.getD e.1 false = true → a.eval (.tmp e.2.1) = e.2.2
theorem TabOk.put {T : List (Nat × Nat × Value)} {L : Array Bool} {a : Act} (h : TabOk T L a) {i d : Nat} {v : Value} (hd : d < a.tmps.size) (hT : ∀ e ∈ T, (e.2.1 = d ∧ e.2.2 = v) ∨ (e.1 ≠ i ∧ e.2.1 ≠ d)) : TabOk T (L.setIfInBounds i true) (a.put (some d) v) := by
  intro e he hl
  rcases hT e he with ⟨h1, h2⟩ | ⟨h1, h2⟩
  · rw [h1, h2]; exact eval_put_same hd
  · rw [eval_put_ne h2]
    exact h e he (by rwa [getD_set_ne h1] at hl)
theorem TabOk.skip {T : List (Nat × Nat × Value)} {L : Array Bool} {a : Act} (h : TabOk T L a) {i : Nat} (hT : ∀ e ∈ T, e.1 ≠ i) : TabOk T (L.setIfInBounds i true) a := by
  intro e he hl
  exact h e he (by rwa [getD_set_ne (hT e he)] at hl)
end
end Go.Proofs.Ytbnmdljlfldgoaa
