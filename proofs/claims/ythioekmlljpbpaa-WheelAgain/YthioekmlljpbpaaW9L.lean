/-
  Rows of timers, what is due of them, and what is left: plain facts for the laws of layer 9.
-/
import Derived.Test.YthioekmlljpbpaaW9Filled
import Derived.Laws.AppendOwnNone
namespace Go.Proofs.Ythioekmlljpbpaa
open Go.RowKit
set_option linter.unusedVariables false
set_option maxRecDepth 20000
set_option linter.unusedSimpArgs false

theorem due_left (l : List Tm) (now : Int) : dueT l now ++ leftT l now = l := List.takeWhile_append_dropWhile
theorem due_len (l : List Tm) (now : Int) : (dueT l now).length + (leftT l now).length = l.length := by
  rw [← List.length_append, due_left]
theorem due_le {l : List Tm} {now : Int} {t : Tm} (h : t ∈ dueT l now) : t.1 ≤ now := by
  have := tw_all h
  simpa using this
theorem left_head {l : List Tm} {now : Int} {t : Tm} {r : List Tm} (h : leftT l now = t :: r) : now < t.1 := by
  have := dw_first h
  simp at this
  omega
theorem due_none (l : List Tm) (now : Int) : dueT (leftT l now) now = [] := by
  cases h : leftT l now with
  | nil => rfl
  | cons t r =>
    have := left_head h
    unfold dueT
    rw [List.takeWhile_cons, if_neg (by simp; omega)]
theorem when_left {l : List Tm} (h : Row9 l) (now : Int) {t : Tm} (ht : t ∈ dueT l now) : whenT (leftT l now) t.2 = none := by
  rw [when_none]
  intro u hu e
  have hp := h.ids
  rw [← due_left l now, List.pairwise_append] at hp
  exact hp.2.2 t ht u hu e.symm
theorem Row9.due {l : List Tm} (h : Row9 l) (now : Int) : Row9 (dueT l now) := by
  obtain ⟨h1, h2⟩ := h
  rw [← due_left l now, List.pairwise_append] at h1 h2
  exact ⟨h1.1, h2.1⟩
theorem ahd_next {l : List Tm} (h : Row9 l) {k : Nat} (hk : k + 1 < l.length) : ahd (l[k]'(by omega)) l[k + 1] = true :=
  List.pairwise_iff_getElem.1 h.sorted k (k + 1) (by omega) hk (by omega)
theorem due_two : ∀ (l : List Tm) {a b : Int}, a ≤ b → dueT l a ++ dueT (leftT l a) b = dueT l b ∧ leftT (leftT l a) b = leftT l b
  | [], a, b, h => ⟨rfl, rfl⟩
  | t :: l, a, b, h => by
    obtain ⟨i1, i2⟩ := due_two l h
    unfold dueT leftT at *
    by_cases ha : t.1 ≤ a
    · have hb : t.1 ≤ b := by omega
      simp only [List.takeWhile_cons, List.dropWhile_cons, decide_eq_true ha, decide_eq_true hb, if_true, List.cons_append]
      exact ⟨by rw [i1], i2⟩
    · simp only [List.takeWhile_cons, List.dropWhile_cons, decide_eq_false ha, Bool.false_eq_true, if_false, List.nil_append]
      exact ⟨trivial, trivial⟩
theorem due_all {l : List Tm} {now : Int} (h : ∀ t ∈ l, t.1 ≤ now) : dueT l now = l ∧ leftT l now = [] := by
  obtain ⟨h1, h2⟩ := due_stop (l := l) (k := l.length) (now := now) (fun t ht => h t (List.mem_of_mem_take ht)) (fun t r e => by rw [List.drop_length] at e; cases e)
  rw [List.take_length] at h1
  rw [List.drop_length] at h2
  exact ⟨h1, h2⟩
theorem setR_len {l : List Tm} (h : Row9 l) (id a : Int) : (setR l id a).length ≤ l.length + 1 := by
  unfold setR
  split
  · omega
  · split
    · omega
    · have := set_len h id a
      omega
theorem Row9.setR {l : List Tm} (h : Row9 l) (id a : Int) : Row9 (setR l id a) := by
  unfold Go.Proofs.Ythioekmlljpbpaa.setR
  split
  · exact h
  · split
    · exact h
    · exact h.set id a
theorem fill_row (ats : List Int) : ∀ k, Row9 (fillT ats k) ∧ (fillT ats k).length ≤ k
  | 0 => ⟨Row9.nil, Nat.le_refl _⟩
  | k + 1 => by
    obtain ⟨h1, h2⟩ := fill_row ats k
    rw [fillT]
    exact ⟨h1.setR _ _, by have := setR_len h1 ((k % 97 : Nat) : Int) (ats.getD k 0); omega⟩
theorem fillL_row (ats : List Int) : Row9 (fillL ats) ∧ (fillL ats).length ≤ 500 := by
  obtain ⟨h1, h2⟩ := fill_row ats (min ats.length 500)
  exact ⟨h1, by unfold fillL; omega⟩
theorem fillL_ok (ats : List Int) : ∀ t ∈ fillL ats, okT t := ok_fill ats _
/-- How many of a row bear a name. -/
def cntT (l : List Tm) (id : Int) : Nat := (l.filter fun t => decide (t.2 = id)).length
theorem cnt_snoc (l : List Tm) (t : Tm) (id : Int) : cntT (l ++ [t]) id = cntT l id + if t.2 = id then 1 else 0 := by
  unfold cntT
  rw [List.filter_append, List.length_append]
  congr 1
  by_cases h : t.2 = id <;> simp [h]
theorem cnt_stop (l : List Tm) (id : Int) : cntT (stopT l id) id = 0 := by
  unfold cntT stopT
  rw [List.filter_filter]
  rw [List.length_eq_zero_iff, List.filter_eq_nil_iff]
  intro t ht
  simp
theorem cnt_app (a b : List Tm) (id : Int) : cntT (a ++ b) id = cntT a id + cntT b id := by
  unfold cntT
  rw [List.filter_append, List.length_append]
theorem cnt_set (l : List Tm) (id a : Int) : cntT (setT l id a) id = 1 := by
  have h := cnt_stop l id
  rw [← List.takeWhile_append_dropWhile (p := fun t => ahd t (a, id)) (l := stopT l id), cnt_app] at h
  unfold setT
  rw [cnt_app]
  have e : ∀ y : List Tm, cntT ((a, id) :: y) id = cntT y id + 1 := fun y => by simp [cntT, List.filter_cons]
  rw [e]
  exact congrArg Nat.succ h
theorem cnt_zero {l : List Tm} {id : Int} (h : ∀ t ∈ l, t.2 ≠ id) : cntT l id = 0 := by
  unfold cntT
  rw [List.length_eq_zero_iff, List.filter_eq_nil_iff]
  intro t ht
  simp [h t ht]
-- one row that grows at its end
def rowF (a : Int) (k : Nat) : List Tm := (List.range k).map fun (i : Nat) => (a, (i : Int))
theorem rowF_len (a : Int) (k : Nat) : (rowF a k).length = k := by simp [rowF]
theorem rowF_mem {a : Int} {k : Nat} {t : Tm} : t ∈ rowF a k ↔ ∃ i, i < k ∧ t = (a, (i : Int)) := by
  simp [rowF, eq_comm]
theorem rowF_when {a : Int} {k : Nat} {j : Int} (h : ∀ i : Nat, i < k → (i : Int) ≠ j) : whenT (rowF a k) j = none := by
  rw [when_none]
  intro t ht
  obtain ⟨i, hi, rfl⟩ := rowF_mem.1 ht
  exact h i hi
theorem rowF_set (a : Int) (k : Nat) : setT (rowF a k) (k : Int) a = rowF a (k + 1) := by
  have hs : stopT (rowF a k) (k : Int) = rowF a k := by
    unfold stopT
    rw [List.filter_eq_self]
    intro t ht
    obtain ⟨i, hi, rfl⟩ := rowF_mem.1 ht
    simp; omega
  have ht : ∀ t ∈ rowF a k, ahd t (a, (k : Int)) = true := by
    intro t ht
    obtain ⟨i, hi, rfl⟩ := rowF_mem.1 ht
    rw [ahd_iff]
    exact .inr ⟨rfl, by simp only; omega⟩
  obtain ⟨e1, e2⟩ := tw_stop (l := rowF a k) (p := fun t => ahd t (a, (k : Int))) (k := (rowF a k).length) (fun t h => ht t (List.mem_of_mem_take h)) (fun t r e => by rw [List.drop_length] at e; cases e)
  unfold setT
  rw [hs, e1, e2, List.take_length, List.drop_length]
  simp [rowF, List.range_succ]
theorem grown_self (w : World) (r : Option Nat) : w.grownBy w r := ⟨rfl, rfl, rfl, Nat.le_refl _, fun _ _ _ => rfl⟩
/-- append of a row of timers, nil or not. -/
theorem wp_appO {P : Program} (w : World) {ops : Array Oper} {rest : List Oper} {o : Oper} {a : Act} {Q : Exit → Act → World → Prop} (hgd : o.guard = none)
    (s x : Operand) (t : TypeId) (ho : o.op = Op.call { callee := Callee.builtin Builtin.append, args := #[s, x], argTypes := #[t, t] }) (B : Nat) (i : TypeInfo)
    (z : Value) (ht : P.underlying t = some (TypeDesc.slice 49)) (hi : P.info? 49 = some i) (hz : i.zero = some z) (hsize : i.size = 2) (hby : i.bytes = 16) (hzs : z.cells.size = 2)
    (v : Value) (ts : List Tm) (hs : a.eval s = v) (hown : OwnT w B v ts) (va : Value) (ns : List Tm) (B2 : Nat) (hx : a.eval x = va) (hown2 : OwnT w B2 va ns)
    (hlen : ts.length + ns.length ≤ 4000000) (hB : B ≤ w.heap.size)
    (h : ∀ (v' : Value) (w' : World), OwnT w' B v' (ts ++ ns) → w.grownBy w' v.ownBlock → wpList P ops Q rest (a.put o.dst v') w') : wpList P ops Q (o :: rest) a w := by
  rcases hown2.2 with ⟨hv, hn⟩ | ⟨g, cap, cur, hv, hcc⟩
  · have hns : ns = [] := List.eq_nil_of_length_eq_zero hn
    subst hns
    rw [hv] at hx
    exact wpList_append_own_none hgd s x t ho B 49 i 2 ht hi v ts.length (tmsCells ts) hs hown hx (h v w (by rw [List.append_nil]; exact hown) (grown_self _ _))
  · rw [hv] at hx hown2
    exact wp_appTs w hgd s x t ho B i z ht hi hz hsize hby hzs v ts hs hown ⟨g, 0, none⟩ ns.length cap ns hx rfl (hown2.news [] ns [] (by simp)) hlen hB h
end Go.Proofs.Ythioekmlljpbpaa
