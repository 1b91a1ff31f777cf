/-
  The document's own Set.
-/
import Derived.Test.YthioekmlljpbpaaRTm4
namespace Go.Proofs.Ythioekmlljpbpaa
open Go.RowKit
set_option linter.unusedVariables false
set_option maxRecDepth 20000

theorem tw_stop {l : List Tm} {p : Tm → Bool} {k : Nat} (h1 : ∀ t ∈ l.take k, p t = true) (h2 : ∀ t r, l.drop k = t :: r → p t = false) : l.takeWhile p = l.take k ∧ l.dropWhile p = l.drop k := by
  have e := (List.take_append_drop k l).symm
  have q : (l.drop k).takeWhile p = [] ∧ (l.drop k).dropWhile p = l.drop k := by
    cases hd : l.drop k with
    | nil => exact ⟨rfl, rfl⟩
    | cons t r =>
      have := h2 t r hd
      constructor
      · rw [List.takeWhile_cons, if_neg (by rw [this]; simp)]
      · rw [List.dropWhile_cons, if_neg (by rw [this]; simp)]
  constructor
  · conv => lhs; rw [e]
    rw [List.takeWhile_append_of_pos h1, q.1, List.append_nil]
  · conv => lhs; rw [e]
    rw [List.dropWhile_append_of_pos h1, q.2]
theorem stop_less {l : List Tm} {id : Int} : (stopT l id).length < l.length ↔ ¬ whenT l id = none := by
  rw [when_none]
  unfold stopT
  induction l with
  | nil => simp
  | cons t l ih =>
    have hle := List.length_filter_le (fun t : Tm => !decide (t.2 = id)) l
    by_cases e : t.2 = id
    · rw [List.filter_cons, if_neg (by simp [e])]
      simp only [List.length_cons]
      constructor
      · intro _ h
        exact h t (by simp) e
      · intro _; omega
    · rw [List.filter_cons, if_pos (by simp [e])]
      simp only [List.length_cons]
      rw [Nat.add_lt_add_iff_right, ih]
      constructor
      · intro h h'
        exact h fun x hx => h' x (by simp [hx])
      · intro h h'
        refine h fun x hx => ?_
        rcases List.mem_cons.1 hx with rfl | hx
        · exact e
        · exact h' x hx
theorem tmsCells_len (ts : List Tm) : (tmsCells ts).length = ts.length * 2 := by
  induction ts with
  | nil => rfl
  | cons t ts ih =>
    have e : tmsCells (t :: ts) = tmCells t ++ tmsCells ts := by simp [tmsCells]
    rw [e, List.length_append, ih]
    simp [tmCells]
    omega
theorem tmsCells_app (a b : List Tm) : tmsCells (a ++ b) = tmsCells a ++ tmsCells b := by simp [tmsCells]
theorem tms_one (ts : List Tm) : ∀ u ∈ tmsCells ts, u.oneCell' = true := by
  intro u hu
  simp only [tmsCells, List.mem_flatMap] at hu
  obtain ⟨t, _, hu⟩ := hu
  simp [tmCells] at hu
  rcases hu with rfl | rfl <;> rfl
/-- append of some timers. -/
theorem wp_appTs {P : Program} (w : World) {ops : Array Oper} {rest : List Oper} {o : Oper} {a : Act} {Q : Exit → Act → World → Prop} (hgd : o.guard = none)
    (s x : Operand) (t : TypeId) (ho : o.op = Op.call { callee := Callee.builtin Builtin.append, args := #[s, x], argTypes := #[t, t] }) (B : Nat) (i : TypeInfo)
    (z : Value) (ht : P.underlying t = some (TypeDesc.slice 49)) (hi : P.info? 49 = some i) (hz : i.zero = some z) (hsize : i.size = 2) (hby : i.bytes = 16) (hzs : z.cells.size = 2)
    (v : Value) (ts : List Tm) (hs : a.eval s = v) (hown : OwnT w B v ts) (ad : Addr) (m c : Nat) (ns : List Tm) (hx : a.eval x = Value.slice (some ad) m c) (hm : ns.length = m)
    (hnews : ∀ (j : Nat) (u : Value), (tmsCells ns)[j]? = some u → w.cell? (ad.add j) = some u)
    (hlen : ts.length + m ≤ 4000000) (hB : B ≤ w.heap.size)
    (h : ∀ (v' : Value) (w' : World), OwnT w' B v' (ts ++ ns) → w.grownBy w' v.ownBlock → wpList P ops Q rest (a.put o.dst v') w') : wpList P ops Q (o :: rest) a w := by
  refine wpList_append_own w hgd s x t ho B 49 i z 2 16 ht hi hz hsize hby hzs (by decide) v ts.length (tmsCells ts) hs hown ad m c (tmsCells ns) hx (by rw [tmsCells_len, hm]) hnews (tms_one ns) (by unfold maxLen; omega) (by omega) hB ?_
  intro v' w' hown' hgr _
  refine h v' w' ?_ hgr
  unfold OwnT
  rw [tmsCells_app, List.length_append, hm]
  exact hown'
theorem add_z (g j : Nat) : (⟨g, 0, none⟩ : Addr).add j = ⟨g, j, none⟩ := by unfold Addr.add; split <;> simp_all
theorem add_o (g o j : Nat) : (⟨g, o, none⟩ : Addr).add j = ⟨g, o + j, none⟩ := by unfold Addr.add; simp
theorem OwnT.news {w : World} {B g n cap : Nat} {ts : List Tm} (h : OwnT w B (.slice (some ⟨g, 0, none⟩) n cap) ts) (a b c : List Tm) (he : ts = a ++ b ++ c) : ∀ (j : Nat) (u : Value), (tmsCells b)[j]? = some u → w.cell? ((⟨g, a.length * 2, none⟩ : Addr).add j) = some u := by
  intro j u hj
  have hlt := (List.getElem?_eq_some_iff.1 hj).1
  have h2 : (tmsCells ts)[a.length * 2 + j]? = some u := by
    rw [he, tmsCells_app, tmsCells_app, List.getElem?_append_left (by rw [List.length_append, tmsCells_len]; omega), List.getElem?_append_right (by rw [tmsCells_len]; omega), tmsCells_len, Nat.add_sub_cancel_left]
    exact hj
  have := World.ownsRow.cells h (g := g) rfl _ _ h2
  rw [add_z] at this
  rw [add_o]
  exact this
end Go.Proofs.Ythioekmlljpbpaa
