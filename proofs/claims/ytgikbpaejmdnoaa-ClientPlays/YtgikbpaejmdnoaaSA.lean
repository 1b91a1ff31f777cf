/-
  Base texts, one behind another: MpG, CqM, SqC1, SqC2, RowN, SqC3, SqC4, SqC5.
-/
import Derived.Test.YtgikbpaejmdnoaaKit
import Derived.Maps.OwnSet
import Derived.Test.YtgikbpaejmdnoaaRE
import Derived.Test.YtgikbpaejmdnoaaWA
import Derived.Test.YtgikbpaejmdnoaaWC
import Derived.Test.YtgikbpaejmdnoaaRow
import Derived.Test.YtgikbpaejmdnoaaCA

/-
  A map that holds a row of records by a key: plain facts, for records of any kind.
-/
namespace Go.Proofs.Ytgikbpaejmdnoaa
open Go.RowKit Go.Maps Go.WideMaps
set_option linter.unusedVariables false
set_option maxRecDepth 20000
set_option linter.unusedSimpArgs false

/-- The map D holds just the records l: by the key kn, as dn. -/
structure MpG {α : Type} (kn : α → Lit) (dn : α → DataW Unit) (l : List α) (D : DataW Unit) : Prop where
  has : ∀ k, Maps.has D k = true ↔ ∃ x ∈ l, kn x = k
  at' : ∀ c ∈ l, ∀ z, D.atKey (kn c) z = dn c
  size : Maps.size D = l.length
section
variable {α : Type} {kn : α → Lit} {dn : α → DataW Unit} {l : List α} {D : DataW Unit}
theorem MpG.nil (kn : α → Lit) (dn : α → DataW Unit) : MpG kn dn [] (.map []) := ⟨fun c => by simp [Maps.has], fun c hc => by simp at hc, rfl⟩
theorem MpG.hasNot (h : MpG kn dn l D) {k : Lit} (hno : ∀ x ∈ l, kn x ≠ k) : Maps.has D k = false := by
  cases e : Maps.has D k
  · rfl
  · obtain ⟨x, hx, ex⟩ := (h.has k).1 e
    exact absurd ex (hno x hx)
theorem MpG.add (h : MpG kn dn l D) (hM : IsMap D) (hT : Tidy D) {c : α} (hk : WideAt.IsKeyLit (kn c)) (hno : ∀ x ∈ l, kn x ≠ kn c) : MpG kn dn (l ++ [c]) (D.put (kn c) (dn c)) := by
  have hh := h.hasNot hno
  refine ⟨fun y => ?_, fun y hy z => ?_, ?_⟩
  · by_cases e : y = kn c
    · rw [e, Maps.has_put_same hM hk]
      simp only [true_iff]
      exact ⟨c, by simp, rfl⟩
    · rw [Maps.has_put_other e, h.has]
      constructor
      · rintro ⟨x, hx, ex⟩; exact ⟨x, by simp [hx], ex⟩
      · rintro ⟨x, hx, ex⟩
        rcases List.mem_append.1 hx with hx | hx
        · exact ⟨x, hx, ex⟩
        · simp at hx; subst hx; exact absurd ex.symm e
  · rcases List.mem_append.1 hy with hy | hy
    · rw [Maps.atKey_put_other (hno y hy)]; exact h.at' y hy z
    · simp at hy; subst hy; exact Maps.atKey_put_same hM hk _ _
  · rw [Maps.size_put hT, hh, h.size]; simp
theorem MpG.set (h : MpG kn dn l D) (hM : IsMap D) (hT : Tidy D) {i : Nat} (hi : i < l.length) {c : α} (hk : WideAt.IsKeyLit (kn c)) (he : kn c = kn l[i]) (hd : ∀ j (hj : j < l.length), j ≠ i → kn l[j] ≠ kn l[i]) : MpG kn dn (l.set i c) (D.put (kn c) (dn c)) := by
  have hh : Maps.has D (kn c) = true := (h.has _).2 ⟨l[i], List.getElem_mem hi, he.symm⟩
  refine ⟨fun y => ?_, fun y hy z => ?_, ?_⟩
  · by_cases e : y = kn c
    · rw [e, Maps.has_put_same hM hk]
      simp only [true_iff]
      exact ⟨c, List.mem_iff_getElem.2 ⟨i, by simpa using hi, by simp⟩, rfl⟩
    · rw [Maps.has_put_other e, h.has]
      constructor
      · rintro ⟨x, hx, ex⟩
        obtain ⟨j, hj, rfl⟩ := List.mem_iff_getElem.1 hx
        have hji : j ≠ i := fun e' => by subst e'; exact e (ex.symm.trans he.symm)
        exact ⟨l[j], List.mem_iff_getElem.2 ⟨j, by simpa using hj, by rw [List.getElem_set_ne (Ne.symm hji)]⟩, ex⟩
      · rintro ⟨x, hx, ex⟩
        obtain ⟨j, hj, rfl⟩ := List.mem_iff_getElem.1 hx
        by_cases hji : i = j
        · subst hji; rw [List.getElem_set_self] at ex; exact absurd ex.symm e
        · rw [List.getElem_set_ne hji] at ex
          exact ⟨l[j]'(by simpa using hj), List.getElem_mem _, ex⟩
  · obtain ⟨j, hj, rfl⟩ := List.mem_iff_getElem.1 hy
    by_cases hji : i = j
    · subst hji; rw [List.getElem_set_self]; exact Maps.atKey_put_same hM hk _ _
    · have hj' : j < l.length := by simpa using hj
      rw [List.getElem_set_ne hji, Maps.atKey_put_other (by rw [he]; exact hd j hj' (Ne.symm hji))]
      exact h.at' _ (List.getElem_mem _) z
  · rw [Maps.size_put hT, hh, h.size]; simp
theorem MpG.del (h : MpG kn dn l D) (hT : Tidy D) {p : α → Bool} {c : α} (hc : c ∈ l) (hp : ∀ x ∈ l, p x = true ↔ kn x ≠ kn c) (hl : (l.filter p).length + 1 = l.length) : MpG kn dn (l.filter p) (D.del (kn c)) := by
  have hh : Maps.has D (kn c) = true := (h.has _).2 ⟨c, hc, rfl⟩
  refine ⟨fun y => ?_, fun y hy z => ?_, ?_⟩
  · by_cases e : y = kn c
    · rw [e, Maps.has_del_same]
      constructor
      · intro x; cases x
      · rintro ⟨x, hx, ex⟩
        obtain ⟨h1, h2⟩ := List.mem_filter.1 hx
        exact absurd ex ((hp x h1).1 h2)
    · rw [Maps.has_del_other e, h.has]
      constructor
      · rintro ⟨x, hx, ex⟩; exact ⟨x, List.mem_filter.2 ⟨hx, (hp x hx).2 (by rw [ex]; exact e)⟩, ex⟩
      · rintro ⟨x, hx, ex⟩; exact ⟨x, (List.mem_filter.1 hx).1, ex⟩
  · obtain ⟨h1, h2⟩ := List.mem_filter.1 hy
    rw [Maps.atKey_del_other ((hp y h1).1 h2)]; exact h.at' y h1 z
  · have := Maps.size_del (k := kn c) hT
    rw [hh, h.size] at this
    simp at this; omega
theorem MpG.same {l' : List α} (h : MpG kn dn l D) (he : l'.map (fun c => (kn c, dn c)) = l.map (fun c => (kn c, dn c))) : MpG kn dn l' D := by
  have hlen : l'.length = l.length := by have := congrArg List.length he; simpa using this
  have key : ∀ (a b : List α), a.map (fun c => (kn c, dn c)) = b.map (fun c => (kn c, dn c)) → ∀ x ∈ a, ∃ y ∈ b, kn y = kn x ∧ dn y = dn x := fun a b e x hx => by
    have : (kn x, dn x) ∈ b.map (fun c => (kn c, dn c)) := by rw [← e]; exact List.mem_map.2 ⟨x, hx, rfl⟩
    obtain ⟨y, hy, e⟩ := List.mem_map.1 this
    simp at e
    exact ⟨y, hy, e.1, e.2⟩
  refine ⟨fun k => ?_, fun c hc z => ?_, by rw [h.size, hlen]⟩
  · rw [h.has]
    constructor
    · rintro ⟨x, hx, ex⟩
      obtain ⟨y, hy, e1, _⟩ := key l l' he.symm x hx
      exact ⟨y, hy, by rw [e1, ex]⟩
    · rintro ⟨x, hx, ex⟩
      obtain ⟨y, hy, e1, _⟩ := key l' l he x hx
      exact ⟨y, hy, by rw [e1, ex]⟩
  · obtain ⟨y, hy, e1, e2⟩ := key l' l he c hc
    rw [← e1, h.at' y hy z, e2]
end
/-- A list with the one at k left out. -/
theorem filter_oneG {α : Type} {l : List α} {k : Nat} (hk : k < l.length) {p : α → Bool} (hp : ∀ j (hj : j < l.length), p l[j] = true ↔ j ≠ k) : (l.filter p).length + 1 = l.length ∧ l.filter p = l.take k ++ l.drop (k + 1) := by
  induction l generalizing k with
  | nil => simp at hk
  | cons a l ih =>
    cases k with
    | zero =>
      have h0 : p a = false := by
        have := hp 0 (by simp)
        simp only [List.getElem_cons_zero, ne_eq, not_true_eq_false, iff_false] at this
        simpa using this
      have h1 : l.filter p = l := List.filter_eq_self.2 fun c hc => by
        obtain ⟨j, hj, rfl⟩ := List.mem_iff_getElem.1 hc
        have := (hp (j + 1) (by simpa using hj)).2 (by omega)
        simpa using this
      simp [h0, h1]
    | succ k =>
      have h0 : p a = true := (hp 0 (by simp)).2 (by omega)
      have := ih (k := k) (by simpa using hk) fun j hj => by
        have := hp (j + 1) (by simpa using hj)
        simp only [List.getElem_cons_succ] at this
        rw [this]; omega
      rw [List.filter_cons_of_pos h0, List.length_cons, List.length_cons, List.take_succ_cons, List.drop_succ_cons, this.2]
      refine ⟨?_, rfl⟩
      have h3 := this.1
      rw [this.2] at h3
      omega
end Go.Proofs.Ytgikbpaejmdnoaa

/-
  Client transactions, plain: which is due first; the row of timers; what a step does.
-/
namespace Go.Proofs.Ytgikbpaejmdnoaa
open Go.RowKit
set_option linter.unusedVariables false
set_option maxRecDepth 20000
set_option linter.unusedSimpArgs false

def endQ (c : Cq) : Tm := (atQ c, c.id)
def EndsQ (l : List Cq) (r : List Tm) : Prop := r.Perm (l.map endQ)
structure GoodQ (c : Cq) : Prop where
  b0 : 0 ≤ c.begun
  b1 : c.begun ≤ 1099511627136
  t0 : 1 ≤ c.times
  t1 : c.times ≤ 11
  r0 : -1 ≤ c.rest
  r1 : c.rest ≤ 1099511627776
/-- A table as calls leave it. -/
structure TqOK (t : Tq) : Prop where
  rise : t.l.Pairwise fun a b => a.id < b.id
  pos : ∀ c ∈ t.l, 1 ≤ c.id ∧ c.id ≤ t.last
  keys : t.l.Pairwise fun a b => a.br ≠ b.br
  len : (t.l.length : Int) ≤ t.most
  most : 1 ≤ t.most ∧ t.most ≤ 200
  last : 0 ≤ t.last
  good : ∀ c ∈ t.l, GoodQ c
theorem GoodQ.ok {c : Cq} (h : GoodQ c) : CqOK c := by
  obtain ⟨b0, b1, t0, t1, r0, r1⟩ := h
  exact ⟨b0, by omega, by omega, by omega, r0, r1⟩
theorem atV_in {n : Int} (h1 : 1 ≤ n) (h2 : n ≤ 11) : (atV n).2 = true ∧ 0 ≤ (atV n).1 ∧ (atV n).1 < 320 := by
  unfold atV
  rw [if_pos ⟨h1, h2⟩]
  refine ⟨rfl, ?_, (sumV_small h1).2 h2⟩
  exact (sumV_bd h1 (by omega)).1
theorem atV_out {n : Int} (h : ¬ (1 ≤ n ∧ n ≤ 11)) : atV n = (0, false) := by
  unfold atV
  rw [if_neg h]
theorem atQ_rest {c : Cq} (h : ¬ c.rest < 0) : atQ c = c.rest := by unfold atQ; rw [if_pos (by omega)]
theorem atQ_wait {c : Cq} (h : c.rest < 0) (h1 : 1 ≤ c.times) (h2 : c.times ≤ 10) : atQ c = c.begun + (atV (c.times + 1)).1 ∧ (atV (c.times + 1)).2 = true := by
  obtain ⟨e, _⟩ := atV_in (n := c.times + 1) (by omega) (by omega)
  unfold atQ
  rw [if_neg (by omega), if_pos e]
  exact ⟨rfl, e⟩
theorem atQ_last {c : Cq} (h : c.rest < 0) (h1 : 11 ≤ c.times) : atQ c = c.begun + 320 ∧ (atV (c.times + 1)).2 = false := by
  have e : atV (c.times + 1) = (0, false) := atV_out (by omega)
  unfold atQ
  rw [if_neg (by omega), e]
  exact ⟨rfl, rfl⟩
/-- Is one that waits sent again? -/
theorem again_iff {c : Cq} (hg : GoodQ c) (h : c.rest < 0) : (atQ c - c.begun < 320 ↔ c.times ≤ 10) := by
  obtain ⟨b0, b1, t0, t1, r0, r1⟩ := hg
  by_cases e : c.times ≤ 10
  · obtain ⟨e1, _⟩ := atQ_wait h t0 e
    obtain ⟨_, a1, a2⟩ := atV_in (n := c.times + 1) (by omega) (by omega)
    rw [e1]; constructor <;> intro _ <;> omega
  · obtain ⟨e1, _⟩ := atQ_last (c := c) h (by omega)
    rw [e1]; constructor <;> intro _ <;> omega
theorem GoodQ.at {c : Cq} (h : GoodQ c) : 0 ≤ atQ c ∧ atQ c ≤ 1099511627776 := by
  have hg := h
  obtain ⟨b0, b1, t0, t1, r0, r1⟩ := h
  by_cases hr : c.rest < 0
  · by_cases e : c.times ≤ 10
    · obtain ⟨e1, _⟩ := atQ_wait hr t0 e
      obtain ⟨_, a1, a2⟩ := atV_in (n := c.times + 1) (by omega) (by omega)
      omega
    · obtain ⟨e1, _⟩ := atQ_last (c := c) hr (by omega)
      omega
  · rw [atQ_rest hr]; omega

theorem nextQ_min {l : List Cq} : ∀ n, n + 1 ≤ l.length → ∃ k, ∃ hk : k < l.length, k < n + 1 ∧ nextQ l (n + 1) = (k : Int) ∧ ∀ j (hj : j < l.length), j < n + 1 → atQ l[k] ≤ atQ l[j] ∧ (atQ l[k] = atQ l[j] → k ≤ j) := by
  intro n
  induction n with
  | zero =>
    intro h
    refine ⟨0, by omega, by omega, nextQ_first (by omega) (by simp [nextQ]), fun j hj h1 => ?_⟩
    have : j = 0 := by omega
    subst this
    exact ⟨Int.le_refl _, fun _ => Nat.le_refl _⟩
  | succ n ih =>
    intro h
    obtain ⟨k, hk, hkn, e, hmin⟩ := ih (by omega)
    by_cases ha : atQ (l[n + 1]'(by omega)) < atQ l[k]
    · refine ⟨n + 1, by omega, by omega, nextQ_less (by omega) hk e ha, fun j hj h1 => ?_⟩
      by_cases hj1 : j < n + 1
      · have := (hmin j hj hj1).1
        exact ⟨by omega, fun _ => by omega⟩
      · have : j = n + 1 := by omega
        subst this
        exact ⟨Int.le_refl _, fun _ => Nat.le_refl _⟩
    · refine ⟨k, hk, by omega, nextQ_stay (by omega) hk e ha, fun j hj h1 => ?_⟩
      by_cases hj1 : j < n + 1
      · exact hmin j hj hj1
      · have : j = n + 1 := by omega
        subst this
        exact ⟨by omega, fun _ => by omega⟩
/-- The first of the row of timers is the one of which something is due first. -/
theorem next_head {t : Tq} {r : List Tm} (hok : TqOK t) (hE : EndsQ t.l r) (hr : Row9 r) : (r = [] ∧ t.l = []) ∨ ∃ k, ∃ hk : k < t.l.length, ∃ r', r = endQ t.l[k] :: r' ∧ nextQ t.l t.l.length = (k : Int) := by
  cases r with
  | nil =>
    have := hE.length_eq
    simp at this
    exact .inl ⟨rfl, List.eq_nil_of_length_eq_zero this.symm⟩
  | cons a r' =>
    have hlen := hE.length_eq
    simp at hlen
    obtain ⟨n, hn⟩ : ∃ n, t.l.length = n + 1 := ⟨r'.length, by omega⟩
    obtain ⟨k, hk, _, e, hmin⟩ := nextQ_min (l := t.l) n (by omega)
    rw [← hn] at e hmin
    refine .inr ⟨k, hk, r', ?_, e⟩
    obtain ⟨c, hc, ec⟩ := List.mem_map.1 (hE.mem_iff.1 (List.mem_cons_self (a := a)))
    obtain ⟨j, hj, rfl⟩ := List.mem_iff_getElem.1 hc
    have hin : endQ t.l[k] ∈ a :: r' := hE.mem_iff.2 (List.mem_map.2 ⟨_, List.getElem_mem hk, rfl⟩)
    rcases List.mem_cons.1 hin with h1 | h1
    · rw [h1]
    · have h2 := ahd_iff.1 ((List.pairwise_cons.1 hr.sorted).1 _ h1)
      rw [← ec] at h2
      simp only [endQ] at h2
      obtain ⟨m1, m2⟩ := hmin j hj hj
      have hP := List.pairwise_iff_getElem.1 hok.rise
      rcases Nat.lt_trichotomy j k with h | h | h
      · have := m2 (by omega); omega
      · subst h; rw [← ec]
      · have := hP k j hk hj h; omega
def notIdQ (n : Int) (c : Cq) : Bool := !decide (c.id = n)
theorem notIdQ_at {l : List Cq} (hr : l.Pairwise fun a b => a.id < b.id) {k : Nat} (hk : k < l.length) : ∀ j (hj : j < l.length), notIdQ l[k].id l[j] = true ↔ j ≠ k := fun j hj => by
  have hP := List.pairwise_iff_getElem.1 hr
  simp only [notIdQ, Bool.not_eq_true', decide_eq_false_iff_not]
  constructor
  · rintro h rfl; exact h rfl
  · intro hne
    rcases Nat.lt_or_gt_of_ne hne with x | x
    · have := hP j k hj hk x; omega
    · have := hP k j hk hj x; omega
theorem without {l : List Cq} (hr : l.Pairwise fun a b => a.id < b.id) {k : Nat} (hk : k < l.length) : (l.filter (notIdQ l[k].id)).length + 1 = l.length ∧ l.filter (notIdQ l[k].id) = l.take k ++ l.drop (k + 1) := filter_oneG hk (notIdQ_at hr hk)
theorem set_mid {α : Type} {l : List α} {k : Nat} (hk : k < l.length) (c : α) : l.set k c = l.take k ++ [c] ++ l.drop (k + 1) := by
  rw [List.set_eq_take_append_cons_drop, if_pos hk]; simp
theorem set_perm (r : List Tm) (id a : Int) : (setT r id a).Perm ((a, id) :: stopT r id) := by
  unfold setT
  refine List.perm_middle.trans ?_
  rw [List.takeWhile_append_dropWhile]
theorem ends_stop {l : List Cq} {r : List Tm} (hE : EndsQ l r) (id : Int) : EndsQ (l.filter (notIdQ id)) (stopT r id) := by
  unfold EndsQ stopT
  refine (hE.filter _).trans ?_
  rw [List.filter_map]
  exact List.Perm.refl _
theorem ends_new {l : List Cq} {r : List Tm} (hE : EndsQ l r) {c : Cq} (hno : ∀ x ∈ l, x.id ≠ c.id) : EndsQ (l ++ [c]) (setT r c.id (atQ c)) := by
  have h1 := ends_stop hE c.id
  rw [show l.filter (notIdQ c.id) = l from List.filter_eq_self.2 fun x hx => by have := hno x hx; simp [notIdQ, this]] at h1
  unfold EndsQ at *
  refine (set_perm r c.id (atQ c)).trans ?_
  rw [List.map_append]
  exact (List.Perm.cons _ h1).trans (List.perm_append_comm (l₁ := [endQ c]) (l₂ := l.map endQ))
theorem ends_put {l : List Cq} {r : List Tm} (hE : EndsQ l r) (hr : l.Pairwise fun a b => a.id < b.id) {k : Nat} (hk : k < l.length) {c : Cq} (hid : c.id = l[k].id) : EndsQ (l.set k c) (setT r l[k].id (atQ c)) := by
  have h1 := ends_stop hE l[k].id
  rw [(without hr hk).2, ← hid] at h1
  unfold EndsQ at *
  rw [← hid]
  refine (set_perm r c.id (atQ c)).trans ?_
  rw [set_mid hk, List.append_assoc, List.map_append, List.map_append]
  refine (List.Perm.cons _ h1).trans ?_
  rw [List.map_append]
  exact List.perm_middle.symm

-- what a step does
def leftQ (c : Cq) : Nat := if c.rest < 0 then (12 - c.times).toNat else 1
def totQ (l : List Cq) : Nat := (l.map leftQ).sum
theorem totQ_app (a b : List Cq) : totQ (a ++ b) = totQ a + totQ b := by simp [totQ]
theorem totQ_mid {l : List Cq} {k : Nat} (hk : k < l.length) : totQ l = totQ (l.take k) + leftQ l[k] + totQ (l.drop (k + 1)) := by
  have h : l = l.take k ++ [l[k]] ++ l.drop (k + 1) := by
    rw [← set_mid hk, List.set_getElem_self]
  have h2 := congrArg totQ h
  rw [h2, totQ_app, totQ_app]
  simp [totQ]
theorem leftQ_pos {c : Cq} (h : GoodQ c) : 1 ≤ leftQ c ∧ leftQ c ≤ 11 := by
  obtain ⟨b0, b1, t0, t1, r0, r1⟩ := h
  unfold leftQ
  split <;> omega
theorem totQ_bd {l : List Cq} (h : ∀ c ∈ l, GoodQ c) : totQ l ≤ 11 * l.length := by
  induction l with
  | nil => simp [totQ]
  | cons a l ih =>
    have h1 := (leftQ_pos (h a (by simp))).2
    have h2 := ih fun c hc => h c (by simp [hc])
    have e : totQ (a :: l) = leftQ a + totQ l := by simp [totQ]
    rw [e, List.length_cons]; omega
/-- What one thing that is done leaves. -/
theorem one_next {t : Tq} {k : Nat} (hok : TqOK t) (hk : k < t.l.length) : TqOK (oneQ t k t.l[k]).1 ∧ totQ (oneQ t k t.l[k]).1.l < totQ t.l ∧ (oneQ t k t.l[k]).1.most = t.most ∧ (oneQ t k t.l[k]).1.last = t.last ∧ (oneQ t k t.l[k]).1.l.length ≤ t.l.length := by
  have hg := hok.good _ (List.getElem_mem hk)
  have drop_ok : TqOK ⟨t.most, t.last, t.l.take k ++ t.l.drop (k + 1)⟩ ∧ totQ (t.l.take k ++ t.l.drop (k + 1)) < totQ t.l ∧ (t.l.take k ++ t.l.drop (k + 1)).length ≤ t.l.length := by
    obtain ⟨w1, w2⟩ := without hok.rise hk
    have hs := totQ_mid hk
    have hp := (leftQ_pos hg).1
    rw [← w2]
    refine ⟨⟨hok.rise.filter _, fun c hc => hok.pos c (List.mem_filter.1 hc).1, hok.keys.filter _, ?_, hok.most, hok.last, fun c hc => hok.good c (List.mem_filter.1 hc).1⟩, ?_, ?_⟩
    · have := hok.len; simp only; omega
    · rw [w2, totQ_app]; omega
    · omega
  by_cases hr : t.l[k].rest < 0
  · by_cases ha : atQ t.l[k] - t.l[k].begun < 320
    · rw [oneq_again hr ha]
      have ht := (again_iff hg hr).1 ha
      have hs := totQ_mid hk
      rw [← set_mid hk]
      have hget : ∀ i (hi : i < (t.l.set k { t.l[k] with times := t.l[k].times + 1 }).length), (t.l.set k { t.l[k] with times := t.l[k].times + 1 })[i].id = (t.l[i]'(by simpa using hi)).id ∧ (t.l.set k { t.l[k] with times := t.l[k].times + 1 })[i].br = (t.l[i]'(by simpa using hi)).br := fun i hi => by
        by_cases e : k = i
        · subst e; simp
        · rw [List.getElem_set_ne e]; exact ⟨rfl, rfl⟩
      refine ⟨⟨?_, ?_, ?_, by simpa using hok.len, hok.most, hok.last, ?_⟩, ?_, rfl, rfl, by simp⟩
      · rw [List.pairwise_iff_getElem]
        intro i j hi hj hij
        have := List.pairwise_iff_getElem.1 hok.rise i j (by simpa using hi) (by simpa using hj) hij
        simp only at hi hj ⊢
        rw [(hget i hi).1, (hget j hj).1]; exact this
      · intro c hc
        obtain ⟨i, hi, rfl⟩ := List.mem_iff_getElem.1 hc
        simp only at hi ⊢
        rw [(hget i hi).1]
        exact hok.pos _ (List.getElem_mem _)
      · rw [List.pairwise_iff_getElem]
        intro i j hi hj hij
        have := List.pairwise_iff_getElem.1 hok.keys i j (by simpa using hi) (by simpa using hj) hij
        simp only at hi hj ⊢
        rw [(hget i hi).2, (hget j hj).2]; exact this
      · intro c hc
        rcases List.mem_or_eq_of_mem_set hc with hc | rfl
        · exact hok.good c hc
        · obtain ⟨b0, b1, t0, t1, r0, r1⟩ := hg
          exact ⟨b0, b1, by simp only; omega, by simp only; omega, r0, r1⟩
      · rw [set_mid hk, totQ_app, totQ_app]
        have e : totQ [(⟨t.l[k].id, t.l[k].br, t.l[k].begun, t.l[k].times + 1, t.l[k].rest, t.l[k].to, t.l[k].tx⟩ : Cq)] + 1 = leftQ t.l[k] := by
          simp only [totQ, List.map_cons, List.map_nil, List.sum_cons, List.sum_nil, leftQ]
          rw [if_pos hr, if_pos hr]
          omega
        omega
    · rw [oneq_over hr ha]
      exact ⟨drop_ok.1, drop_ok.2.1, rfl, rfl, drop_ok.2.2⟩
  · rw [oneq_rest hr]
    exact ⟨drop_ok.1, drop_ok.2.1, rfl, rfl, drop_ok.2.2⟩
theorem stepQ_two {now : Int} {n : Nat} {t : Tq} (hok : TqOK t) (out : List Du) : (t.l = [] ∧ stepQ now (n + 1) t out = (t, out)) ∨ ∃ k, ∃ hk : k < t.l.length, nextQ t.l t.l.length = (k : Int) ∧ ((now < atQ t.l[k] ∧ stepQ now (n + 1) t out = (t, out)) ∨ (¬ now < atQ t.l[k] ∧ stepQ now (n + 1) t out = stepQ now n (oneQ t k t.l[k]).1 (out ++ (oneQ t k t.l[k]).2))) := by
  by_cases hl : t.l = []
  · exact .inl ⟨hl, stepq_none (by rw [hl]; simp [nextQ])⟩
  · obtain ⟨n', hn⟩ : ∃ n', t.l.length = n' + 1 := ⟨t.l.length - 1, by have := List.length_pos_iff.2 hl; omega⟩
    obtain ⟨k, hk, _, e, _⟩ := nextQ_min (l := t.l) n' (by omega)
    rw [← hn] at e
    refine .inr ⟨k, hk, e, ?_⟩
    by_cases h : now < atQ t.l[k]
    · exact .inl ⟨h, stepq_late hk e h⟩
    · exact .inr ⟨h, stepq_do hk e h⟩
theorem stepQ_app {now : Int} : ∀ n (t : Tq) (out : List Du), TqOK t → stepQ now n t out = ((stepQ now n t []).1, out ++ (stepQ now n t []).2)
  | 0, t, out, _ => by simp [stepQ]
  | n + 1, t, out, hok => by
    rcases stepQ_two (now := now) (n := n) hok out with ⟨hl, e⟩ | ⟨k, hk, hn, ⟨h, e⟩ | ⟨h, e⟩⟩
    · rw [e, stepq_none (by rw [hl]; simp [nextQ])]; simp
    · rw [e, stepq_late hk hn h]; simp
    · have hno := (one_next hok hk).1
      rw [e, stepQ_app n _ _ hno, stepq_do hk hn h, stepQ_app n _ ([] ++ _) hno]
      simp
theorem stepQ_fuel {now : Int} : ∀ n m (t : Tq) (out : List Du), TqOK t → totQ t.l < n → totQ t.l < m → stepQ now n t out = stepQ now m t out
  | 0, m, t, out, _, h, _ => by omega
  | n + 1, 0, t, out, _, _, h => by omega
  | n + 1, m + 1, t, out, hok, h1, h2 => by
    rcases stepQ_two (now := now) (n := n) hok out with ⟨hl, e⟩ | ⟨k, hk, hn, ⟨h, e⟩ | ⟨h, e⟩⟩
    · rw [e, stepq_none (by rw [hl]; simp [nextQ])]
    · rw [e, stepq_late hk hn h]
    · have hno := one_next hok hk
      rw [e, stepq_do hk hn h]
      exact stepQ_fuel n m _ _ hno.1 (by omega) (by omega)
/-- All that is due up to now. -/
def stepA (t : Tq) (now : Int) : Tq × List Du := stepQ now (totQ t.l + 1) t []
theorem stepA_eq {t : Tq} (hok : TqOK t) {now : Int} {n : Nat} (h : totQ t.l < n) : stepQ now n t [] = stepA t now := stepQ_fuel _ _ _ _ hok h (by omega)
theorem stepA_none {t : Tq} {now : Int} (h : t.l = []) : stepA t now = (t, []) := stepq_none (by rw [h]; simp [nextQ])
theorem stepA_late {t : Tq} {now : Int} {k : Nat} (hk : k < t.l.length) (h : nextQ t.l t.l.length = (k : Int)) (hl : now < atQ t.l[k]) : stepA t now = (t, []) := stepq_late hk h hl
theorem stepA_do {t : Tq} (hok : TqOK t) {now : Int} {k : Nat} (hk : k < t.l.length) (h : nextQ t.l t.l.length = (k : Int)) (hl : ¬ now < atQ t.l[k]) : stepA t now = ((stepA (oneQ t k t.l[k]).1 now).1, (oneQ t k t.l[k]).2 ++ (stepA (oneQ t k t.l[k]).1 now).2) := by
  have hno := one_next hok hk
  unfold stepA
  rw [stepq_do hk h hl, stepQ_app _ _ _ hno.1]
  rw [stepQ_fuel (totQ t.l) (totQ (oneQ t k t.l[k]).1.l + 1) _ _ hno.1 hno.2.1 (by omega)]
  simp
theorem stepA_two {t : Tq} (hok : TqOK t) (now : Int) : stepA t now = (t, []) ∨ ∃ k, ∃ hk : k < t.l.length, nextQ t.l t.l.length = (k : Int) ∧ ¬ now < atQ t.l[k] := by
  rcases stepQ_two (now := now) (n := totQ t.l) hok [] with ⟨hl, e⟩ | ⟨k, hk, hn, ⟨h, e⟩ | ⟨h, e⟩⟩
  · exact .inl e
  · exact .inl e
  · exact .inr ⟨k, hk, hn, h⟩
theorem stepA_ok {now : Int} : ∀ n (t : Tq), TqOK t → totQ t.l ≤ n → TqOK (stepA t now).1 ∧ (stepA t now).1.most = t.most ∧ (stepA t now).1.last = t.last ∧ (stepA t now).2.length + totQ (stepA t now).1.l ≤ totQ t.l
  | n, t, hok, hn => by
    rcases stepA_two hok now with e | ⟨k, hk, hx, h⟩
    · rw [e]; exact ⟨hok, rfl, rfl, by simp⟩
    · obtain ⟨o1, o2, o3, o4, o5⟩ := one_next hok hk
      match n with
      | 0 => omega
      | n + 1 =>
        obtain ⟨i1, i2, i3, i4⟩ := stepA_ok n _ o1 (by omega)
        rw [stepA_do hok hk hx h]
        refine ⟨i1, i2.trans o3, i3.trans o4, ?_⟩
        have : (oneQ t k t.l[k]).2.length ≤ 1 := by
          unfold oneQ
          split
          · simp
          · split <;> simp
        simp only [List.length_append]
        omega
/-- What is due in two steps is what is due in one. -/
theorem stepA_twice {a b : Int} (hab : a ≤ b) : ∀ n (t : Tq), TqOK t → totQ t.l ≤ n → stepA t b = ((stepA (stepA t a).1 b).1, (stepA t a).2 ++ (stepA (stepA t a).1 b).2)
  | n, t, hok, hn => by
    rcases stepA_two hok a with e | ⟨k, hk, hx, h⟩
    · rw [e]; simp
    · obtain ⟨o1, o2, o3, o4, o5⟩ := one_next hok hk
      match n with
      | 0 => omega
      | n + 1 =>
        have ih := stepA_twice hab n _ o1 (by omega)
        rw [stepA_do hok hk hx h, stepA_do hok hk hx (now := b) (by omega), ih]
        simp
end Go.Proofs.Ytgikbpaejmdnoaa

/-
  A table of client transactions in memory: two maps and a wheel.
-/
namespace Go.Proofs.Ytgikbpaejmdnoaa
open Go.RowKit Go.Maps Go.WideMaps
set_option linter.unusedVariables false
set_option maxRecDepth 20000
set_option linter.unusedSimpArgs false

/-- A transaction as the code keeps it: one that rests has no request any more. -/
structure Tr where
  br : List UInt8
  first : Int
  sent : Int
  rests : Bool
  to : List UInt8
  tx : List UInt8
def txOf (c : Cq) : Tr := if c.rest < 0 then ⟨c.br, c.begun, c.times, false, c.to, c.tx⟩ else ⟨c.br, 0, 0, true, [], []⟩
def txL (x : Tr) : List Value := [.string ⟨x.br.toArray⟩, .int .i64 x.first, .int .i64 x.sent, .bool x.rests, .string ⟨x.to.toArray⟩, .string ⟨x.tx.toArray⟩]
def txV (x : Tr) : Value := .agg #[.string ⟨x.br.toArray⟩, .int .i64 x.first, .int .i64 x.sent, .bool x.rests, .string ⟨x.to.toArray⟩, .string ⟨x.tx.toArray⟩]
def numF : Value → Option (DataW Unit × List MemPlace)
  | .int .i64 n => some (.lit (.int .i64 n), [])
  | _ => none
def sBq (s : ByteArray) : DataW Unit := .lit (.string s.data.toList)
def iBq (n : Int) : DataW Unit := .lit (.int .i64 n)
def txE : Value → Option (DataW Unit × List MemPlace)
  | .agg cs => match cs.toList with
    | [.string a, .int .i64 f, .int .i64 s, .bool t, .string d, .string e] => some (.agg [sBq a, iBq f, iBq s, .lit (.bool t), sBq d, sBq e], [])
    | _ => none
  | _ => none
def sLq (l : List UInt8) : DataW Unit := .lit (.string l)
def txD (x : Tr) : DataW Unit := .agg [sLq x.br, iBq x.first, iBq x.sent, .lit (.bool x.rests), sLq x.to, sLq x.tx]
theorem numF_inv {v : Value} {n : Int} {ps : List MemPlace} (h : numF v = some (.lit (.int .i64 n), ps)) : v = .int .i64 n := by
  unfold numF at h
  split at h
  · simp at h; rw [h.1]
  · cases h
theorem txE_mk (x : Tr) : txE (txV x) = some (txD x, []) := by simp [txE, txV, txD, sBq, sLq]
theorem strq_inv {s : ByteArray} {l : List UInt8} (h : sBq s = sLq l) : s = ⟨l.toArray⟩ := by
  unfold sBq sLq at h
  simp at h
  apply ByteArray.ext
  rw [← h]
theorem intq_inv {a b : Int} (h : iBq a = iBq b) : a = b := by
  unfold iBq at h
  simpa using h
theorem txE_inv {v : Value} {x : Tr} {ps : List MemPlace} (h : txE v = some (txD x, ps)) : v = txV x := by
  unfold txE at h
  split at h
  · rename_i cs
    split at h
    · rename_i a f s t d e hcs
      have h1 := (Prod.mk.inj (Option.some.inj h)).1
      unfold txD at h1
      injection h1 with h1
      injection h1 with e1 h1
      injection h1 with e2 h1
      injection h1 with e3 h1
      injection h1 with e4 h1
      injection h1 with e5 h1
      injection h1 with e6 h1
      have e4' : t = x.rests := by injection e4 with e4; injection e4
      have : cs = #[.string a, .int .i64 f, .int .i64 s, .bool t, .string d, .string e] := by rw [← hcs]
      unfold txV
      rw [this, strq_inv e1, intq_inv e2, intq_inv e3, e4', strq_inv e5, strq_inv e6]
    · cases h
  · cases h
def zeroX : Tr := ⟨[], 0, 0, false, [], []⟩
theorem zeroTx (w : World) : (zeroValue 75).run Try.prog w = .ok (txV zeroX) w := by kernel_rfl
theorem zeroIq (w : World) : (zeroValue 3).run Try.prog w = .ok (.int .i64 0) w := by kernel_rfl
theorem keyS : Keyed Try.prog 9 := string_keyed Try.underlying9
theorem sq_size (l : List UInt8) : (⟨l.toArray⟩ : ByteArray).size = l.length := by simp [ByteArray.size]
def kB (l : List UInt8) : Lit := .string l
theorem key_str {l : List UInt8} (h : l.length ≤ 281474976710656) : keyOf Try.prog 9 (.string ⟨l.toArray⟩) = some (kB l) := keyOf_string_mk Try.underlying9 (by rw [sq_size]; unfold maxLen; omega)
def kNq (c : Cq) : Lit := kB c.br
def dNq (c : Cq) : DataW Unit := .lit (.int .i64 c.id)
def kAq (c : Cq) : Lit := idK c.id
def dAq (c : Cq) : DataW Unit := txD (txOf c)
structure SmallX (c : Cq) : Prop where
  br : c.br.length ≤ 281474976710656
  to : c.to.length ≤ 281474976710656
  tx : c.tx.length ≤ 281474976710656
  id : (Lit.int .i64 c.id).wf = true
theorem kNq_inj {a b : Cq} : kNq a = kNq b ↔ a.br = b.br := by
  constructor
  · intro e; unfold kNq kB at e; injection e
  · intro e; unfold kNq; rw [e]
theorem kAq_inj {a b : Cq} : kAq a = kAq b ↔ a.id = b.id := by
  constructor
  · intro e; unfold kAq idK at e; injection e
  · intro e; unfold kAq; rw [e]
/-- The table at bt: its maps at mn and ma, its wheel at be (whose map is at mw), all in blocks from B on and below U: the maps hold l and la, and the wheel r. -/
structure Sq2 (B U bt mn ma be mw : Nat) (w : World) (most last : Int) (l la : List Cq) (r : List Tm) : Prop where
  row : RowIs w bt 61 [.int .i64 most, .int .i64 last, .map (some mn), .map (some ma), .pointer (some ⟨be, 0, none⟩)]
  num : ∃ D, w.ownsMap Try.prog 9 numF mn l.length D ∧ MpG kNq dNq l D
  all : ∃ D, w.ownsMap Try.prog 3 txE ma la.length D ∧ MpG kAq dAq la D
  wheel : WWq mw B U be w r
  n1 : mn ≠ ma
  n2 : mn ≠ mw
  n3 : ma ≠ mw
  lb : B ≤ bt
  ln : B ≤ mn
  lm : B ≤ ma
  ub : bt < U
  un : mn < U
  um : ma < U
abbrev Sq (B U bt mn ma be mw : Nat) (w : World) (most last : Int) (l : List Cq) (r : List Tm) : Prop := Sq2 B U bt mn ma be mw w most last l l r
/-- What a table's call leaves: all below B, every block of cells that is of none of a table's types, and all from U on that was there. -/
structure FrQ (B U : Nat) (w w' : World) : Prop where
  below : Below B w w'
  keep : ∀ (k : Nat) (cs : Array Value) (e : TypeId) (x : Nat × Nat), w.heap[k]? = some (Obj.cells cs e x) → e ≠ 94 → e ≠ 98 → e ≠ 99 → e ≠ 61 → w'.heap[k]? = some (Obj.cells cs e x)
  up : ∀ k, U ≤ k → k < w.heap.size → w'.heap[k]? = w.heap[k]?
theorem FrQ.refl (B U : Nat) (w : World) : FrQ B U w w := ⟨Below.refl _ _, fun _ _ _ _ h _ _ _ _ => h, fun _ _ _ => rfl⟩
theorem FrQ.trans {B U : Nat} {a b c : World} (h : FrQ B U a b) (k : FrQ B U b c) : FrQ B U a c := ⟨h.below.trans k.below, fun i cs e x hh n1 n2 n3 n4 => k.keep i cs e x (h.keep i cs e x hh n1 n2 n3 n4) n1 n2 n3 n4, fun i h1 h2 => (k.up i h1 (Nat.lt_of_lt_of_le h2 h.below.size)).trans (h.up i h1 h2)⟩
theorem FrQ.of {B U : Nat} {w w' : World} (h : Below w.heap.size w w') (hB : B ≤ w.heap.size) : FrQ B U w w' :=
  ⟨h.mono hB, fun k cs e x hh _ _ _ _ => by rw [h.block k (Array.getElem?_eq_some_iff.1 hh).1]; exact hh, fun k _ h2 => h.block k h2⟩
theorem FrQ.drew {B U : Nat} {w w' : World} (h : FrQ B U w w') : FrQ B U w w'.drew := ⟨h.below.drew, h.keep, h.up⟩
theorem FrU.frq {m B U : Nat} {w w' : World} (h : FrU m B U w w') : FrQ B U w w' := ⟨h.frm.fr.below, fun k cs e x hh n1 n2 n3 _ => h.frm.fr.keep k cs e x hh n1 n2 n3, h.up⟩
theorem FrQ.mono {B U U' : Nat} {w w' : World} (h : FrQ B U w w') (hu : U ≤ U') : FrQ B U' w w' := ⟨h.below, h.keep, fun k h1 h2 => h.up k (Nat.le_trans hu h1) h2⟩
theorem FrQ.row {B U : Nat} {w w' : World} {b : Nat} {e : TypeId} {l : List Value} (h : FrQ B U w w') (hr : RowIs w b e l) (n1 : e ≠ 94) (n2 : e ≠ 98) (n3 : e ≠ 99) (n4 : e ≠ 61) : RowIs w' b e l := by
  unfold RowIs at hr ⊢
  exact h.keep _ _ _ _ hr n1 n2 n3 n4
theorem FrQ.own {B U C e s n : Nat} {w w' : World} {v : Value} {xs : List Value} (hf : FrQ C U w w') (h : w.ownsRow B e s v n xs) (n1 : e ≠ 94) (n2 : e ≠ 98) (n3 : e ≠ 99) (n4 : e ≠ 61) : w'.ownsRow B e s v n xs := by
  obtain ⟨h1, h2⟩ := h
  refine ⟨h1, ?_⟩
  rcases h2 with h2 | ⟨g, cap, cur, hv, hg, hh, r⟩
  · exact Or.inl h2
  · exact Or.inr ⟨g, cap, cur, hv, hg, hf.keep g _ _ _ hh n1 n2 n3 n4, r⟩
section
variable {B U bt mn ma be mw : Nat} {w w' : World} {most last : Int} {l la : List Cq} {r : List Tm}
theorem Sq2.lo (h : Sq2 B U bt mn ma be mw w most last l la r) : B ≤ w.heap.size := h.wheel.wm.lo
theorem Sq2.bt_lt (h : Sq2 B U bt mn ma be mw w most last l la r) : bt < w.heap.size := (Array.getElem?_eq_some_iff.1 h.row).1
theorem Sq2.chg {S : Nat → Prop} (h : Sq2 B U bt mn ma be mw w most last l la r) (hc : Chg S w w') (hn : ∀ k, B ≤ k → k < U → k < w.heap.size → S k → ∃ cs e x, w.heap[k]? = some (Obj.cells cs e x) ∧ e ≠ 94 ∧ e ≠ 98 ∧ e ≠ 99 ∧ e ≠ 61) : Sq2 B U bt mn ma be mw w' most last l la r := by
  have hm : ∀ {k : TypeId} {R : Value → Option (DataW Unit × List MemPlace)} {b n : Nat} {D : DataW Unit}, w.ownsMap Try.prog k R b n D → B ≤ b → b < U → w'.ownsMap Try.prog k R b n D := fun h1 hb hu => own_chg h1 hc fun hS => by
    obtain ⟨cs, e, x, hh, _⟩ := hn _ hb hu h1.lt hS
    exact map_no_row h1 _ _ _ hh
  refine ⟨?_, ?_, ?_, ?_, h.n1, h.n2, h.n3, h.lb, h.ln, h.lm, h.ub, h.un, h.um⟩
  · refine h.row.chg hc fun hS => ?_
    obtain ⟨cs, e, x, hh, _, _, _, n4⟩ := hn _ h.lb h.ub h.bt_lt hS
    have := h.row
    unfold RowIs at this
    rw [this] at hh
    simp at hh
    exact n4 hh.2.1.symm
  · obtain ⟨D, h1, h2⟩ := h.num
    exact ⟨D, hm h1 h.ln h.un, h2⟩
  · obtain ⟨D, h1, h2⟩ := h.all
    exact ⟨D, hm h1 h.lm h.um, h2⟩
  · have hlt := h.wheel.wm.lt.1
    refine h.wheel.chg (S := fun k => S k ∧ k < w.heap.size) ⟨hc.os, hc.tape, hc.output, hc.size, fun k hk hS => hc.block k hk fun x => hS ⟨x, hk⟩⟩ fun k hB hU hS => ?_
    obtain ⟨cs, e, x, hh, n1, n2, n3, n4⟩ := hn _ hB hU hS.2 hS.1
    refine ⟨fun e' => ?_, fun cs' e' x' hh' => ?_⟩
    · subst e'
      obtain ⟨v, f, n, D, hW, _⟩ := h.wheel
      exact map_no_row hW.mp _ _ _ hh
    · rw [hh] at hh'
      simp at hh'
      rw [← hh'.2.1]
      exact ⟨n1, n2, n3⟩
theorem Sq2.below (h : Sq2 B U bt mn ma be mw w most last l la r) (hb : Below w.heap.size w w') : Sq2 B U bt mn ma be mw w' most last l la r :=
  h.chg (S := fun k => w.heap.size ≤ k) ⟨hb.os, hb.tape, hb.output, hb.size, fun k _ hn => hb.block k (by omega)⟩ (fun k _ _ h1 h2 => by omega)
theorem Sq2.drew (h : Sq2 B U bt mn ma be mw w most last l la r) : Sq2 B U bt mn ma be mw w.drew most last l la r := h.below (Below.refl _ _).drew
theorem Sq2.new (h : Sq2 B U bt mn ma be mw w most last l la r) (o : Obj) : Sq2 B U bt mn ma be mw (w.alloc o) most last l la r := h.below ((Below.refl _ _).alloc (Nat.le_refl _) o)
theorem Sq2.mono {U' : Nat} (h : Sq2 B U bt mn ma be mw w most last l la r) (hu : U ≤ U') : Sq2 B U' bt mn ma be mw w most last l la r :=
  ⟨h.row, h.num, h.all, h.wheel.mono hu, h.n1, h.n2, h.n3, h.lb, h.ln, h.lm, Nat.lt_of_lt_of_le h.ub hu, Nat.lt_of_lt_of_le h.un hu, Nat.lt_of_lt_of_le h.um hu⟩
/-- A store into another row. -/
theorem Sq2.put (h : Sq2 B U bt mn ma be mw w most last l la r) {b : Nat} {e : TypeId} {us : List Value} (hr : RowIs w b e us) (n1 : e ≠ 94) (n2 : e ≠ 98) (n3 : e ≠ 99) (n4 : e ≠ 61) (hc : Chg (fun k => k = b) w w') : Sq2 B U bt mn ma be mw w' most last l la r :=
  h.chg hc fun k _ _ _ e' => by subst e'; exact ⟨_, _, _, hr, n1, n2, n3, n4⟩
/-- What another table's call, whose blocks lie apart, leaves. -/
theorem Sq2.apart {C V : Nat} (h : Sq2 B U bt mn ma be mw w most last l la r) (hf : FrQ C V w w') (hs : w.heap.size ≤ w'.heap.size) (ho : V ≤ B ∨ U ≤ C) : Sq2 B U bt mn ma be mw w' most last l la r := by
  refine h.chg (S := fun k => ¬ (k < C ∨ V ≤ k)) ⟨hf.below.os, hf.below.tape, hf.below.output, hs, fun k hk hn => ?_⟩ fun k h1 h2 _ h3 => by omega
  rcases Classical.not_not.1 hn with x | x
  · exact hf.below.block k x
  · exact hf.up k x hk
theorem Sq2.c0 (h : Sq2 B U bt mn ma be mw w most last l la r) : w.cell? ⟨bt, 0, none⟩ = some (.int .i64 most) := h.row.cell 0 (by simp)
theorem Sq2.c1 (h : Sq2 B U bt mn ma be mw w most last l la r) : w.cell? ⟨bt, 1, none⟩ = some (.int .i64 last) := h.row.cell 1 (by simp)
theorem Sq2.c2 (h : Sq2 B U bt mn ma be mw w most last l la r) : w.cell? ⟨bt, 2, none⟩ = some (.map (some mn)) := h.row.cell 2 (by simp)
theorem Sq2.c3 (h : Sq2 B U bt mn ma be mw w most last l la r) : w.cell? ⟨bt, 3, none⟩ = some (.map (some ma)) := h.row.cell 3 (by simp)
theorem Sq2.c4 (h : Sq2 B U bt mn ma be mw w most last l la r) : w.cell? ⟨bt, 4, none⟩ = some (.pointer (some ⟨be, 0, none⟩)) := h.row.cell 4 (by simp)
theorem Sq2.f1 (h : Sq2 B U bt mn ma be mw w most last l la r) : w.frozen? ⟨bt, 1, none⟩ = false := h.row.frozen 1
end
end Go.Proofs.Ytgikbpaejmdnoaa

/-
  A table of client transactions in memory: look-ups, and what turns its maps and its wheel.
-/
namespace Go.Proofs.Ytgikbpaejmdnoaa
open Go.RowKit Go.Maps Go.WideMaps
set_option linter.unusedVariables false
set_option maxRecDepth 20000
set_option linter.unusedSimpArgs false

section
variable {B U bt mn ma be mw : Nat} {w w' : World} {most last : Int} {l la : List Cq} {r : List Tm}
theorem Sq2.lookN (h : Sq2 B U bt mn ma be mw w most last l la r) {c : Cq} (hc : c ∈ l) (hs : SmallX c) : (Instr.lookup 57 (.map (some mn)) (.string ⟨c.br.toArray⟩) true).run Try.prog w = .ok (.tuple #[.int .i64 c.id, .bool true]) w ∧ (Instr.lookup 57 (.map (some mn)) (.string ⟨c.br.toArray⟩) false).run Try.prog w = .ok (.int .i64 c.id) w := by
  obtain ⟨D, h1, h2⟩ := h.num
  have e1 : Maps.has D (kB c.br) = true := (h2.has _).2 ⟨c, hc, rfl⟩
  have e2 : D.atKey (kB c.br) (.lit (.int .i64 0)) = .lit (.int .i64 c.id) := h2.at' c hc _
  constructor
  · obtain ⟨v, ps, hr, hv⟩ := h1.look_ok keyS Try.underlying57 (zeroIq w) (zd := .lit (.int .i64 0)) (zp := []) rfl (key_str hs.br)
    rw [e2] at hv
    obtain rfl := numF_inv hv
    rw [hr, e1]
  · obtain ⟨v, ps, hr, hv⟩ := h1.lookup keyS Try.underlying57 (zeroIq w) (zd := .lit (.int .i64 0)) (zp := []) rfl (key_str hs.br)
    rw [e2] at hv
    obtain rfl := numF_inv hv
    exact hr
theorem Sq2.lookN_no (h : Sq2 B U bt mn ma be mw w most last l la r) {br : List UInt8} (h1 : br.length ≤ 281474976710656) (hno : ∀ c ∈ l, c.br ≠ br) :
    (Instr.lookup 57 (.map (some mn)) (.string ⟨br.toArray⟩) true).run Try.prog w = .ok (.tuple #[.int .i64 0, .bool false]) w ∧ (Instr.lookup 57 (.map (some mn)) (.string ⟨br.toArray⟩) false).run Try.prog w = .ok (.int .i64 0) w := by
  obtain ⟨D, g1, g2⟩ := h.num
  have e1 : Maps.has D (kB br) = false := g2.hasNot fun x hx e => hno x hx (by unfold kNq kB at e; injection e)
  constructor
  · obtain ⟨v, ps, hr, hv⟩ := g1.look_ok keyS Try.underlying57 (zeroIq w) (zd := .lit (.int .i64 0)) (zp := []) rfl (key_str h1)
    rw [Maps.atKey_of_not_has e1] at hv
    obtain rfl := numF_inv hv
    rw [hr, e1]
  · obtain ⟨v, ps, hr, hv⟩ := g1.lookup keyS Try.underlying57 (zeroIq w) (zd := .lit (.int .i64 0)) (zp := []) rfl (key_str h1)
    rw [Maps.atKey_of_not_has e1] at hv
    obtain rfl := numF_inv hv
    exact hr
theorem Sq2.lookA (h : Sq2 B U bt mn ma be mw w most last l la r) {c : Cq} (hc : c ∈ la) (hs : SmallX c) :
    (Instr.lookup 58 (.map (some ma)) (.int .i64 c.id) true).run Try.prog w = .ok (.tuple #[txV (txOf c), .bool true]) w ∧ (Instr.lookup 58 (.map (some ma)) (.int .i64 c.id) false).run Try.prog w = .ok (txV (txOf c)) w := by
  obtain ⟨D, h1, h2⟩ := h.all
  have e1 : Maps.has D (idK c.id) = true := (h2.has _).2 ⟨c, hc, rfl⟩
  have e2 : ∀ z, D.atKey (idK c.id) z = txD (txOf c) := fun z => h2.at' c hc z
  constructor
  · obtain ⟨v, ps, hr, hv⟩ := h1.look_ok keyI Try.underlying58 (zeroTx w) (txE_mk zeroX) (key_int hs.id)
    rw [e2] at hv
    obtain rfl := txE_inv hv
    rw [hr, e1]
  · obtain ⟨v, ps, hr, hv⟩ := h1.lookup keyI Try.underlying58 (zeroTx w) (txE_mk zeroX) (key_int hs.id)
    rw [e2] at hv
    obtain rfl := txE_inv hv
    exact hr
theorem Sq2.lookA_no (h : Sq2 B U bt mn ma be mw w most last l la r) {id : Int} (hwf : (Lit.int .i64 id).wf = true) (hno : ∀ c ∈ la, c.id ≠ id) :
    (Instr.lookup 58 (.map (some ma)) (.int .i64 id) true).run Try.prog w = .ok (.tuple #[txV zeroX, .bool false]) w := by
  obtain ⟨D, h1, h2⟩ := h.all
  have e1 : Maps.has D (idK id) = false := h2.hasNot fun x hx e => hno x hx (by unfold kAq idK at e; injection e)
  obtain ⟨v, ps, hr, hv⟩ := h1.look_ok keyI Try.underlying58 (zeroTx w) (txE_mk zeroX) (key_int hwf)
  rw [Maps.atKey_of_not_has e1] at hv
  obtain rfl := txE_inv hv
  rw [hr, e1]
theorem Sq2.len (h : Sq2 B U bt mn ma be mw w most last l la r) (ty : TypeId) : (Builtin.len_ #[58] ty #[.map (some ma)]).run Try.prog w = .ok (.int .i64 la.length) w := by
  obtain ⟨D, h1, h2⟩ := h.all
  rw [h1.len Try.underlying58, h2.size]
theorem grown_ownq {P : Program} {k : TypeId} {R : Value → Option (DataW Unit × List MemPlace)} {b m n : Nat} {D : DataW Unit} (h : w.ownsMap P k R b n D) (hg : w.grownBy w' (some m)) (hne : b ≠ m) : w'.ownsMap P k R b n D := h.kept hg (fun e => hne (by injection e))
theorem grown_chgq {m : Nat} (hg : w.grownBy w' (some m)) : Chg (fun k => k = m) w w' := ⟨hg.os, hg.tape, hg.output, hg.size, fun k hk hn => hg.block k hk fun e => hn (by injection e)⟩
theorem map_lt_neq {P : Program} {k : TypeId} {R : Value → Option (DataW Unit × List MemPlace)} {b n g : Nat} {D : DataW Unit} {e : TypeId} {us : List Value} (h : w.ownsMap P k R b n D) (hr : RowIs w g e us) : g ≠ b := fun e' => by subst e'; exact map_no_row h _ _ _ hr
theorem WWq.turn {bw m B b n : Nat} {k : TypeId} {P : Program} {R : Value → Option (DataW Unit × List MemPlace)} {D : DataW Unit} {r : List Tm} (h : WWq m B U bw w r) (ho : w.ownsMap P k R b n D) (hg : w.grownBy w' (some b)) (hne : b ≠ m) : WWq m B U bw w' r :=
  h.chg (grown_chgq hg) fun k _ _ e => by subst e; exact ⟨hne, fun cs e x hh => absurd hh (map_no_row ho _ _ _)⟩
theorem Sq2.mapN (h : Sq2 B U bt mn ma be mw w most last l la r) {l' : List Cq} (hg : w.grownBy w' (some mn)) (hn : ∃ D, w'.ownsMap Try.prog 9 numF mn l'.length D ∧ MpG kNq dNq l' D) : Sq2 B U bt mn ma be mw w' most last l' la r := by
  obtain ⟨D, h1, h2⟩ := h.num
  obtain ⟨E, k1, k2⟩ := h.all
  exact ⟨h.row.gr hg (fun e => map_lt_neq h1 h.row (by injection e with e; exact e.symm)), hn, ⟨E, grown_ownq k1 hg (Ne.symm h.n1), k2⟩, h.wheel.turn h1 hg h.n2, h.n1, h.n2, h.n3, h.lb, h.ln, h.lm, h.ub, h.un, h.um⟩
theorem Sq2.mapA (h : Sq2 B U bt mn ma be mw w most last l la r) {l' : List Cq} (hg : w.grownBy w' (some ma)) (hn : ∃ D, w'.ownsMap Try.prog 3 txE ma l'.length D ∧ MpG kAq dAq l' D) : Sq2 B U bt mn ma be mw w' most last l l' r := by
  obtain ⟨D, h1, h2⟩ := h.num
  obtain ⟨E, k1, k2⟩ := h.all
  exact ⟨h.row.gr hg (fun e => map_lt_neq k1 h.row (by injection e with e; exact e.symm)), ⟨D, grown_ownq h1 hg h.n1, h2⟩, hn, h.wheel.turn k1 hg h.n3, h.n1, h.n2, h.n3, h.lb, h.ln, h.lm, h.ub, h.un, h.um⟩
theorem Sq2.same (h : Sq2 B U bt mn ma be mw w most last l la r) {l' : List Cq} (he : l'.map (fun c => (kNq c, dNq c)) = l.map (fun c => (kNq c, dNq c))) : Sq2 B U bt mn ma be mw w most last l' la r := by
  obtain ⟨D, h1, h2⟩ := h.num
  have hlen : l'.length = l.length := by have := congrArg List.length he; simpa using this
  exact ⟨h.row, ⟨D, by rw [hlen]; exact h1, h2.same he⟩, h.all, h.wheel, h.n1, h.n2, h.n3, h.lb, h.ln, h.lm, h.ub, h.un, h.um⟩
/-- What a map's turning leaves. -/
theorem FrQ.turn {b : Nat} {k : TypeId} {P : Program} {R : Value → Option (DataW Unit × List MemPlace)} {n : Nat} {D : DataW Unit} (ho : w.ownsMap P k R b n D) (hg : w.grownBy w' (some b)) (hB : B ≤ b) (hU : b < U) : FrQ B U w w' := by
  have hlt := ho.lt
  refine ⟨(grown_chgq hg).below (by omega) (fun k e => by omega), fun k cs e x hh _ _ _ _ => ?_, fun k h1 h2 => hg.block k h2 fun e => by injection e with e; omega⟩
  rw [hg.block k (Array.getElem?_eq_some_iff.1 hh).1 (fun e' => by injection e' with e'; subst e'; exact map_no_row ho _ _ _ hh)]
  exact hh
theorem Sq2.addN (h : Sq2 B U bt mn ma be mw w most last l la r) {c : Cq} (hs : SmallX c) (hno : ∀ x ∈ l, x.br ≠ c.br) (hn : l.length ≤ 1000000) :
    ∃ w', (Instr.mapUpdate 57 (.map (some mn)) (.string ⟨c.br.toArray⟩) (.int .i64 c.id)).run Try.prog w = .ok () w' ∧ Sq2 B U bt mn ma be mw w' most last (l ++ [c]) la r ∧ FrQ B U w w' := by
  obtain ⟨D, h1, h2⟩ := h.num
  obtain ⟨w', hrun, g1, g2⟩ := h1.update keyS Try.underlying57 (by unfold maxLen; omega) (key_str hs.br) (show numF (.int .i64 c.id) = some (dNq c, []) from rfl)
  refine ⟨w', hrun, ?_, FrQ.turn h1 g2 h.ln h.un⟩
  have hM : MpG kNq dNq (l ++ [c]) (D.put (kB c.br) (dNq c)) := h2.add h1.isMap (h1.tidy keyS) (c := c) (by unfold kNq kB; trivial) (fun x hx e => hno x hx (kNq_inj.1 e))
  have g1' := own_tight g1
  rw [hM.size] at g1'
  exact h.mapN g2 ⟨_, g1', hM⟩
theorem Sq2.addA (h : Sq2 B U bt mn ma be mw w most last l la r) {c : Cq} (hs : SmallX c) (hno : ∀ x ∈ la, x.id ≠ c.id) (hn : la.length ≤ 1000000) :
    ∃ w', (Instr.mapUpdate 58 (.map (some ma)) (.int .i64 c.id) (txV (txOf c))).run Try.prog w = .ok () w' ∧ Sq2 B U bt mn ma be mw w' most last l (la ++ [c]) r ∧ FrQ B U w w' := by
  obtain ⟨D, h1, h2⟩ := h.all
  obtain ⟨w', hrun, g1, g2⟩ := h1.update keyI Try.underlying58 (by unfold maxLen; omega) (key_int hs.id) (txE_mk (txOf c))
  refine ⟨w', hrun, ?_, FrQ.turn h1 g2 h.lm h.um⟩
  have hM : MpG kAq dAq (la ++ [c]) (D.put (idK c.id) (txD (txOf c))) := h2.add h1.isMap (h1.tidy keyI) (c := c) (by unfold kAq; trivial) (fun x hx e => hno x hx (kAq_inj.1 e))
  have g1' := own_tight g1
  rw [hM.size] at g1'
  exact h.mapA g2 ⟨_, g1', hM⟩
/-- One that is there is kept anew. -/
theorem Sq2.putA (h : Sq2 B U bt mn ma be mw w most last l la r) {k : Nat} (hk : k < la.length) {c : Cq} (hs : SmallX c) (he : c.id = la[k].id) (hr : la.Pairwise fun a b => a.id < b.id) (hn : la.length ≤ 1000000) :
    ∃ w', (Instr.mapUpdate 58 (.map (some ma)) (.int .i64 c.id) (txV (txOf c))).run Try.prog w = .ok () w' ∧ Sq2 B U bt mn ma be mw w' most last l (la.set k c) r ∧ FrQ B U w w' := by
  obtain ⟨D, h1, h2⟩ := h.all
  obtain ⟨w', hrun, g1, g2⟩ := h1.update keyI Try.underlying58 (by unfold maxLen; omega) (key_int hs.id) (txE_mk (txOf c))
  refine ⟨w', hrun, ?_, FrQ.turn h1 g2 h.lm h.um⟩
  have hM : MpG kAq dAq (la.set k c) (D.put (idK c.id) (txD (txOf c))) := h2.set h1.isMap (h1.tidy keyI) hk (c := c) (by unfold kAq; trivial) (kAq_inj.2 he) (fun j hj hne e => by
    have hP := List.pairwise_iff_getElem.1 hr
    have e := kAq_inj.1 e
    rcases Nat.lt_or_gt_of_ne hne with x | x
    · have := hP j k hj hk x; omega
    · have := hP k j hk hj x; omega)
  have g1' := own_tight g1
  rw [hM.size] at g1'
  exact h.mapA g2 ⟨_, g1', hM⟩
theorem Sq2.dropN (h : Sq2 B U bt mn ma be mw w most last l la r) (hr : l.Pairwise fun a b => a.id < b.id) (hkey : l.Pairwise fun a b => a.br ≠ b.br) {k : Nat} (hk : k < l.length) (hs : SmallX l[k]) (ty : TypeId) :
    ∃ w', (Builtin.delete_ #[57, 9] ty #[.map (some mn), .string ⟨l[k].br.toArray⟩]).run Try.prog w = .ok (.tuple #[]) w' ∧ Sq2 B U bt mn ma be mw w' most last (l.filter (notIdQ l[k].id)) la r ∧ FrQ B U w w' := by
  obtain ⟨D, h1, h2⟩ := h.num
  obtain ⟨w', hrun, g1, g2⟩ := h1.drop keyS Try.underlying57 (key_str hs.br) ty
  refine ⟨w', hrun, ?_, FrQ.turn h1 g2.grown h.ln h.un⟩
  have hM : MpG kNq dNq (l.filter (notIdQ l[k].id)) (D.del (kB l[k].br)) := h2.del (h1.tidy keyS) (List.getElem_mem hk) (fun x hx => by
    obtain ⟨j, hj, rfl⟩ := List.mem_iff_getElem.1 hx
    rw [notIdQ_at hr hk j hj, ne_eq, ne_eq, kNq_inj]
    have hP := List.pairwise_iff_getElem.1 hkey
    constructor
    · intro hne e
      rcases Nat.lt_or_gt_of_ne hne with x | x
      · exact hP j k hj hk x e
      · exact hP k j hk hj x e.symm
    · rintro e rfl; exact e rfl) (without hr hk).1
  have g1' := own_tight g1
  rw [hM.size] at g1'
  exact h.mapN g2.grown ⟨_, g1', hM⟩
theorem Sq2.dropA (h : Sq2 B U bt mn ma be mw w most last l la r) (hr : la.Pairwise fun a b => a.id < b.id) {k : Nat} (hk : k < la.length) (hs : SmallX la[k]) (ty : TypeId) :
    ∃ w', (Builtin.delete_ #[58, 3] ty #[.map (some ma), .int .i64 la[k].id]).run Try.prog w = .ok (.tuple #[]) w' ∧ Sq2 B U bt mn ma be mw w' most last l (la.filter (notIdQ la[k].id)) r ∧ FrQ B U w w' := by
  obtain ⟨D, h1, h2⟩ := h.all
  obtain ⟨w', hrun, g1, g2⟩ := h1.drop keyI Try.underlying58 (key_int hs.id) ty
  refine ⟨w', hrun, ?_, FrQ.turn h1 g2.grown h.lm h.um⟩
  have hM : MpG kAq dAq (la.filter (notIdQ la[k].id)) (D.del (idK la[k].id)) := h2.del (h1.tidy keyI) (List.getElem_mem hk) (fun x hx => by
    rw [ne_eq, kAq_inj]
    simp [notIdQ]) (without hr hk).1
  have g1' := own_tight g1
  rw [hM.size] at g1'
  exact h.mapA g2.grown ⟨_, g1', hM⟩
/-- The wheel was turned. -/
theorem Sq2.turnW {U' : Nat} (h : Sq2 B U bt mn ma be mw w most last l la r) {r' : List Tm} (hw : WWq mw B U' be w' r') (hf : FrM mw B w w') (hu : U ≤ U') : Sq2 B U' bt mn ma be mw w' most last l la r' := by
  obtain ⟨D, h1, h2⟩ := h.num
  obtain ⟨E, k1, k2⟩ := h.all
  exact ⟨hf.fr.row h.row (by decide) (by decide) (by decide), ⟨D, hf.own h1 h.n2, h2⟩, ⟨E, hf.own k1 h.n3, k2⟩, hw, h.n1, h.n2, h.n3, h.lb, h.ln, h.lm, Nat.lt_of_lt_of_le h.ub hu, Nat.lt_of_lt_of_le h.un hu, Nat.lt_of_lt_of_le h.um hu⟩
theorem FrQ.put {b j : Nat} {us : List Value} (hr : RowIs w b 61 us) (hB : B ≤ b) (hU : b < U) (v : Value) : FrQ B U w (w.setCell ⟨b, j, none⟩ v) := by
  have hc : Chg (fun k => k = b) w (w.setCell ⟨b, j, none⟩ v) := (Chg.refl (fun k => k = b) w).setCell (p := ⟨b, j, none⟩) (fun _ => rfl) v
  refine ⟨(Below.refl B w).setCell hB v, fun k cs e x hh _ _ _ n4 => ?_, fun k h1 h2 => hc.block k h2 (by omega)⟩
  rw [hc.block k (Array.getElem?_eq_some_iff.1 hh).1]
  · exact hh
  · intro e'
    subst e'
    unfold RowIs at hr
    rw [hr] at hh
    simp at hh
    exact n4 hh.2.1.symm
/-- The count of those begun. -/
theorem Sq2.count (h : Sq2 B U bt mn ma be mw w most last l la r) (n : Int) : Sq2 B U bt mn ma be mw (w.setCell ⟨bt, 1, none⟩ (.int .i64 n)) most n l la r ∧ FrQ B U w (w.setCell ⟨bt, 1, none⟩ (.int .i64 n)) := by
  have hc : Chg (fun k => k = bt) w (w.setCell ⟨bt, 1, none⟩ (.int .i64 n)) := (Chg.refl (fun k => k = bt) w).setCell (p := ⟨bt, 1, none⟩) (fun _ => rfl) _
  obtain ⟨D, h1, h2⟩ := h.num
  obtain ⟨E, k1, k2⟩ := h.all
  refine ⟨⟨?_, ⟨D, own_chg h1 hc (Ne.symm (map_lt_neq h1 h.row)), h2⟩, ⟨E, own_chg k1 hc (Ne.symm (map_lt_neq k1 h.row)), k2⟩, ?_, h.n1, h.n2, h.n3, h.lb, h.ln, h.lm, h.ub, h.un, h.um⟩, FrQ.put h.row h.lb h.ub _⟩
  · have := h.row.set 1 (.int .i64 n)
    simpa using this
  · refine h.wheel.chg hc fun k _ _ e => ?_
    subst e
    refine ⟨fun e => ?_, fun cs e x hh => ?_⟩
    · subst e
      obtain ⟨v, f, n, D, hW, _⟩ := h.wheel
      exact map_lt_neq hW.mp h.row rfl
    · have := h.row
      unfold RowIs at this
      rw [this] at hh
      simp at hh
      rw [← hh.2.1]
      exact ⟨by decide, by decide, by decide⟩
end
end Go.Proofs.Ytgikbpaejmdnoaa

/-
  Rows of two to six cells.
-/
namespace Go.Proofs.Ytgikbpaejmdnoaa
open Go.RowKit
set_option linter.unusedVariables false
set_option maxRecDepth 20000
set_option linter.unusedSimpArgs false

theorem rc_row2 (w : World) (v0 v1 : Value) (t : TypeId) : RowIs (w.alloc (.cells #[v0, v1] t)) w.heap.size t [v0, v1] := by
  unfold RowIs; rw [heap_alloc_new]
theorem rc_store2 {w : World} {b : Nat} {e : TypeId} {u0 u1 : Value} (h : RowIs w b e [u0, u1]) (v0 v1 : Value) : RowIs ((w.setCell ⟨b, 0, none⟩ v0).setCell ⟨b, 1, none⟩ v1) b e [v0, v1] := by
  have := ((h.set 0 v0).set 1 v1)
  simpa using this
theorem rc_below2 {B : Nat} {a w : World} (h : Below B a w) (b : Nat) (hb : B ≤ b) (v0 v1 : Value) : Below B a ((w.setCell ⟨b, 0, none⟩ v0).setCell ⟨b, 1, none⟩ v1) := ((h.setCell hb _).setCell hb _)
structure RowC2 (w : World) (b : Nat) (v0 v1 : Value) : Prop where
  c0 : w.cell? ⟨b, 0, none⟩ = some v0
  c1 : w.cell? ⟨b, 1, none⟩ = some v1
  f0 : w.frozen? ⟨b, 0, none⟩ = false
  f1 : w.frozen? ⟨b, 1, none⟩ = false
theorem RowIs.rc2 {w : World} {b : Nat} {e : TypeId} {v0 v1 : Value} (h : RowIs w b e [v0, v1]) : RowC2 w b v0 v1 := ⟨h.cell 0 (by simp), h.cell 1 (by simp), h.frozen 0, h.frozen 1⟩
theorem rc_row4 (w : World) (v0 v1 v2 v3 : Value) (t : TypeId) : RowIs (w.alloc (.cells #[v0, v1, v2, v3] t)) w.heap.size t [v0, v1, v2, v3] := by
  unfold RowIs; rw [heap_alloc_new]
theorem rc_store4 {w : World} {b : Nat} {e : TypeId} {u0 u1 u2 u3 : Value} (h : RowIs w b e [u0, u1, u2, u3]) (v0 v1 v2 v3 : Value) : RowIs ((((w.setCell ⟨b, 0, none⟩ v0).setCell ⟨b, 1, none⟩ v1).setCell ⟨b, 2, none⟩ v2).setCell ⟨b, 3, none⟩ v3) b e [v0, v1, v2, v3] := by
  have := ((((h.set 0 v0).set 1 v1).set 2 v2).set 3 v3)
  simpa using this
theorem rc_below4 {B : Nat} {a w : World} (h : Below B a w) (b : Nat) (hb : B ≤ b) (v0 v1 v2 v3 : Value) : Below B a ((((w.setCell ⟨b, 0, none⟩ v0).setCell ⟨b, 1, none⟩ v1).setCell ⟨b, 2, none⟩ v2).setCell ⟨b, 3, none⟩ v3) := ((((h.setCell hb _).setCell hb _).setCell hb _).setCell hb _)
structure RowC4 (w : World) (b : Nat) (v0 v1 v2 v3 : Value) : Prop where
  c0 : w.cell? ⟨b, 0, none⟩ = some v0
  c1 : w.cell? ⟨b, 1, none⟩ = some v1
  c2 : w.cell? ⟨b, 2, none⟩ = some v2
  c3 : w.cell? ⟨b, 3, none⟩ = some v3
  f0 : w.frozen? ⟨b, 0, none⟩ = false
  f1 : w.frozen? ⟨b, 1, none⟩ = false
  f2 : w.frozen? ⟨b, 2, none⟩ = false
  f3 : w.frozen? ⟨b, 3, none⟩ = false
theorem RowIs.rc4 {w : World} {b : Nat} {e : TypeId} {v0 v1 v2 v3 : Value} (h : RowIs w b e [v0, v1, v2, v3]) : RowC4 w b v0 v1 v2 v3 := ⟨h.cell 0 (by simp), h.cell 1 (by simp), h.cell 2 (by simp), h.cell 3 (by simp), h.frozen 0, h.frozen 1, h.frozen 2, h.frozen 3⟩
theorem rc_row5 (w : World) (v0 v1 v2 v3 v4 : Value) (t : TypeId) : RowIs (w.alloc (.cells #[v0, v1, v2, v3, v4] t)) w.heap.size t [v0, v1, v2, v3, v4] := by
  unfold RowIs; rw [heap_alloc_new]
theorem rc_store5 {w : World} {b : Nat} {e : TypeId} {u0 u1 u2 u3 u4 : Value} (h : RowIs w b e [u0, u1, u2, u3, u4]) (v0 v1 v2 v3 v4 : Value) : RowIs (((((w.setCell ⟨b, 0, none⟩ v0).setCell ⟨b, 1, none⟩ v1).setCell ⟨b, 2, none⟩ v2).setCell ⟨b, 3, none⟩ v3).setCell ⟨b, 4, none⟩ v4) b e [v0, v1, v2, v3, v4] := by
  have := (((((h.set 0 v0).set 1 v1).set 2 v2).set 3 v3).set 4 v4)
  simpa using this
theorem rc_below5 {B : Nat} {a w : World} (h : Below B a w) (b : Nat) (hb : B ≤ b) (v0 v1 v2 v3 v4 : Value) : Below B a (((((w.setCell ⟨b, 0, none⟩ v0).setCell ⟨b, 1, none⟩ v1).setCell ⟨b, 2, none⟩ v2).setCell ⟨b, 3, none⟩ v3).setCell ⟨b, 4, none⟩ v4) := (((((h.setCell hb _).setCell hb _).setCell hb _).setCell hb _).setCell hb _)
structure RowC5 (w : World) (b : Nat) (v0 v1 v2 v3 v4 : Value) : Prop where
  c0 : w.cell? ⟨b, 0, none⟩ = some v0
  c1 : w.cell? ⟨b, 1, none⟩ = some v1
  c2 : w.cell? ⟨b, 2, none⟩ = some v2
  c3 : w.cell? ⟨b, 3, none⟩ = some v3
  c4 : w.cell? ⟨b, 4, none⟩ = some v4
  f0 : w.frozen? ⟨b, 0, none⟩ = false
  f1 : w.frozen? ⟨b, 1, none⟩ = false
  f2 : w.frozen? ⟨b, 2, none⟩ = false
  f3 : w.frozen? ⟨b, 3, none⟩ = false
  f4 : w.frozen? ⟨b, 4, none⟩ = false
theorem RowIs.rc5 {w : World} {b : Nat} {e : TypeId} {v0 v1 v2 v3 v4 : Value} (h : RowIs w b e [v0, v1, v2, v3, v4]) : RowC5 w b v0 v1 v2 v3 v4 := ⟨h.cell 0 (by simp), h.cell 1 (by simp), h.cell 2 (by simp), h.cell 3 (by simp), h.cell 4 (by simp), h.frozen 0, h.frozen 1, h.frozen 2, h.frozen 3, h.frozen 4⟩
theorem rc_row6 (w : World) (v0 v1 v2 v3 v4 v5 : Value) (t : TypeId) : RowIs (w.alloc (.cells #[v0, v1, v2, v3, v4, v5] t)) w.heap.size t [v0, v1, v2, v3, v4, v5] := by
  unfold RowIs; rw [heap_alloc_new]
theorem rc_store6 {w : World} {b : Nat} {e : TypeId} {u0 u1 u2 u3 u4 u5 : Value} (h : RowIs w b e [u0, u1, u2, u3, u4, u5]) (v0 v1 v2 v3 v4 v5 : Value) : RowIs ((((((w.setCell ⟨b, 0, none⟩ v0).setCell ⟨b, 1, none⟩ v1).setCell ⟨b, 2, none⟩ v2).setCell ⟨b, 3, none⟩ v3).setCell ⟨b, 4, none⟩ v4).setCell ⟨b, 5, none⟩ v5) b e [v0, v1, v2, v3, v4, v5] := by
  have := ((((((h.set 0 v0).set 1 v1).set 2 v2).set 3 v3).set 4 v4).set 5 v5)
  simpa using this
theorem rc_below6 {B : Nat} {a w : World} (h : Below B a w) (b : Nat) (hb : B ≤ b) (v0 v1 v2 v3 v4 v5 : Value) : Below B a ((((((w.setCell ⟨b, 0, none⟩ v0).setCell ⟨b, 1, none⟩ v1).setCell ⟨b, 2, none⟩ v2).setCell ⟨b, 3, none⟩ v3).setCell ⟨b, 4, none⟩ v4).setCell ⟨b, 5, none⟩ v5) := ((((((h.setCell hb _).setCell hb _).setCell hb _).setCell hb _).setCell hb _).setCell hb _)
structure RowC6 (w : World) (b : Nat) (v0 v1 v2 v3 v4 v5 : Value) : Prop where
  c0 : w.cell? ⟨b, 0, none⟩ = some v0
  c1 : w.cell? ⟨b, 1, none⟩ = some v1
  c2 : w.cell? ⟨b, 2, none⟩ = some v2
  c3 : w.cell? ⟨b, 3, none⟩ = some v3
  c4 : w.cell? ⟨b, 4, none⟩ = some v4
  c5 : w.cell? ⟨b, 5, none⟩ = some v5
  f0 : w.frozen? ⟨b, 0, none⟩ = false
  f1 : w.frozen? ⟨b, 1, none⟩ = false
  f2 : w.frozen? ⟨b, 2, none⟩ = false
  f3 : w.frozen? ⟨b, 3, none⟩ = false
  f4 : w.frozen? ⟨b, 4, none⟩ = false
  f5 : w.frozen? ⟨b, 5, none⟩ = false
theorem RowIs.rc6 {w : World} {b : Nat} {e : TypeId} {v0 v1 v2 v3 v4 v5 : Value} (h : RowIs w b e [v0, v1, v2, v3, v4, v5]) : RowC6 w b v0 v1 v2 v3 v4 v5 := ⟨h.cell 0 (by simp), h.cell 1 (by simp), h.cell 2 (by simp), h.cell 3 (by simp), h.cell 4 (by simp), h.cell 5 (by simp), h.frozen 0, h.frozen 1, h.frozen 2, h.frozen 3, h.frozen 4, h.frozen 5⟩
theorem RowIs.bl {w : World} {b : Nat} {e : TypeId} {l : List Value} (h : RowIs w b e l) : b < w.heap.size := (Array.getElem?_eq_some_iff.1 h).1
end Go.Proofs.Ytgikbpaejmdnoaa

/-
  The table's made, Len, Live; apart.
-/
namespace Go.Proofs.Ytgikbpaejmdnoaa
open Go.RowKit Go.Maps Go.WideMaps
set_option linter.unusedVariables false
set_option maxRecDepth 20000
set_option linter.unusedSimpArgs false

theorem cloneq (l : List UInt8) (w : World) (hl : l.length ≤ 281474976710656) :
    Calls Try.prog 25 #[.string ⟨l.toArray⟩] w fun e w' => e = .returned (.string ⟨l.toArray⟩) ∧ Below w.heap.size w w' := sclone_any ⟨l.toArray⟩ w (by rw [sq_size]; omega)
theorem neqX (w : World) (r : Option Nat) : (binOp .neq 58 (.map r) (.map none)).run Try.prog w = .ok (.bool (!r.isNone)) w := run_neq_map_nil w _ _ _ r Try.underlying58
def stV (to tx : List UInt8) : Value := .agg #[.string ⟨to.toArray⟩, .string ⟨tx.toArray⟩]
section
variable {B U bt mn ma be mw : Nat} {w w' : World} {most last : Int} {l la : List Cq} {r : List Tm}
set_option maxHeartbeats 4000000 in
set_option maxRecDepth 100000 in
theorem qmade_any (h : Sq2 B U bt mn ma be mw w most last l la r) :
    Calls Try.prog 23 #[.pointer (some ⟨bt, 0, none⟩)] w fun e w' => e = .returned (.bool true) ∧ w' = w := by
  have cm := h.c3
  have q61 := neqX
  clear h
  go_enter Try.func23, Try.ntmps23
  go_wp2
  go_ret
  exact ⟨rfl, rfl⟩
set_option maxHeartbeats 4000000 in
set_option maxRecDepth 100000 in
theorem qlen_tab (h : Sq2 B U bt mn ma be mw w most last l la r) :
    Calls Try.prog 11 #[.pointer (some ⟨bt, 0, none⟩)] w fun e w' => e = .returned (.int .i64 la.length) ∧ w' = w := by
  have KM := hid (qmade_any h)
  have cm := h.c3
  have hl := h.len
  clear h
  go_enter Try.func11, Try.ntmps11
  go_wp2_with (go_at_call 23; refine KM.out.mono ?_; rintro e w0 ⟨rfl, hw0⟩; rw [hw0]; clear hw0)
  go_ret
  exact ⟨rfl, rfl⟩
/-- Where apart stands: what came in, what goes out. -/
structure ApQ (w w0 u : World) (to tx : List UInt8) : Prop where
  s : RowIs u w.heap.size 40 [.string ⟨to.toArray⟩, .string ⟨tx.toArray⟩]
  r : RowIs u w0.heap.size 40 [.string ⟨#[]⟩, .string ⟨#[]⟩]
  b : Below w.heap.size w u
  l0 : w.heap.size < u.heap.size
  l1 : w0.heap.size < u.heap.size
theorem ApQ.step {w w0 u u' : World} {to tx : List UInt8} (h : ApQ w w0 u to tx) (hb : Below u.heap.size u u') : ApQ w w0 u' to tx :=
  ⟨h.s.below hb h.l0, h.r.below hb h.l1, h.b.trans (hb.mono (Nat.le_of_lt h.l0)), Nat.lt_of_lt_of_le h.l0 hb.size, Nat.lt_of_lt_of_le h.l1 hb.size⟩
set_option maxHeartbeats 4000000 in
set_option maxRecDepth 100000 in
theorem qapart_any (w : World) {to tx : List UInt8} (h1 : to.length ≤ 281474976710656) (h2 : tx.length ≤ 281474976710656) :
    Calls Try.prog 26 #[stV to tx] w fun e w' => e = .returned (stV to tx) ∧ Below w.heap.size w w' := by
  have hs0 := rc_row2 w (.string ⟨to.toArray⟩) (.string ⟨tx.toArray⟩) 40
  have hb0 : Below w.heap.size w (w.alloc (.cells #[.string ⟨to.toArray⟩, .string ⟨tx.toArray⟩] 40)) := (Below.refl _ w).alloc (Nat.le_refl _) _
  have hl0 := alloc_lt w (.cells #[.string ⟨to.toArray⟩, .string ⟨tx.toArray⟩] 40)
  generalize hw0 : w.alloc (.cells #[.string ⟨to.toArray⟩, .string ⟨tx.toArray⟩] 40) = w0 at hb0 hs0 hl0
  have hr1 := rc_row2 w0 (.string ⟨#[]⟩) (.string ⟨#[]⟩) 40
  have hb1 : Below w0.heap.size w0 (w0.alloc (.cells #[.string ⟨#[]⟩, .string ⟨#[]⟩] 40)) := (Below.refl _ w0).alloc (Nat.le_refl _) _
  have hl1 := alloc_lt w0 (.cells #[.string ⟨#[]⟩, .string ⟨#[]⟩] 40)
  generalize hw1 : w0.alloc (.cells #[.string ⟨#[]⟩, .string ⟨#[]⟩] 40) = w1 at hb1 hr1 hl1
  have HI : Hid (ApQ w w0 w1.drew to tx) := ⟨hs0.below hb1.drew hl0, hr1, (hb0.trans (hb1.mono hb0.size)).drew, Nat.lt_trans hl0 hl1, hl1⟩
  have hlo : w.heap.size ≤ w0.heap.size := hb0.size
  have K1 := hid (fun (u : World) => cloneq to u h1)
  have K2 := hid (fun (u : World) => cloneq tx u h2)
  obtain ⟨s0, s1, _, _⟩ := (hs0.below hb1 hl0).rc2
  obtain ⟨y0, y1, f0, f1⟩ := hr1.rc2
  clear hr1 hb0 hb1 hs0 hl0 hl1
  go_enter Try.func26, Try.ntmps26
  unfold stV
  go_wp2
  go_region_law (first
    | (go_simp; go_at_call 25; refine (K1.out _).mono ?_; rintro e w2 ⟨rfl, hb2⟩; replace HI := hid (HI.out.step hb2); clear hb2; obtain ⟨s0, s1, _, _⟩ := HI.out.s.rc2; obtain ⟨y0, y1, f0, f1⟩ := HI.out.r.rc2)
    | (go_simp; go_at_call 25; refine (K2.out _).mono ?_; rintro e w2 ⟨rfl, hb2⟩; replace HI := hid (HI.out.step hb2); clear hb2; obtain ⟨s0, s1, _, _⟩ := HI.out.s.rc2; obtain ⟨y0, y1, f0, f1⟩ := HI.out.r.rc2))
  all_goals (
    have KEEP := hid (And.intro (rc_store2 HI.out.r (.string ⟨to.toArray⟩) (.string ⟨tx.toArray⟩)) (rc_below2 HI.out.b w0.heap.size hlo (.string ⟨to.toArray⟩) (.string ⟨tx.toArray⟩)))
    go_wp2
    generalize World.setCell _ _ _ = wA at KEEP ⊢
    obtain ⟨hrA, hbA⟩ := KEEP.out
    obtain ⟨d0, d1, _, _⟩ := hrA.rc2
    try simp only [Exit.inBlock, Exit.then]
    refine bodyPost_ret (v := .agg #[.string ⟨to.toArray⟩, .string ⟨tx.toArray⟩]) (by simp [results, Try.results26, go_sem, d0, d1]; try rfl) rfl ?_
    exact ⟨rfl, hbA⟩)
/-- A transaction in a block of its own. -/
def txO (x : Tr) : Obj := .cells #[.string ⟨x.br.toArray⟩, .int .i64 x.first, .int .i64 x.sent, .bool x.rests, .string ⟨x.to.toArray⟩, .string ⟨x.tx.toArray⟩] 75
set_option maxHeartbeats 4000000 in
set_option maxRecDepth 100000 in
theorem qlive_of (h : Sq2 B U bt mn ma be mw w most last l la r) {id : Int} {x : Tr} {ok : Bool} (hlk : (Instr.lookup 58 (.map (some ma)) (.int .i64 id) true).run Try.prog w = .ok (.tuple #[txV x, .bool ok]) w) :
    Calls Try.prog 12 #[.pointer (some ⟨bt, 0, none⟩), .int .i64 id] w fun e w' => e = .returned (.bool (ok && !x.rests)) ∧ Below w.heap.size w w' := by
  have KM := hid (qmade_any h)
  have cm := h.c3
  obtain ⟨xb, xf, xs, xr, xt, xx⟩ := x
  have hr1 := rc_row6 w (.string ⟨xb.toArray⟩) (.int .i64 xf) (.int .i64 xs) (.bool xr) (.string ⟨xt.toArray⟩) (.string ⟨xx.toArray⟩) 75
  have HB : Hid (Below w.heap.size w (w.alloc (.cells #[.string ⟨xb.toArray⟩, .int .i64 xf, .int .i64 xs, .bool xr, .string ⟨xt.toArray⟩, .string ⟨xx.toArray⟩] 75))) := (Below.refl _ w).alloc (Nat.le_refl _) _
  generalize hw1 : w.alloc (.cells #[.string ⟨xb.toArray⟩, .int .i64 xf, .int .i64 xs, .bool xr, .string ⟨xt.toArray⟩, .string ⟨xx.toArray⟩] 75) = w1 at HB hr1
  have y3 := hr1.rc6.c3
  unfold txV at hlk
  simp only at hlk ⊢
  clear h hr1
  cases ok
  · go_enter Try.func12, Try.ntmps12
    go_wp2_with (go_at_call 23; refine KM.out.mono ?_; rintro e w9 ⟨rfl, hw9⟩; rw [hw9]; clear hw9)
    go_ret
    exact ⟨rfl, HB.out⟩
  · go_enter Try.func12, Try.ntmps12
    go_wp2_with (go_at_call 23; refine KM.out.mono ?_; rintro e w9 ⟨rfl, hw9⟩; rw [hw9]; clear hw9)
    go_ret
    exact ⟨by simp, HB.out⟩
theorem txOf_rests (c : Cq) : (txOf c).rests = !decide (c.rest < 0) := by
  unfold txOf
  split <;> rename_i h <;> simp [h]
/-- What is found by a number: one, or none. -/
theorem by_idq (l : List Cq) (id : Int) : (∃ c ∈ l, c.id = id ∧ l.find? (fun c => c.id == id) = some c) ∨ ((∀ c ∈ l, c.id ≠ id) ∧ l.find? (fun c => c.id == id) = none) := by
  cases e : l.find? (fun c => c.id == id) with
  | some c =>
    have h1 := List.find?_some e
    exact .inl ⟨c, List.mem_of_find?_eq_some e, by simpa using h1, rfl⟩
  | none => exact .inr ⟨fun c hc => by have := List.find?_eq_none.1 e c hc; simpa using this, rfl⟩
theorem qlive_any {t : Tq} (h : Sq2 B U bt mn ma be mw w most last l t.l r) (hl : ∀ c ∈ t.l, SmallX c) {id : Int} (hwf : (Lit.int .i64 id).wf = true) :
    Calls Try.prog 12 #[.pointer (some ⟨bt, 0, none⟩), .int .i64 id] w fun e w' => e = .returned (.bool (liveQ t id)) ∧ Below w.heap.size w w' := by
  rcases by_idq t.l id with ⟨c, hc, rfl, hf⟩ | ⟨hno, hf⟩
  · have e : liveQ t c.id = (true && !(txOf c).rests) := by unfold liveQ; rw [hf, txOf_rests]; simp
    rw [e]
    exact qlive_of h (h.lookA hc (hl c hc)).1
  · have e : liveQ t id = (false && !zeroX.rests) := by unfold liveQ; rw [hf]; rfl
    rw [e]
    exact qlive_of h (h.lookA_no hwf hno)
end
end Go.Proofs.Ytgikbpaejmdnoaa

/-
  The table's keep, wait and end.
-/
namespace Go.Proofs.Ytgikbpaejmdnoaa
open Go.RowKit Go.Maps Go.WideMaps
set_option linter.unusedVariables false
set_option maxRecDepth 20000
set_option linter.unusedSimpArgs false

theorem FrQ.any {B U V : Nat} {a b c : World} (h : FrQ B U a b) (k : FrQ B V b c) : FrQ B a.heap.size a c := ⟨h.below.trans k.below, fun i cs e x hh n1 n2 n3 n4 => k.keep i cs e x (h.keep i cs e x hh n1 n2 n3 n4) n1 n2 n3 n4, fun i h1 h2 => by omega⟩
theorem FrQ.top {B U : Nat} {a b : World} (h : FrQ B U a b) : FrQ B a.heap.size a b := ⟨h.below, h.keep, fun i h1 h2 => by omega⟩
section
variable {B U bt mn ma be mw : Nat} {w w' : World} {most last : Int} {l la : List Cq} {r : List Tm}
set_option maxHeartbeats 4000000 in
set_option maxRecDepth 100000 in
theorem qkeep_of (h : Sq2 B U bt mn ma be mw w most last l la r) {id a : Int} {x : Tr} (P : World → Prop)
    (hup : ∀ u, Sq2 B U bt mn ma be mw u most last l la r → FrQ B U w u → ∃ u', (Instr.mapUpdate 58 (.map (some ma)) (.int .i64 id) (txV x)).run Try.prog u = .ok () u' ∧ u'.cell? ⟨bt, 4, none⟩ = some (.pointer (some ⟨be, 0, none⟩)) ∧ Calls Try.prog 37 #[.pointer (some ⟨be, 0, none⟩), .int .i64 id, .int .i64 a] u' fun e w' => e = .returned (.int .i64 0) ∧ P w') :
    Calls Try.prog 29 #[.pointer (some ⟨bt, 0, none⟩), .int .i64 id, txV x, .int .i64 a] w fun e w' => e = .returned (.tuple #[]) ∧ P w' := by
  obtain ⟨xb, xf, xs, xr, xt, xx⟩ := x
  have hr1 := rc_row6 w (.string ⟨xb.toArray⟩) (.int .i64 xf) (.int .i64 xs) (.bool xr) (.string ⟨xt.toArray⟩) (.string ⟨xx.toArray⟩) 75
  have hb1 : Below w.heap.size w (w.alloc (.cells #[.string ⟨xb.toArray⟩, .int .i64 xf, .int .i64 xs, .bool xr, .string ⟨xt.toArray⟩, .string ⟨xx.toArray⟩] 75)) := (Below.refl _ w).alloc (Nat.le_refl _) _
  generalize hw1 : w.alloc (.cells #[.string ⟨xb.toArray⟩, .int .i64 xf, .int .i64 xs, .bool xr, .string ⟨xt.toArray⟩, .string ⟨xx.toArray⟩] 75) = w1 at hb1 hr1
  have h1 := (h.below hb1).drew
  obtain ⟨w2, hrun, c4, KS⟩ := hup _ h1 (FrQ.of hb1.drew h.lo)
  have cm := h1.c3
  replace KS := hid KS
  unfold txV at hrun ⊢
  simp only at hrun ⊢
  obtain ⟨y0, y1, y2, y3, y4, y5, _, _, _, _, _, _⟩ := (show RowIs w1.drew _ _ _ from hr1).rc6
  clear h h1 hb1 hr1 hup
  go_enter Try.func29, Try.ntmps29
  go_wp2
  go_region
  all_goals (
    go_wp2_with (go_at_call 37; refine KS.out.mono ?_; rintro e w3 ⟨rfl, hP⟩)
    go_end0
    exact ⟨rfl, hP⟩)
/-- One that is there is kept anew, with another timer. -/
theorem qkeep_put (h : Sq2 B U bt mn ma be mw w most last l la r) {k : Nat} (hk : k < la.length) {c : Cq} (hs : SmallX c) (he : c.id = la[k].id) (hr : la.Pairwise fun a b => a.id < b.id) (hn : la.length ≤ 1000000) {a : Int} (hx : ∃ t ∈ r, t.2 = c.id) (hbad : ¬ badS c.id a) :
    Calls Try.prog 29 #[.pointer (some ⟨bt, 0, none⟩), .int .i64 c.id, txV (txOf c), .int .i64 a] w fun e w' => e = .returned (.tuple #[]) ∧ (Sq2 B U bt mn ma be mw w' most last l (la.set k c) (setT r c.id a) ∧ FrQ B U w w') := by
  refine qkeep_of h _ fun u hu hf => ?_
  obtain ⟨u', hrun, hS, hF⟩ := hu.putA hk hs he hr hn
  refine ⟨u', hrun, hS.c4, (wqset_has hS.wheel hs.id hx hbad).mono ?_⟩
  rintro e w' ⟨rfl, hw, hfu⟩
  exact ⟨rfl, hS.turnW hw hfu.frm (Nat.le_refl _), (hf.trans hF).trans hfu.frq⟩
/-- A new one. -/
theorem qkeep_new (h : Sq2 B U bt mn ma be mw w most last l la r) (hU : U ≤ w.heap.size) {c : Cq} (hs : SmallX c) (hno : ∀ x ∈ la, x.id ≠ c.id) (hn : la.length ≤ 1000000) {a : Int} (hlen : r.length < 4096) (hbad : ¬ badS c.id a) :
    Calls Try.prog 29 #[.pointer (some ⟨bt, 0, none⟩), .int .i64 c.id, txV (txOf c), .int .i64 a] w fun e w' => e = .returned (.tuple #[]) ∧ (Sq2 B w'.heap.size bt mn ma be mw w' most last l (la ++ [c]) (setT r c.id a) ∧ FrQ B w.heap.size w w') := by
  refine qkeep_of h _ fun u hu hf => ?_
  obtain ⟨u', hrun, hS, hF⟩ := hu.addA hs hno hn
  refine ⟨u', hrun, hS.c4, (wqset_new hS.wheel hs.id hbad hlen).mono ?_⟩
  rintro e w' ⟨rfl, hw, hfu⟩
  have s1 := (hf.trans hF).below.size
  have s2 := hfu.frm.fr.below.size
  exact ⟨rfl, hS.turnW hw hfu.frm (by omega), (hf.trans hF).any hfu.frq⟩
def sentX (x : Tr) : Tr := { x with sent := x.sent + 1 }
def nextAt (n : Int) : Int := if (atV (n + 1)).2 = true then (atV (n + 1)).1 else 320
set_option maxHeartbeats 4000000 in
set_option maxRecDepth 100000 in
theorem qwait_of {id : Int} {x : Tr} (P : World → Prop) (h0 : 0 ≤ x.first) (h1 : x.first ≤ 1099511627776) (h2 : 0 ≤ x.sent) (h3 : x.sent ≤ 1000000)
    (hK : ∀ u, Below w.heap.size w u → Calls Try.prog 29 #[.pointer (some ⟨bt, 0, none⟩), .int .i64 id, txV (sentX x), .int .i64 (x.first + nextAt (x.sent + 1))] u fun e w' => e = .returned (.tuple #[]) ∧ P w') :
    Calls Try.prog 32 #[.pointer (some ⟨bt, 0, none⟩), .int .i64 id, txV x] w fun e w' => e = .returned (.tuple #[]) ∧ P w' := by
  obtain ⟨xb, xf, xs, xr, xt, xx⟩ := x
  have hr1 := rc_row6 w (.string ⟨xb.toArray⟩) (.int .i64 xf) (.int .i64 xs) (.bool xr) (.string ⟨xt.toArray⟩) (.string ⟨xx.toArray⟩) 75
  have hb1 : Below w.heap.size w (w.alloc (.cells #[.string ⟨xb.toArray⟩, .int .i64 xf, .int .i64 xs, .bool xr, .string ⟨xt.toArray⟩, .string ⟨xx.toArray⟩] 75)) := (Below.refl _ w).alloc (Nat.le_refl _) _
  generalize hw1 : w.alloc (.cells #[.string ⟨xb.toArray⟩, .int .i64 xf, .int .i64 xs, .bool xr, .string ⟨xt.toArray⟩, .string ⟨xx.toArray⟩] 75) = w1 at hb1 hr1
  unfold sentX txV at hK
  unfold txV
  simp only at hK h0 h1 h2 h3 ⊢
  have hr2 : RowIs (w1.setCell ⟨w.heap.size, 2, none⟩ (.int .i64 (xs + 1))) w.heap.size 75 [.string ⟨xb.toArray⟩, .int .i64 xf, .int .i64 (xs + 1), .bool xr, .string ⟨xt.toArray⟩, .string ⟨xx.toArray⟩] := by
    have := hr1.set 2 (.int .i64 (xs + 1))
    simpa using this
  have HK := hid (hK _ (hb1.setCell (Nat.le_refl _) (p := ⟨w.heap.size, 2, none⟩) (.int .i64 (xs + 1))))
  obtain ⟨y0, y1, y2, y3, y4, y5, _, _, f2, _, _, _⟩ := hr1.rc6
  generalize hw2 : w1.setCell ⟨w.heap.size, 2, none⟩ (.int .i64 (xs + 1)) = w2 at hr2 HK
  obtain ⟨z0, z1, z2, z3, z4, z5, _, _, _, _, _, _⟩ := hr2.rc6
  have KC := hid (at_any (xs + 1 + 1) w2 (by omega))
  have hat := atV_bd (xs + 1 + 1)
  clear hr1 hr2 hb1 hK
  unfold nextAt at HK
  generalize hA : atV (xs + 1 + 1) = A at KC HK hat
  clear hA
  obtain ⟨a1, a2⟩ := A
  simp only at KC HK hat
  obtain ⟨hat0, hat1⟩ := hat
  have b1 : xs + 1 ≤ 1000001 := by omega
  have b2 : xs + 1 + 1 ≤ 1000002 := by omega
  have b3 : xf + a1 ≤ 1099511628776 := by omega
  have b4 : 0 ≤ xf + a1 := by omega
  cases a2
  · simp only [Bool.false_eq_true, if_false] at HK
    go_enter Try.func32, Try.ntmps32
    go_wp2_with (first
      | (go_at_call 36; refine KC.out.mono ?_; rintro e w9 ⟨rfl, hw9⟩; rw [hw9]; clear hw9)
      | (go_at_call 29; refine HK.out.mono ?_; rintro e w3 ⟨rfl, hP⟩))
    go_end0
    exact ⟨rfl, hP⟩
  · simp only [if_true] at HK
    go_enter Try.func32, Try.ntmps32
    go_wp2_with (first
      | (go_at_call 36; refine KC.out.mono ?_; rintro e w9 ⟨rfl, hw9⟩; rw [hw9]; clear hw9)
      | (go_at_call 29; refine HK.out.mono ?_; rintro e w3 ⟨rfl, hP⟩))
    go_end0
    exact ⟨rfl, hP⟩
theorem field_br (x : Tr) (u : World) : (Instr.field 75 (txV x) 0).run Try.prog u = .ok (.string ⟨x.br.toArray⟩) u := by kernel_rfl
theorem txOf_br (c : Cq) : (txOf c).br = c.br := by unfold txOf; split <;> rfl
set_option maxHeartbeats 4000000 in
set_option maxRecDepth 100000 in
theorem qend_any (h : Sq B U bt mn ma be mw w most last l r) (hl : ∀ c ∈ l, SmallX c) (hr : l.Pairwise fun a b => a.id < b.id) (hkey : l.Pairwise fun a b => a.br ≠ b.br) {k : Nat} (hk : k < l.length) (hx : ∃ t ∈ r, t.2 = l[k].id) :
    Calls Try.prog 35 #[.pointer (some ⟨bt, 0, none⟩), .int .i64 l[k].id] w fun e w' => e = .returned (.tuple #[]) ∧ (Sq B U bt mn ma be mw w' most last (l.filter (notIdQ l[k].id)) (stopT r l[k].id) ∧ FrQ B U w w') := by
  have hs := hl _ (List.getElem_mem hk)
  have hlk := (h.drew.lookA (List.getElem_mem hk) hs).2
  have c2 := cell_dr h.c2
  have c3 := cell_dr h.c3
  obtain ⟨w1, hr1, S1, F1⟩ := h.drew.dropN hr hkey hk hs 0
  have d3 := S1.c3
  obtain ⟨w2, hr2, S2, F2⟩ := S1.dropA hr hk hs 0
  have d4 := S2.c4
  have KS := hid (wqstop_has S2.wheel hs.id hx)
  have HE : Hid (Sq B U bt mn ma be mw w2 most last (l.filter (notIdQ l[k].id)) r ∧ FrQ B U w w2) := ⟨S2, ((FrQ.refl B U w).drew.trans F1).trans F2⟩
  have hfk := field_br (txOf l[k])
  rw [txOf_br] at hfk
  unfold txV at hlk hfk
  clear h hl hr hkey S1 S2 F1 F2 hs hx
  go_enter Try.func35, Try.ntmps35
  go_wp2
  go_region
  all_goals (
    go_wp2_with (go_at_call 40; refine KS.out.mono ?_; rintro e w3 ⟨rfl, hw3, hf3⟩; have HF := hid (And.intro (HE.out.1.turnW hw3 hf3.frm (Nat.le_refl _)) (HE.out.2.trans hf3.frq)); clear hw3 hf3)
    go_end0
    exact ⟨rfl, HF.out.1, HF.out.2⟩)
end
end Go.Proofs.Ytgikbpaejmdnoaa

/-
  The table's begin and Start.
-/
namespace Go.Proofs.Ytgikbpaejmdnoaa
open Go.RowKit Go.Maps Go.WideMaps
set_option linter.unusedVariables false
set_option maxRecDepth 20000
set_option linter.unusedSimpArgs false

/-- The table t lies at bt, its memory in blocks from B on and below U. -/
def TabQ (B U bt : Nat) (w : World) (t : Tq) : Prop := TqOK t ∧ (∀ c ∈ t.l, SmallX c) ∧ U ≤ w.heap.size ∧ ∃ mn ma be mw r, Sq B U bt mn ma be mw w t.most t.last t.l r ∧ EndsQ t.l r
section
variable {B U bt mn ma be mw : Nat} {w w' : World} {most last : Int} {l la : List Cq} {r : List Tm} {t : Tq}
theorem TabQ.below (h : TabQ B U bt w t) (hb : Below w.heap.size w w') : TabQ B U bt w' t := by
  obtain ⟨h1, h2, hU, mn, ma, be, mw, r, h3, h4⟩ := h
  exact ⟨h1, h2, Nat.le_trans hU hb.size, mn, ma, be, mw, r, h3.below hb, h4⟩
theorem TabQ.drew (h : TabQ B U bt w t) : TabQ B U bt w.drew t := h.below (Below.refl _ _).drew
theorem TabQ.new (h : TabQ B U bt w t) (o : Obj) : TabQ B U bt (w.alloc o) t := h.below ((Below.refl _ _).alloc (Nat.le_refl _) o)
theorem TabQ.lo (h : TabQ B U bt w t) : B ≤ w.heap.size := by
  obtain ⟨h1, h2, hU, mn, ma, be, mw, r, h3, h4⟩ := h
  exact h3.lo
theorem TabQ.put (h : TabQ B U bt w t) {b : Nat} {e : TypeId} {us : List Value} (hr : RowIs w b e us) (n1 : e ≠ 94) (n2 : e ≠ 98) (n3 : e ≠ 99) (n4 : e ≠ 61) (hc : Chg (fun k => k = b) w w') : TabQ B U bt w' t := by
  obtain ⟨h1, h2, hU, mn, ma, be, mw, r, h3, h4⟩ := h
  exact ⟨h1, h2, Nat.le_trans hU hc.size, mn, ma, be, mw, r, h3.put hr n1 n2 n3 n4 hc, h4⟩
/-- What another table's call, whose blocks lie apart, leaves. -/
theorem TabQ.apart {C V : Nat} (h : TabQ B U bt w t) (hf : FrQ C V w w') (ho : V ≤ B ∨ U ≤ C) : TabQ B U bt w' t := by
  obtain ⟨h1, h2, hU, mn, ma, be, mw, r, h3, h4⟩ := h
  exact ⟨h1, h2, Nat.le_trans hU hf.below.size, mn, ma, be, mw, r, h3.apart hf hf.below.size ho, h4⟩
theorem newq_tx (t : Tq) (br to tx : List UInt8) (now : Int) : txOf (newQ t br now to tx) = sentX ⟨br, now, 0, false, to, tx⟩ := rfl
theorem newq_at (t : Tq) (br to tx : List UInt8) (now : Int) : atQ (newQ t br now to tx) = now + nextAt (0 + 1) := rfl
theorem newq_good {br to tx : List UInt8} {now : Int} (h0 : 0 ≤ now) (h1 : now ≤ 1099511627136) : GoodQ (newQ t br now to tx) := ⟨h0, h1, by simp [newQ], by simp [newQ], by simp [newQ], by simp [newQ]⟩
theorem newq_small {br to tx : List UInt8} {now : Int} (h1 : br.length ≤ 281474976710656) (h2 : to.length ≤ 281474976710656) (h3 : tx.length ≤ 281474976710656) (h0 : 0 ≤ t.last) (h9 : t.last ≤ 1000000000) : SmallX (newQ t br now to tx) :=
  ⟨h1, h2, h3, by simp [newQ, Lit.wf, IntKind.min, IntKind.max, IntKind.signed, IntKind.bits]; omega⟩
set_option maxHeartbeats 4000000 in
set_option maxRecDepth 100000 in
theorem qbegin_any (h : Sq B U bt mn ma be mw w t.most t.last t.l r) (hU : U ≤ w.heap.size) {br to tx : List UInt8} {now : Int} (h0 : 0 ≤ now) (h1 : now ≤ 1099511627136) (hs : SmallX (newQ t br now to tx)) (hno : ∀ x ∈ t.l, x.br ≠ br) (hid' : ∀ x ∈ t.l, x.id ≠ t.last + 1)
    (hn : t.l.length ≤ 1000000) (hl0 : 0 ≤ t.last) (hl9 : t.last ≤ 1000000000) (hr : r.length < 4096) :
    Calls Try.prog 24 #[.pointer (some ⟨bt, 0, none⟩), txV ⟨br, now, 0, false, to, tx⟩] w fun e w' => e = .returned (.int .i64 (t.last + 1)) ∧ Sq B w'.heap.size bt mn ma be mw w' t.most (t.last + 1) (t.l ++ [newQ t br now to tx]) (setT r (t.last + 1) (atQ (newQ t br now to tx))) ∧ FrQ B w.heap.size w w' := by
  have hs0 := rc_row6 w (.string ⟨br.toArray⟩) (.int .i64 now) (.int .i64 0) (.bool false) (.string ⟨to.toArray⟩) (.string ⟨tx.toArray⟩) 75
  have hb0 : Below w.heap.size w (w.alloc (.cells #[.string ⟨br.toArray⟩, .int .i64 now, .int .i64 0, .bool false, .string ⟨to.toArray⟩, .string ⟨tx.toArray⟩] 75)) := (Below.refl _ w).alloc (Nat.le_refl _) _
  generalize hw0 : w.alloc (.cells #[.string ⟨br.toArray⟩, .int .i64 now, .int .i64 0, .bool false, .string ⟨to.toArray⟩, .string ⟨tx.toArray⟩] 75) = w0 at hb0 hs0
  have S0 := h.below hb0
  have F0 := FrQ.of (U := U) hb0 h.lo
  obtain ⟨S1, F1⟩ := S0.count (t.last + 1)
  have hs1 : RowIs (w0.setCell ⟨bt, 1, none⟩ (.int .i64 (t.last + 1))) w.heap.size 75 _ := F1.row hs0 (by decide) (by decide) (by decide) (by decide)
  have c1 := S0.c1
  have f1 := S0.f1
  generalize hw1 : w0.setCell ⟨bt, 1, none⟩ (.int .i64 (t.last + 1)) = w1 at hs1 S1 F1
  obtain ⟨w2, hrun2, S2, F2⟩ := S1.drew.addN hs hno hn
  have hs2 := F2.row (show RowIs w1.drew _ _ _ from hs1) (by decide) (by decide) (by decide) (by decide)
  have FF : FrQ B U w w2.drew := ((F0.trans F1).drew.trans F2).drew
  have hbad : ¬ badS (t.last + 1) (atQ (newQ t br now to tx)) := by
    have := (newq_good (t := t) (br := br) (to := to) (tx := tx) h0 h1).at
    unfold badS; omega
  have KW := hid (qwait_of (w := w2.drew) (bt := bt) (id := t.last + 1) (x := ⟨br, now, 0, false, to, tx⟩) (fun w' => Sq B w'.heap.size bt mn ma be mw w' t.most (t.last + 1) (t.l ++ [newQ t br now to tx]) (setT r (t.last + 1) (atQ (newQ t br now to tx))) ∧ FrQ B w.heap.size w w') h0 (by simp only; omega) (by simp) (by simp) fun u hu => by
    rw [← newq_tx t]
    refine (qkeep_new (S2.drew.below hu) (Nat.le_trans hU (Nat.le_trans FF.below.size hu.size)) hs hid' hn hr hbad).mono ?_
    rintro e w' ⟨rfl, g1, g2⟩
    exact ⟨rfl, g1, ((FF.trans (FrQ.of hu S2.lo)).any g2)⟩)
  unfold txV at KW ⊢
  simp only at KW ⊢
  unfold newQ at hrun2
  simp only at hrun2
  have a21 := cell_dr S1.c1
  have a22 := cell_dr S1.c2
  obtain ⟨k0, _, _, _, _, _, _, _, _, _, _, _⟩ := (show RowIs w1.drew _ _ _ from hs1).rc6
  have a31 := cell_dr S2.c1
  obtain ⟨m0, m1, m2, m3, m4, m5, _, _, _, _, _, _⟩ := (show RowIs w2.drew _ _ _ from hs2).rc6
  clear S0 S1 S2 F0 F1 F2 hs0 hs1 hs2 hb0 FF h hs hno hid' hbad
  have hov : t.last + 1 ≤ 1000000001 := by omega
  go_enter Try.func24, Try.ntmps24
  go_wp2
  go_region
  all_goals (
    go_wp2
    go_region_law (go_simp; go_at_call 32; refine KW.out.mono ?_; rintro e w5 ⟨rfl, hS5, hF5⟩)
    all_goals (
      have a51 := hS5.c1
      have HE := hid (And.intro hS5 hF5)
      clear hS5 hF5
      go_wp2
      go_ret
      exact ⟨rfl, HE.out⟩))
theorem TqOK.add (h : TqOK t) {br to tx : List UInt8} {now : Int} (h0 : 0 ≤ now) (h1 : now ≤ 1099511627136) (hno : ∀ c ∈ t.l, c.br ≠ br) (hf : ¬ t.most ≤ t.l.length) : TqOK ⟨t.most, t.last + 1, t.l ++ [newQ t br now to tx]⟩ := by
  refine ⟨?_, ?_, ?_, ?_, h.most, by have := h.last; simp only; omega, ?_⟩
  · rw [List.pairwise_append]
    refine ⟨h.rise, by simp, fun a ha b hb => ?_⟩
    simp at hb; subst hb
    have := (h.pos a ha).2
    simp only [newQ]; omega
  · intro c hc
    rcases List.mem_append.1 hc with hc | hc
    · have := h.pos c hc; simp only; omega
    · simp at hc; subst hc
      have := h.last
      simp only [newQ]; omega
  · rw [List.pairwise_append]
    refine ⟨h.keys, by simp, fun a ha b hb => ?_⟩
    simp at hb; subst hb
    exact hno a ha
  · simp only [List.length_append, List.length_cons, List.length_nil]; omega
  · intro c hc
    rcases List.mem_append.1 hc with hc | hc
    · exact h.good c hc
    · simp at hc; subst hc; exact newq_good h0 h1
theorem br_two (l : List Cq) (br : List UInt8) : (∃ k, ∃ hk : k < l.length, l[k].br = br ∧ l.any (fun c => c.br == br) = true) ∨ ((∀ c ∈ l, c.br ≠ br) ∧ ¬ l.any (fun c => c.br == br) = true) := by
  by_cases h : l.any (fun c => c.br == br) = true
  · obtain ⟨c, hc, e⟩ := List.any_eq_true.1 h
    obtain ⟨k, hk, rfl⟩ := List.mem_iff_getElem.1 hc
    exact .inl ⟨k, hk, by simpa using e, h⟩
  · refine .inr ⟨fun c hc e => h (List.any_eq_true.2 ⟨c, hc, by simp [e]⟩), h⟩
/-- Where Start stands ahead of begin. -/
structure SrQ (w0 : World) (b : Nat) (u : World) (to tx : List UInt8) : Prop where
  bel : Below w0.heap.size w0 u
  s : RowIs u b 40 [.string ⟨to.toArray⟩, .string ⟨tx.toArray⟩]
  lt : b < u.heap.size
theorem SrQ.step {w0 u u' : World} {b : Nat} {to tx : List UInt8} (h : SrQ w0 b u to tx) (hb : Below u.heap.size u u') : SrQ w0 b u' to tx :=
  ⟨h.bel.trans (hb.mono h.bel.size), h.s.below hb h.lt, Nat.lt_of_lt_of_le h.lt hb.size⟩
def stR (p : Int × Int) : Value := .tuple #[.int .i64 p.1, .int .i64 p.2]
set_option maxHeartbeats 4000000 in
set_option maxRecDepth 100000 in
theorem qstart_any (h : TabQ B U bt w t) {br to tx : List UInt8} {now : Int} (h1 : br.length ≤ 281474976710656) (h2 : to.length ≤ 281474976710656) (h3 : tx.length ≤ 281474976710656) (h9 : t.last ≤ 1000000000) :
    Calls Try.prog 14 #[.pointer (some ⟨bt, 0, none⟩), .string ⟨br.toArray⟩, .int .i64 now, stV to tx] w fun e w' => e = .returned (stR (startQ t br now to tx).2) ∧ TabQ B w'.heap.size bt w' (startQ t br now to tx).1 ∧ FrQ B w.heap.size w w' := by
  have hs0 := rc_row2 w (.string ⟨to.toArray⟩) (.string ⟨tx.toArray⟩) 40
  have hb0 : Below w.heap.size w (w.alloc (.cells #[.string ⟨to.toArray⟩, .string ⟨tx.toArray⟩] 40)) := (Below.refl _ w).alloc (Nat.le_refl _) _
  have hl0 := alloc_lt w (.cells #[.string ⟨to.toArray⟩, .string ⟨tx.toArray⟩] 40)
  generalize hw0 : w.alloc (.cells #[.string ⟨to.toArray⟩, .string ⟨tx.toArray⟩] 40) = w0 at hb0 hs0 hl0
  have HT : Hid (∀ u, Below w.heap.size w u → TabQ B u.heap.size bt u t ∧ FrQ B w.heap.size w u) := fun u hu => by
    obtain ⟨x1, x2, xU, mn, ma, be, mw, r, x3, x4⟩ := h
    exact ⟨⟨x1, x2, Nat.le_refl _, mn, ma, be, mw, r, (x3.below hu).mono (Nat.le_trans xU hu.size), x4⟩, FrQ.of hu x3.lo⟩
  obtain ⟨hok, hsm, hU, mn, ma, be, mw, r, hS, hE⟩ := h
  have hS0 := hS.below hb0
  have KM := hid (qmade_any hS0)
  unfold stV
  by_cases hb1 : now < 0
  · rw [startq_arg (.inl hb1)]
    clear hS hS0 hE hsm hok
    go_enter Try.func14, Try.ntmps14
    go_wp2_with (go_at_call 23; refine KM.out.mono ?_; rintro e w9 ⟨rfl, hw9⟩; rw [hw9]; clear hw9)
    go_ret2
    exact ⟨rfl, HT.out _ hb0⟩
  by_cases hb2 : 1099511627136 < now
  · rw [startq_arg (.inr hb2)]
    clear hS hS0 hE hsm hok
    go_enter Try.func14, Try.ntmps14
    go_wp2_with (go_at_call 23; refine KM.out.mono ?_; rintro e w9 ⟨rfl, hw9⟩; rw [hw9]; clear hw9)
    go_ret2
    exact ⟨rfl, HT.out _ hb0⟩
  have hnb : ¬ (now < 0 ∨ 1099511627136 < now) := by omega
  have c2 := hS0.c2
  rcases br_two t.l br with ⟨k, hk, hbr, ef⟩ | ⟨hno, ef⟩
  · rw [startq_two hnb ef]
    have hlk := (hS0.lookN (List.getElem_mem hk) (hsm _ (List.getElem_mem hk))).1
    rw [hbr] at hlk
    clear hS hS0 hE hsm hok hnb ef hbr
    go_enter Try.func14, Try.ntmps14
    go_wp2_with (go_at_call 23; refine KM.out.mono ?_; rintro e w9 ⟨rfl, hw9⟩; rw [hw9]; clear hw9)
    go_ret2
    exact ⟨rfl, HT.out _ hb0⟩
  have hlk := (hS0.lookN_no h1 hno).1
  have KL := hid (qlen_tab hS0.drew)
  have c0 := cell_dr hS0.c0
  by_cases hfu : t.most ≤ t.l.length
  · rw [startq_full hnb ef hfu]
    have hfu' : ((t.l.length : Int) < t.most) = False := by simp; omega
    have HB := hid (HT.out _ hb0.drew)
    clear hS hS0 hE hsm hok hnb ef hno
    go_enter Try.func14, Try.ntmps14
    go_wp2_with (go_at_call 23; refine KM.out.mono ?_; rintro e w9 ⟨rfl, hw9⟩; rw [hw9]; clear hw9)
    go_region_law (go_simp; go_at_call 11; refine KL.out.mono ?_; rintro e w9 ⟨rfl, hw9⟩; rw [hw9]; clear hw9)
    all_goals (
      go_wp2
      go_ret2
      exact ⟨rfl, HB.out⟩)
  · rw [startq_new hnb ef hfu]
    have h20 := hok.most.2
    have hlen : t.l.length ≤ 1000000 := by have := hok.len; omega
    have hrl : r.length < 4096 := by
      have := hE.length_eq
      rw [List.length_map] at this
      have := hok.len; omega
    have hid' : ∀ x ∈ t.l, x.id ≠ t.last + 1 := fun x hx => by have := (hok.pos x hx).2; omega
    have hnew := newq_small (t := t) (now := now) h1 h2 h3 hok.last h9
    have K1 := hid (fun (u : World) => cloneq br u h1)
    have KA := hid (fun (u : World) => qapart_any u h2 h3)
    have KB := hid (fun (u : World) (hu : SrQ w0.drew.drew w.heap.size u to tx) => qbegin_any (hS0.drew.drew.below hu.bel) (Nat.le_trans hU (Nat.le_trans hb0.size hu.bel.size)) (now := now) (by omega) (by omega) hnew hno hid' hlen hok.last h9 hrl)
    have FIN : Hid (∀ u : World, SrQ w0.drew.drew w.heap.size u to tx → ∀ u', Sq B u'.heap.size bt mn ma be mw u' t.most (t.last + 1) (t.l ++ [newQ t br now to tx]) (setT r (t.last + 1) (atQ (newQ t br now to tx))) → FrQ B u.heap.size u u' → TabQ B u'.heap.size bt u' ⟨t.most, t.last + 1, t.l ++ [newQ t br now to tx]⟩ ∧ FrQ B w.heap.size w u') := fun u hu u' hu' hf' =>
      ⟨⟨hok.add (by omega) (by omega) hno hfu, fun c hc => by
        rcases List.mem_append.1 hc with hc | hc
        · exact hsm c hc
        · simp at hc; subst hc; exact hnew, Nat.le_refl _, mn, ma, be, mw, _, hu', ends_new (c := newQ t br now to tx) hE hid'⟩, (FrQ.of (U := U) ((hb0.drew.drew).trans (hu.bel.mono hb0.size)) hS.lo).any hf'⟩
    have hfu' : ((t.l.length : Int) < t.most) = True := by simp; omega
    have hfu2 : ¬ t.most ≤ (t.l.length : Int) := hfu
    have HI : Hid (SrQ w0.drew.drew w.heap.size w0.drew.drew to tx) := ⟨Below.refl _ _, hs0, hl0⟩
    obtain ⟨s0, s1, _, _⟩ := HI.out.s.rc2
    unfold txV at KB
    unfold stV at KA
    simp only at KB
    clear hS hS0 hE hsm hok hnb ef hno hid' hnew
    go_enter Try.func14, Try.ntmps14
    go_wp2_with (go_at_call 23; refine KM.out.mono ?_; rintro e w9 ⟨rfl, hw9⟩; rw [hw9]; clear hw9)
    go_region_law (go_simp; go_at_call 11; refine KL.out.mono ?_; rintro e w9 ⟨rfl, hw9⟩; rw [hw9]; clear hw9)
    all_goals (
      go_wp2
      go_region_law (first
        | (go_simp; go_at_call 25; refine (K1.out _).mono ?_; rintro e w2 ⟨rfl, hb2⟩; replace HI := hid (HI.out.step hb2); clear hb2; obtain ⟨s0, s1, _, _⟩ := HI.out.s.rc2)
        | (go_simp; go_at_call 26; refine (KA.out _).mono ?_; rintro e w2 ⟨rfl, hb2⟩; replace HI := hid (HI.out.step hb2); clear hb2; obtain ⟨s0, s1, _, _⟩ := HI.out.s.rc2)
        | (go_simp; go_at_call 24; refine (KB.out _ HI.out).mono ?_; rintro e w3 ⟨rfl, hS3, hF3⟩; have HE := hid (FIN.out _ HI.out _ hS3 hF3); clear hS3 hF3))
      all_goals (
        go_wp2
        go_ret2
        exact ⟨rfl, HE.out⟩))
end
end Go.Proofs.Ytgikbpaejmdnoaa
