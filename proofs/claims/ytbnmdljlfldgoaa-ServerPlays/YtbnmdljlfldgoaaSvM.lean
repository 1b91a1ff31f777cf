/-
  Server transactions, plain: a map that holds a row of them by a key; the row of ends; what Expire tells, in order.
-/
import Derived.Test.YtbnmdljlfldgoaaSvL
import Derived.Test.YtbnmdljlfldgoaaWA
import Derived.Maps.OwnSet
namespace Go.Proofs.Ytbnmdljlfldgoaa
open Go.RowKit Go.Maps Go.WideMaps
set_option linter.unusedVariables false
set_option maxRecDepth 20000
set_option linter.unusedSimpArgs false

/-- The map D holds just the transactions l: by the key kn, as dn. -/
structure MpC (kn : Cl → Lit) (dn : Cl → DataW Unit) (l : List Cl) (D : DataW Unit) : Prop where
  has : ∀ c, Maps.has D (kn c) = true ↔ ∃ x ∈ l, kn x = kn c
  at' : ∀ c ∈ l, ∀ z, D.atKey (kn c) z = dn c
  size : Maps.size D = l.length
section
variable {kn : Cl → Lit} {dn : Cl → DataW Unit} {l : List Cl} {D : DataW Unit}
theorem MpC.nil (kn : Cl → Lit) (dn : Cl → DataW Unit) : MpC kn dn [] (.map []) := ⟨fun c => by simp [Maps.has], fun c hc => by simp at hc, rfl⟩
theorem MpC.add (h : MpC kn dn l D) (hM : IsMap D) (hT : Tidy D) {c : Cl} (hk : WideAt.IsKeyLit (kn c)) (hno : ∀ x ∈ l, kn x ≠ kn c) : MpC kn dn (l ++ [c]) (D.put (kn c) (dn c)) := by
  have hh : Maps.has D (kn c) = false := by
    cases e : Maps.has D (kn c)
    · rfl
    · obtain ⟨x, hx, ex⟩ := (h.has c).1 e
      exact absurd ex (hno x hx)
  refine ⟨fun y => ?_, fun y hy z => ?_, ?_⟩
  · by_cases e : kn y = kn c
    · rw [e, Maps.has_put_same hM hk]
      simp only [true_iff]
      exact ⟨c, by simp, rfl⟩
    · rw [Maps.has_put_other e, h.has]
      constructor
      · rintro ⟨x, hx, ex⟩; exact ⟨x, by simp [hx], ex⟩
      · rintro ⟨x, hx, ex⟩
        rcases List.mem_append.1 hx with hx | hx
        · exact ⟨x, hx, ex⟩
        · simp at hx; subst hx; exact absurd ex.symm e
  · rcases List.mem_append.1 hy with hy | hy
    · rw [Maps.atKey_put_other (hno y hy)]; exact h.at' y hy z
    · simp at hy; subst hy; exact Maps.atKey_put_same hM hk _ _
  · rw [Maps.size_put hT, hh, h.size]; simp
theorem MpC.set (h : MpC kn dn l D) (hM : IsMap D) (hT : Tidy D) {i : Nat} (hi : i < l.length) {c : Cl} (hk : WideAt.IsKeyLit (kn c)) (he : kn c = kn l[i]) (hd : ∀ j (hj : j < l.length), j ≠ i → kn l[j] ≠ kn l[i]) : MpC kn dn (l.set i c) (D.put (kn c) (dn c)) := by
  have hh : Maps.has D (kn c) = true := (h.has c).2 ⟨l[i], List.getElem_mem hi, he.symm⟩
  refine ⟨fun y => ?_, fun y hy z => ?_, ?_⟩
  · by_cases e : kn y = kn c
    · rw [e, Maps.has_put_same hM hk]
      simp only [true_iff]
      exact ⟨c, List.mem_iff_getElem.2 ⟨i, by simpa using hi, by simp⟩, rfl⟩
    · rw [Maps.has_put_other e, h.has]
      constructor
      · rintro ⟨x, hx, ex⟩
        obtain ⟨j, hj, rfl⟩ := List.mem_iff_getElem.1 hx
        have hji : j ≠ i := fun e' => by subst e'; exact e (ex.symm.trans he.symm)
        exact ⟨l[j], List.mem_iff_getElem.2 ⟨j, by simpa using hj, by rw [List.getElem_set_ne (Ne.symm hji)]⟩, ex⟩
      · rintro ⟨x, hx, ex⟩
        obtain ⟨j, hj, rfl⟩ := List.mem_iff_getElem.1 hx
        by_cases hji : i = j
        · subst hji; rw [List.getElem_set_self] at ex; exact absurd ex.symm e
        · rw [List.getElem_set_ne hji] at ex
          exact ⟨l[j]'(by simpa using hj), List.getElem_mem _, ex⟩
  · obtain ⟨j, hj, rfl⟩ := List.mem_iff_getElem.1 hy
    by_cases hji : i = j
    · subst hji; rw [List.getElem_set_self]; exact Maps.atKey_put_same hM hk _ _
    · have hj' : j < l.length := by simpa using hj
      rw [List.getElem_set_ne hji, Maps.atKey_put_other (by rw [he]; exact hd j hj' (Ne.symm hji))]
      exact h.at' _ (List.getElem_mem _) z
  · rw [Maps.size_put hT, hh, h.size]; simp
theorem MpC.del (h : MpC kn dn l D) (hT : Tidy D) {p : Cl → Bool} {c : Cl} (hc : c ∈ l) (hp : ∀ x ∈ l, p x = true ↔ kn x ≠ kn c) (hl : (l.filter p).length + 1 = l.length) : MpC kn dn (l.filter p) (D.del (kn c)) := by
  have hh : Maps.has D (kn c) = true := (h.has c).2 ⟨c, hc, rfl⟩
  refine ⟨fun y => ?_, fun y hy z => ?_, ?_⟩
  · by_cases e : kn y = kn c
    · rw [e, Maps.has_del_same]
      constructor
      · intro x; cases x
      · rintro ⟨x, hx, ex⟩
        obtain ⟨h1, h2⟩ := List.mem_filter.1 hx
        exact absurd ex ((hp x h1).1 h2)
    · rw [Maps.has_del_other e, h.has]
      constructor
      · rintro ⟨x, hx, ex⟩; exact ⟨x, List.mem_filter.2 ⟨hx, (hp x hx).2 (by rw [ex]; exact e)⟩, ex⟩
      · rintro ⟨x, hx, ex⟩; exact ⟨x, (List.mem_filter.1 hx).1, ex⟩
  · obtain ⟨h1, h2⟩ := List.mem_filter.1 hy
    rw [Maps.atKey_del_other ((hp y h1).1 h2)]; exact h.at' y h1 z
  · have := Maps.size_del (k := kn c) hT
    rw [hh, h.size] at this
    simp at this; omega
end
/-- The row of ends of the transactions l. -/
def endC (c : Cl) : Tm := (c.over, c.id)
def Ends (l : List Cl) (r : List Tm) : Prop := r.Perm (l.map endC)
/-- A table as calls leave it. -/
structure TbOK (t : Tb) : Prop where
  rise : t.l.Pairwise fun a b => a.id < b.id
  pos : ∀ c ∈ t.l, 1 ≤ c.id ∧ c.id ≤ t.last
  keys : t.l.Pairwise fun a b => ¬ (a.br = b.br ∧ a.hop = b.hop ∧ a.me = b.me)
  len : (t.l.length : Int) ≤ t.most
  most : 1 ≤ t.most ∧ t.most ≤ 200
  last : 0 ≤ t.last
theorem due_filter {r : List Tm} (h : Row9 r) (now : Int) : dueT r now = r.filter (fun t => decide (t.1 ≤ now)) ∧ leftT r now = r.filter (fun t => !decide (t.1 ≤ now)) := by
  induction r with
  | nil => exact ⟨rfl, rfl⟩
  | cons a r ih =>
    obtain ⟨i1, i2⟩ := ih h.tail
    unfold dueT at i1 ⊢
    unfold leftT at i2 ⊢
    by_cases e : a.1 ≤ now
    · simp [e, i1, i2]
    · have hall : ∀ b ∈ r, ¬ b.1 ≤ now := fun b hb => by
        have := (List.pairwise_cons.1 h.sorted).1 b hb
        have := ahd_iff.1 this
        omega
      have f1 : r.filter (fun t => decide (t.1 ≤ now)) = [] := List.filter_eq_nil_iff.2 fun b hb => by simpa using hall b hb
      have f2 : r.filter (fun t => !decide (t.1 ≤ now)) = r := List.filter_eq_self.2 fun b hb => by simpa using hall b hb
      have f3 : r.filter (fun t => decide (now < t.1)) = r := List.filter_eq_self.2 fun b hb => by have := hall b hb; simp; omega
      simp [e, f1, f2, f3]
def overC (now : Int) (c : Cl) : Bool := decide (c.over ≤ now)
theorem ends_due {l : List Cl} {r : List Tm} (h : Ends l r) (hr : Row9 r) (now : Int) : (dueT r now).Perm ((l.filter (overC now)).map endC) ∧ Ends (l.filter fun c => !overC now c) (leftT r now) := by
  obtain ⟨e1, e2⟩ := due_filter hr now
  unfold Ends
  rw [e1, e2]
  refine ⟨(h.filter _).trans ?_, (h.filter _).trans ?_⟩ <;> rw [List.filter_map] <;> exact List.Perm.refl _
theorem ends_set {l : List Cl} {r : List Tm} (h : Ends l r) {c : Cl} (hno : ∀ x ∈ l, x.id ≠ c.id) : Ends (l ++ [c]) (setT r c.id c.over) := by
  have hs : stopT r c.id = r := List.filter_eq_self.2 fun t ht => by
    obtain ⟨x, hx, rfl⟩ := List.mem_map.1 (h.mem_iff.1 ht)
    have := hno x hx
    simp [endC, this]
  unfold Ends setT
  rw [hs]
  refine List.perm_middle.trans ?_
  rw [List.takeWhile_append_dropWhile, List.map_append]
  refine (List.Perm.cons _ h).trans ?_
  exact (List.perm_append_comm (l₁ := [endC c]) (l₂ := l.map endC))
theorem ends_tell {l : List Cl} {r : List Tm} (h : Ends l r) {k : Nat} (hk : k < l.length) {c : Cl} (he : endC c = endC l[k]) : Ends (l.set k c) r := by
  unfold Ends
  rw [List.map_set, he, show (l.map endC).set k (endC l[k]) = l.map endC from by
    apply List.ext_getElem (by simp)
    intro i h1 h2
    by_cases e : k = i
    · subst e; simp
    · rw [List.getElem_set_ne e]]
  exact h
def sortI (l : List Int) : List Int := l.mergeSort fun x y => decide (x ≤ y)
/-- What Expire tells, sorted, are the numbers in their order. -/
theorem sort_gone {l : List Cl} {ds : List Tm} {now : Int} (hr : l.Pairwise fun a b => a.id < b.id) (hp : ds.Perm ((l.filter (overC now)).map endC)) : sortI (ds.map Prod.snd) = (l.filter (overC now)).map Cl.id := by
  have h1 : (ds.map Prod.snd).Perm ((l.filter (overC now)).map Cl.id) := by
    have := hp.map Prod.snd
    rw [List.map_map] at this
    exact this
  have h2 : ((l.filter (overC now)).map Cl.id).Pairwise (fun x y : Int => decide (x ≤ y) = true) := by
    rw [List.pairwise_map]
    exact (hr.filter _).imp fun hab => by simp; omega
  have h3 : (sortI (ds.map Prod.snd)).Pairwise (fun x y : Int => decide (x ≤ y) = true) := List.pairwise_mergeSort (fun a b c => by simp; omega) (fun a b => by simp; omega) _
  exact List.Perm.eq_of_pairwise (fun a b _ _ x y => by simp at x y; omega) h3 h2 ((List.mergeSort_perm _ _).trans h1)
/-- Which are left behind the first k that are over. -/
def behind (l : List Cl) (ds : List Tm) : List Cl := l.filter fun c => !(ds.map Prod.snd).contains c.id
theorem behind_nil (l : List Cl) : behind l [] = l := List.filter_eq_self.2 fun c _ => by simp
theorem behind_all {l : List Cl} {ds : List Tm} {now : Int} (hr : l.Pairwise fun a b => a.id < b.id) (hp : ds.Perm ((l.filter (overC now)).map endC)) : behind l ds = l.filter fun c => !overC now c := by
  unfold behind
  apply List.filter_congr
  intro c hc
  congr 1
  rw [Bool.eq_iff_iff]
  simp only [List.contains_iff_mem, List.mem_map]
  constructor
  · rintro ⟨t, ht, e⟩
    obtain ⟨x, hx, rfl⟩ := List.mem_map.1 (hp.mem_iff.1 ht)
    obtain ⟨h1, h2⟩ := List.mem_filter.1 hx
    have : x = c := by
      obtain ⟨i, hi, rfl⟩ := List.mem_iff_getElem.1 h1
      obtain ⟨j, hj, rfl⟩ := List.mem_iff_getElem.1 hc
      have hP := List.pairwise_iff_getElem.1 hr
      simp only [endC] at e
      rcases Nat.lt_trichotomy i j with h | h | h
      · have := hP i j hi hj h; omega
      · subst h; rfl
      · have := hP j i hj hi h; omega
    subst this; exact h2
  · intro h
    exact ⟨endC c, hp.mem_iff.2 (List.mem_map.2 ⟨c, List.mem_filter.2 ⟨hc, h⟩, rfl⟩), rfl⟩
end Go.Proofs.Ytbnmdljlfldgoaa
