/-
  Timers in a heap, and in a row in order: plain facts.
-/
import Derived.Test.YthioekmlljpbpaaHeapL
namespace Go.Proofs.Ythioekmlljpbpaa
open Go.RowKit
set_option linter.unusedVariables false
set_option maxRecDepth 20000

/-- A timer: when it is due, and whose it is. -/
abbrev Tm := Int × Int
def ahd (a b : Tm) : Bool := decide (a.1 < b.1) || (decide (a.1 = b.1) && decide (a.2 < b.2))
theorem ahd_iff {a b : Tm} : ahd a b = true ↔ a.1 < b.1 ∨ (a.1 = b.1 ∧ a.2 < b.2) := by simp [ahd]
theorem ahd_not {a b : Tm} : ahd a b = false ↔ ¬ (a.1 < b.1 ∨ (a.1 = b.1 ∧ a.2 < b.2)) := by rw [← ahd_iff]; simp
theorem ahd_trans {a b c : Tm} (h1 : ahd a b = true) (h2 : ahd b c = true) : ahd a c = true := by
  rw [ahd_iff] at *; omega
theorem ahd_total {a b : Tm} (h : a.2 ≠ b.2) (h1 : ahd a b = false) : ahd b a = true := by
  rw [ahd_not] at h1; rw [ahd_iff]; omega
/-- A timer in memory: the block where it lies. -/
structure It where
  blk : Nat
  tm : Tm
def itLt (a b : It) : Bool := ahd a.tm b.tm
theorem it_ord : Ord itLt :=
  ⟨fun a b h => by unfold itLt at *; rw [ahd_iff] at h; rw [ahd_not]; omega, fun a b c h1 h2 => by unfold itLt at *; rw [ahd_not] at *; omega⟩

/-- The same, in another order, up to m; behind that as it was. -/
structure Re (m : Nat) (f g : Nat → It) : Prop where
  mem : ∀ x, (∃ i, i < m ∧ g i = x) ↔ ∃ i, i < m ∧ f i = x
  inj : (∀ i j, i < m → j < m → (f i).blk = (f j).blk → i = j) → ∀ i j, i < m → j < m → (g i).blk = (g j).blk → i = j
  rest : ∀ k, m ≤ k → g k = f k
theorem Re.refl (m : Nat) (f : Nat → It) : Re m f f := ⟨fun _ => Iff.rfl, fun h => h, fun _ _ => rfl⟩
theorem Re.trans {m : Nat} {f g h : Nat → It} (a : Re m f g) (b : Re m g h) : Re m f h :=
  ⟨fun x => (b.mem x).trans (a.mem x), fun hi => b.inj (a.inj hi), fun k hk => (b.rest k hk).trans (a.rest k hk)⟩
theorem Re.swap {m : Nat} (f : Nat → It) {i j : Nat} (hi : i < m) (hj : j < m) : Re m f (swapF f i j) := by
  have hs : ∀ k, k < m → ∃ k', k' < m ∧ swapF f i j k = f k' ∧ swapF f i j k' = f k := by
    intro k hk
    by_cases h1 : k = i
    · subst h1; exact ⟨j, hj, swap_l f k j, swap_r f k j⟩
    · by_cases h2 : k = j
      · subst h2; exact ⟨i, hi, swap_r f i k, swap_l f i k⟩
      · exact ⟨k, hk, swap_o f h1 h2, swap_o f h1 h2⟩
  refine ⟨fun x => ⟨?_, ?_⟩, fun h a b ha hb hab => ?_, fun k hk => swap_o f (by omega) (by omega)⟩
  · rintro ⟨k, hk, rfl⟩
    obtain ⟨k', h1, h2, _⟩ := hs k hk
    exact ⟨k', h1, h2.symm⟩
  · rintro ⟨k, hk, rfl⟩
    obtain ⟨k', h1, _, h2⟩ := hs k hk
    exact ⟨k', h1, h2⟩
  · by_cases a1 : a = i
    · subst a1
      rw [swap_l] at hab
      by_cases b1 : b = a
      · exact b1.symm
      · by_cases b2 : b = j
        · subst b2; rw [swap_r] at hab; exact (h _ _ hj hi hab).symm
        · rw [swap_o f b1 b2] at hab; exact absurd (h _ _ hj hb hab).symm b2
    · by_cases a2 : a = j
      · subst a2
        rw [swap_r] at hab
        by_cases b1 : b = i
        · subst b1; rw [swap_l] at hab; exact (h _ _ hi hj hab).symm
        · by_cases b2 : b = a
          · exact b2.symm
          · rw [swap_o f b1 b2] at hab; exact absurd (h _ _ hi hb hab).symm b1
      · rw [swap_o f a1 a2] at hab
        by_cases b1 : b = i
        · subst b1; rw [swap_l] at hab; exact absurd (h _ _ ha hj hab) a2
        · by_cases b2 : b = j
          · subst b2; rw [swap_r] at hab; exact absurd (h _ _ ha hi hab) a1
          · rw [swap_o f b1 b2] at hab; exact h _ _ ha hb hab
theorem Re.more {m n : Nat} {f g : Nat → It} (h : Re m f g) (hmn : m ≤ n) (hi : ∀ i j, i < n → j < n → (f i).blk = (f j).blk → i = j) : Re n f g := by
  refine ⟨fun x => ⟨?_, ?_⟩, fun _ a b ha hb hab => ?_, fun k hk => h.rest k (by omega)⟩
  · rintro ⟨k, hk, rfl⟩
    by_cases hm : k < m
    · obtain ⟨k', h1, h2⟩ := (h.mem (g k)).1 ⟨k, hm, rfl⟩
      exact ⟨k', by omega, h2⟩
    · exact ⟨k, hk, (h.rest k (by omega)).symm⟩
  · rintro ⟨k, hk, rfl⟩
    by_cases hm : k < m
    · obtain ⟨k', h1, h2⟩ := (h.mem (f k)).2 ⟨k, hm, rfl⟩
      exact ⟨k', by omega, h2⟩
    · exact ⟨k, hk, h.rest k (by omega)⟩
  · by_cases am : a < m
    · by_cases bm : b < m
      · exact h.inj (fun i j a1 a2 a3 => hi i j (by omega) (by omega) a3) a b am bm hab
      · obtain ⟨k', h1, h2⟩ := (h.mem (g a)).1 ⟨a, am, rfl⟩
        rw [← h2, h.rest b (by omega)] at hab
        have := hi _ _ (by omega) hb hab
        omega
    · by_cases bm : b < m
      · obtain ⟨k', h1, h2⟩ := (h.mem (g b)).1 ⟨b, bm, rfl⟩
        rw [← h2, h.rest a (by omega)] at hab
        have := hi _ _ ha (by omega) hab
        omega
      · rw [h.rest a (by omega), h.rest b (by omega)] at hab
        exact hi _ _ ha hb hab

-- the document's row
def stopT (l : List Tm) (id : Int) : List Tm := l.filter fun t => !decide (t.2 = id)
def setT (l : List Tm) (id at' : Int) : List Tm := (stopT l id).takeWhile (fun t => ahd t (at', id)) ++ (at', id) :: (stopT l id).dropWhile (fun t => ahd t (at', id))
def whenT : List Tm → Int → Option Int
  | [], _ => none
  | t :: l, id => if t.2 = id then some t.1 else whenT l id
def dueT (l : List Tm) (now : Int) : List Tm := l.takeWhile fun t => decide (t.1 ≤ now)
def leftT (l : List Tm) (now : Int) : List Tm := l.dropWhile fun t => decide (t.1 ≤ now)
/-- In order, one a name. -/
structure Row9 (l : List Tm) : Prop where
  sorted : l.Pairwise fun a b => ahd a b = true
  ids : l.Pairwise fun a b => a.2 ≠ b.2
theorem Row9.nil : Row9 [] := ⟨.nil, .nil⟩
theorem Row9.tail {t : Tm} {l : List Tm} (h : Row9 (t :: l)) : Row9 l := ⟨(List.pairwise_cons.1 h.sorted).2, (List.pairwise_cons.1 h.ids).2⟩
theorem Row9.same {l : List Tm} (h : Row9 l) : ∀ a ∈ l, ∀ b ∈ l, a.2 = b.2 → a = b := by
  induction l with
  | nil => intro a ha; simp at ha
  | cons t l ih =>
    obtain ⟨h1, h2⟩ := List.pairwise_cons.1 h.ids
    intro a ha b hb hab
    rcases List.mem_cons.1 ha with ha | ha <;> rcases List.mem_cons.1 hb with hb | hb
    · rw [ha, hb]
    · exact absurd (by rw [← ha]; exact hab) (h1 b hb)
    · exact absurd (by rw [← hb]; exact hab.symm) (h1 a ha)
    · exact ih h.tail a ha b hb hab
theorem stop_mem {l : List Tm} {id : Int} {t : Tm} : t ∈ stopT l id ↔ t ∈ l ∧ t.2 ≠ id := by simp [stopT]
theorem Row9.stop {l : List Tm} (h : Row9 l) (id : Int) : Row9 (stopT l id) := ⟨h.sorted.filter _, h.ids.filter _⟩
theorem stop_len {l : List Tm} (h : Row9 l) (id : Int) : (stopT l id).length + (if (∃ t ∈ l, t.2 = id) then 1 else 0) = l.length := by
  induction l with
  | nil => simp [stopT]
  | cons t l ih =>
    obtain ⟨h1, _⟩ := List.pairwise_cons.1 h.ids
    have ih := ih h.tail
    by_cases e : t.2 = id
    · have hn : ¬ ∃ x ∈ l, x.2 = id := fun ⟨x, hx, hxi⟩ => h1 x hx (by rw [e, hxi])
      rw [if_neg hn] at ih
      rw [if_pos ⟨t, by simp, e⟩]
      have : stopT (t :: l) id = stopT l id := by simp [stopT, e]
      rw [this]; simp at ih ⊢; exact ih
    · have : stopT (t :: l) id = t :: stopT l id := by simp [stopT, e]
      rw [this]
      by_cases hx : ∃ x ∈ l, x.2 = id
      · rw [if_pos hx] at ih
        obtain ⟨x, hx1, hx2⟩ := hx
        rw [if_pos ⟨x, by simp [hx1], hx2⟩]; simp at ih ⊢; omega
      · rw [if_neg hx] at ih
        rw [if_neg (by rintro ⟨x, hx1, hx2⟩; rcases List.mem_cons.1 hx1 with rfl | hx1; exact e hx2; exact hx ⟨x, hx1, hx2⟩)]; simp at ih ⊢; exact ih
theorem when_iff {l : List Tm} (h : Row9 l) (id a : Int) : whenT l id = some a ↔ (a, id) ∈ l := by
  induction l with
  | nil => simp [whenT]
  | cons t l ih =>
    obtain ⟨h1, _⟩ := List.pairwise_cons.1 h.ids
    unfold whenT
    by_cases e : t.2 = id
    · rw [if_pos e]
      constructor
      · intro h; injection h with h; subst h; subst e; simp
      · intro hm
        rcases List.mem_cons.1 hm with hm | hm
        · rw [← hm]
        · exact absurd e (h1 _ hm)
    · rw [if_neg e, ih h.tail]
      constructor
      · intro hm; simp [hm]
      · intro hm
        rcases List.mem_cons.1 hm with hm | hm
        · exact absurd (by rw [← hm]) e
        · exact hm
theorem when_none {l : List Tm} (id : Int) : whenT l id = none ↔ ∀ t ∈ l, t.2 ≠ id := by
  induction l with
  | nil => simp [whenT]
  | cons t l ih =>
    unfold whenT
    by_cases e : t.2 = id
    · rw [if_pos e]; simp [e]
    · rw [if_neg e, ih]; simp [e]
theorem set_mem {l : List Tm} {id at' : Int} {t : Tm} : t ∈ setT l id at' ↔ t = (at', id) ∨ (t ∈ l ∧ t.2 ≠ id) := by
  unfold setT
  rw [← stop_mem]
  generalize stopT l id = r
  have hr : t ∈ r ↔ t ∈ r.takeWhile (fun t => ahd t (at', id)) ∨ t ∈ r.dropWhile (fun t => ahd t (at', id)) := by
    rw [← List.mem_append, List.takeWhile_append_dropWhile]
  rw [hr]
  simp only [List.mem_append, List.mem_cons]
  constructor
  · rintro (h | h | h)
    · exact .inr (.inl h)
    · exact .inl h
    · exact .inr (.inr h)
  · rintro (h | h | h)
    · exact .inr (.inl h)
    · exact .inl h
    · exact .inr (.inr h)
theorem mid_len (a b : List Tm) (t : Tm) : (a ++ t :: b).length = (a ++ b).length + 1 := by simp only [List.length_append, List.length_cons]; omega
theorem set_len {l : List Tm} (h : Row9 l) (id at' : Int) : (setT l id at').length + (if (∃ t ∈ l, t.2 = id) then 1 else 0) = l.length + 1 := by
  have h1 := stop_len h id
  have h2 : (setT l id at').length = (stopT l id).length + 1 := by
    unfold setT
    rw [mid_len, List.takeWhile_append_dropWhile]
  omega
theorem dw_first {p : Tm → Bool} : ∀ {r : List Tm} {t : Tm} {s : List Tm}, r.dropWhile p = t :: s → p t = false
  | [], t, s, h => by simp at h
  | x :: r, t, s, h => by
    rw [List.dropWhile_cons] at h
    split at h
    · exact dw_first h
    · injection h with h1 h2; subst h1; simp_all
theorem tw_all {p : Tm → Bool} : ∀ {r : List Tm} {t : Tm}, t ∈ r.takeWhile p → p t = true
  | [], t, h => by simp at h
  | x :: r, t, h => by
    rw [List.takeWhile_cons] at h
    split at h
    · rcases List.mem_cons.1 h with rfl | h
      · assumption
      · exact tw_all h
    · simp at h
/-- In a row in order what is behind one that is not due is not due. -/
theorem dw_all {r : List Tm} {t0 : Tm} (h : Row9 r) (hid : ∀ t ∈ r, t.2 ≠ t0.2) : ∀ t ∈ r.dropWhile (fun t => ahd t t0), ahd t0 t = true := by
  intro t ht
  cases e : r.dropWhile (fun t => ahd t t0) with
  | nil => rw [e] at ht; simp at ht
  | cons x s =>
    have hx := dw_first e
    have hsub : (x :: s).Sublist r := e ▸ List.dropWhile_sublist _
    have hxr : x ∈ r := hsub.subset (by simp)
    have h0 : ahd t0 x = true := ahd_total (hid x hxr) hx
    rw [e] at ht
    rcases List.mem_cons.1 ht with rfl | ht
    · exact h0
    · have := (List.pairwise_cons.1 (h.sorted.sublist hsub)).1 t ht
      exact ahd_trans h0 this
theorem Row9.set {l : List Tm} (h : Row9 l) (id at' : Int) : Row9 (setT l id at') := by
  have hr := h.stop id
  have hid : ∀ t ∈ stopT l id, t.2 ≠ ((at', id) : Tm).2 := fun t ht => (stop_mem.1 ht).2
  unfold setT
  generalize stopT l id = r at hr hid
  have hall := dw_all (t0 := (at', id)) hr hid
  have hsp := List.takeWhile_append_dropWhile (p := fun t => ahd t (at', id)) (l := r)
  have hta : ∀ t ∈ r.takeWhile (fun t => ahd t (at', id)), ahd t (at', id) = true := fun t ht => tw_all (p := fun t => ahd t (at', id)) ht
  have s1 := hr.sorted
  have s2 := hr.ids
  rw [← hsp, List.pairwise_append] at s1 s2
  have m1 : ∀ t ∈ r.takeWhile (fun t => ahd t (at', id)), t ∈ r := fun t ht => (List.takeWhile_sublist _).subset ht
  have m2 : ∀ t ∈ r.dropWhile (fun t => ahd t (at', id)), t ∈ r := fun t ht => (List.dropWhile_sublist _).subset ht
  refine ⟨?_, ?_⟩
  · rw [List.pairwise_append]
    refine ⟨s1.1, List.pairwise_cons.2 ⟨hall, s1.2.1⟩, fun a ha b hb => ?_⟩
    rcases List.mem_cons.1 hb with rfl | hb
    · exact hta a ha
    · exact s1.2.2 a ha b hb
  · rw [List.pairwise_append]
    refine ⟨s2.1, List.pairwise_cons.2 ⟨fun b hb => (hid b (m2 b hb)).symm, s2.2.1⟩, fun a ha b hb => ?_⟩
    rcases List.mem_cons.1 hb with rfl | hb
    · exact hid a (m1 a ha)
    · exact s2.2.2 a ha b hb

/-- A heap keeps what a row in order holds. -/
structure Keeps (f : Nat → It) (n : Nat) (l : List Tm) : Prop where
  row : Row9 l
  heap : Heap itLt f n
  inj : ∀ i j, i < n → j < n → (f i).blk = (f j).blk → i = j
  ids : ∀ i j, i < n → j < n → (f i).tm.2 = (f j).tm.2 → i = j
  mem : ∀ t, t ∈ l ↔ ∃ i, i < n ∧ (f i).tm = t
  len : l.length = n
/-- The first of the heap is the first of the row. -/
theorem Keeps.first {f : Nat → It} {n : Nat} {t : Tm} {l : List Tm} (h : Keeps f n (t :: l)) : 0 < n ∧ (f 0).tm = t := by
  have hn : 0 < n := by have := h.len; simp at this; omega
  refine ⟨hn, ?_⟩
  have h0 : (f 0).tm ∈ t :: l := (h.mem _).2 ⟨0, hn, rfl⟩
  rcases List.mem_cons.1 h0 with h0 | h0
  · exact h0
  · exfalso
    have a1 := (List.pairwise_cons.1 h.row.sorted).1 _ h0
    obtain ⟨i, hi, hti⟩ := (h.mem t).1 (by simp)
    have a2 := heap_first it_ord h.heap i i (Nat.le_refl _) hi
    unfold itLt at a2
    rw [hti, a1] at a2
    cases a2
theorem Keeps.empty {f : Nat → It} {n : Nat} (h : Keeps f n []) : n = 0 := by have := h.len; simpa using this.symm
theorem keeps_nil (f : Nat → It) : Keeps f 0 [] := ⟨.nil, fun k _ h => by omega, fun i j h => by omega, fun i j h => by omega, fun t => by simp, rfl⟩
end Go.Proofs.Ythioekmlljpbpaa
