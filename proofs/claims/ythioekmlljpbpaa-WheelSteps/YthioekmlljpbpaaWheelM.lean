/-
  What the wheel's calls keep: plain facts.
-/
import Derived.Test.YthioekmlljpbpaaWheelL
namespace Go.Proofs.Ythioekmlljpbpaa
open Go.RowKit
set_option linter.unusedVariables false
set_option maxRecDepth 20000

/-- A row's element put in at k. -/
def putF (f : Nat → It) (k : Nat) (x : It) : Nat → It := fun i => if i = k then x else f i
theorem put_at (f : Nat → It) (k : Nat) (x : It) : putF f k x k = x := by simp [putF]
theorem put_ne (f : Nat → It) {k i : Nat} (x : It) (h : i ≠ k) : putF f k x i = f i := by simp [putF, h]

theorem Re.ids {m : Nat} {f g : Nat → It} (h : Re m f g) (hb : ∀ i j, i < m → j < m → (f i).blk = (f j).blk → i = j) (hi : ∀ i j, i < m → j < m → (f i).tm.2 = (f j).tm.2 → i = j) :
    ∀ i j, i < m → j < m → (g i).tm.2 = (g j).tm.2 → i = j := by
  intro i j h1 h2 he
  obtain ⟨a, ha, ea⟩ := (h.mem (g i)).1 ⟨i, h1, rfl⟩
  obtain ⟨b, hb', eb⟩ := (h.mem (g j)).1 ⟨j, h2, rfl⟩
  have hab := hi a b ha hb' (by rw [ea, eb]; exact he)
  subst hab
  exact h.inj hb i j h1 h2 (by rw [← ea, ← eb])
theorem Re.tms {m : Nat} {f g : Nat → It} (h : Re m f g) (t : Tm) : (∃ i, i < m ∧ (g i).tm = t) ↔ ∃ i, i < m ∧ (f i).tm = t := by
  constructor
  · rintro ⟨i, hi, rfl⟩
    obtain ⟨a, ha, ea⟩ := (h.mem (g i)).1 ⟨i, hi, rfl⟩
    exact ⟨a, ha, by rw [ea]⟩
  · rintro ⟨i, hi, rfl⟩
    obtain ⟨a, ha, ea⟩ := (h.mem (f i)).2 ⟨i, hi, rfl⟩
    exact ⟨a, ha, by rw [ea]⟩
/-- What is in the heap, in another order. -/
theorem keeps_re {f g : Nat → It} {n : Nat} {l : List Tm} (hr : Row9 l) (hre : Re n f g) (hh : Heap itLt g n) (hinj : ∀ i j, i < n → j < n → (f i).blk = (f j).blk → i = j)
    (hids : ∀ i j, i < n → j < n → (f i).tm.2 = (f j).tm.2 → i = j) (hm : ∀ t, t ∈ l ↔ ∃ i, i < n ∧ (f i).tm = t) (hl : l.length = n) : Keeps g n l :=
  ⟨hr, hh, hre.inj hinj, hre.ids hinj hids, fun t => (hm t).trans (hre.tms t).symm, hl⟩
/-- A new one. -/
theorem Keeps.push {f g : Nat → It} {n b : Nat} {l : List Tm} {id at' : Int} (h : Keeps f n l) (hno : ∀ t ∈ l, t.2 ≠ id) (hb : ∀ i, i < n → (f i).blk ≠ b)
    (hre : Re (n + 1) (putF f n ⟨b, (at', id)⟩) g) (hh : Heap itLt g (n + 1)) : Keeps g (n + 1) (setT l id at') := by
  have hid : ∀ i, i < n → (f i).tm.2 ≠ id := fun i hi => hno _ ((h.mem _).2 ⟨i, hi, rfl⟩)
  refine keeps_re (h.row.set id at') hre hh ?_ ?_ ?_ ?_
  · intro i j hi hj he
    by_cases e1 : i = n <;> by_cases e2 : j = n
    · omega
    · subst e1; rw [put_at, put_ne _ _ e2] at he; exact absurd he.symm (hb j (by omega))
    · subst e2; rw [put_at, put_ne _ _ e1] at he; exact absurd he (hb i (by omega))
    · rw [put_ne _ _ e1, put_ne _ _ e2] at he; exact h.inj i j (by omega) (by omega) he
  · intro i j hi hj he
    by_cases e1 : i = n <;> by_cases e2 : j = n
    · omega
    · subst e1; rw [put_at, put_ne _ _ e2] at he; exact absurd he.symm (hid j (by omega))
    · subst e2; rw [put_at, put_ne _ _ e1] at he; exact absurd he (hid i (by omega))
    · rw [put_ne _ _ e1, put_ne _ _ e2] at he; exact h.ids i j (by omega) (by omega) he
  · intro t
    rw [set_mem]
    constructor
    · rintro (rfl | ⟨ht, _⟩)
      · exact ⟨n, by omega, by rw [put_at]⟩
      · obtain ⟨i, hi, he⟩ := (h.mem t).1 ht
        exact ⟨i, by omega, by rw [put_ne _ _ (by omega)]; exact he⟩
    · rintro ⟨i, hi, he⟩
      by_cases e1 : i = n
      · subst e1; rw [put_at] at he; exact .inl he.symm
      · rw [put_ne _ _ e1] at he
        have hm := (h.mem t).2 ⟨i, by omega, he⟩
        exact .inr ⟨hm, hno t hm⟩
  · have := set_len h.row id at'
    rw [if_neg (by rintro ⟨t, ht, he⟩; exact hno t ht he)] at this
    have := h.len
    omega
/-- One that is there, at another time. -/
theorem Keeps.fix {f g : Nat → It} {n i : Nat} {l : List Tm} {at' : Int} (h : Keeps f n l) (hi : i < n)
    (hre : Re n (putF f i ⟨(f i).blk, (at', (f i).tm.2)⟩) g) (hh : Heap itLt g n) : Keeps g n (setT l (f i).tm.2 at') := by
  have hid : ∀ k, k < n → k ≠ i → (f k).tm.2 ≠ (f i).tm.2 := fun k hk hne he => hne (h.ids k i hk hi he)
  have hP : ∀ k, (putF f i ⟨(f i).blk, (at', (f i).tm.2)⟩ k).blk = (f k).blk ∧ (putF f i ⟨(f i).blk, (at', (f i).tm.2)⟩ k).tm.2 = (f k).tm.2 := fun k => by
    by_cases e : k = i
    · subst e; rw [put_at]; exact ⟨rfl, rfl⟩
    · rw [put_ne _ _ e]; exact ⟨rfl, rfl⟩
  refine keeps_re (h.row.set _ at') hre hh ?_ ?_ ?_ ?_
  · intro a b ha hb he
    rw [(hP a).1, (hP b).1] at he
    exact h.inj a b ha hb he
  · intro a b ha hb he
    rw [(hP a).2, (hP b).2] at he
    exact h.ids a b ha hb he
  · intro t
    rw [set_mem]
    constructor
    · rintro (rfl | ⟨ht, hne⟩)
      · exact ⟨i, hi, by rw [put_at]⟩
      · obtain ⟨k, hk, he⟩ := (h.mem t).1 ht
        have hki : k ≠ i := fun e => by subst e; exact hne (by rw [he])
        exact ⟨k, hk, by rw [put_ne _ _ hki]; exact he⟩
    · rintro ⟨k, hk, he⟩
      by_cases e1 : k = i
      · subst e1; rw [put_at] at he; exact .inl he.symm
      · rw [put_ne _ _ e1] at he
        exact .inr ⟨(h.mem t).2 ⟨k, hk, he⟩, by rw [← he]; exact hid k hk e1⟩
  · have := set_len h.row (f i).tm.2 at'
    rw [if_pos ⟨(f i).tm, (h.mem _).2 ⟨i, hi, rfl⟩, rfl⟩] at this
    have := h.len
    omega
/-- One is taken away: it lies last, and is left out. -/
theorem Keeps.drop {f g : Nat → It} {n i : Nat} {l : List Tm} (h : Keeps f (n + 1) l) (hi : i < n + 1)
    (hre : Re n (swapF f i n) g) (hh : Heap itLt g n) : Keeps g n (stopT l (f i).tm.2) := by
  have hs := Re.swap f hi (show n < n + 1 by omega)
  have hl : swapF f i n n = f i := swap_r f i n
  have hinj := hs.inj h.inj
  have hids := hs.ids h.inj h.ids
  refine keeps_re (h.row.stop _) hre hh ?_ ?_ ?_ ?_
  · intro a b ha hb he; exact hinj a b (by omega) (by omega) he
  · intro a b ha hb he; exact hids a b (by omega) (by omega) he
  · intro t
    rw [stop_mem, h.mem, ← hs.tms]
    constructor
    · rintro ⟨⟨k, hk, he⟩, hne⟩
      have hkn : k ≠ n := fun e => by subst e; rw [hl] at he; exact hne (by rw [he])
      exact ⟨k, by omega, he⟩
    · rintro ⟨k, hk, he⟩
      refine ⟨⟨k, by omega, he⟩, fun e => ?_⟩
      have := hids k n (by omega) (by omega) (by rw [hl, he]; exact e)
      omega
  · have := stop_len h.row (f i).tm.2
    rw [if_pos ⟨(f i).tm, (h.mem _).2 ⟨i, hi, rfl⟩, rfl⟩] at this
    have := h.len
    omega
theorem stop_first {t : Tm} {l : List Tm} (h : Row9 (t :: l)) : stopT (t :: l) t.2 = l := by
  have h1 := (List.pairwise_cons.1 h.ids).1
  unfold stopT
  rw [List.filter_cons]
  simp only [decide_true, Bool.not_true, Bool.false_eq_true, if_false]
  rw [List.filter_eq_self]
  intro a ha
  have := h1 a ha
  simp
  exact fun e => this e.symm
end Go.Proofs.Ythioekmlljpbpaa
