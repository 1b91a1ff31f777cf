/-
  Heaps in a row: what container/heap's steps keep: plain facts.
-/
import Derived.Test.YthioekmlljpbpaaKit
namespace Go.Proofs.Ythioekmlljpbpaa
open Go.RowKit
set_option linter.unusedVariables false
set_option maxRecDepth 20000

/-- An order: never both ways; what is not behind, and not behind that, is not behind. -/
structure Ord {α : Type} (lt : α → α → Bool) : Prop where
  asymm : ∀ a b, lt a b = true → lt b a = false
  trans : ∀ a b c, lt b a = false → lt c b = false → lt c a = false
def par (k : Nat) : Nat := (k - 1) / 2
def swapF {α : Type} (f : Nat → α) (i j : Nat) : Nat → α := fun k => if k = i then f j else if k = j then f i else f k
theorem swap_l {α : Type} (f : Nat → α) (i j : Nat) : swapF f i j i = f j := by simp [swapF]
theorem swap_r {α : Type} (f : Nat → α) (i j : Nat) : swapF f i j j = f i := by unfold swapF; split <;> simp_all
theorem swap_o {α : Type} (f : Nat → α) {i j k : Nat} (h1 : k ≠ i) (h2 : k ≠ j) : swapF f i j k = f k := by simp [swapF, h1, h2]
theorem par_lt {k : Nat} (h : 0 < k) : par k < k := by unfold par; omega
theorem kids_of {c i : Nat} (h : 0 < c) : par c = i ↔ c = 2 * i + 1 ∨ c = 2 * i + 2 := by unfold par; omega

section
variable {α : Type} {lt : α → α → Bool}
def Heap (lt : α → α → Bool) (f : Nat → α) (n : Nat) : Prop := ∀ k, 0 < k → k < n → lt (f k) (f (par k)) = false
/-- All but the one at j and its parent are in order. -/
def UpOK (lt : α → α → Bool) (f : Nat → α) (n j : Nat) : Prop :=
  (∀ k, 0 < k → k < n → k ≠ j → lt (f k) (f (par k)) = false) ∧ ∀ c, 0 < c → c < n → par c = j → 0 < j → lt (f c) (f (par j)) = false
/-- All but the one at i, its parent and its children are in order. -/
def FixOK (lt : α → α → Bool) (f : Nat → α) (n i : Nat) : Prop :=
  (∀ k, 0 < k → k < n → k ≠ i → par k ≠ i → lt (f k) (f (par k)) = false) ∧ ∀ c, 0 < c → c < n → par c = i → 0 < i → lt (f c) (f (par i)) = false
/-- All but the one at i and its children are in order. -/
def DownOK (lt : α → α → Bool) (f : Nat → α) (n i : Nat) : Prop :=
  (∀ k, 0 < k → k < n → par k ≠ i → lt (f k) (f (par k)) = false) ∧ ∀ c, 0 < c → c < n → par c = i → 0 < i → lt (f c) (f (par i)) = false
theorem DownOK.fix {f : Nat → α} {n i : Nat} (h : DownOK lt f n i) : FixOK lt f n i := ⟨fun k h0 h1 _ h2 => h.1 k h0 h1 h2, h.2⟩

theorem up_stop {f : Nat → α} {n j : Nat} (h : UpOK lt f n j) (hs : j = 0 ∨ lt (f j) (f (par j)) = false) : Heap lt f n := by
  intro k h0 h1
  by_cases hk : k = j
  · subst hk
    rcases hs with rfl | hs
    · omega
    · exact hs
  · exact h.1 k h0 h1 hk
theorem up_step (o : Ord lt) {f : Nat → α} {n j : Nat} (h : UpOK lt f n j) (hj : 0 < j) (hn : j < n) (hl : lt (f j) (f (par j)) = true) : UpOK lt (swapF f (par j) j) n (par j) := by
  have hij := par_lt hj
  refine ⟨fun k h0 h1 hk => ?_, fun c h0 h1 hc hi => ?_⟩
  · by_cases hkj : k = j
    · subst hkj
      rw [swap_r, swap_l]; exact o.asymm _ _ hl
    · rw [swap_o f hk hkj]
      by_cases hp : par k = par j
      · rw [hp, swap_l]
        have := h.1 k h0 h1 hkj
        rw [hp] at this
        exact o.trans _ _ _ (o.asymm _ _ hl) this
      · by_cases hp2 : par k = j
        · rw [hp2, swap_r]; exact h.2 k h0 h1 hp2 hj
        · rw [swap_o f hp hp2]; exact h.1 k h0 h1 hkj
  · have hpi := par_lt hi
    rw [swap_o f (i := par j) (j := j) (k := par (par j)) (by omega) (by omega)]
    have hii := h.1 (par j) hi (by omega) (by omega)
    by_cases hcj : c = j
    · subst hcj; rw [swap_r]; exact hii
    · have hci : c ≠ par j := by have := par_lt h0; omega
      rw [swap_o f hci hcj]
      have := h.1 c h0 h1 hcj
      rw [hc] at this
      exact o.trans _ _ _ hii this
theorem down_stop0 {f : Nat → α} {n i : Nat} (h : FixOK lt f n i) (hs : ∀ c, 0 < c → c < n → par c = i → lt (f c) (f i) = false) : UpOK lt f n i := by
  refine ⟨fun k h0 h1 hk => ?_, h.2⟩
  by_cases hp : par k = i
  · rw [hp]; exact hs k h0 h1 hp
  · exact h.1 k h0 h1 hk hp
theorem down_stop {f : Nat → α} {n i : Nat} (h : DownOK lt f n i) (hs : ∀ c, 0 < c → c < n → par c = i → lt (f c) (f i) = false) : Heap lt f n := by
  intro k h0 h1
  by_cases hp : par k = i
  · rw [hp]; exact hs k h0 h1 hp
  · exact h.1 k h0 h1 hp
theorem down_step (o : Ord lt) {f : Nat → α} {n i j : Nat} (h : FixOK lt f n i) (hj : 0 < j) (hn : j < n) (hp : par j = i) (hl : lt (f j) (f i) = true) (hm : ∀ c, 0 < c → c < n → par c = i → lt (f c) (f j) = false) : DownOK lt (swapF f i j) n j := by
  have hij : i < j := by have := par_lt hj; omega
  refine ⟨fun k h0 h1 hk => ?_, fun c h0 h1 hc _ => ?_⟩
  · by_cases hki : k = i
    · subst hki
      have := par_lt h0
      rw [swap_l, swap_o f (i := k) (j := j) (k := par k) (by omega) (by omega)]
      exact h.2 j hj hn hp h0
    · by_cases hkj : k = j
      · subst hkj
        rw [swap_r, hp, swap_l]; exact o.asymm _ _ hl
      · rw [swap_o f hki hkj]
        by_cases hpi : par k = i
        · rw [hpi, swap_l]; exact hm k h0 h1 hpi
        · rw [swap_o f hpi hk]; exact h.1 k h0 h1 hki hpi
  · have hcj := par_lt h0
    rw [hp, swap_l, swap_o f (by omega) (by omega)]
    have := h.1 c h0 h1 (by omega) (by omega)
    rw [hc] at this; exact this
/-- The lesser child. -/
theorem child_l (o : Ord lt) {f : Nat → α} {n i : Nat} (h1 : 2 * i + 1 < n) (hl : ¬ (2 * i + 2 < n ∧ lt (f (2 * i + 2)) (f (2 * i + 1)) = true)) : ∀ c, 0 < c → c < n → par c = i → lt (f c) (f (2 * i + 1)) = false := by
  intro c h0 hc hp
  rcases (kids_of h0).1 hp with rfl | rfl
  · cases e : lt (f (2 * i + 1)) (f (2 * i + 1)) with
    | false => rfl
    | true => rw [o.asymm _ _ e] at e; cases e
  · cases e : lt (f (2 * i + 2)) (f (2 * i + 1)) with
    | false => rfl
    | true => exact absurd ⟨hc, e⟩ hl
theorem child_r (o : Ord lt) {f : Nat → α} {n i : Nat} (hl : lt (f (2 * i + 2)) (f (2 * i + 1)) = true) : ∀ c, 0 < c → c < n → par c = i → lt (f c) (f (2 * i + 2)) = false := by
  intro c h0 hc hp
  rcases (kids_of h0).1 hp with rfl | rfl
  · exact o.asymm _ _ hl
  · cases e : lt (f (2 * i + 2)) (f (2 * i + 2)) with
    | false => rfl
    | true => rw [o.asymm _ _ e] at e; cases e
/-- If the lesser child is not ahead, none is. -/
theorem none_less (o : Ord lt) {f : Nat → α} {n i j : Nat} (hm : ∀ c, 0 < c → c < n → par c = i → lt (f c) (f j) = false) (hl : lt (f j) (f i) = false) : ∀ c, 0 < c → c < n → par c = i → lt (f c) (f i) = false :=
  fun c h0 h1 hp => o.trans _ _ _ hl (hm c h0 h1 hp)
theorem no_child {f : Nat → α} {n i : Nat} (h : n ≤ 2 * i + 1) : ∀ c, 0 < c → c < n → par c = i → lt (f c) (f i) = false := by
  intro c h0 h1 hp
  rcases (kids_of h0).1 hp with rfl | rfl <;> omega
/-- No other stands ahead of the first. -/
theorem heap_first (o : Ord lt) {f : Nat → α} {n : Nat} (h : Heap lt f n) : ∀ m k, k ≤ m → k < n → lt (f k) (f 0) = false := by
  intro m
  induction m with
  | zero =>
    intro k hk _
    obtain rfl := Nat.le_zero.1 hk
    cases e : lt (f 0) (f 0) with
    | false => rfl
    | true => rw [o.asymm _ _ e] at e; cases e
  | succ m ih =>
    intro k hk hn
    by_cases h0 : k = 0
    · subst h0; exact ih 0 (by omega) hn
    · have hp := par_lt (Nat.pos_of_ne_zero h0)
      exact o.trans _ _ _ (ih (par k) (by omega) (by omega)) (h k (by omega) hn)
-- what the calls begin with
theorem push_ok {f g : Nat → α} {n : Nat} (h : Heap lt f n) (hg : ∀ k, k < n → g k = f k) : UpOK lt g (n + 1) n := by
  refine ⟨fun k h0 h1 hk => ?_, fun c h0 h1 hc hn => ?_⟩
  · have := par_lt h0
    rw [hg k (by omega), hg (par k) (by omega)]; exact h k h0 (by omega)
  · have := par_lt h0; omega
theorem remove_ok (o : Ord lt) {f : Nat → α} {n i : Nat} (h : Heap lt f (n + 1)) (hi : i < n) : FixOK lt (swapF f i n) n i := by
  refine ⟨fun k h0 h1 hk hp => ?_, fun c h0 h1 hc h2 => ?_⟩
  · have := par_lt h0
    rw [swap_o f hk (by omega), swap_o f hp (by omega)]; exact h k h0 (by omega)
  · have a1 := par_lt h0
    have a2 := par_lt h2
    rw [swap_o f (by omega) (by omega), swap_o f (by omega) (by omega)]
    have b1 := h c h0 (by omega)
    rw [hc] at b1
    exact o.trans _ _ _ (h i h2 (by omega)) b1
theorem fix_ok (o : Ord lt) {f g : Nat → α} {n i : Nat} (h : Heap lt f n) (hi : i < n) (hg : ∀ k, k ≠ i → g k = f k) : FixOK lt g n i := by
  refine ⟨fun k h0 h1 hk hp => ?_, fun c h0 h1 hc h2 => ?_⟩
  · rw [hg k hk, hg (par k) hp]; exact h k h0 h1
  · have a1 := par_lt h0
    have a2 := par_lt h2
    rw [hg c (by omega), hg (par i) (by omega)]
    have b1 := h c h0 h1
    rw [hc] at b1
    exact o.trans _ _ _ (h i h2 hi) b1
end

end Go.Proofs.Ythioekmlljpbpaa
