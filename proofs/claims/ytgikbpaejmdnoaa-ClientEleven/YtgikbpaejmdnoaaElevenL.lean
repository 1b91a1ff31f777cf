/-
  A request that is not answered, tick by tick: plain facts.
-/
import Derived.Test.YtgikbpaejmdnoaaWClientAnswered
namespace Go.Proofs.Ytgikbpaejmdnoaa
open Go.RowKit
set_option linter.unusedVariables false
set_option maxRecDepth 20000
set_option linter.unusedSimpArgs false

def cE (br tx : List UInt8) (now k : Int) : Cq := ⟨1, br, now, k, -1, br, tx⟩
def relE (k : Int) : Int := if k ≤ 10 then (atV (k + 1)).1 else 320
theorem relE_at {br tx : List UInt8} {now k : Int} (h1 : 1 ≤ k) (h2 : k ≤ 11) : atQ (cE br tx now k) = now + relE k := by
  unfold relE
  by_cases h : k ≤ 10
  · rw [if_pos h]
    exact (atQ_wait (c := cE br tx now k) (by simp [cE]) h1 h).1
  · rw [if_neg h]
    exact (atQ_last (c := cE br tx now k) (by simp [cE]) (by simp [cE]; omega)).1
theorem relE_bd {k : Int} (h1 : 1 ≤ k) (h2 : k ≤ 11) : 0 < relE k ∧ (k ≤ 10 → relE k < 320) ∧ (¬ k ≤ 10 → relE k = 320) ∧ (k ≤ 10 → relE k < relE (k + 1)) := by
  have e : ∀ j : Int, 1 ≤ j → j ≤ 10 → relE j = sumV (j + 1) := fun j a b => by
    unfold relE atV
    rw [if_pos b, if_pos ⟨by omega, by omega⟩]
  have hs : ∀ j : Int, 2 ≤ j → j ≤ 11 → 5 ≤ sumV j ∧ sumV j < 320 := fun j a b => by
    refine ⟨?_, (sumV_small (by omega)).2 b⟩
    unfold sumV
    repeat' split
    all_goals omega
  have hn : ∀ j : Int, 2 ≤ j → sumV j < sumV (j + 1) := fun j a => by
    have := sumV_next (i := j) (by omega)
    have hw : 5 ≤ waitV j := by
      unfold waitV
      repeat' split
      all_goals omega
    omega
  by_cases h : k ≤ 10
  · have := hs (k + 1) (by omega) (by omega)
    refine ⟨by rw [e k h1 h]; omega, fun _ => by rw [e k h1 h]; omega, fun x => absurd h x, fun _ => ?_⟩
    rw [e k h1 h]
    by_cases h9 : k ≤ 9
    · rw [e (k + 1) (by omega) (by omega)]
      exact hn (k + 1) (by omega)
    · unfold relE
      rw [if_neg (by omega)]
      omega
  · refine ⟨?_, fun x => absurd x h, fun _ => ?_, fun x => absurd x h⟩ <;> (unfold relE; rw [if_neg h]) <;> omega
/-- Where the law stands ahead of tick d. -/
def EIn (br tx : List UInt8) (now : Int) (d : Nat) (t : Tq) (s o : Int) : Prop := (∃ k : Int, 1 ≤ k ∧ k ≤ 11 ∧ t = ⟨3, 1, [cE br tx now k]⟩ ∧ s = k ∧ o = 0 ∧ (d : Int) ≤ relE k) ∨ (320 < d ∧ t = ⟨3, 1, []⟩ ∧ s = 11 ∧ o = 1)
theorem cE_good {br tx : List UInt8} {now k : Int} (h0 : 0 ≤ now) (h1 : now ≤ 1099511627136) (h2 : 1 ≤ k) (h3 : k ≤ 11) : GoodQ (cE br tx now k) := ⟨h0, h1, h2, h3, by simp [cE], by simp [cE]⟩
theorem eleven_step {br tx : List UInt8} {now : Int} {d : Nat} {t : Tq} {s o : Int} (h0 : 0 ≤ now) (h1 : now ≤ 1099511627136) (h : EIn br tx now d t s o) :
    ∃ t' ds s' o', stepA t (now + d) = (t', ds) ∧ EIn br tx now (d + 1) t' s' o' ∧ 1 ≤ s ∧ s ≤ 11 ∧ ((ds = [] ∧ s' = s ∧ o' = o) ∨ (ds = [⟨1, false, br, tx⟩] ∧ o = 0 ∧ o' = 0 ∧ d ≠ 320 ∧ s' = s + 1) ∨ (ds = [⟨1, true, [], []⟩] ∧ o = 0 ∧ o' = 1 ∧ d = 320 ∧ s' = s)) := by
  rcases h with ⟨k, k1, k2, rfl, rfl, rfl, hd⟩ | ⟨hd, rfl, rfl, rfl⟩
  · obtain ⟨b1, b2, b3, b4⟩ := relE_bd k1 k2
    have ha := relE_at (br := br) (tx := tx) (now := now) k1 k2
    by_cases hlt : (d : Int) < relE s
    · refine ⟨_, _, s, 0, step_late1 (by rw [ha]; omega), .inl ⟨s, k1, k2, rfl, rfl, rfl, by push_cast; omega⟩, k1, k2, .inl ⟨rfl, rfl, rfl⟩⟩
    · have hde : (d : Int) = relE s := by omega
      have hok : TqOK ⟨3, 1, [cE br tx now s]⟩ := tq_one (cE_good h0 h1 k1 k2) (by simp [cE]) (by simp [cE]) (by omega) (by omega)
      have hdo := stepA_do hok (k := 0) (by simp) (next_one (cE br tx now s)) (now := now + d) (by simp only [List.getElem_cons_zero]; rw [ha]; omega)
      simp only [List.getElem_cons_zero] at hdo
      by_cases h10 : s ≤ 10
      · rw [oneq_again (by simp [cE]) ((again_iff (cE_good h0 h1 k1 k2) (by simp [cE])).2 (by simpa [cE] using h10))] at hdo
        simp only [List.take_zero, List.nil_append, Nat.zero_add, List.drop_succ_cons, List.drop_zero, List.append_nil] at hdo
        have e1 : ({ cE br tx now s with times := (cE br tx now s).times + 1 } : Cq) = cE br tx now (s + 1) := rfl
        rw [e1] at hdo
        have ha2 := relE_at (br := br) (tx := tx) (now := now) (k := s + 1) (by omega) (by omega)
        have hl := step_late1 (m := 3) (last := 1) (now := now + d) (c := cE br tx now (s + 1)) (by rw [ha2]; have := b4 h10; omega)
        rw [hl] at hdo
        refine ⟨_, _, s + 1, 0, hdo, .inl ⟨s + 1, by omega, by omega, rfl, rfl, rfl, by have := b4 h10; push_cast; omega⟩, k1, k2, .inr (.inl ⟨rfl, rfl, rfl, ?_, rfl⟩)⟩
        have := b2 h10
        omega
      · rw [oneq_over (by simp [cE]) (fun x => h10 (by simpa [cE] using (again_iff (cE_good h0 h1 k1 k2) (by simp [cE])).1 x))] at hdo
        simp only [List.take_zero, List.nil_append, Nat.zero_add, List.drop_succ_cons, List.drop_zero] at hdo
        rw [stepA_none (t := ⟨3, 1, []⟩) (now := now + d) rfl] at hdo
        have := b3 h10
        exact ⟨_, _, s, 1, hdo, .inr ⟨by omega, rfl, by omega, rfl⟩, k1, k2, .inr (.inr ⟨rfl, rfl, rfl, by omega, rfl⟩)⟩
  · exact ⟨_, _, 11, 1, stepA_none rfl, .inr ⟨by omega, rfl, rfl, rfl⟩, by decide, by decide, .inl ⟨rfl, rfl, rfl⟩⟩
theorem eleven_end {br tx : List UInt8} {now : Int} {t : Tq} {s o : Int} (h : EIn br tx now 400 t s o) : t = ⟨3, 1, []⟩ ∧ s = 11 ∧ o = 1 := by
  rcases h with ⟨k, k1, k2, rfl, rfl, rfl, hd⟩ | ⟨hd, rfl, rfl, rfl⟩
  · obtain ⟨b1, b2, b3, b4⟩ := relE_bd k1 k2
    by_cases h : s ≤ 10
    · have := b2 h; omega
    · have := b3 h; omega
  · exact ⟨rfl, rfl, rfl⟩
theorem resp_keeps {t : Tq} {br : List UInt8} {s now : Int} (h : s < 200) : (respQ t br s now).1 = t := by
  unfold respQ
  split
  · rfl
  · split
    · rfl
    · split
      · rfl
      · rfl
end Go.Proofs.Ytgikbpaejmdnoaa
