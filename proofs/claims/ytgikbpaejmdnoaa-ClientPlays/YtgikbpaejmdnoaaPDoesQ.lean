/-
  A call of both (layer 12).
-/
import Derived.Test.YtgikbpaejmdnoaaPDoesX
import Derived.Test.YtgikbpaejmdnoaaPDoesY
import Derived.Test.YtgikbpaejmdnoaaPDoesZ
import Derived.Test.YtgikbpaejmdnoaaQFill
namespace Go.Proofs.Ytgikbpaejmdnoaa
open Go.RowKit
set_option linter.unusedVariables false
set_option maxRecDepth 20000
set_option linter.unusedSimpArgs false

theorem start_mostq (t : Tq) (br to tx : List UInt8) (now : Int) : (startQ t br now to tx).1.most = t.most := by
  unfold startQ
  split
  · rfl
  · split
    · rfl
    · split <;> rfl
theorem resp_mostq (t : Tq) (br : List UInt8) (s now : Int) : (respQ t br s now).1.most = t.most := by
  unfold respQ
  split
  · rfl
  · split
    · rfl
    · split
      · rfl
      · split <;> rfl
theorem doesq_any {B bt br : Nat} {w : World} {t : Tq} {v : Value} (h : Bq B bt br w t v) {c : Aq} (ka : AqOk 140737488351232 c) (hl9 : t.last ≤ 1000000) :
    Calls Try.prog 10 #[.pointer (some ⟨bt, 0, none⟩), .pointer (some ⟨br, 0, none⟩), aqV c] w fun e w' => e = .returned (.bool true) ∧ (∃ t' v', Bq B bt br w' t' v' ∧ t'.last ≤ t.last + 1 ∧ t'.most = t.most) ∧ FrE B w w' := by
  have hok : TqOK t := by
    obtain ⟨U, hT⟩ := h.tab
    exact hT.1
  have hn : t.l.length ≤ 1000000 := by have := hok.len; have := hok.most.2; omega
  by_cases h0 : c.kind = 0
  · refine (does_startq h ka h0 hok.last hl9 (by have := hok.most.2; omega) hn).mono ?_
    rintro e w' ⟨rfl, ⟨v', hb⟩, hw⟩
    exact ⟨rfl, ⟨_, v', hb, (start_lastq ..).1, start_mostq ..⟩, hw⟩
  by_cases h1 : c.kind = 1
  · refine (does_respq h ka h1 hn).mono ?_
    rintro e w' ⟨rfl, ⟨v', hb⟩, hw⟩
    exact ⟨rfl, ⟨_, v', hb, by rw [resp_lastq]; omega, resp_mostq ..⟩, hw⟩
  · refine (does_stepq h ka h0 h1 hok).mono ?_
    rintro e w' ⟨rfl, ⟨v', hb⟩, hw⟩
    obtain ⟨_, e1, e2, _⟩ := stepA_ok (now := c.now) (totQ t.l) t hok (Nat.le_refl _)
    exact ⟨rfl, ⟨_, v', hb, by rw [e2]; omega, e1⟩, hw⟩
end Go.Proofs.Ytgikbpaejmdnoaa
