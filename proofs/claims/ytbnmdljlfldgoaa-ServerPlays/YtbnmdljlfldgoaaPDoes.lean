/-
  A call of both tables.
-/
import Derived.Test.YtbnmdljlfldgoaaPDoesS
import Derived.Test.YtbnmdljlfldgoaaPDoesA
import Derived.Test.YtbnmdljlfldgoaaPDoesE
namespace Go.Proofs.Ytbnmdljlfldgoaa
open Go.RowKit
set_option linter.unusedVariables false
set_option maxRecDepth 20000
set_option linter.unusedSimpArgs false

theorem start_last (t : Tb) (br hop me : List UInt8) (now : Int) : (startT t br hop me now).1.last ≤ t.last + 1 ∧ (startT t br hop me now).1.most = t.most := by
  by_cases h1 : now < 0 ∨ 1099511627456 < now
  · rw [start_arg h1]; exact ⟨by simp only; omega, rfl⟩
  by_cases h2 : (findT t.l br hop me).2 = true
  · rw [start_two h1 h2]; exact ⟨by simp only; omega, rfl⟩
  by_cases h3 : t.most ≤ t.l.length
  · rw [start_full h1 h2 h3]; exact ⟨by simp only; omega, rfl⟩
  · rw [start_new h1 h2 h3]; exact ⟨by simp only; omega, rfl⟩
theorem answer_last (t : Tb) (id : Int) (to tx : List UInt8) : (answerT t id to tx).1.last = t.last ∧ (answerT t id to tx).1.most = t.most := by
  unfold answerT
  split
  · exact ⟨rfl, rfl⟩
  · split
    · exact ⟨rfl, rfl⟩
    · split <;> exact ⟨rfl, rfl⟩
theorem does_any {B bt br : Nat} {w : World} {t : Tb} {v : Value} (h : Bo B bt br w t v) {c : Ac} (ka : AcOk 140737488351232 c) (hl9 : t.last ≤ 1000) :
    Calls Try.prog 11 #[.pointer (some ⟨bt, 0, none⟩), .pointer (some ⟨br, 0, none⟩), acV c] w fun e w' => e = .returned (.bool true) ∧ (∃ t' v', Bo B bt br w' t' v' ∧ t'.last ≤ t.last + 1 ∧ t'.most = t.most) ∧ FrD B w w' := by
  have hok := h.tab.1
  have hn : t.l.length ≤ 1000000 := by have := hok.len; have := hok.most.2; omega
  by_cases h0 : c.kind = 0
  · refine (does_start h ka h0 hok.last (by omega) (by have := hok.most.2; omega) hn).mono ?_
    rintro e w' ⟨rfl, ⟨v', hb⟩, hw⟩
    exact ⟨rfl, ⟨_, v', hb, start_last ..⟩, hw⟩
  by_cases h1 : c.kind = 1
  · refine (does_answer h ka h1 hn).mono ?_
    rintro e w' ⟨rfl, ⟨v', hb⟩, hw⟩
    obtain ⟨e1, e2⟩ := answer_last t c.id c.hop c.tx
    exact ⟨rfl, ⟨_, v', hb, by omega, e2⟩, hw⟩
  · refine (does_expire h ka h0 h1 hn).mono ?_
    rintro e w' ⟨rfl, ⟨v', hb⟩, hw⟩
    exact ⟨rfl, ⟨_, v', hb, by show t.last ≤ t.last + 1; omega, rfl⟩, hw⟩
end Go.Proofs.Ytbnmdljlfldgoaa
