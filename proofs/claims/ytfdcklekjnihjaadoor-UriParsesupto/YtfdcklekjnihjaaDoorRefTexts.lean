/-
  The contract of the document's own Texts, of two equal lists.
-/
import Derived.Test.YtfdcklekjnihjaaDoorParts
import Derived.Deep.QuietTactic
import Derived.BigQuiet
namespace Go.Proofs.YtfdcklekjnihjaaDoor
open Go.RowKit Sc
set_option linter.unusedVariables false
set_option maxRecDepth 20000

theorem own_strs {w : World} {B e : Nat} {v : Value} {ps : List (List UInt8)} (h : Own w B e v (strs ps)) (hne : ps ≠ []) :
    ∃ g cap, v = .slice (some ⟨g, 0, none⟩) ps.length cap ∧ ∀ j (hj : j < ps.length), w.cell? ⟨g, j, none⟩ = some (.string ⟨(ps[j]).toArray⟩) := by
  rcases h.2 with ⟨rfl, hn⟩ | ⟨g, cap, cur, rfl, hb, hg, _⟩
  · rw [strs_length] at hn
    exact absurd (List.eq_nil_of_length_eq_zero hn) hne
  · refine ⟨g, cap, by rw [strs_length], fun j hj => ?_⟩
    have := World.ownsRow.cells h (g := g) rfl j (.string ⟨(ps[j]).toArray⟩) (by simp [strs, hj])
    unfold Addr.add at this
    by_cases h0 : j = 0
    · subst h0; simpa using this
    · simpa [h0] using this

end Go.Proofs.YtfdcklekjnihjaaDoor
