/-
  What holds of a URI that may be. Plain facts.
-/
import Derived.Test.YtfdcklekjnihjaaDoorPrintL
namespace Go.Proofs.YtfdcklekjnihjaaDoor
open Go.RowKit Sc
set_option linter.unusedVariables false
set_option maxRecDepth 20000

theorem listGo_par (b ps : List Par) (h : listGo b ps = true) : ∀ p ∈ ps, parB p = true := by
  induction ps generalizing b with
  | nil => simp
  | cons q ps ih =>
    rw [listGo, Bool.and_eq_true, Bool.and_eq_true] at h
    intro p hp
    rcases List.mem_cons.1 hp with rfl | hp
    · exact h.1
    · exact ih _ h.2.2 p hp
theorem listB_ok {ps : List Par} (h : listB ps = true) : ps.length ≤ 16 ∧ ∀ p ∈ ps, parB p = true := by
  rw [listB, Bool.and_eq_true] at h
  exact ⟨by simpa using h.1, listGo_par [] ps h.2⟩
theorem parB_ok {p : Par} (h : parB p = true) : 1 ≤ p.name.length ∧ p.name.length ≤ 64 ∧ p.value.length ≤ 64 ∧ (p.has = true ∨ p.value = []) := by
  simp only [parB, Bool.and_eq_true, decide_eq_true_eq, Bool.or_eq_true, List.isEmpty_iff] at h
  exact h
theorem hostB_ok {l : List UInt8} (h : hostB l = true) : 1 ≤ l.length ∧ l.length ≤ 64 := by
  simp only [hostB, Bool.and_eq_true, decide_eq_true_eq] at h
  exact ⟨h.1, h.2.1⟩
theorem schemeB_ok {l : List UInt8} (h : schemeB l = true) : l.length ≤ 4 := by
  simp only [schemeB, Bool.or_eq_true, beq_iff_eq] at h
  rcases h with rfl | rfl | rfl <;> decide
theorem check_ok {u : Uri} (h : checkV u = 0) : schemeB u.scheme = true ∧ u.user.length ≤ 64 ∧ hostB u.host = true ∧ 0 ≤ u.port ∧ u.port ≤ 65535 ∧ listB u.params = true ∧ listB u.headers = true ∧ u.headers.all (·.has) = true := by
  unfold checkV at h
  cases e1 : schemeB u.scheme
  · simp [e1] at h
  rw [e1, if_neg (by simp)] at h
  by_cases e2 : 64 < u.user.length
  · simp [e2] at h
  rw [if_neg e2] at h
  cases e3 : hostB u.host
  · simp [e3] at h
  rw [e3, if_neg (by simp)] at h
  by_cases e4 : u.port < 0 ∨ 65535 < u.port
  · simp [e4] at h
  rw [if_neg e4] at h
  cases e5 : listB u.params
  · simp [e5] at h
  rw [e5, if_neg (by simp)] at h
  cases e6 : listB u.headers
  · simp [e6] at h
  rw [e6, if_neg (by simp)] at h
  cases e7 : u.headers.all (·.has)
  · simp [e7] at h
  exact ⟨rfl, by omega, rfl, by omega, by omega, rfl, rfl, rfl⟩

end Go.Proofs.YtfdcklekjnihjaaDoor
