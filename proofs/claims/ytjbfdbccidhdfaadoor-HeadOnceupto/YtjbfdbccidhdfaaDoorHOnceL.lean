/-
  What is read may be written, and is small.
-/
import Derived.Test.YtjbfdbccidhdfaaDoorHAwake
namespace Go.Proofs.YtjbfdbccidhdfaaDoor
open Go.RowKit Sc
set_option linter.unusedVariables false
set_option maxRecDepth 20000

theorem strs_below {w w' : World} {v : Value} {ls : List (List UInt8)} (h : StrsAt w v ls) (hb : Below w.heap.size w w') : StrsAt w' v ls := by
  obtain ⟨ao, cap, rfl, hc⟩ := h
  refine ⟨ao, cap, rfl, fun k hk => ?_⟩
  obtain ⟨a, ha, hlt, hcell⟩ := hc k hk
  exact ⟨a, ha, Nat.lt_of_lt_of_le hlt hb.size, cell_below hb (by rw [add_block]; exact hlt) hcell⟩
theorem evT_small {v : Ev} (h : evB v = true) : (evT v).length ≤ 8192 := by
  obtain ⟨h1, h2, h3⟩ := ev_facts h
  have t1 := (tok_facts h1).2.1
  have t2 := parsA_small v.params [] h3
  unfold evT
  rw [List.length_append]; omega
theorem sttT_small {v : Stt} (h : sttB v = true) : (sttT v).length ≤ 8192 := by
  obtain ⟨h1, h2⟩ := stt_text h
  rw [h1]; exact evT_small h2
theorem stt_facts {v : Stt} (h : sttB v = true) : v.name.length ≤ 140737488355328 ∧ v.reason.length ≤ 140737488355328 ∧ (Lit.int .i64 v.expires).wf = true := by
  simp only [sttB, Bool.and_eq_true, Bool.or_eq_true, beq_iff_eq, decide_eq_true_eq, List.isEmpty_iff] at h
  obtain ⟨h1, h2, ⟨h3, h4⟩, h5⟩ := h
  have hm : (maxS : Int) = 2147483647 := rfl
  refine ⟨by have := (tok_facts h1).2.1; omega, ?_, ?_⟩
  · rcases h5 with h5 | h5
    · rw [h5]; simp
    · have := (tok_facts h5).2.1; omega
  · simp [Lit.wf, IntKind.min, IntKind.max, IntKind.signed, IntKind.bits]
    omega

end Go.Proofs.YtjbfdbccidhdfaaDoor
