/-
  The contract of the document's own State.
-/
import Derived.Test.YtjbfdbccidhdfabDoorHRef2
import Derived.Test.YtjbfdbccidhdfabDoorFN
namespace Go.Proofs.YtjbfdbccidhdfabDoor
open Go.RowKit Go.Sort Sc
set_option linter.unusedVariables false
set_option maxRecDepth 20000

theorem RowIs.far {w : World} {g b : Nat} {e : TypeId} {l : List Value} (h : RowIs w g e l) (hne : g ≠ b) (j : Nat) (v : Value) : RowIs (w.setCell ⟨b, j, none⟩ v) g e l := by
  unfold RowIs at h ⊢
  rw [Below.heap_setCell _ _ _ _ hne]; exact h
theorem hrow3_at (w : World) (v0 v1 v2 : Value) (t : TypeId) : RowIs (w.alloc (.cells #[v0, v1, v2] t)) w.heap.size t [v0, v1, v2] := by
  unfold RowIs; rw [heap_alloc_new]
theorem hval_len {ps : List Par} {B : Nat} (h : SmallP B ps) (nm : List UInt8) : (valV ps nm).1.length ≤ B := by
  unfold valV
  cases hf : findV ps nm with
  | none => simp
  | some p => exact (h.2 p (List.mem_of_find?_eq_some hf)).2
theorem ev_ok_small {v : Ev} (h : evB v = true) : SmallE 4096 v := by
  obtain ⟨h1, h2, h3⟩ := ev_facts h
  refine ⟨by have := (tok_facts h1).2.1; omega, by omega, ?_⟩
  intro p hp
  have : ∀ (ps b : List Par), mayGo b ps = true → ∀ p ∈ ps, p.name.length ≤ 4096 ∧ p.value.length ≤ 4096 := by
    intro ps
    induction ps with
    | nil => intro b _ p hp; simp at hp
    | cons q ps ih =>
      intro b h p hp
      rw [mayGo, Bool.and_eq_true] at h
      rcases List.mem_cons.1 hp with rfl | hp
      · obtain ⟨m1, _, m3, _, _⟩ := may_facts h.1
        obtain ⟨_, t2, _⟩ := tok_facts m1
        omega
      · exact ih _ h.2 p hp
  exact this _ _ h3 p hp
theorem event_small {s : List UInt8} {v : Ev} (h : eventV s = (v, 0)) : SmallE 4096 v := ev_ok_small (event_checked h)
end Go.Proofs.YtjbfdbccidhdfabDoor
