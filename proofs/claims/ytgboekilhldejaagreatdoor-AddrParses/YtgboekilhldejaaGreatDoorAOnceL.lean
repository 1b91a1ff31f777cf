/-
  What is parsed may be, and is small.
-/
import Derived.Test.YtgboekilhldejaaGreatDoorAAwake
namespace Go.Proofs.YtgboekilhldejaaGreatDoor
open Go.RowKit Sc
set_option linter.unusedVariables false
set_option maxRecDepth 20000

theorem tail_none {d u r : List UInt8} {a : Adr} {n : Int} (h : tailV d u r = (a, n)) (hn : n ≠ 0) : a = noA := by
  unfold tailV at h
  split at h
  · exact (Prod.mk.inj h).1.symm
  · split at h
    · exact (Prod.mk.inj h).1.symm
    · split at h
      · exact (Prod.mk.inj h).1.symm
      · exact absurd (Prod.mk.inj h).2.symm hn
theorem parseA_none {s : List UInt8} {a : Adr} {n : Int} (h : parseA s = (a, n)) (hn : n ≠ 0) : a = noA := by
  unfold parseA parseT at h
  split at h
  · split at h
    · exact (Prod.mk.inj h).1.symm
    · split at h
      · exact (Prod.mk.inj h).1.symm
      · exact tail_none h hn
  · split at h
    · exact (Prod.mk.inj h).1.symm
    · exact tail_none h hn
theorem small_may : ∀ (ps b : List Par), mayGo b ps = true → ∀ p ∈ ps, p.name.length ≤ 140737488355328 ∧ p.value.length ≤ 140737488355328
  | [], b, h, p, hp => by simp at hp
  | q :: ps, b, h, p, hp => by
    rw [mayGo, Bool.and_eq_true] at h
    rcases List.mem_cons.1 hp with rfl | hp
    · obtain ⟨m1, _, m3, _, _⟩ := may_facts h.1
      obtain ⟨_, t2, _⟩ := tok_facts m1
      omega
    · exact small_may ps _ h.2 p hp
theorem smallP_ok {ps : List Par} (h : listB ps = true) : SmallP 140737488355328 ps := by
  have hl := listB_ok h
  refine ⟨by have := hl.1; omega, fun p hp => ?_⟩
  have := parB_ok (hl.2 p hp)
  omega
theorem smallU_ok {u : Uri} (h : checkV u = 0) : SmallU 140737488355328 u := by
  obtain ⟨k1, k2, k3, k4, k5, k6, k7, k8⟩ := check_ok h
  have hl1 := schemeB_ok k1
  have hl3 := hostB_ok k3
  exact ⟨by omega, by omega, by omega, smallP_ok k6, smallP_ok k7⟩
theorem smallA_ok {a : Adr} (h : checkA a = 0) : SmallA 140737488355328 a := by
  obtain ⟨k1, _, k3, k4, k5⟩ := checkA_ok h
  exact ⟨by omega, smallU_ok k3, by omega, small_may _ _ k5⟩

end Go.Proofs.YtgboekilhldejaaGreatDoor
