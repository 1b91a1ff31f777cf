/-
  Contracts: Long of package frame and the document's own.
-/
import Derived.Test.YtagopboofmjnfaaDoorFVis
import Derived.Lib.QuietBelow
import Derived.BigQuiet
namespace Go.Proofs.YtagopboofmjnfaaDoor
open Go.RowKit Sc
set_option linter.unusedVariables false
set_option maxRecDepth 20000

theorem long_cases (l : List UInt8) : (∃ k, ∃ h : k < longT.length, lowL l = [longT[k].1] ∧ longV l = longT[k].2) ∨ ((∀ x ∈ longT, lowL l ≠ [x.1]) ∧ longV l = l) := by
  unfold longV
  cases h : longT.find? (fun x => lowL l == [x.1]) with
  | none =>
    right
    refine ⟨fun x hx e => ?_, rfl⟩
    have := List.find?_eq_none.1 h x hx
    rw [e] at this; simp at this
  | some x =>
    left
    obtain ⟨k, hk, he⟩ := List.getElem_of_mem (List.mem_of_find?_eq_some h)
    have h2 := List.find?_some h
    refine ⟨k, hk, ?_, ?_⟩
    · rw [he]; simpa using h2
    · rw [he]
theorem long_len (l : List UInt8) : (longV l).length ≤ l.length + 16 := by
  rcases long_cases l with ⟨k, hk, h1, h2⟩ | ⟨h1, h2⟩
  · rw [h2]
    have : ∀ x ∈ longT, x.2.length ≤ 16 := by decide
    have := this _ (List.getElem_mem hk); omega
  · rw [h2]; omega
theorem beq_no {t : List UInt8} {b : UInt8} (h : t ≠ [b]) : (t == [b]) = false := by simpa using h

set_option maxHeartbeats 2000000 in
set_option maxRecDepth 100000 in
theorem flong_list (l : List UInt8) (w : World) (h : l.length ≤ 140737488355328) :
    Calls Tryd.prog 15 #[.string ⟨l.toArray⟩] w fun e w' => e = .returned (.string ⟨(longV l).toArray⟩) ∧ Below w.heap.size w w' := by
  have KL := hid (fun w' => lower_list l w' (by omega))
  have KC := hid (fun w' => clone_list l w' h)
  rcases long_cases l with ⟨k, hk, h1, h2⟩ | ⟨h1, h2⟩
  · rw [h1] at KL
    rw [h2]
    have hk2 : k < 12 := hk
    clear h1 h2 KC
    rcases (show k = 0 ∨ k = 1 ∨ k = 2 ∨ k = 3 ∨ k = 4 ∨ k = 5 ∨ k = 6 ∨ k = 7 ∨ k = 8 ∨ k = 9 ∨ k = 10 ∨ k = 11 by omega) with rfl | rfl | rfl | rfl | rfl | rfl | rfl | rfl | rfl | rfl | rfl | rfl
    all_goals (
      simp only [longT, List.getElem_cons_zero, List.getElem_cons_succ] at KL ⊢
      clear hk hk2
      go_enter Tryd.func15, Tryd.ntmps15
      go_wp2_with fail
      refine (KL.out _).mono ?_
      rintro e w1 ⟨rfl, hw1⟩
      go_wp2
      go_ret
      exact ⟨rfl, hw1⟩)
  · rw [h2]
    have c0 := beq_no (h1 (118, [86, 105, 97]) (by decide))
    have c1 := beq_no (h1 (102, [70, 114, 111, 109]) (by decide))
    have c2 := beq_no (h1 (116, [84, 111]) (by decide))
    have c3 := beq_no (h1 (105, [67, 97, 108, 108, 45, 73, 68]) (by decide))
    have c4 := beq_no (h1 (109, [67, 111, 110, 116, 97, 99, 116]) (by decide))
    have c5 := beq_no (h1 (101, [67, 111, 110, 116, 101, 110, 116, 45, 69, 110, 99, 111, 100, 105, 110, 103]) (by decide))
    have c6 := beq_no (h1 (108, [67, 111, 110, 116, 101, 110, 116, 45, 76, 101, 110, 103, 116, 104]) (by decide))
    have c7 := beq_no (h1 (99, [67, 111, 110, 116, 101, 110, 116, 45, 84, 121, 112, 101]) (by decide))
    have c8 := beq_no (h1 (115, [83, 117, 98, 106, 101, 99, 116]) (by decide))
    have c9 := beq_no (h1 (107, [83, 117, 112, 112, 111, 114, 116, 101, 100]) (by decide))
    have c10 := beq_no (h1 (111, [69, 118, 101, 110, 116]) (by decide))
    have c11 := beq_no (h1 (117, [65, 108, 108, 111, 119, 45, 69, 118, 101, 110, 116, 115]) (by decide))
    clear h1 h2
    generalize lowL l = t at KL c0 c1 c2 c3 c4 c5 c6 c7 c8 c9 c10 c11
    simp only at c0 c1 c2 c3 c4 c5 c6 c7 c8 c9 c10 c11
    go_enter Tryd.func15, Tryd.ntmps15
    go_wp2_with fail
    refine (KL.out _).mono ?_
    rintro e w1 ⟨rfl, hw1⟩
    go_wp2_with fail
    refine (KC.out _).mono ?_
    rintro e w2 ⟨rfl, hw2⟩
    go_wp2
    go_ret
    exact ⟨rfl, hw1.trans (hw2.mono hw1.size)⟩

end Go.Proofs.YtagopboofmjnfaaDoor
