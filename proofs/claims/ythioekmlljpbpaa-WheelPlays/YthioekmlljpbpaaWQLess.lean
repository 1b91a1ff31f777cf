/-
  The heap's Less and Len.
-/
import Derived.Test.YthioekmlljpbpaaWQ
import Derived.BigQuiet
namespace Go.Proofs.Ythioekmlljpbpaa
open Go.RowKit
set_option linter.unusedVariables false
set_option maxRecDepth 20000

def No (_ : Nat) : Prop := False
set_option maxHeartbeats 4000000 in
set_option maxRecDepth 100000 in
theorem less_any {bw m B : Nat} {v : Value} {w : World} {f : Nat → It} {n : Nat} (h : HQ bw m B v w f n) {i j : Nat} (hi : i < n) (hj : j < n) :
    Calls Try.prog 52 #[v, .int .i64 i, .int .i64 j] w fun e w' => e = .returned (.bool (itLt (f i) (f j))) ∧ HQ bw m B v w' f n ∧ Chg No w w' := by
  obtain ⟨g, cap, rfl⟩ := h.block (by omega)
  have HH := hid h
  have ci := h.cell i hi
  have cj := h.cell j hj
  have ai := (h.item i hi).cell 0 (by simp [itemL])
  have bi := (h.item i hi).cell 1 (by simp [itemL])
  have aj := (h.item j hj).cell 0 (by simp [itemL])
  have bj := (h.item j hj).cell 1 (by simp [itemL])
  simp only [itemL, ptrV, List.getElem_cons_zero, List.getElem_cons_succ] at ci cj ai bi aj bj
  have ci1 : w.drew.cell? _ = _ := ci
  have cj1 : w.drew.cell? _ = _ := cj
  have ai1 : w.drew.cell? _ = _ := ai
  have aj1 : w.drew.cell? _ = _ := aj
  have bi1 : w.drew.cell? _ = _ := bi
  have bj1 : w.drew.cell? _ = _ := bj
  have hii : (i : Int) < n := by omega
  have hjj : (j : Int) < n := by omega
  have C1 := hid ((Chg.refl No w).drew.drew)
  have hlt : itLt (f i) (f j) = if (f i).tm.1 != (f j).tm.1 then decide ((f i).tm.1 < (f j).tm.1) else decide ((f i).tm.2 < (f j).tm.2) := by
    unfold itLt ahd
    by_cases e : (f i).tm.1 = (f j).tm.1
    · simp [e]
    · simp [e]
  rw [hlt]
  clear h hlt
  generalize (f i).tm.1 = x1 at *
  generalize (f j).tm.1 = y1 at *
  generalize (f i).tm.2 = x2 at *
  generalize (f j).tm.2 = y2 at *
  cases e : (x1 != y1) with
  | true =>
    go_enter Try.func52, Try.ntmps52
    go_wp2
    go_region
    all_goals go_wp2
    all_goals go_region
    all_goals go_wp2
    all_goals go_ret
    all_goals exact ⟨rfl, HH.out.drew.drew, C1.out⟩
  | false =>
    go_enter Try.func52, Try.ntmps52
    go_wp2
    go_region
    all_goals go_wp2
    all_goals go_region
    all_goals go_wp2
    all_goals go_ret
    all_goals exact ⟨rfl, HH.out.drew.drew, C1.out⟩

set_option maxHeartbeats 4000000 in
set_option maxRecDepth 100000 in
theorem qlen_any {bw m B : Nat} {v : Value} {w : World} {f : Nat → It} {n : Nat} (h : HQ bw m B v w f n) (hn : n ≤ 1000000) :
    Calls Try.prog 51 #[v] w fun e w' => e = .returned (.int .i64 n) ∧ w' = w := by
  obtain ⟨a, cap, rfl⟩ := h.form
  clear h
  go_enter Try.func51, Try.ntmps51
  go_wp2
  go_ret
  exact ⟨rfl, rfl⟩
end Go.Proofs.Ythioekmlljpbpaa
