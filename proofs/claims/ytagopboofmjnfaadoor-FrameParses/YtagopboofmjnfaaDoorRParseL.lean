/-
  The state of the document's own Parse inside its loop.
-/
import Derived.Test.YtagopboofmjnfaaDoorFParse
import Derived.Test.YtagopboofmjnfaaDoorRHead2
import Derived.Test.YtagopboofmjnfaaDoorRStart6
import Derived.Test.YtagopboofmjnfaaDoorRLong
namespace Go.Proofs.YtagopboofmjnfaaDoor
open Go.RowKit Go.Sort Sc
set_option linter.unusedVariables false
set_option maxRecDepth 20000

/-- The message under way lies at block b, its headers behind it; all below b is as it was. -/
def InM (w5 wr : World) (m : Ms) (v : Value) : Prop := Below w5.heap.size w5 wr ∧
  RowIs wr w5.heap.size 24 [.string ⟨m.method.toArray⟩, .string ⟨m.target.toArray⟩, .int .i64 m.status, .string ⟨m.reason.toArray⟩, v, .string ⟨m.body.toArray⟩] ∧
  OwnH wr (w5.heap.size + 1) v m.headers ∧ w5.heap.size < wr.heap.size
theorem InM.step {w5 wr w' : World} {m : Ms} {v : Value} (h : InM w5 wr m v) (hb : Below wr.heap.size wr w') : InM w5 w' m v :=
  ⟨h.1.trans (hb.mono h.1.size), h.2.1.below hb h.2.2.2, h.2.2.1.below hb, Nat.lt_of_lt_of_le h.2.2.2 hb.size⟩
theorem InM.new (w5 : World) (me ta re : List UInt8) (st : Int) : InM w5 (w5.alloc (.cells #[.string ⟨me.toArray⟩, .string ⟨ta.toArray⟩, .int .i64 st, .string ⟨re.toArray⟩, .slice none 0 0, .string ⟨#[]⟩] 24)) ⟨me, ta, st, re, [], []⟩ (.slice none 0 0) :=
  ⟨(Below.refl _ w5).alloc (Nat.le_refl _) _, rowB_new w5 me ta re [] st, OwnH.nil _ _, alloc_lt _ _⟩
theorem InM.app {w5 wr w' : World} {me ta re bo : List UInt8} {st : Int} {l l' : List Hdr} {v v' : Value} (h : InM w5 wr ⟨me, ta, st, re, l, bo⟩ v) (hb : Below (w5.heap.size + 1) wr w') (ho : OwnH w' (w5.heap.size + 1) v' l') :
    InM w5 (w'.setCell ⟨w5.heap.size, 4, none⟩ v') ⟨me, ta, st, re, l', bo⟩ v' := by
  obtain ⟨h1, h2, h3, h4⟩ := h
  refine ⟨(h1.trans (hb.mono (Nat.le_succ _))).setCell (p := ⟨w5.heap.size, 4, none⟩) (Nat.le_refl _) v', ?_, OwnH.setB ho (Nat.lt_succ_self _) 4 v', ?_⟩
  · have := (h2.below hb (Nat.lt_succ_self _)).set 4 v'
    simp only [List.set_cons_succ, List.set_cons_zero] at this
    exact this
  · have h5 := Nat.lt_of_lt_of_le h4 hb.size
    simpa [World.setCell] using h5
theorem InM.body {w5 wr : World} {me ta re bo bo' : List UInt8} {st : Int} {l : List Hdr} {v : Value} (h : InM w5 wr ⟨me, ta, st, re, l, bo⟩ v) :
    InM w5 (wr.setCell ⟨w5.heap.size, 5, none⟩ (.string ⟨bo'.toArray⟩)) ⟨me, ta, st, re, l, bo'⟩ v := by
  obtain ⟨h1, h2, h3, h4⟩ := h
  refine ⟨h1.setCell (p := ⟨w5.heap.size, 5, none⟩) (Nat.le_refl _) _, ?_, OwnH.setB h3 (Nat.lt_succ_self _) 5 _, ?_⟩
  · have := h2.set 5 (.string ⟨bo'.toArray⟩)
    simp only [List.set_cons_succ, List.set_cons_zero] at this
    exact this
  · simpa [World.setCell] using h4
theorem hdrG_end (rest : List UInt8) (m : Ms) (size : Nat) (told : Bool) {Q : List (List UInt8)} {j : Nat} (hj : ¬ j < Q.length) : hdrG rest m size told (Q.drop j) = if rest.length < size then (noM, 62) else ({ m with body := rest.take size }, 0) := by
  rw [List.drop_of_length_le (by omega), hdrG]
theorem hdrG_on (rest : List UInt8) (m : Ms) (size : Nat) (told : Bool) {Q : List (List UInt8)} {j : Nat} (hj : j < Q.length) : hdrG rest m size told (Q.drop j) =
    if (cutL 58 Q[j]).2.2 = false ∨ tokenB (longV (behindL (cutL 58 Q[j]).1)) = false ∨ visB (trimL (cutL 58 Q[j]).2.1) = false then (noM, 61)
    else if lengthB (longV (behindL (cutL 58 Q[j]).1)) = false then
      (if 64 ≤ m.headers.length then (noM, 4) else hdrG rest { m with headers := m.headers ++ [⟨longV (behindL (cutL 58 Q[j]).1), trimL (cutL 58 Q[j]).2.1⟩] } size told (Q.drop (j + 1)))
    else if (numV 4096 (trimL (cutL 58 Q[j]).2.1)).2 ≠ 0 ∨ told = true then (noM, 62)
    else hdrG rest m (numV 4096 (trimL (cutL 58 Q[j]).2.1)).1.toNat true (Q.drop (j + 1)) := by
  rw [List.drop_eq_getElem_cons hj, hdrG]
theorem parseM_none63 {s : List UInt8} (h4 : ¬ 4096 < s.length) (h : headV s = none) : parseM s = (noM, 63) := by
  rw [parseM, if_neg h4, h]
theorem parseM_some {s rest : List UInt8} {l : List (List UInt8)} (h4 : ¬ 4096 < s.length) (h : headV s = some (l, rest)) : parseM s = if l = [] then (noM, 63) else match startV (l.headD []) with
      | none => (noM, 60)
      | some m => hdrG rest m rest.length false l.tail := by
  rw [parseM, if_neg h4, h]
  by_cases hl : l = []
  · rw [if_pos hl]; exact if_pos hl
  · rw [if_neg hl]
    refine (if_neg hl).trans ?_
    cases startV (l.headD []) <;> rfl

end Go.Proofs.YtagopboofmjnfaaDoor
