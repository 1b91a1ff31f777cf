/-
  The contract of the laws' awake of layer 6: the chapter's examples.
-/
import Derived.Test.YtagopboofmjnfaaDoorFParse
import Derived.Test.YtagopboofmjnfaaDoorRSame6
namespace Go.Proofs.YtagopboofmjnfaaDoor
open Go.RowKit Go.Sort Sc
set_option linter.unusedVariables false
set_option maxRecDepth 20000

def ex1 : List UInt8 := [79, 80, 84, 73, 79, 78, 83, 32, 115, 105, 112, 58, 97, 32, 83, 73, 80, 47, 50, 46, 48, 13, 10, 108, 32, 58, 32, 49, 13, 10, 13, 10, 120, 121, 122]
def ex2 : List UInt8 := [83, 73, 80, 47, 50, 46, 48, 32, 50, 48, 48, 32, 79, 75, 13, 10, 105, 58, 32, 49, 13, 10, 32, 50, 13, 10, 13, 10]
def ms1 : Ms := ⟨[79, 80, 84, 73, 79, 78, 83], [115, 105, 112, 58, 97], 0, [], [], [120]⟩
def ms2 : Ms := ⟨[], [], 200, [79, 75], [⟨[67, 97, 108, 108, 45, 73, 68], [49, 32, 50]⟩], []⟩
def ci : List UInt8 := [99, 97, 108, 108, 45, 105, 100]
theorem ex1_is : parseM ex1 = (ms1, 0) := by decide +kernel
theorem ex2_is : parseM ex2 = (ms2, 0) := by decide +kernel
theorem one_is : oneV ms2 ci = ([49, 32, 50], true) := by decide +kernel
theorem ms2_small : SmallM 140737488355328 ms2 := ⟨by decide, by decide, by decide, by decide, by decide, by decide⟩
/-- Parse of a text that is a message. -/
theorem parse_is {s : List UInt8} {m : Ms} {n : Int} (h : parseM s = (m, n)) (w : World) (hm : MaxAt w) (hs : s.length ≤ 140737488355328) :
    Calls Tryd.prog 17 #[.string ⟨s.toArray⟩] w fun e w' => ∃ a c, e = .returned (.tuple #[msgV m (.slice a m.headers.length c), .int .i64 n]) ∧ HdrsAt w' (.slice a m.headers.length c) m.headers ∧ Below w.heap.size w w' := by
  have k := fparse_any s w hm hs
  rw [h] at k
  refine k.mono ?_
  rintro e w' ⟨⟨v, rfl, hown⟩, hb⟩
  have hat := hown.hdrsAt
  obtain ⟨a, c, rfl⟩ := hat.form
  exact ⟨a, c, rfl, hat, hb⟩

set_option maxHeartbeats 2000000 in
set_option maxRecDepth 100000 in
theorem awake6_any (w : World) (hm : MaxAt w) :
    Calls Tryd.prog 10 #[] w fun e w' => e = .returned (.bool true) ∧ Below w.heap.size w w' := by
  have K1 := hid (parse_is ex1_is w hm (by decide))
  have K2 := hid (fun w' (hb : Below w.heap.size w w') => parse_is ex2_is w' (hm.below hb) (by decide))
  have K3 := hid (fun v w' (h : HdrsAt w' v ms2.headers) => fone_any ms2 v ci w' ms2_small (by decide) (by decide) h)
  rw [one_is] at K3
  unfold msgV ms1 ex1 at K1
  unfold msgV ex2 at K2
  unfold msgV ci at K3
  simp only at K1 K2 K3
  clear hm
  go_enter Tryd.func10, Tryd.ntmps10
  go_wp2_with fail
  refine K1.out.mono ?_
  rintro e w1 ⟨a1, c1, rfl, _, hw1⟩
  have HX1 := hid (boxM_new w1 ms1 (.slice a1 0 c1))
  have hA := (Below.refl _ w1).alloc (Nat.le_refl _) (objM ms1 (.slice a1 0 c1))
  have hltA := alloc_lt w1 (objM ms1 (.slice a1 0 c1))
  have hbA := hw1.trans (hA.mono hw1.size)
  unfold objM ms1 at hA hltA hbA
  unfold objM at HX1
  simp only at HX1 hA hltA hbA
  clear K1
  go_wp2_with fail
  refine (K2.out _ hbA).mono ?_
  rintro e w2 ⟨a2, c2, rfl, hat2, hw2⟩
  have HX2 := hid (BoxM.below HX1.out hw2 hltA)
  have hb2 := hbA.trans (hw2.mono hbA.size)
  have hlt2 := Nat.lt_of_lt_of_le hltA hw2.size
  have HY2 := hid (boxM_new w2 ms2 (.slice a2 1 c2))
  have hB := (Below.refl _ w2).alloc (Nat.le_refl _) (objM ms2 (.slice a2 1 c2))
  have hltB := alloc_lt w2 (objM ms2 (.slice a2 1 c2))
  have K4 := hid (K3.out _ _ (hat2.below hB))
  have hbB := hb2.trans (hB.mono hb2.size)
  unfold objM ms2 at hB hltB hbB K4
  unfold objM at HY2
  simp only at HY2 hB hltB hbB K4
  clear HX1 K2 K3 hat2
  unfold ms2
  simp only
  go_wp2_with fail
  refine K4.out.mono ?_
  rintro e w3 ⟨rfl, hw3⟩
  have hb3 := hbB.trans (hw3.mono hbB.size)
  obtain ⟨x0, x1, x2, x3, x4, x5⟩ := BoxM.below (BoxM.below HX2.out hB hlt2) hw3 (Nat.lt_trans hlt2 hltB)
  obtain ⟨y0, y1, y2, y3, y4, y5⟩ := BoxM.below HY2.out hw3 hltB
  unfold ms1 at x0 x1 x2 x3 x5
  unfold ms2 at y0 y1 y2 y3 y5
  simp only at x0 x1 x2 x3 x4 x5 y0 y1 y2 y3 y4 y5
  go_wp2
  go_ret
  exact ⟨rfl, hb3⟩

end Go.Proofs.YtagopboofmjnfaaDoor
