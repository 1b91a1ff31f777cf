/-
  The walk of the law HeadStates.
-/
import Derived.Test.YtjbfdbccidhdfaaDoorHAwake
namespace Go.Proofs.YtjbfdbccidhdfaaDoor.headStates
open Go.RowKit Go.Sort Sc
set_option linter.unusedVariables false
set_option maxRecDepth 20000

set_option maxHeartbeats 2000000 in
set_option maxRecDepth 100000 in
theorem law_walk (w : World) (a0 : ByteArray) (v1 : Value) (b0 : a0.size ≤ 140737488351232) (k1 : SttIn 140737488351232 v1) :
    Calls Tryd.prog 5 #[.string a0, v1] w fun e w' => e = .returned (.bool true) ∧ Below w.heap.size w w' := by
  obtain ⟨s, rfl⟩ : ∃ l : List UInt8, a0 = ⟨l.toArray⟩ := ⟨a0.data.toList, by simp⟩
  rw [size_list] at b0
  obtain ⟨x, rfl, hx1, hx2, hwf⟩ := k1
  have hg := guardStt
  have KS := hid (fun w' => hshow_any x w' (by omega) (by omega) hwf)
  have KR := hid (fun w' => rshow_any x w' (by omega) (by omega) hwf)
  have HX := hid (boxS_new w x)
  have hb0 : Below w.heap.size w (w.alloc (objS x)) := (Below.refl _ w).alloc (Nat.le_refl _) _
  have hlt0 := alloc_lt w (objS x)
  generalize sttShow x = RS at KS KR
  obtain ⟨t2, e2⟩ := RS
  obtain ⟨xn, xx, xr⟩ := x
  unfold sttV at KS KR ⊢
  unfold objS at HX hb0 hlt0
  simp only at KS KR HX hb0 hlt0 ⊢
  by_cases h5 : s.length ≤ 5000
  case neg =>
    have h5' : (5000 : Int) < (s.length : Int) := by omega
    clear KS KR
    go_enter Tryd.func5, Tryd.ntmps5
    go_wp2_with (go_at_call 17; refine (awake8_any _).mono ?_; rintro e w9 ⟨rfl, hw9⟩)
    go_ret
    exact ⟨rfl, hb0.trans (hw9.mono hb0.size)⟩
  have h5' : ¬ ((5000 : Int) < (s.length : Int)) := by omega
  have K1 := hid (fun w' => hstate_any s w' (by omega))
  have K2 := hid (fun w' => rstate_any s w' (by omega))
  generalize stateV s = R at K1 K2
  obtain ⟨⟨n1, x1, r1⟩, e1⟩ := R
  unfold sttV at K1 K2
  simp only at K1 K2
  have hq : ∀ u, (binOp .eql 50 (.agg #[.string ⟨n1.toArray⟩, .int .i64 x1, .string ⟨r1.toArray⟩]) (.agg #[.string ⟨n1.toArray⟩, .int .i64 x1, .string ⟨r1.toArray⟩])).run Tryd.prog u = .ok (.bool true) u := fun u => by
    have h := eqlStt ⟨n1, x1, r1⟩ ⟨n1, x1, r1⟩ u
    simp only [decide_true] at h
    exact h
  have z1 : (e1 == e1) = true := by simp
  have z2 : (t2 == t2) = true := by simp
  have z3 : (e2 == e2) = true := by simp
  go_enter Tryd.func5, Tryd.ntmps5
  go_wp2_with fail
  refine (K1.out _).mono ?_
  rintro e w1 ⟨rfl, hw1⟩
  have HX1 := hid (BoxS.below HX.out hw1 hlt0)
  have hb1 := hb0.trans (hw1.mono hb0.size)
  have hlt1 := Nat.lt_of_lt_of_le hlt0 hw1.size
  have hA := (Below.refl _ w1).alloc (Nat.le_refl _) (objS ⟨n1, x1, r1⟩)
  have hltA := alloc_lt w1 (objS ⟨n1, x1, r1⟩)
  have HY1 := hid (boxS_new w1 ⟨n1, x1, r1⟩)
  unfold objS at hA hltA HY1
  simp only at hA hltA HY1
  have HX2 := hid (BoxS.below HX1.out hA hlt1)
  have hb2 := hb1.trans (hA.mono hb1.size)
  have hlt2 := Nat.lt_trans hlt1 hltA
  clear HX HX1 hb0 hb1 hlt0 hw1 hA K1
  go_wp2_with fail
  refine (K2.out _).mono ?_
  rintro e w3 ⟨rfl, hw3⟩
  have HX3 := hid (BoxS.below HX2.out hw3 hlt2)
  have HY3 := hid (BoxS.below HY1.out hw3 hltA)
  have hb3 := hb2.trans (hw3.mono hb2.size)
  have hlt3 := Nat.lt_of_lt_of_le hlt2 hw3.size
  have hlt4 : w1.heap.size < w3.heap.size := Nat.lt_of_lt_of_le hltA hw3.size
  have hB := (Below.refl _ w3).alloc (Nat.le_refl _) (objS ⟨n1, x1, r1⟩)
  have hltB := alloc_lt w3 (objS ⟨n1, x1, r1⟩)
  have HZ3 := hid (boxS_new w3 ⟨n1, x1, r1⟩)
  unfold objS at hB hltB HZ3
  simp only at hB hltB HZ3
  have HX5 := hid (BoxS.below HX3.out hB hlt3)
  have HY5 := hid (BoxS.below HY3.out hB hlt4)
  have hb5 := hb3.trans (hB.mono hb3.size)
  have hltx := Nat.lt_trans hlt3 hltB
  have hlty := Nat.lt_trans hlt4 hltB
  clear HX2 HY1 hb2 hlt2 hw3 HX3 HY3 hb3 hB K2 hltA hlt1
  obtain ⟨x0, x1', x2⟩ := HX5.out
  simp only at x0 x1' x2
  go_wp2_with fail
  refine (KS.out _).mono ?_
  rintro e w6 ⟨rfl, hw6⟩
  have HX6 := hid (BoxS.below HX5.out hw6 hltx)
  have HY6 := hid (BoxS.below HY5.out hw6 hlty)
  have HZ6 := hid (BoxS.below HZ3.out hw6 hltB)
  have hb6 := hb5.trans (hw6.mono hb5.size)
  have hltx6 := Nat.lt_of_lt_of_le hltx hw6.size
  have hlty6 := Nat.lt_of_lt_of_le hlty hw6.size
  have hltz6 : w3.heap.size < w6.heap.size := Nat.lt_of_lt_of_le hltB hw6.size
  clear HX5 HY5 HZ3 hb5 hw6 KS x0 x1' x2 hltx hlty hltB hlt3 hlt4
  obtain ⟨x0, x1', x2⟩ := HX6.out
  simp only at x0 x1' x2
  go_wp2_with fail
  refine (KR.out _).mono ?_
  rintro e w7 ⟨rfl, hw7⟩
  have HY7 := BoxS.below HY6.out hw7 hlty6
  have HZ7 := BoxS.below HZ6.out hw7 hltz6
  have hb7 := hb6.trans (hw7.mono hb6.size)
  clear HX6 HY6 HZ6 hb6 hw7 KR x0 x1' x2
  obtain ⟨y0, y1, y2⟩ := HY7
  obtain ⟨q0, q1, q2⟩ := HZ7
  simp only at y0 y1 y2 q0 q1 q2
  go_wp2_with (go_at_call 17; refine (awake8_any _).mono ?_; rintro e w9 ⟨rfl, hw9⟩)
  go_ret
  exact ⟨rfl, hb7.trans (hw9.mono hb7.size)⟩

end Go.Proofs.YtjbfdbccidhdfaaDoor.headStates
