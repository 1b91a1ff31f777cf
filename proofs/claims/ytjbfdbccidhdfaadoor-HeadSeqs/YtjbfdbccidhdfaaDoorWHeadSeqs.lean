/-
  The walk of the law HeadSeqs.
-/
import Derived.Test.YtjbfdbccidhdfaaDoorHAwake
namespace Go.Proofs.YtjbfdbccidhdfaaDoor.headSeqs
open Go.RowKit Go.Sort Sc
set_option linter.unusedVariables false
set_option maxRecDepth 20000

set_option maxHeartbeats 2000000 in
set_option maxRecDepth 100000 in
theorem law_walk (a0 : ByteArray) (a1 : Int) (b0 : a0.size ≤ 140737488351232) (u1 : (Lit.int .i64 a1).wf = true) (w : World) :
    Calls Tryd.prog 3 #[.string a0, .int .i64 a1] w fun e w' => e = .returned (.bool true) ∧ Below w.heap.size w w' := by
  obtain ⟨s, rfl⟩ : ∃ l : List UInt8, a0 = ⟨l.toArray⟩ := ⟨a0.data.toList, by simp⟩
  rw [size_list] at b0
  obtain ⟨p1, p2⟩ := i64_of u1
  have K1 := hid (fun w' => hseq_any s w' (by omega))
  have K2 := hid (fun w' => rseq_any s w' (by omega))
  have K3 := hid (fun w' => hcseq_any a1 s w' p1 p2 (by omega))
  have K4 := hid (fun w' => rcseq_any a1 s w' p1 p2 (by omega))
  have K5 := hid (fun w' => htime_any s w' (by omega))
  have K6 := hid (fun w' => rtime_any s w' (by omega))
  have K7 := hid (fun w' => hcall_any s w' (by omega))
  have K8 := hid (fun w' => rcall_any s w' (by omega))
  generalize seqV s = R1 at K1 K2
  generalize cseqV a1 s = R2 at K3 K4
  generalize timeV s = R3 at K5 K6
  generalize callB s = cb at K7 K8
  obtain ⟨n1, m1, e1⟩ := R1
  obtain ⟨t2, e2⟩ := R2
  obtain ⟨n3, e3⟩ := R3
  simp only at K1 K2 K3 K4 K5 K6
  have z1 : (n1 == n1) = true := by simp
  have z2 : (m1 == m1) = true := by simp
  have z3 : (e1 == e1) = true := by simp
  have z4 : (t2 == t2) = true := by simp
  have z5 : (e2 == e2) = true := by simp
  have z6 : (n3 == n3) = true := by simp
  have z7 : (e3 == e3) = true := by simp
  have z8 : (cb == cb) = true := by simp
  clear b0 u1
  go_enter Tryd.func3, Tryd.ntmps3
  go_wp2_with fail
  refine (K1.out _).mono ?_
  rintro e w1 ⟨rfl, hw1⟩
  go_wp2_with fail
  refine (K2.out _).mono ?_
  rintro e w2 ⟨rfl, hw2⟩
  have hb2 := hw1.trans (hw2.mono hw1.size)
  clear K2 hw2
  go_wp2_with fail
  refine (K3.out _).mono ?_
  rintro e w3 ⟨rfl, hw3⟩
  have hb3 := hb2.trans (hw3.mono hb2.size)
  clear K3 hw3
  go_wp2_with fail
  refine (K4.out _).mono ?_
  rintro e w4 ⟨rfl, hw4⟩
  have hb4 := hb3.trans (hw4.mono hb3.size)
  clear K4 hw4
  go_wp2_with fail
  refine (K5.out _).mono ?_
  rintro e w5 ⟨rfl, hw5⟩
  have hb5 := hb4.trans (hw5.mono hb4.size)
  clear K5 hw5
  go_wp2_with fail
  refine (K6.out _).mono ?_
  rintro e w6 ⟨rfl, hw6⟩
  have hb6 := hb5.trans (hw6.mono hb5.size)
  clear K6 hw6
  go_wp2_with fail
  refine (K7.out _).mono ?_
  rintro e w7 ⟨rfl, hw7⟩
  have hb7 := hb6.trans (hw7.mono hb6.size)
  clear K7 hw7
  go_wp2_with fail
  refine (K8.out _).mono ?_
  rintro e w8 ⟨rfl, hw8⟩
  have hb8 := hb7.trans (hw8.mono hb7.size)
  clear K8 hw8
  go_wp2_with (go_at_call 17; refine (awake8_any _).mono ?_; rintro e w9 ⟨rfl, hw9⟩)
  go_ret
  exact ⟨rfl, hb8.trans (hw9.mono hb8.size)⟩

end Go.Proofs.YtjbfdbccidhdfaaDoor.headSeqs
