/-
  The walk of the law HeadTypes.
-/
import Derived.Test.YtjbfdbccidhdfaaDoorHOnceL
namespace Go.Proofs.YtjbfdbccidhdfaaDoor.headTypes
open Go.RowKit Go.Sort Sc
set_option linter.unusedVariables false
set_option maxRecDepth 20000

set_option maxHeartbeats 2000000 in
set_option maxRecDepth 100000 in
theorem law_walk (w : World) (v0 : Value) (a1 : ByteArray) (k0 : StrsIn 1048576 w v0) (b1 : a1.size ≤ 1048576) :
    Calls Tryd.prog 6 #[v0, .string a1] w fun e w' => e = .returned (.bool true) ∧ Below w.heap.size w w' := by
  obtain ⟨s, rfl⟩ : ∃ l : List UInt8, a1 = ⟨l.toArray⟩ := ⟨a1.data.toList, by simp⟩
  rw [size_list] at b1
  obtain ⟨ls, hat, hn, hl⟩ := k0
  have K1 := hid (fun w' => htype_any s w' b1)
  have K2 := hid (fun w' => rtype_any s w' b1)
  have K3 := hid (fun w' (hb : Below w.heap.size w w') => haccepts_any v0 ls s w' hl (by omega) b1 (strs_below hat hb))
  have K4 := hid (fun w' (hb : Below w.heap.size w w') => raccepts_any v0 ls s w' hl (by omega) b1 (strs_below hat hb))
  obtain ⟨ao, cap, rfl, _⟩ := hat
  generalize acceptsB ls s = R at K3 K4
  generalize typeOk (typeT s) = ok at K1 K2
  generalize typeT s = t at K1 K2
  clear hl hn
  generalize ls.length = n at K3 K4
  have z1 : (t == t) = true := by simp
  have z2 : (ok == ok) = true := by simp
  have z3 : (R == R) = true := by simp
  go_enter Tryd.func6, Tryd.ntmps6
  go_wp2_with fail
  refine (K1.out _).mono ?_
  rintro e w1 ⟨rfl, hw1⟩
  go_wp2_with fail
  refine (K2.out _).mono ?_
  rintro e w2 ⟨rfl, hw2⟩
  have hb2 := hw1.trans (hw2.mono hw1.size)
  clear hw1 hw2 K1 K2
  go_wp2_with fail
  refine (K3.out _ hb2).mono ?_
  rintro e w3 ⟨rfl, hw3⟩
  have hb3 := hb2.trans (hw3.mono hb2.size)
  clear hw3 K3
  go_wp2_with fail
  refine (K4.out _ hb3).mono ?_
  rintro e w4 ⟨rfl, hw4⟩
  have hb4 := hb3.trans (hw4.mono hb3.size)
  clear hw4 K4
  go_wp2_with (go_at_call 17; refine (awake8_any _).mono ?_; rintro e w9 ⟨rfl, hw9⟩)
  go_ret
  exact ⟨rfl, hb4.trans (hw9.mono hb4.size)⟩

end Go.Proofs.YtjbfdbccidhdfaaDoor.headTypes
