/-
  The chapter's example.
-/
import Derived.Test.YtpcgomfiihhpcaaDoorVParse2
import Derived.Test.YtpcgomfiihhpcaaDoorVBy
namespace Go.Proofs.YtpcgomfiihhpcaaDoor
open Go.RowKit Sc
set_option linter.unusedVariables false
set_option maxRecDepth 20000

/-- Parse, where what it says is known. -/
theorem readV {txt : List UInt8} {v : Hop} {n : Int} (h : parseH txt = (v, n)) (w : World) (hs : txt.length ≤ 1048576) :
    Calls Tryd.prog 18 #[.string ⟨txt.toArray⟩] w fun e w' => ∃ a3 k3, e = .returned (.tuple #[hpV v (.slice a3 v.params.length k3), .int .i64 n]) ∧ HopC.At w' ⟨v, .slice a3 v.params.length k3⟩ ∧ Below w.heap.size w w' := by
  have k := vparse_any txt w hs
  rw [h] at k
  refine k.mono ?_
  rintro e w' ⟨⟨q, rfl, o3⟩, hb⟩
  obtain ⟨a3, k3, e3⟩ := o3.parsAt.form
  have c3 := o3.cap
  simp only at e3 o3
  subst e3
  exact ⟨a3, k3, rfl, ⟨o3.parsAt, c3⟩, hb⟩
def xV : Hop := ⟨[97, 46, 98], 5070, [⟨[98, 114, 97, 110, 99, 104], [122, 57, 104, 71, 52, 98, 75, 49], true⟩]⟩
theorem xV_is : parseH [115, 105, 112, 47, 50, 46, 48, 47, 117, 100, 112, 32, 32, 65, 46, 98, 58, 53, 48, 55, 48, 32, 59, 98, 114, 97, 110, 99, 104, 61, 122, 57, 104, 71, 52, 98, 75, 49] = (xV, 0) := by decide +kernel
theorem xV_br : brV xV.params = ([122, 57, 104, 71, 52, 98, 75, 49], true) := by decide +kernel
theorem xV_who : whoH xV = [97, 46, 98, 58, 53, 48, 55, 48] := by decide +kernel
theorem small_x : SmallV 140737488355328 xV := ⟨by decide, ⟨by decide, by intro p hp; simp [xV] at hp; subst hp; decide⟩, wf_port (by decide) (by decide)⟩
theorem rdV (w : World) : Calls Tryd.prog 18 #[.string ⟨#[115, 105, 112, 47, 50, 46, 48, 47, 117, 100, 112, 32, 32, 65, 46, 98, 58, 53, 48, 55, 48, 32, 59, 98, 114, 97, 110, 99, 104, 61, 122, 57, 104, 71, 52, 98, 75, 49]⟩] w fun e w' => ∃ a3 k3, e = .returned (.tuple #[.agg #[.string ⟨#[97, 46, 98]⟩, .int .i64 5070, .slice a3 1 k3], .int .i64 0]) ∧ HopC.At w' ⟨xV, .slice a3 1 k3⟩ ∧ Below w.heap.size w w' := readV xV_is w (by decide)
theorem brX (q : Value) (w : World) (hat : HopC.At w ⟨xV, q⟩) : Calls Tryd.prog 12 #[.agg #[.string ⟨#[97, 46, 98]⟩, .int .i64 5070, q]] w fun e w' => e = .returned (.tuple #[.string ⟨#[122, 57, 104, 71, 52, 98, 75, 49]⟩, .bool true]) ∧ Below w.heap.size w w' := by
  have k := vbranch_any ⟨xV, q⟩ w small_x hat
  simp only at k
  rw [xV_br] at k
  exact k
theorem byX (q : Value) (w : World) (hat : HopC.At w ⟨xV, q⟩) : Calls Tryd.prog 16 #[.agg #[.string ⟨#[97, 46, 98]⟩, .int .i64 5070, q]] w fun e w' => e = .returned (.string ⟨#[97, 46, 98, 58, 53, 48, 55, 48]⟩) ∧ Below w.heap.size w w' := by
  have k := vby_any ⟨xV, q⟩ w small_x hat
  simp only at k
  rw [xV_who] at k
  exact k

set_option maxHeartbeats 1000000 in
set_option maxRecDepth 100000 in
theorem awake7_any (w : World) : Calls Tryd.prog 9 #[] w fun e w' => e = .returned (.bool true) ∧ Below w.heap.size w w' := by
  go_enter Tryd.func9, Tryd.ntmps9
  go_wp2_with fail
  refine (rdV _).mono ?_
  rintro e w1 ⟨a1, k1, rfl, hat1, hw1⟩
  have X1 := hid (boxV_new w1 xV (.slice a1 1 k1))
  have L1 := hid (alloc_lt w1 (objV xV (.slice a1 1 k1)))
  have hA1 := hid ((Below.refl _ w1).alloc (Nat.le_refl _) (objV xV (.slice a1 1 k1)))
  have hat2 := hid (hat1.below hA1.out)
  have hb1 := hid (hw1.trans (hA1.out.mono hw1.size))
  clear hat1
  unfold objV xV at X1 L1 hat2 hb1
  simp only at X1 L1 hat2 hb1
  obtain ⟨x0, x1, x2⟩ := X1.out
  have x0 : _ = some (Value.string ⟨#[97, 46, 98]⟩) := x0
  simp only at x1 x2
  go_wp2_with fail
  refine (brX _ _ hat2.out).mono ?_
  rintro e w2 ⟨rfl, hw2⟩
  have X2 := BoxV.below X1.out hw2 L1.out
  have hat3 := hid (hat2.out.below hw2)
  have hb2 := hb1.out.trans (hw2.mono hb1.out.size)
  clear X1 L1 hat2 hb1 hw2 x0 x1 x2 hA1
  obtain ⟨x0, x1, x2⟩ := X2
  have x0 : _ = some (Value.string ⟨#[97, 46, 98]⟩) := x0
  simp only at x1 x2
  go_wp2_with fail
  refine (byX _ _ hat3.out).mono ?_
  rintro e w3 ⟨rfl, hw3⟩
  go_wp2
  go_ret
  exact ⟨rfl, hb2.trans (hw3.mono hb2.size)⟩

end Go.Proofs.YtpcgomfiihhpcaaDoor
