/-
  The chapter's examples.
-/
import Derived.Test.YtjbfdbccidhdfaaDoorHHead
namespace Go.Proofs.YtjbfdbccidhdfaaDoor
open Go.RowKit Sc
set_option linter.unusedVariables false
set_option maxRecDepth 20000

theorem ha_is : seqV [48, 48, 55, 32, 88] = (7, [88], 0) := by decide +kernel
def xE : Ev := ⟨[112, 114, 101, 115, 101, 110, 99, 101], [⟨[105, 100], [49], true⟩]⟩
theorem hb_is : eventV [112, 114, 101, 115, 101, 110, 99, 101, 59, 105, 100, 61, 49] = (xE, 0) := by decide +kernel
def xS : Stt := ⟨[97, 99, 116, 105, 118, 101], 60, []⟩
theorem hc_is : stateV [65, 99, 116, 105, 118, 101, 32, 59, 101, 120, 112, 105, 114, 101, 115, 61, 54, 48] = (xS, 0) := by decide +kernel
theorem hd_is : acceptsB [[116, 101, 120, 116, 47, 112, 108, 97, 105, 110], [97, 112, 112, 108, 105, 99, 97, 116, 105, 111, 110, 47, 42]] [97, 112, 112, 108, 105, 99, 97, 116, 105, 111, 110, 47, 112, 105, 100, 102, 43, 120, 109, 108, 59, 32, 99, 104, 97, 114, 115, 101, 116, 61, 120] = true := by decide +kernel
/-- Event, where what it says is known. -/
theorem readE {txt : List UInt8} {v : Ev} {n : Int} (h : eventV txt = (v, n)) (w : World) (hs : txt.length ≤ 1048576) :
    Calls Tryd.prog 18 #[.string ⟨txt.toArray⟩] w fun e w' => ∃ a3 k3, e = .returned (.tuple #[evV v (.slice a3 v.params.length k3), .int .i64 n]) ∧ EvC.At w' ⟨v, .slice a3 v.params.length k3⟩ ∧ Below w.heap.size w w' := by
  have k := hevent_any txt w hs
  rw [h] at k
  refine k.mono ?_
  rintro e w' ⟨⟨q, rfl, o3⟩, hb⟩
  obtain ⟨a3, k3, e3⟩ := o3.parsAt.form
  have c3 := o3.cap
  simp only at e3 o3
  subst e3
  exact ⟨a3, k3, rfl, ⟨o3.parsAt, c3⟩, hb⟩
theorem rdSeq (w : World) : Calls Tryd.prog 9 #[.string ⟨#[48, 48, 55, 32, 88]⟩] w fun e w' => e = .returned (.tuple #[.int .i64 7, .string ⟨#[88]⟩, .int .i64 0]) ∧ Below w.heap.size w w' := by
  have k := hseq_any [48, 48, 55, 32, 88] w (by decide)
  rw [ha_is] at k
  exact k
theorem rdEv (w : World) : Calls Tryd.prog 18 #[.string ⟨#[112, 114, 101, 115, 101, 110, 99, 101, 59, 105, 100, 61, 49]⟩] w fun e w' => ∃ a3 k3, e = .returned (.tuple #[.agg #[.string ⟨#[112, 114, 101, 115, 101, 110, 99, 101]⟩, .slice a3 1 k3], .int .i64 0]) ∧ Below w.heap.size w w' :=
  (readE hb_is w (by decide)).mono fun e w' ⟨a3, k3, h, _, hb⟩ => ⟨a3, k3, h, hb⟩
theorem rdSt (w : World) : Calls Tryd.prog 25 #[.string ⟨#[65, 99, 116, 105, 118, 101, 32, 59, 101, 120, 112, 105, 114, 101, 115, 61, 54, 48]⟩] w fun e w' => e = .returned (.tuple #[.agg #[.string ⟨#[97, 99, 116, 105, 118, 101]⟩, .int .i64 60, .string ⟨#[]⟩], .int .i64 0]) ∧ Below w.heap.size w w' := by
  have k := hstate_any [65, 99, 116, 105, 118, 101, 32, 59, 101, 120, 112, 105, 114, 101, 115, 61, 54, 48] w (by decide)
  rw [hc_is] at k
  exact k
theorem eqX (u : World) : (binOp .eql 50 (.agg #[.string ⟨#[97, 99, 116, 105, 118, 101]⟩, .int .i64 60, .string ⟨#[]⟩]) (.agg #[.string ⟨#[97, 99, 116, 105, 118, 101]⟩, .int .i64 60, .string ⟨#[]⟩])).run Tryd.prog u = .ok (.bool true) u := by
  have h := eqlStt xS xS u
  simp only [decide_true] at h
  exact h
theorem takeX (w : World) : Calls Tryd.prog 31 #[.slice (some ⟨w.heap.size, 0, none⟩) 2 2, .string ⟨#[97, 112, 112, 108, 105, 99, 97, 116, 105, 111, 110, 47, 112, 105, 100, 102, 43, 120, 109, 108, 59, 32, 99, 104, 97, 114, 115, 101, 116, 61, 120]⟩] (w.alloc (.cells #[.string ⟨#[116, 101, 120, 116, 47, 112, 108, 97, 105, 110]⟩, .string ⟨#[97, 112, 112, 108, 105, 99, 97, 116, 105, 111, 110, 47, 42]⟩] 9)) fun e w' => e = .returned (.bool true) ∧ Below w.heap.size w w' := by
  have hr : RowIs (w.alloc (.cells #[.string ⟨#[116, 101, 120, 116, 47, 112, 108, 97, 105, 110]⟩, .string ⟨#[97, 112, 112, 108, 105, 99, 97, 116, 105, 111, 110, 47, 42]⟩] 9)) w.heap.size 9 [.string ⟨#[116, 101, 120, 116, 47, 112, 108, 97, 105, 110]⟩, .string ⟨#[97, 112, 112, 108, 105, 99, 97, 116, 105, 111, 110, 47, 42]⟩] := by unfold RowIs; rw [heap_alloc_new]
  have hlt := alloc_lt w (.cells #[.string ⟨#[116, 101, 120, 116, 47, 112, 108, 97, 105, 110]⟩, .string ⟨#[97, 112, 112, 108, 105, 99, 97, 116, 105, 111, 110, 47, 42]⟩] 9)
  have hb : Below w.heap.size w (w.alloc (.cells #[.string ⟨#[116, 101, 120, 116, 47, 112, 108, 97, 105, 110]⟩, .string ⟨#[97, 112, 112, 108, 105, 99, 97, 116, 105, 111, 110, 47, 42]⟩] 9)) := (Below.refl _ w).alloc (Nat.le_refl _) _
  have hat : StrsAt (w.alloc (.cells #[.string ⟨#[116, 101, 120, 116, 47, 112, 108, 97, 105, 110]⟩, .string ⟨#[97, 112, 112, 108, 105, 99, 97, 116, 105, 111, 110, 47, 42]⟩] 9)) (.slice (some ⟨w.heap.size, 0, none⟩) 2 2) [[116, 101, 120, 116, 47, 112, 108, 97, 105, 110], [97, 112, 112, 108, 105, 99, 97, 116, 105, 111, 110, 47, 42]] := by
    refine ⟨some ⟨w.heap.size, 0, none⟩, 2, rfl, fun k hk => ⟨_, rfl, hlt, ?_⟩⟩
    have e : (⟨w.heap.size, 0, none⟩ : Addr).add k = ⟨w.heap.size, k, none⟩ := by unfold Addr.add; split <;> simp_all
    rw [e]
    simp only [List.length_cons, List.length_nil] at hk
    rcases (show k = 0 ∨ k = 1 by omega) with rfl | rfl
    · exact hr.cell 0 (by simp)
    · exact hr.cell 1 (by simp)
  have k := haccepts_any _ [[116, 101, 120, 116, 47, 112, 108, 97, 105, 110], [97, 112, 112, 108, 105, 99, 97, 116, 105, 111, 110, 47, 42]] [97, 112, 112, 108, 105, 99, 97, 116, 105, 111, 110, 47, 112, 105, 100, 102, 43, 120, 109, 108, 59, 32, 99, 104, 97, 114, 115, 101, 116, 61, 120] _ (by intro l hl; simp at hl; rcases hl with rfl | rfl <;> decide) (by decide) (by decide) hat
  rw [hd_is] at k
  refine k.mono ?_
  rintro e w' ⟨rfl, hw⟩
  exact ⟨rfl, hb.trans (hw.mono hb.size)⟩

theorem takeY (w : World) (o : Obj) : Calls Tryd.prog 31 #[.slice (some ⟨w.heap.size + 1, 0, none⟩) 2 2, .string ⟨#[97, 112, 112, 108, 105, 99, 97, 116, 105, 111, 110, 47, 112, 105, 100, 102, 43, 120, 109, 108, 59, 32, 99, 104, 97, 114, 115, 101, 116, 61, 120]⟩] ((w.alloc o).alloc (.cells #[.string ⟨#[116, 101, 120, 116, 47, 112, 108, 97, 105, 110]⟩, .string ⟨#[97, 112, 112, 108, 105, 99, 97, 116, 105, 111, 110, 47, 42]⟩] 9)) fun e w' => e = .returned (.bool true) ∧ Below (w.alloc o).heap.size (w.alloc o) w' := by
  have k := takeX (w.alloc o)
  rw [show (w.alloc o).heap.size = w.heap.size + 1 by simp] at k ⊢
  exact k

set_option maxHeartbeats 1000000 in
set_option maxRecDepth 100000 in
theorem awake8_any (w : World) : Calls Tryd.prog 17 #[] w fun e w' => e = .returned (.bool true) ∧ Below w.heap.size w w' := by
  have hg := guardStt
  have hq := eqX
  go_enter Tryd.func17, Tryd.ntmps17
  go_wp2_with fail
  refine (rdSeq _).mono ?_
  rintro e w1 ⟨rfl, hw1⟩
  go_wp2_with fail
  refine (rdEv _).mono ?_
  rintro e w2 ⟨a3, k3, rfl, hw2⟩
  have hb2 := hw1.trans (hw2.mono hw1.size)
  have X2 := hid (boxE_new w2 xE (.slice a3 1 k3))
  have L2 := hid (alloc_lt w2 (objE xE (.slice a3 1 k3)))
  have hA2 := hid ((Below.refl _ w2).alloc (Nat.le_refl _) (objE xE (.slice a3 1 k3)))
  clear hw1 hw2
  unfold objE xE at X2 L2 hA2
  simp only at X2 L2 hA2
  have hb2' := hid (hb2.trans (hA2.out.mono hb2.size))
  go_wp2_with fail
  refine (rdSt _).mono ?_
  rintro e w3 ⟨rfl, hw3⟩
  have hb3 := hb2'.out.trans (hw3.mono hb2'.out.size)
  have X3 := BoxE.below X2.out hw3 L2.out
  have hl3 : w2.heap.size < w3.heap.size := Nat.lt_of_lt_of_le L2.out hw3.size
  clear X2 L2 hA2 hb2' hw3 hb2
  have hA3 : ∀ o, Below w3.heap.size w3 (w3.alloc o) := fun o => (Below.refl _ w3).alloc (Nat.le_refl _) o
  have X4 := fun o => BoxE.below X3 (hA3 o) hl3
  have g0 : ∀ o, (w3.alloc o).cell? ⟨w2.heap.size, 0, none⟩ = some (.string ⟨#[112, 114, 101, 115, 101, 110, 99, 101]⟩) := fun o => (X4 o).1
  have g1 : ∀ o, (w3.alloc o).cell? ⟨w2.heap.size, 1, none⟩ = some (.slice a3 1 k3) := fun o => (X4 o).2
  have HB := hid (fun o => hb3.trans ((hA3 o).mono hb3.size))
  clear X4 X3 hA3
  go_wp2_with fail
  refine (takeY _ _).mono ?_
  rintro e w5 ⟨rfl, hw5⟩
  go_wp2
  go_ret
  exact ⟨rfl, (HB.out _).trans (hw5.mono (HB.out _).size)⟩

end Go.Proofs.YtjbfdbccidhdfaaDoor
