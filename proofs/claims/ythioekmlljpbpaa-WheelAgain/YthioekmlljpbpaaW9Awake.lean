/-
  The chapter's example of layer 9.
-/
import Derived.Test.YthioekmlljpbpaaWNew
import Derived.Test.YthioekmlljpbpaaRTm5
namespace Go.Proofs.Ythioekmlljpbpaa
open Go.RowKit
set_option linter.unusedVariables false
set_option maxRecDepth 20000

def awT : Nat → Tm | 0 => (5, 7) | 1 => (5, 3) | 2 => (9, 1) | _ => (4, 7)
def awL : Nat → List Tm | 0 => [] | 1 => [(5, 7)] | 2 => [(5, 3), (5, 7)] | 3 => [(5, 3), (5, 7), (9, 1)] | _ => [(4, 7), (5, 3), (9, 1)]
def awV : List Value := [.int .i64 5, .int .i64 7, .int .i64 5, .int .i64 3, .int .i64 9, .int .i64 1, .int .i64 4, .int .i64 7]
theorem aw_step : ∀ k, k < 4 → setR (awL k) (awT k).2 (awT k).1 = awL (k + 1) ∧ setE (awL k) (awT k).2 (awT k).1 = 0 ∧ (Lit.int .i64 (awT k).2).wf = true := by
  intro k hk
  rcases (show k = 0 ∨ k = 1 ∨ k = 2 ∨ k = 3 by omega) with rfl | rfl | rfl | rfl <;> decide
theorem aw_set {B b : Nat} {w : World} {k : Nat} (hk : k < 4) (h : WW B b w (awL k)) : Calls Try.prog 13 #[.pointer (some ⟨b, 0, none⟩), .int .i64 (awT k).2, .int .i64 (awT k).1] w fun e w' => e = .returned (.int .i64 0) ∧ WW B b w' (awL (k + 1)) ∧ Fr B w w' := by
  obtain ⟨h1, h2, h3⟩ := aw_step k hk
  have := wwset_any h (id := (awT k).2) (a := (awT k).1) h3
  rw [h1, h2] at this
  exact this
theorem aw_due {B b : Nat} {w : World} (h : WW B b w (awL 4)) : Calls Try.prog 18 #[.pointer (some ⟨b, 0, none⟩), .int .i64 5] w fun e w' => ∃ oa oc, e = .returned (.slice oa 2 oc) ∧ TmsAt w' (.slice oa 2 oc) [(4, 7), (5, 3)] ∧ WW B b w' [(9, 1)] ∧ Fr B w w' := by
  have e1 : dueT (awL 4) 5 = [(4, 7), (5, 3)] := by decide
  have e2 : leftT (awL 4) 5 = [(9, 1)] := by decide
  have := wwdue_any h (now := 5)
  rw [e1, e2] at this
  refine this.mono ?_
  rintro e w' ⟨va, rfl, ho, hw, hf⟩
  obtain ⟨oa, oc, hv⟩ := ho.form
  subst hv
  exact ⟨oa, oc, rfl, ho.at, hw, hf⟩
theorem tms_of_row {w : World} {g : Nat} {ts : List Tm} (h : RowIs w g 49 (tmsCells ts)) : TmsAt w (.slice (some ⟨g, 0, none⟩) ts.length ts.length) ts := by
  refine ⟨_, _, rfl, Nat.le_refl _, fun _ => ⟨g, 0, _, rfl, h, fun k hk => ?_⟩⟩
  obtain ⟨c0, c1⟩ := tmsCells_get ts k hk
  simp only [Nat.zero_add, List.getElem?_toArray]
  exact ⟨c0, c1⟩

set_option maxHeartbeats 4000000 in
set_option maxRecDepth 100000 in
theorem awake9_any (w : World) : Calls Try.prog 20 #[] w fun e w' => e = .returned (.bool true) ∧ Below w.heap.size w w' := by
  have hg := guardTm
  have hq : ∀ u, (binOp .eql 49 (.agg #[.int .i64 9, .int .i64 1]) (.agg #[.int .i64 9, .int .i64 1])).run Try.prog u = .ok (.bool true) u := fun u => by have := eqlTm (9, 1) (9, 1) u; simpa using this
  go_enter Try.func20, Try.ntmps20
  go_wp2_with fail
  refine (wwnew_any _).mono ?_
  rintro e w1 ⟨b, rfl, hw1, hb1⟩
  have hr : RowIs (w1.alloc (.cells #[.int .i64 5, .int .i64 7, .int .i64 5, .int .i64 3, .int .i64 9, .int .i64 1, .int .i64 4, .int .i64 7] 49)) w1.heap.size 49 awV := by unfold RowIs; rw [heap_alloc_new]; rfl
  have HW := hid (hw1.new (.cells #[.int .i64 5, .int .i64 7, .int .i64 5, .int .i64 3, .int .i64 9, .int .i64 1, .int .i64 4, .int .i64 7] 49))
  have HR := hid hr
  have HB := hid (hb1.alloc hb1.size (.cells #[.int .i64 5, .int .i64 7, .int .i64 5, .int .i64 3, .int .i64 9, .int .i64 1, .int .i64 4, .int .i64 7] 49))
  clear hr hw1 hb1
  go_wp2
  generalize w1.alloc _ = W at HW HR HB ⊢
  generalize w1.heap.size = g at HR ⊢
  go_loopw [14] (fun i wr => ∃ k : Nat, k ≤ 4 ∧ i = .int .i64 k ∧ Hid (WW w.heap.size b wr (awL k)) ∧ Hid (RowIs wr g 49 awV) ∧ Hid (Below w.heap.size w wr)) (fun i _ => 4 - (intOf i).toNat)
  case atStart => exact ⟨0, by omega, rfl, HW, HR, HB⟩
  case round =>
    clear HW HR HB
    obtain ⟨k, hk, rfl, HW, HR, HB⟩ := hrel
    by_cases hlt : k < 4
    · have hlt' : (k : Int) < 4 := by omega
      have c0 : wr.cell? ⟨g, k * 2, none⟩ = some (.int .i64 (awT k).1) := by
        rcases (show k = 0 ∨ k = 1 ∨ k = 2 ∨ k = 3 by omega) with rfl | rfl | rfl | rfl
        · exact HR.out.cell 0 (by decide)
        · exact HR.out.cell 2 (by decide)
        · exact HR.out.cell 4 (by decide)
        · exact HR.out.cell 6 (by decide)
      have c1 : wr.cell? ⟨g, k * 2 + 1, none⟩ = some (.int .i64 (awT k).2) := by
        rcases (show k = 0 ∨ k = 1 ∨ k = 2 ∨ k = 3 by omega) with rfl | rfl | rfl | rfl
        · exact HR.out.cell 1 (by decide)
        · exact HR.out.cell 3 (by decide)
        · exact HR.out.cell 5 (by decide)
        · exact HR.out.cell 7 (by decide)
      obtain ⟨o, ho⟩ : ∃ o, o = Obj.cells #[.int .i64 (awT k).1, .int .i64 (awT k).2] 49 := ⟨_, rfl⟩
      have KS := hid (aw_set hlt (HW.out.new o))
      have RO := hid (HR.out.new o)
      have BO := hid (HB.out.alloc HB.out.size o)
      have cc := two_new wr (awT k).1 (awT k).2
      rw [ho] at KS RO BO
      clear ho
      generalize awT k = t at c0 c1 KS RO BO cc
      obtain ⟨d0, d1⟩ := cc
      go_wp2_with fail
      refine KS.out.mono ?_
      rintro e w3 ⟨rfl, hw3, hf3⟩
      have R3 := hid (hf3.row RO.out (by decide) (by decide) (by decide))
      have B3 := hid (BO.out.trans hf3.below)
      have W3 := hid hw3
      clear hw3 hf3 KS RO BO HW HR HB c0 c1 d0 d1
      go_wp2
      go_roundw
      case rel => exact ⟨k + 1, by omega, by go_num, W3, R3, B3⟩
      case measure => simp [intOf]; omega
    · obtain rfl : k = 4 := by omega
      have KD := hid (aw_due HW.out)
      clear HW HR hlt
      go_wp2_with fail
      refine KD.out.mono ?_
      rintro e w4 ⟨oa, oc, rfl, ho4, hw4, hf4⟩
      have B4 := HB.out.trans hf4.below
      have KN := hid (wwnext_any hw4)
      unfold nextV at KN
      simp only at KN
      clear KD HB hf4
      go_wp2_with fail
      refine KN.out.mono ?_
      rintro e w5 ⟨rfl, hb5⟩
      have B5 := B4.trans (hb5.mono B4.size)
      have HO5 := hid (ho4.below hb5)
      clear hb5 ho4 hw4 B4 KN
      have cc := two_new w5 9 1
      have hA := (Below.refl _ w5).alloc (Nat.le_refl _) (.cells #[.int .i64 9, .int .i64 1] 49)
      have BA := B5.trans (hA.mono B5.size)
      have HOA := hid (HO5.out.below hA)
      have lA : w5.heap.size < (w5.alloc (.cells #[.int .i64 9, .int .i64 1] 49)).heap.size := by simp
      have hR : RowIs ((w5.alloc (.cells #[.int .i64 9, .int .i64 1] 49)).alloc (.cells #[.int .i64 4, .int .i64 7, .int .i64 5, .int .i64 3] 49)) (w5.alloc (.cells #[.int .i64 9, .int .i64 1] 49)).heap.size 49 (tmsCells [(4, 7), (5, 3)]) := by unfold RowIs; rw [heap_alloc_new]; rfl
      have hC := (Below.refl _ (w5.alloc (.cells #[.int .i64 9, .int .i64 1] 49))).alloc (Nat.le_refl _) (.cells #[.int .i64 4, .int .i64 7, .int .i64 5, .int .i64 3] 49)
      have BC := hid (BA.trans (hC.mono BA.size))
      have KE := hid (refsame9_any (HOA.out.below hC) (tms_of_row hR) (by decide) (by decide))
      have x0 := cellB hC lA cc.1
      have x1 := cellB hC lA cc.2
      rw [show (w5.alloc (.cells #[.int .i64 9, .int .i64 1] 49)).heap.size = w5.heap.size + 1 by simp] at KE
      have XX := hid (And.intro x0 x1)
      clear hA BA HOA hR hC cc B5 HO5
      simp only [List.length_cons, List.length_nil, decide_true] at KE
      go_wp2_with fail
      refine KE.out.mono ?_
      rintro e w6 ⟨rfl, hb6⟩
      have B6 := BC.out.trans (hb6.mono BC.out.size)
      have y0 := cellB hb6 (by simp; omega) XX.out.1
      have y1 := cellB hb6 (by simp; omega) XX.out.2
      clear hb6 BC XX KE x0 x1
      go_wp2
      go_ret
      exact ⟨rfl, B6⟩
end Go.Proofs.Ythioekmlljpbpaa
