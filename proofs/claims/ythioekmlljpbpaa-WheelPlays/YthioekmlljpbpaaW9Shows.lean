/-
  A wheel shows the row that it keeps.
-/
import Derived.Test.YthioekmlljpbpaaW9Awake
import Derived.Test.YthioekmlljpbpaaRTm6
namespace Go.Proofs.Ythioekmlljpbpaa
open Go.RowKit Go.Sort
set_option linter.unusedVariables false
set_option maxRecDepth 20000
set_option linter.unusedSimpArgs false

theorem same_below {P : Program} {f : FuncId} {args : Array Value} {w : World} {v : Value} (h : Calls P f args w fun e w' => e = .returned v ∧ w' = w) : Calls P f args w fun e w' => e = .returned v ∧ Below w.heap.size w w' := h.mono fun _ _ ⟨he, hw⟩ => ⟨he, by rw [hw]; exact Below.refl _ _⟩
theorem WW.wf {B b : Nat} {w : World} {l : List Tm} (h : WW B b w l) : ∀ t ∈ l, (Lit.int .i64 t.2).wf = true := by
  obtain ⟨m, v, f, n, D, h, hn, _⟩ := h
  intro t ht
  obtain ⟨i, hi, rfl⟩ := (h.k.mem t).1 ht
  exact h.wf i hi
theorem whenV_at {l : List Tm} (h : Row9 l) {k : Nat} (hk : k < l.length) : whenV l l[k].2 = .tuple #[.int .i64 l[k].1, .bool true] := by
  unfold whenV
  rw [(when_iff h l[k].2 l[k].1).2 (List.getElem_mem hk)]
def shT (l : List Tm) : Tm := match l with | t :: _ => t | [] => (0, 0)
theorem nextV_is (l : List Tm) : nextV l = .tuple #[.agg #[.int .i64 (shT l).1, .int .i64 (shT l).2], .bool (decide (0 < l.length))] := by
  cases l <;> rfl

set_option maxHeartbeats 4000000 in
set_option maxRecDepth 100000 in
theorem shows_any {B b : Nat} {w : World} {v : Value} {l : List Tm} (h : WW B b w l) (ht : TmsAt w v l) :
    Calls Try.prog 19 #[.pointer (some ⟨b, 0, none⟩), v] w fun e w' => e = .returned (.bool true) ∧ Below w.heap.size w w' := by
  have hg := guardTm
  have KN := hid (wwnext_any h)
  rw [nextV_is] at KN
  obtain ⟨hrow, h4⟩ := h.row
  have HROW := hid hrow
  have HWF := hid h.wf
  have HW0 := hid h
  have HT0 := hid ht
  obtain ⟨ao, cap, rfl, hcap, hr⟩ := ht
  obtain ⟨n, hnn⟩ : ∃ n, n = l.length := ⟨_, rfl⟩
  rw [← hnn] at h4 hcap KN HT0 ⊢
  have HN := hid hnn
  clear hr h hrow
  have hq : ∀ u, (binOp .neq 49 (.agg #[.int .i64 (shT l).1, .int .i64 (shT l).2]) (.agg #[.int .i64 (shT l).1, .int .i64 (shT l).2])).run Try.prog u = .ok (.bool false) u := fun u => by have := neqTm (shT l) (shT l) u; simpa using this
  have H0 : Hid (0 < n → ∃ hl : 0 < l.length, l[0] = shT l) := fun x => by
    cases hl : l with
    | nil => rw [hnn, hl] at x; simp at x
    | cons t r => exact ⟨by simp, rfl⟩
  have HZ : Hid (n = 0 → shT l = (0, 0)) := fun x => by
    cases hl : l with
    | nil => rfl
    | cons t r => rw [hnn, hl] at x; simp at x
  clear hnn
  generalize shT l = t0 at KN hq H0 HZ
  obtain ⟨t1, t2⟩ := t0
  simp only at KN hq H0 HZ
  go_enter Try.func19, Try.ntmps19
  go_wp2_with fail
  refine KN.out.mono ?_
  rintro e w1 ⟨rfl, hb1⟩
  obtain ⟨o, ho⟩ : ∃ o, o = Obj.cells #[.int .i64 t1, .int .i64 t2] 49 := ⟨_, rfl⟩
  have cc := two_new w1 t1 t2
  have hbA := hb1.alloc hb1.size o
  have HW := hid ((HW0.out.below hb1).new o)
  have HT := hid ((HT0.out.below hb1).below ((Below.refl _ _).alloc (Nat.le_refl _) o))
  rw [ho] at hbA HW HT
  clear ho HW0 HT0 hb1 KN
  generalize hWg : w1.alloc (Obj.cells #[.int .i64 t1, .int .i64 t2] 49) = W at cc hbA HW HT
  have HWG := hid hWg
  clear hWg
  have KL := hid (fun (d : Nat) (os : Array Obj) => Calls.regrown_of (same_below (wwlen_any (HW.out.below (below_regrown W d os)))))
  have x0 := cell_regrown cc.1
  have x1 := cell_regrown cc.2
  rw [← HN.out] at KL
  clear cc
  have hnn1 : ((n : Int) != (n : Int)) = false := by simp
  by_cases hn0 : n = 0
  · subst hn0
    have hz := HZ.out rfl
    simp only [Prod.mk.injEq] at hz
    obtain ⟨rfl, rfl⟩ := hz
    go_wp2
    rw [HWG.out]
    refine wp_region_quiet_below followsMixed9 (by kernel_rfl) ?_
    repeat (go_big_quiet_step (first | with_reducible exact KL.out _ _))
    refine wpQuiet_nil ?_
    intro _ hw'
    obtain ⟨⟨dq, osq⟩, hw''⟩ := hw'
    subst hw''
    have hq2 := below_regrown W dq osq
    generalize grow _ _ = W2 at hq2 ⊢
    have HW2 := hid (HW.out.below hq2)
    have HT2 := hid (HT.out.below hq2)
    have hbB := hbA.trans (hq2.mono hbA.size)
    clear HW HT hq2 x0 x1 KL HWG hbA
    go_wp2
    go_loopw [7] (fun i wr => i = .int .i64 0 ∧ wr = W2) (fun i _ => 0)
    case atStart => exact ⟨rfl, rfl⟩
    case round =>
      obtain ⟨rfl, rfl⟩ := hrel
      go_wp2
      go_ret
      exact ⟨rfl, hbB⟩
  · have hpos : 0 < n := by omega
    have hpi : (0 : Int) < (n : Int) := by omega
    have dpos : decide (0 < n) = true := decide_eq_true hpos
    obtain ⟨hl0, he0⟩ := H0.out hpos
    obtain ⟨ao', cap', hv', _, hr⟩ := HT.out
    injection hv' with e1 e2 e3
    subst e1
    subst e3
    obtain ⟨g, off, cs, hao, hh, hcell⟩ := hr (by intro e; rw [e] at hl0; simp at hl0)
    subst hao
    have c0 : W.cell? ⟨g, off, none⟩ = some (.int .i64 t1) := by have := cells_at hh (hcell 0 hl0).1; rw [he0] at this; simpa using this
    have c1 : W.cell? ⟨g, off + 1, none⟩ = some (.int .i64 t2) := by have := cells_at hh (hcell 0 hl0).2; rw [he0] at this; simpa using this
    have c0 := cell_regrown c0
    have c1 := cell_regrown c1
    clear hh hcell hr e2 he0 hl0
    go_wp2
    rw [HWG.out]
    refine wp_region_quiet_below followsMixed9 (by kernel_rfl) ?_
    repeat (go_big_quiet_step (first | with_reducible exact KL.out _ _))
    refine wpQuiet_nil ?_
    intro _ hw'
    obtain ⟨⟨dq, osq⟩, hw''⟩ := hw'
    subst hw''
    have hq2 := below_regrown W dq osq
    generalize grow _ _ = W2 at hq2 ⊢
    have HW2 := hid (HW.out.below hq2)
    have HT2 := hid (HT.out.below hq2)
    have hbB := hbA.trans (hq2.mono hbA.size)
    clear HW HT hq2 x0 x1 c0 c1 KL HWG hbA
    go_wp2
    go_loopw [7] (fun i wr => ∃ k : Nat, k ≤ n ∧ i = .int .i64 k ∧ wr = W2) (fun i _ => n - (intOf i).toNat)
    case atStart => exact ⟨0, by omega, rfl, rfl⟩
    case round =>
      obtain ⟨k, hk, rfl, rfl⟩ := hrel
      by_cases hlt : k < n
      · have hlt' : (k : Int) < (n : Int) := by omega
        by_cases h60 : k < 60
        · have h60' : (k : Int) < 60 := by omega
          have hkl : k < l.length := by rw [← HN.out]; exact hlt
          obtain ⟨ao', cap', hv', _, hr⟩ := HT2.out
          injection hv' with e1 e2 e3
          subst e3
          obtain ⟨g', off', cs, hao, hh, hcell⟩ := hr (by intro e; rw [e] at hkl; simp at hkl)
          rw [hao] at e1
          injection e1 with e1
          injection e1 with f1 f2
          subst f1
          subst f2
          have c0 := cells_at hh (hcell k hkl).1
          have c1 := cells_at hh (hcell k hkl).2
          have KW := hid (wwhen_any HW2.out (id := l[k].2) (HWF.out _ (List.getElem_mem hkl)))
          rw [whenV_at HROW.out hkl] at KW
          clear hh hcell hr hao e2
          generalize l[k] = t at c0 c1 KW
          have hne : (t.1 != t.1) = false := by simp
          go_wp2_with fail
          refine KW.out.mono ?_
          rintro e w3 ⟨rfl, hw3⟩
          rw [hw3]
          clear hw3 KW
          go_wp2
          go_roundw
          case rel => exact ⟨k + 1, by omega, by go_num, by first | rfl | trivial⟩
          case measure => simp [intOf]; omega
        · have h60' : decide ((k : Int) < 60) = false := decide_eq_false (by omega)
          go_wp2
          go_ret
          exact ⟨rfl, hbB⟩
      · have hlt' : decide ((k : Int) < (n : Int)) = false := decide_eq_false (by omega)
        go_wp2
        go_ret
        exact ⟨rfl, hbB⟩
end Go.Proofs.Ythioekmlljpbpaa
