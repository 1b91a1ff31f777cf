/-
  Contracts: package frame's headerMayBe, startMayBe, Check.
-/
import Derived.Test.YtagopboofmjnfaaDoorRLong
namespace Go.Proofs.YtagopboofmjnfaaDoor
open Go.RowKit Go.Sort Sc
set_option linter.unusedVariables false
set_option maxRecDepth 20000

theorem all_blk (l : List UInt8) : l.all (fun b => !blk b) = !blkB l := by
  unfold blkB
  induction l with
  | nil => rfl
  | cons b l ih => rw [List.all_cons, List.any_cons, ih]; cases blk b <;> rfl
theorem first_resp {m : Ms} (h : m.method.isEmpty = true) : firstB m = (decide (100 ≤ m.status) && (decide (m.status ≤ 699) && (valB m.reason && m.target.isEmpty))) := by
  unfold firstB
  rw [if_pos (by simpa using h)]
  by_cases h1 : 100 ≤ m.status <;> by_cases h2 : m.status ≤ 699 <;> simp [h1, h2] <;> (generalize m.target.isEmpty = a; generalize valB m.reason = b; revert a b; decide)
theorem first_req {m : Ms} (h : m.method.isEmpty = false) : firstB m = (tokenB m.method && (tgtB m.target && (decide (m.status = 0) && m.reason.isEmpty))) := by
  unfold firstB
  rw [if_neg (by intro e; rw [e] at h; cases h), all_blk, tgtB]
  generalize blkB m.target = a
  generalize tokenB m.method = b
  generalize m.target.isEmpty = c
  generalize visB m.target = d
  generalize decide (m.status = 0) = e
  generalize m.reason.isEmpty = f
  revert a b c d e f; decide
theorem tok_below (l : List UInt8) (w : World) (h : l.length ≤ 140737488355328) :
    Calls Tryd.prog 57 #[.string ⟨l.toArray⟩] w fun e w' => e = .returned (.bool (tokenB l)) ∧ Below w.heap.size w w' := (token_list l w h).mono fun _ _ ⟨h1, h2⟩ => ⟨h1, by rw [h2]; exact Below.refl _ _⟩
/-- A header's two cells. -/
def BoxH (w : World) (b : Nat) (x : Hdr) : Prop := w.cell? ⟨b, 0, none⟩ = some (.string ⟨x.name.toArray⟩) ∧ w.cell? ⟨b, 1, none⟩ = some (.string ⟨x.value.toArray⟩)
theorem BoxH.below {w w' : World} {b B : Nat} {x : Hdr} (k : BoxH w b x) (hb : Below B w w') (hlt : b < B) : BoxH w' b x := ⟨cell_below hb hlt k.1, cell_below hb hlt k.2⟩
def objH (x : Hdr) : Obj := .cells #[.string ⟨x.name.toArray⟩, .string ⟨x.value.toArray⟩] 51
theorem boxH_new (w : World) (x : Hdr) : BoxH (w.alloc (objH x)) w.heap.size x := by
  unfold BoxH World.cell? objH
  simp only [heap_alloc_new]
  exact ⟨rfl, rfl⟩
def hdrV (x : Hdr) : Value := .agg #[.string ⟨x.name.toArray⟩, .string ⟨x.value.toArray⟩]

set_option maxHeartbeats 2000000 in
set_option maxRecDepth 100000 in
theorem hmay_any (x : Hdr) (w : World) (hn : x.name.length ≤ 140737488355328) (hv : x.value.length ≤ 140737488355328) :
    Calls Tryd.prog 31 #[hdrV x] w fun e w' => e = .returned (.bool (hdrB x)) ∧ Below w.heap.size w w' := by
  obtain ⟨n, v⟩ := x
  simp only at hn hv
  have hm : hdrB ⟨n, v⟩ = (tokenB n && (longV n == n && (!lengthB n && valB v))) := rfl
  have hx := boxH_new w ⟨n, v⟩
  have hb0 : Below w.heap.size w (w.alloc (objH ⟨n, v⟩)) := (Below.refl _ w).alloc (Nat.le_refl _) _
  unfold objH at hx hb0
  unfold hdrV
  simp only at hx hb0 ⊢
  have cT := hid (fun (d : Nat) (os : Array Obj) => Calls.regrown_of (tok_below n (grow (redrawn (w.alloc (.cells #[.string ⟨n.toArray⟩, .string ⟨v.toArray⟩] 51)) d) os) hn))
  have cL := hid (fun (d : Nat) (os : Array Obj) => Calls.regrown_of (flong_list n (grow (redrawn (w.alloc (.cells #[.string ⟨n.toArray⟩, .string ⟨v.toArray⟩] 51)) d) os) hn))
  have cN := hid (fun (d : Nat) (os : Array Obj) => Calls.regrown_of (flength_list n (grow (redrawn (w.alloc (.cells #[.string ⟨n.toArray⟩, .string ⟨v.toArray⟩] 51)) d) os) hn))
  have cV := hid (fun (d : Nat) (os : Array Obj) => Calls.regrown_of (fvalue_list v (grow (redrawn (w.alloc (.cells #[.string ⟨n.toArray⟩, .string ⟨v.toArray⟩] 51)) d) os) hv))
  obtain ⟨x0, x1⟩ := hx
  simp only at x0 x1
  replace x0 := cell_regrown x0
  replace x1 := cell_regrown x1
  generalize hdrB ⟨n, v⟩ = r at hm ⊢
  generalize longV n = q at cL hm
  generalize lengthB n = lb at cN hm
  generalize valB v = vb at cV hm
  generalize tokenB n = tb at cT hm
  cases hq : (q == n) with
  | false =>
    rw [hq] at hm
    cases tb
    all_goals (
      have HM : Hid (r = false) := show _ = _ by rw [hm]; rfl
      clear hm
      go_enter Tryd.func31, Tryd.ntmps31
      go_wp2
      refine wp_region_quiet_below followsF (by kernel_rfl) ?_
      repeat (go_big_quiet_step (first | with_reducible exact cT.out _ _ | with_reducible exact cL.out _ _ | with_reducible exact cN.out _ _ | with_reducible exact cV.out _ _))
      refine wpQuiet_nil ?_
      intro _ hw'
      obtain ⟨⟨dq, osq⟩, hw''⟩ := hw'
      subst hw''
      go_wp2
      go_ret
      exact ⟨ret_bool HM.out.symm, below_reF hb0 dq osq⟩)
  | true =>
    rw [hq] at hm
    cases tb <;> cases lb
    all_goals (
      obtain ⟨z, hz⟩ : ∃ z, r = z := ⟨_, rfl⟩
      have HM := hid hm
      clear hm
      go_enter Tryd.func31, Tryd.ntmps31
      go_wp2
      refine wp_region_quiet_below followsF (by kernel_rfl) ?_
      repeat (go_big_quiet_step (first | with_reducible exact cT.out _ _ | with_reducible exact cL.out _ _ | with_reducible exact cN.out _ _ | with_reducible exact cV.out _ _))
      refine wpQuiet_nil ?_
      intro _ hw'
      obtain ⟨⟨dq, osq⟩, hw''⟩ := hw'
      subst hw''
      go_wp2
      go_ret
      exact ⟨ret_bool (by rw [HM.out]; simp), below_reF hb0 dq osq⟩)

end Go.Proofs.YtagopboofmjnfaaDoor
