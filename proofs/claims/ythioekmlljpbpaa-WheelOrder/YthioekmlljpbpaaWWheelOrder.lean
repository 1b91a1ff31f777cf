/-
  The walk of the law WheelOrder.
-/
import Derived.Test.YthioekmlljpbpaaW9L
namespace Go.Proofs.Ythioekmlljpbpaa.wheelOrder
open Go.RowKit Go.Sort
set_option linter.unusedVariables false
set_option maxRecDepth 20000
set_option linter.unusedSimpArgs false

set_option maxHeartbeats 4000000 in
set_option maxRecDepth 100000 in
theorem law_walk (w : World) (v0 : Value) (a1 : Int) (k0 : IntsIn 140737488351232 w v0) (u1 : (Lit.int .i64 a1).wf = true) :
    Calls Try.prog 4 #[v0, .int .i64 a1] w fun e w' => e = .returned (.bool true) ∧ Below w.heap.size w w' := by
  obtain ⟨ats, hat⟩ := k0
  have KF := hid (filled_any hat)
  obtain ⟨hrow, hlen⟩ := fillL_row ats
  obtain ⟨ao, cap, rfl, _⟩ := hat
  generalize ats.length = na at KF ⊢
  generalize fillL ats = L at KF hrow hlen
  have hdl := due_len L a1
  have HLE := hid (fun t (h : t ∈ dueT L a1) => due_le h)
  have HWN := hid (fun t (h : t ∈ dueT L a1) => when_left hrow a1 h)
  have HAH := hid (fun k (hk : k + 1 < (dueT L a1).length) => ahd_next (hrow.due a1) hk)
  have HLH := hid (fun t r (h : leftT L a1 = t :: r) => left_head h)
  have HDN := hid (due_none L a1)
  go_enter Try.func4, Try.ntmps4
  go_wp2_with fail
  refine KF.out.mono ?_
  rintro e w1 ⟨b, rfl, hw1, hb1⟩
  go_wp2_with fail
  refine (wwlen_any hw1).mono ?_
  rintro e w2 ⟨rfl, hw2⟩
  rw [hw2]
  clear hw2 KF
  go_wp2_with fail
  refine (wwdue_any hw1).mono ?_
  rintro e w3 ⟨va, rfl, ho3, hw3, hf3⟩
  have hb3 := hb1.trans hf3.below
  have WFD : Hid (∀ t ∈ dueT L a1, (Lit.int .i64 t.2).wf = true) := fun t ht => hw1.wf t (by rw [← due_left L a1]; exact List.mem_append_left _ ht)
  have HSH : Hid (0 < (leftT L a1).length → a1 < (shT (leftT L a1)).1) := fun h => by
    cases hl : leftT L a1 with
    | nil => rw [hl] at h; simp at h
    | cons t r => exact HLH.out t r hl
  generalize dueT L a1 = d at hdl HLE HWN HAH ho3 WFD
  generalize leftT L a1 = r at hdl HWN HDN hw3 HSH HLH
  obtain ⟨oa, oc, hva⟩ := ho3.form
  have HT3 := hid ho3.at
  have HW3 := hid hw3
  obtain ⟨nd, hnd⟩ : ∃ nd, nd = d.length := ⟨_, rfl⟩
  rw [← hnd] at hva hdl
  subst hva
  have HND := hid hnd
  clear hnd ho3 hw3 hf3 hw1 hb1 HLH
  obtain ⟨rl, hrl⟩ : ∃ rl, rl = r.length := ⟨_, rfl⟩
  rw [← hrl] at hdl HSH
  have HRL := hid hrl
  clear hrl
  generalize L.length = Ll at hdl hlen
  have hB3 := hid hb3
  clear hb3
  go_wp2
  go_loopw [8] (fun i wr => ∃ k : Nat, k ≤ nd ∧ i = .int .i64 k ∧ Hid (Below w3.heap.size w3 wr)) (fun i _ => nd - (intOf i).toNat)
  case atStart => exact ⟨0, by omega, rfl, Below.refl _ _⟩
  case round =>
    obtain ⟨k, hk, rfl, HB⟩ := hrel
    have HW := hid (HW3.out.below HB.out)
    have HT := hid (HT3.out.below HB.out)
    by_cases hlt : k < nd
    · have hlt' : (k : Int) < (nd : Int) := by omega
      have hkd : k < d.length := by rw [← HND.out]; exact hlt
      have hmem : d[k] ∈ d := List.getElem_mem hkd
      have hle := HLE.out _ hmem
      have hwn := HWN.out _ hmem
      obtain ⟨ao', cap', hv', _, hr⟩ := HT.out
      injection hv' with e1 e2 e3
      subst e1
      obtain ⟨g, off, cs, hao, hh, hcell⟩ := hr (by intro e; rw [e] at hkd; simp at hkd)
      subst hao
      have c0 := cells_at hh (hcell k hkd).1
      have c1 := cells_at hh (hcell k hkd).2
      have x0 := cell_regrown c0
      have x1 := cell_regrown c1
      have KW := hid (wwhen_any HW.out (id := d[k].2) (WFD.out _ hmem))
      have hwv : whenV r d[k].2 = .tuple #[.int .i64 0, .bool false] := by unfold whenV; rw [hwn]
      rw [hwv] at KW
      clear hwv hwn hmem e2 e3 hr
      cases k with
      | zero =>
        clear hcell hh
        simp only [Nat.zero_mul, Nat.add_zero] at c0 c1 x0 x1
        generalize d[0] = t at c0 c1 x0 x1 KW hle
        have hgt : decide (a1 < t.1) = false := decide_eq_false (by omega)
        go_wp2_with fail
        refine KW.out.mono ?_
        rintro e w4 ⟨rfl, hw4⟩
        rw [hw4]
        clear hw4 KW
        clear c0 c1
        go_wp2
        refine wp_region_quiet_below followsMixed9 (by kernel_rfl) ?_
        repeat (go_big_quiet_step (fail))
        refine wpQuiet_nil ?_
        intro _ hw'
        obtain ⟨⟨dq, osq⟩, hw''⟩ := hw'
        subst hw''
        have hq2 := below_regrown wr dq osq
        generalize grow _ _ = W2 at hq2 ⊢
        have B2 := hid (HB.out.trans (hq2.mono HB.out.size))
        go_wp2
        go_roundw
        case rel => exact ⟨0 + 1, by omega, by go_num, B2⟩
        case measure => simp [intOf]; omega
      | succ j =>
        have hjd : j < d.length := by omega
        have y0 := cell_regrown (cells_at hh (hcell j hjd).1)
        have y1 := cell_regrown (cells_at hh (hcell j hjd).2)
        have hah := HAH.out j hkd
        have KA := hid (fun (d' : Nat) (os : Array Obj) => Calls.regrown_of (refahead_any (d[j]'hjd) d[j + 1] (grow (redrawn wr d') os)))
        rw [hah] at KA
        clear hcell hh hah
        generalize d[j + 1] = t at c0 c1 x0 x1 KW hle KA
        generalize d[j]'hjd = t' at y0 y1 KA
        have hgt : decide (a1 < t.1) = false := decide_eq_false (by omega)
        have hsub : IntKind.i64.wrap ((j : Int) + 1 - 1) = (j : Int) := by rw [IntKind.wrap_i64]; omega
        have hpj : (0 : Int) < (j : Int) + 1 := by omega
        have hjl : (j : Int) < (nd : Int) := by omega
        go_wp2_with fail
        refine KW.out.mono ?_
        rintro e w4 ⟨rfl, hw4⟩
        rw [hw4]
        clear hw4 KW
        clear c0 c1
        go_wp2
        refine wp_region_quiet_below followsMixed9 (by kernel_rfl) ?_
        repeat (go_big_quiet_step (first | with_reducible exact KA.out _ _))
        refine wpQuiet_nil ?_
        intro _ hw'
        obtain ⟨⟨dq, osq⟩, hw''⟩ := hw'
        subst hw''
        have hq2 := below_regrown wr dq osq
        generalize grow _ _ = W2 at hq2 ⊢
        have B2 := hid (HB.out.trans (hq2.mono HB.out.size))
        go_wp2
        go_roundw
        case rel => exact ⟨j + 1 + 1, by omega, by go_num, B2⟩
        case measure => simp [intOf]; omega
    · obtain rfl : k = nd := by omega
      have hlt' : decide ((k : Int) < (k : Int)) = false := by simp
      have KN := hid (wwnext_any HW.out)
      rw [nextV_is, ← HRL.out] at KN
      have hbW := hB3.out.trans (HB.out.mono hB3.out.size)
      generalize shT r = ts at KN HSH
      obtain ⟨t1, t2⟩ := ts
      simp only at KN HSH
      go_wp2_with fail
      refine KN.out.mono ?_
      rintro e w4 ⟨rfl, hb4⟩
      have cc := two_new w4 t1 t2
      have B4 := hbW.trans (hb4.mono hbW.size)
      obtain ⟨o, ho⟩ : ∃ o, o = Obj.cells #[.int .i64 t1, .int .i64 t2] 49 := ⟨_, rfl⟩
      have B5 := B4.alloc B4.size o
      have HW5 := (HW.out.below hb4).new o
      have KL := hid (wwlen_any HW5)
      have KD := hid (wwdue_any HW5 (now := a1))
      rw [HDN.out] at KD
      rw [← HRL.out] at KL
      rw [ho] at B5 KL KD
      obtain ⟨x0, x1⟩ := cc
      have hsum : ((k : Int) + (rl : Int) == (Ll : Int)) = true := by rw [beq_iff_eq]; omega
      clear ho HW5 B4 hb4 KN hbW HW HT HB HT3 HW3
      by_cases hr0 : rl = 0
      · subst hr0
        go_wp2_with (first
          | (go_at_call 22; refine KL.out.mono ?_; rintro e wx ⟨rfl, hwx⟩; rw [hwx])
          | (go_at_call 18; refine KD.out.mono ?_; rintro e w6 ⟨va6, rfl, ho6, hw6, hf6⟩; obtain ⟨oa6, oc6, hva6⟩ := ho6.form; simp only [List.length_nil] at hva6; subst hva6; have B6 := hid (B5.trans hf6.below); clear ho6 hw6 hf6)
          | (go_at_call 20; refine (awake9_any _).mono ?_; rintro e w9 ⟨rfl, hw9⟩))
        go_ret
        exact ⟨rfl, B6.out.trans (hw9.mono B6.out.size)⟩
      · have hp : decide (0 < rl) = true := decide_eq_true (by omega)
        have hgt : decide (a1 < t1) = true := decide_eq_true (HSH.out (by omega))
        go_wp2_with (first
          | (go_at_call 22; refine KL.out.mono ?_; rintro e wx ⟨rfl, hwx⟩; rw [hwx])
          | (go_at_call 18; refine KD.out.mono ?_; rintro e w6 ⟨va6, rfl, ho6, hw6, hf6⟩; obtain ⟨oa6, oc6, hva6⟩ := ho6.form; simp only [List.length_nil] at hva6; subst hva6; have B6 := hid (B5.trans hf6.below); clear ho6 hw6 hf6)
          | (go_at_call 20; refine (awake9_any _).mono ?_; rintro e w9 ⟨rfl, hw9⟩))
        go_ret
        exact ⟨rfl, B6.out.trans (hw9.mono B6.out.size)⟩
end Go.Proofs.Ythioekmlljpbpaa.wheelOrder
