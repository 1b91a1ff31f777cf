/-
  The contract of the document's own Check of layer 6.
-/
import Derived.Test.YtagopboofmjnfaaDoorRFirst
namespace Go.Proofs.YtagopboofmjnfaaDoor
open Go.RowKit Go.Sort Sc
set_option linter.unusedVariables false
set_option maxRecDepth 20000

theorem and4_true : ∀ a b c d : Bool, true = (a && (b && (!c && d))) → a = true ∧ b = true ∧ c = false ∧ d = true := by decide
theorem and4_false : ∀ a b c d : Bool, false = (a && (b && (!c && d))) → a = false ∨ (a = true ∧ b = false) ∨ (a = true ∧ b = true ∧ c = true) ∨ (a = true ∧ b = true ∧ c = false ∧ d = false) := by decide

set_option maxHeartbeats 2000000 in
set_option maxRecDepth 100000 in
theorem rcheck_any (m : Ms) (h : Value) (w : World) (hsm : SmallM 140737488355328 m) (hat : HdrsAt w h m.headers) :
    Calls Tryd.prog 14 #[msgV m h] w fun e w' => e = .returned (.int .i64 (checkM m)) ∧ Below w.heap.size w w' := by
  obtain ⟨ao, cap, rfl, hcell⟩ := hat.get
  have HC := hid hcell
  have KS := hid (fun w' => rfirst_any m ao m.headers.length cap w' hsm)
  have c1 := hid (@checkM_1 m)
  have c2 := hid (@checkM_2 m)
  have c3 := hid (@checkM_3 m)
  have c4 := hid (@checkM_4 m)
  have HSM := hid hsm.2.2.2.2.2
  have HBX := hid (boxM_new w m (.slice ao m.headers.length cap))
  have hb0 : Below w.heap.size w (w.alloc (objM m (.slice ao m.headers.length cap))) := (Below.refl _ w).alloc (Nat.le_refl _) _
  have hlt := alloc_lt w (objM m (.slice ao m.headers.length cap))
  clear hsm hat hcell
  obtain ⟨me, ta, st, re, hs, bo⟩ := m
  unfold msgV at KS ⊢
  unfold objM at HBX hb0 hlt
  simp only at HC KS c1 c2 c3 c4 HSM HBX hb0 hlt ⊢
  generalize checkM _ = r at c1 c2 c3 c4 ⊢
  generalize firstB _ = fb at KS c1 c2 c3 c4
  obtain ⟨n, hn⟩ : ∃ n, n = hs.length := ⟨_, rfl⟩
  rw [← hn] at HBX hb0 hlt KS c2 c3 c4 ⊢
  have HN := hid hn
  clear hn
  obtain ⟨x0, x1, x2, x3, x4, x5⟩ := HBX.out
  simp only at x0 x1 x2 x3 x4 x5
  go_enter Tryd.func14, Tryd.ntmps14
  go_wp2_with fail
  refine (KS.out _).mono ?_
  rintro e w1 ⟨rfl, hw1⟩
  have HB1 := hid (BoxM.below HBX.out hw1 hlt)
  have hb1 := hb0.trans (hw1.mono hb0.size)
  have hlt1 := Nat.lt_of_lt_of_le hlt hw1.size
  clear HBX hw1 hb0 hlt x0 x1 x2 x3 x4 x5 KS
  obtain ⟨x0, x1, x2, x3, x4, x5⟩ := HB1.out
  simp only at x0 x1 x2 x3 x4 x5
  cases fb with
  | false =>
    have hv := hid (c1.out rfl)
    go_wp2
    go_ret
    exact ⟨ret_int hv.out.symm, hb1⟩
  | true =>
    by_cases h64 : 64 < n
    · have h64' : (64 : Int) < (n : Int) := by omega
      have hv := hid (c2.out rfl h64)
      go_wp2
      go_ret
      exact ⟨ret_int hv.out.symm, hb1⟩
    · have h64' : ¬ ((64 : Int) < (n : Int)) := by omega
      have C3 := hid (c3.out rfl h64)
      have C4 := hid (c4.out rfl h64)
      clear c1 c2 c3 c4
      go_wp2
      go_loopw [3] (fun i wr => ∃ k : Nat, k ≤ n ∧ i = .int .i64 k ∧ Hid ((hs.take k).all hdrB = true) ∧ Below w1.heap.size w1 wr) (fun i _ => n - (intOf i).toNat)
      case atStart => exact ⟨0, Nat.zero_le _, rfl, hid (by simp), Below.refl _ _⟩
      case round =>
        clear x0 x1 x2 x3 x4 x5
        obtain ⟨k, hk, rfl, hall, hb⟩ := hrel
        obtain ⟨x0, x1, x2, x3, x4, x5⟩ := BoxM.below HB1.out hb hlt1
        simp only at x0 x1 x2 x3 x4 x5
        by_cases hlt2 : k < n
        · have hkl : k < hs.length := by have := HN.out; omega
          obtain ⟨a, ha, hab, h0, h1⟩ := HC.out k hkl
          have hbw : Below w.heap.size w wr := hb1.trans (hb.mono hb1.size)
          have d0 := cell_below hbw (by rw [add_block]; exact hab) h0
          have d1 := cell_below hbw (by simp only [add_block]; exact hab) h1
          have hss := HSM.out _ (List.getElem_mem hkl)
          have hbad := hid (@hdrs_bad hs k hkl)
          have hmore := hid (@hdrs_more hs k hkl hall.out)
          clear hab h0 h1 hall HC HSM
          subst ha
          generalize hs[k] = x at d0 d1 hss hbad hmore
          obtain ⟨nm, vl⟩ := x
          simp only at d0 d1 hss
          obtain ⟨y0, y1⟩ := boxH_new wr ⟨nm, vl⟩
          have hbA := (Below.refl _ wr).alloc (Nat.le_refl _) (objH ⟨nm, vl⟩)
          unfold objH at y0 y1 hbA
          simp only at y0 y1 hbA
          have hm : hdrB ⟨nm, vl⟩ = (tokenB nm && (longV nm == nm && (!lengthB nm && valB vl))) := rfl
          have cT := hid (fun (W : World) (d : Nat) (os : Array Obj) => Calls.regrown_of (rtok_below nm (grow (redrawn W d) os) hss.1))
          have cL := hid (fun (W : World) (d : Nat) (os : Array Obj) => Calls.regrown_of (rlong_list nm (grow (redrawn W d) os) hss.1))
          have cN := hid (fun (W : World) (d : Nat) (os : Array Obj) => Calls.regrown_of (rlength_list nm (grow (redrawn W d) os) hss.1))
          have cV := hid (fun (W : World) (d : Nat) (os : Array Obj) => Calls.regrown_of (rvalue_below vl (grow (redrawn W d) os) hss.2))
          replace y0 := cell_regrown y0
          replace y1 := cell_regrown y1
          have hbw2 := hbw.trans (hbA.mono hbw.size)
          have hb2 := hb.trans (hbA.mono hb.size)
          generalize hdrB ⟨nm, vl⟩ = hbb at hm hbad hmore
          generalize longV nm = q at cL hm
          generalize lengthB nm = lb at cN hm
          generalize valB vl = vb at cV hm
          generalize tokenB nm = tb at cT hm
          have hbre := hid (fun dq osq => hbw2.trans ((below_regrown _ dq osq).mono hbw2.size))
          have hbre2 := hid (fun dq osq => hb2.trans ((below_regrown _ dq osq).mono hb2.size))
          clear hbA hbw hb hbw2 hb2 hss
          cases hbb with
          | false =>
            have hv := hid (C3.out (hbad.out rfl))
            clear C3 C4 hbad hmore hbre2
            have hq2 : (q != nm) = !(q == nm) := rfl
            rcases and4_false _ _ _ _ hm with h1 | ⟨h1, hq⟩ | ⟨h1, hq, h2⟩ | ⟨h1, hq, h2, h3⟩
            · subst h1
              clear hm hq2
              go_wp2
              refine wp_region_quiet_below followsF (by kernel_rfl) ?_
              repeat (go_big_quiet_step (first | with_reducible exact cT.out _ _ _ | with_reducible exact cL.out _ _ _ | with_reducible exact cN.out _ _ _ | with_reducible exact cV.out _ _ _))
              refine wpQuiet_nil ?_
              intro _ hw'
              obtain ⟨⟨dq, osq⟩, hw''⟩ := hw'
              subst hw''
              go_wp2
              go_ret
              exact ⟨ret_int hv.out.symm, hbre.out dq osq⟩
            all_goals (
              subst h1
              (try subst h2)
              (try subst h3)
              rw [hq] at hq2
              simp only [Bool.not_true, Bool.not_false] at hq2
              clear hm
              go_wp2
              refine wp_region_quiet_below followsF (by kernel_rfl) ?_
              repeat (go_big_quiet_step (first | with_reducible exact cT.out _ _ _ | with_reducible exact cL.out _ _ _ | with_reducible exact cN.out _ _ _ | with_reducible exact cV.out _ _ _))
              refine wpQuiet_nil ?_
              intro _ hw'
              obtain ⟨⟨dq, osq⟩, hw''⟩ := hw'
              subst hw''
              go_wp2
              go_ret
              exact ⟨ret_int hv.out.symm, hbre.out dq osq⟩)
          | true =>
            have hnx := hid (hmore.out rfl)
            obtain ⟨rfl, hq, rfl, rfl⟩ := and4_true _ _ _ _ hm
            have hq2 : (q != nm) = false := by rw [bne, hq]; rfl
            clear hbad hmore hm hbre
            go_wp2
            refine wp_region_quiet_below followsF (by kernel_rfl) ?_
            repeat (go_big_quiet_step (first | with_reducible exact cT.out _ _ _ | with_reducible exact cL.out _ _ _ | with_reducible exact cN.out _ _ _ | with_reducible exact cV.out _ _ _))
            refine wpQuiet_nil ?_
            intro _ hw'
            obtain ⟨⟨dq, osq⟩, hw''⟩ := hw'
            subst hw''
            go_wp2
            go_roundw
            case rel => exact ⟨k + 1, by omega, by go_num, hnx, hbre2.out dq osq⟩
            case measure => simp [intOf]; omega
        · have hv := hid (C4.out (by have h := hall.out; rw [List.take_of_length_le (by have := HN.out; omega)] at h; exact h))
          clear C3 C4 hall
          go_wp2
          go_ret
          exact ⟨ret_int hv.out.symm, hb1.trans (hb.mono hb1.size)⟩

end Go.Proofs.YtagopboofmjnfaaDoor
