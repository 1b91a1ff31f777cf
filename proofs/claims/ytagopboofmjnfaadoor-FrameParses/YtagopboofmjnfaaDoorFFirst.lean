/-
  Contracts: package frame's startMayBe, Check.
-/
import Derived.Test.YtagopboofmjnfaaDoorFCheck
namespace Go.Proofs.YtagopboofmjnfaaDoor
open Go.RowKit Go.Sort Sc
set_option linter.unusedVariables false
set_option maxRecDepth 20000

set_option maxHeartbeats 2000000 in
set_option maxRecDepth 100000 in
theorem fstart_any (m : Ms) (ao : Option Addr) (hn hc : Nat) (w : World) (hsm : SmallM 140737488355328 m) :
    Calls Tryd.prog 30 #[msgV m (.slice ao hn hc)] w fun e w' => e = .returned (.bool (firstB m)) ∧ Below w.heap.size w w' := by
  have KV := hid (fun w' => fvalue_list m.reason w' hsm.2.2.1)
  have KG := hid (fun w' => ftarget_list m.target w' hsm.2.1)
  have KT := hid (fun w' => token_list m.method w' hsm.1)
  have f1 := @first_resp m
  have f2 := @first_req m
  have HBX := hid (boxM_new w m (.slice ao hn hc))
  have hb0 : Below w.heap.size w (w.alloc (objM m (.slice ao hn hc))) := (Below.refl _ w).alloc (Nat.le_refl _) _
  have hlt := alloc_lt w (objM m (.slice ao hn hc))
  clear hsm
  obtain ⟨me, ta, st, re, hs, bo⟩ := m
  unfold msgV
  unfold objM at HBX hb0 hlt
  simp only at KV KG KT f1 f2 HBX hb0 hlt ⊢
  generalize firstB _ = r at f1 f2 ⊢
  obtain ⟨x0, x1, x2, x3, x4, x5⟩ := HBX.out
  simp only at x0 x1 x2 x3 x4 x5
  cases he : me.isEmpty with
  | true =>
    have hf := f1 he
    clear f1 f2 KG KT
    by_cases h1 : 100 ≤ st
    · by_cases h2 : st ≤ 699
      · have HM : Hid (r = (valB re && ta.isEmpty)) := show _ = _ by rw [hf]; simp [h1, h2]
        clear hf
        generalize valB re = vb at KV HM
        go_enter Tryd.func30, Tryd.ntmps30
        go_wp2_with fail
        refine (KV.out _).mono ?_
        rintro e w1 ⟨rfl, hw1⟩
        have HB1 := hid (BoxM.below HBX.out hw1 hlt)
        have hb1 := hb0.trans (hw1.mono hb0.size)
        clear HBX hw1 hb0 hlt x0 x1 x2 x3 x4 x5 KV
        obtain ⟨x0, x1, x2, x3, x4, x5⟩ := HB1.out
        simp only at x0 x1 x2 x3 x4 x5
        cases vb
        all_goals (
          go_wp2
          go_ret
          exact ⟨ret_bool (by rw [HM.out]; simp), hb1⟩)
      · have HM : Hid (r = false) := show _ = _ by rw [hf]; simp [h2]
        clear hf
        go_enter Tryd.func30, Tryd.ntmps30
        go_wp2
        go_ret
        exact ⟨ret_bool HM.out.symm, hb0⟩
    · have HM : Hid (r = false) := show _ = _ by rw [hf]; simp [h1]
      clear hf
      go_enter Tryd.func30, Tryd.ntmps30
      go_wp2
      go_ret
      exact ⟨ret_bool HM.out.symm, hb0⟩
  | false =>
    have hf := f2 he
    clear f1 f2 KV
    generalize tokenB me = tb at KT hf
    generalize tgtB ta = gb at KG hf
    cases tb with
    | false =>
      have HM : Hid (r = false) := show _ = _ by rw [hf]; rfl
      clear hf
      go_enter Tryd.func30, Tryd.ntmps30
      go_wp2_with fail
      refine (KT.out _).mono ?_
      rintro e w1 ⟨rfl, rfl⟩
      go_wp2
      go_ret
      exact ⟨ret_bool HM.out.symm, hb0⟩
    | true =>
      have HM : Hid (r = (gb && (decide (st = 0) && re.isEmpty))) := show _ = _ by rw [hf]; rfl
      clear hf
      go_enter Tryd.func30, Tryd.ntmps30
      go_wp2_with fail
      refine (KT.out _).mono ?_
      rintro e w1 ⟨rfl, rfl⟩
      go_wp2_with fail
      refine (KG.out _).mono ?_
      rintro e w1 ⟨rfl, hw1⟩
      have HB1 := hid (BoxM.below HBX.out hw1 hlt)
      have hb1 := hb0.trans (hw1.mono hb0.size)
      clear HBX hw1 hb0 hlt x0 x1 x2 x3 x4 x5 KG KT
      obtain ⟨x0, x1, x2, x3, x4, x5⟩ := HB1.out
      simp only at x0 x1 x2 x3 x4 x5
      cases gb with
      | false =>
        go_wp2
        go_ret
        exact ⟨ret_bool (by rw [HM.out]; rfl), hb1⟩
      | true =>
        by_cases h0 : st = 0
        · have e0 : (st == 0) = true := by simpa using h0
          have HM2 : Hid (r = re.isEmpty) := show _ = _ by rw [HM.out]; simp [h0]
          subst h0
          clear HM
          go_wp2
          go_ret
          exact ⟨ret_bool HM2.out.symm, hb1⟩
        · have e0 : (st == 0) = false := by simpa using h0
          have HM2 : Hid (r = false) := show _ = _ by rw [HM.out]; simp [h0]
          clear HM h0
          go_wp2
          go_ret
          exact ⟨ret_bool HM2.out.symm, hb1⟩

theorem checkM_1 {m : Ms} (h : firstB m = false) : checkM m = 60 := by rw [checkM, if_pos h]
theorem checkM_2 {m : Ms} (h : firstB m = true) (h2 : 64 < m.headers.length) : checkM m = 4 := by rw [checkM, if_neg (by simp [h]), if_pos h2]
theorem checkM_3 {m : Ms} (h : firstB m = true) (h2 : ¬ 64 < m.headers.length) (h3 : m.headers.all hdrB = false) : checkM m = 61 := by rw [checkM, if_neg (by simp [h]), if_neg h2, if_pos h3]
theorem checkM_4 {m : Ms} (h : firstB m = true) (h2 : ¬ 64 < m.headers.length) (h3 : m.headers.all hdrB = true) : checkM m = 0 := by rw [checkM, if_neg (by simp [h]), if_neg h2, if_neg (by simp [h3])]
theorem hdrs_bad {hs : List Hdr} {k : Nat} (hk : k < hs.length) (h : hdrB hs[k] = false) : hs.all hdrB = false := by
  rw [List.all_eq_false]; exact ⟨hs[k], List.getElem_mem hk, by rw [h]; simp⟩
theorem hdrs_more {hs : List Hdr} {k : Nat} (hk : k < hs.length) (h : (hs.take k).all hdrB = true) (h2 : hdrB hs[k] = true) : (hs.take (k + 1)).all hdrB = true := by
  rw [List.take_succ_eq_append_getElem hk, List.all_append, h]; simp [h2]
theorem HdrsAt.get {w : World} {v : Value} {hs : List Hdr} (h : HdrsAt w v hs) : ∃ (ao : Option Addr) (cap : Nat), v = .slice ao hs.length cap ∧ ∀ k (hk : k < hs.length), ∃ a, ao = some a ∧ a.block < w.heap.size ∧ HdrAt w a k hs[k] := by
  rcases h with ⟨rfl, rfl⟩ | ⟨a, cap, rfl, _, hc⟩
  · exact ⟨none, 0, rfl, fun k hk => by simp at hk⟩
  · exact ⟨some a, cap, rfl, fun k hk => ⟨a, rfl, (hc k hk).1, (hc k hk).2⟩⟩

set_option maxHeartbeats 2000000 in
set_option maxRecDepth 100000 in
theorem fcheck_any (m : Ms) (h : Value) (w : World) (hsm : SmallM 140737488355328 m) (hat : HdrsAt w h m.headers) :
    Calls Tryd.prog 13 #[msgV m h] w fun e w' => e = .returned (.int .i64 (checkM m)) ∧ Below w.heap.size w w' := by
  obtain ⟨ao, cap, rfl, hcell⟩ := hat.get
  have HC := hid hcell
  have KS := hid (fun w' => fstart_any m ao m.headers.length cap w' hsm)
  have c1 := hid (@checkM_1 m)
  have c2 := hid (@checkM_2 m)
  have c3 := hid (@checkM_3 m)
  have c4 := hid (@checkM_4 m)
  have HSM := hid hsm.2.2.2.2.2
  have HBX := hid (boxM_new w m (.slice ao m.headers.length cap))
  have hb0 : Below w.heap.size w (w.alloc (objM m (.slice ao m.headers.length cap))) := (Below.refl _ w).alloc (Nat.le_refl _) _
  have hlt := alloc_lt w (objM m (.slice ao m.headers.length cap))
  clear hsm hat hcell
  obtain ⟨me, ta, st, re, hs, bo⟩ := m
  unfold msgV at KS ⊢
  unfold objM at HBX hb0 hlt
  simp only at HC KS c1 c2 c3 c4 HSM HBX hb0 hlt ⊢
  generalize checkM _ = r at c1 c2 c3 c4 ⊢
  generalize firstB _ = fb at KS c1 c2 c3 c4
  obtain ⟨n, hn⟩ : ∃ n, n = hs.length := ⟨_, rfl⟩
  rw [← hn] at HBX hb0 hlt KS c2 c3 c4 ⊢
  have HN := hid hn
  clear hn
  obtain ⟨x0, x1, x2, x3, x4, x5⟩ := HBX.out
  simp only at x0 x1 x2 x3 x4 x5
  go_enter Tryd.func13, Tryd.ntmps13
  go_wp2_with fail
  refine (KS.out _).mono ?_
  rintro e w1 ⟨rfl, hw1⟩
  have HB1 := hid (BoxM.below HBX.out hw1 hlt)
  have hb1 := hb0.trans (hw1.mono hb0.size)
  have hlt1 := Nat.lt_of_lt_of_le hlt hw1.size
  clear HBX hw1 hb0 hlt x0 x1 x2 x3 x4 x5 KS
  obtain ⟨x0, x1, x2, x3, x4, x5⟩ := HB1.out
  simp only at x0 x1 x2 x3 x4 x5
  cases fb with
  | false =>
    have hv := hid (c1.out rfl)
    go_wp2
    go_ret
    exact ⟨ret_int hv.out.symm, hb1⟩
  | true =>
    by_cases h64 : 64 < n
    · have h64' : (64 : Int) < (n : Int) := by omega
      have hv := hid (c2.out rfl h64)
      go_wp2
      go_ret
      exact ⟨ret_int hv.out.symm, hb1⟩
    · have h64' : ¬ ((64 : Int) < (n : Int)) := by omega
      have C3 := hid (c3.out rfl h64)
      have C4 := hid (c4.out rfl h64)
      clear c1 c2 c3 c4
      go_wp2
      go_loopw [15] (fun i wr => ∃ k : Nat, k ≤ n ∧ i = .int .i64 k ∧ Hid ((hs.take k).all hdrB = true) ∧ Below w1.heap.size w1 wr) (fun i _ => n - (intOf i).toNat)
      case atStart => exact ⟨0, Nat.zero_le _, rfl, hid (by simp), Below.refl _ _⟩
      case round =>
        clear x0 x1 x2 x3 x4 x5 HB1
        obtain ⟨k, hk, rfl, hall, hb⟩ := hrel
        by_cases hlt2 : k < n
        · have hkl : k < hs.length := by have := HN.out; omega
          obtain ⟨a, ha, hab, h0, h1⟩ := HC.out k hkl
          have hbw : Below w.heap.size w wr := hb1.trans (hb.mono hb1.size)
          have d0 := cell_below hbw (by rw [add_block]; exact hab) h0
          have d1 := cell_below hbw (by simp only [add_block]; exact hab) h1
          have hss := HSM.out _ (List.getElem_mem hkl)
          have KH := hid (fun w' => hmay_any hs[k] w' hss.1 hss.2)
          have hbad := hid (@hdrs_bad hs k hkl)
          have hmore := hid (@hdrs_more hs k hkl hall.out)
          clear hab h0 h1 hall HC HSM
          subst ha
          generalize hs[k] = x at d0 d1 hss KH hbad hmore
          obtain ⟨nm, vl⟩ := x
          unfold hdrV at KH
          simp only at d0 d1 hss KH
          have hbA := (Below.refl _ wr).alloc (Nat.le_refl _) (.cells #[.string ⟨nm.toArray⟩, .string ⟨vl.toArray⟩] 51)
          generalize hdrB ⟨nm, vl⟩ = hb2 at KH hbad hmore
          cases hb2 with
          | false =>
            have hv := hid (C3.out (hbad.out rfl))
            clear C3 C4 hbad hmore
            go_wp2_with fail
            refine (KH.out _).mono ?_
            rintro e w2 ⟨rfl, hw2⟩
            go_wp2
            go_ret
            exact ⟨ret_int hv.out.symm, hbw.trans ((hbA.trans (hw2.mono hbA.size)).mono hbw.size)⟩
          | true =>
            have hnx := hid (hmore.out rfl)
            clear hbad hmore
            go_wp2_with fail
            refine (KH.out _).mono ?_
            rintro e w2 ⟨rfl, hw2⟩
            have hb3 := hb.trans ((hbA.trans (hw2.mono hbA.size)).mono hb.size)
            go_wp2
            go_roundw
            case rel => exact ⟨k + 1, by omega, by go_num, hnx, hb3⟩
            case measure => simp [intOf]; omega
        · have hv := hid (C4.out (by have h := hall.out; rw [List.take_of_length_le (by have := HN.out; omega)] at h; exact h))
          clear C3 C4 hall
          go_wp2
          go_ret
          exact ⟨ret_int hv.out.symm, hb1.trans (hb.mono hb1.size)⟩

end Go.Proofs.YtagopboofmjnfaaDoor
