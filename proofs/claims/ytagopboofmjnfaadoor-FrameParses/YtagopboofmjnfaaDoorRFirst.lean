/-
  Contracts: the document's own first, Check of layer 6.
-/
import Derived.Test.YtagopboofmjnfaaDoorFFirst
namespace Go.Proofs.YtagopboofmjnfaaDoor
open Go.RowKit Go.Sort Sc
set_option linter.unusedVariables false
set_option maxRecDepth 20000

theorem rtok_below (l : List UInt8) (w : World) (h : l.length ≤ 140737488355328) :
    Calls Tryd.prog 33 #[.string ⟨l.toArray⟩] w fun e w' => e = .returned (.bool (tokenB l)) ∧ Below w.heap.size w w' := (reftoken_list l w h).mono fun _ _ ⟨h1, h2⟩ => ⟨h1, by rw [h2]; exact Below.refl _ _⟩
theorem rvalue_below (l : List UInt8) (w : World) (h : l.length ≤ 140737488355328) :
    Calls Tryd.prog 35 #[.string ⟨l.toArray⟩] w fun e w' => e = .returned (.bool (valB l)) ∧ Below w.heap.size w w' := (rvalue_list l w h).mono fun _ _ ⟨h1, h2⟩ => ⟨h1, by rw [h2]; exact Below.refl _ _⟩
theorem first_resp2 {m : Ms} (h : m.method.isEmpty = true) : firstB m = (m.target.isEmpty && (decide (100 ≤ m.status ∧ m.status ≤ 699) && valB m.reason)) := by
  unfold firstB; rw [if_pos (by simpa using h)]
theorem first_req2 {m : Ms} (h : m.method.isEmpty = false) : firstB m = (m.target.all (fun b => !blk b) && (tokenB m.method && (!m.target.isEmpty && (visB m.target && (decide (m.status = 0) && m.reason.isEmpty))))) := by
  unfold firstB; rw [if_neg (by intro e; rw [e] at h; cases h)]

set_option maxHeartbeats 2000000 in
set_option maxRecDepth 100000 in
theorem rfirst_any (m : Ms) (ao : Option Addr) (hn hc : Nat) (w : World) (hsm : SmallM 140737488355328 m) :
    Calls Tryd.prog 32 #[msgV m (.slice ao hn hc)] w fun e w' => e = .returned (.bool (firstB m)) ∧ Below w.heap.size w w' := by
  have KV := hid (fun w' => rvalue_list m.reason w' hsm.2.2.1)
  have KS := hid (fun w' => rvisible_list m.target w' hsm.2.1)
  have KT := hid (fun w' => reftoken_list m.method w' hsm.1)
  have htl := hsm.2.1
  have f1 := @first_resp2 m
  have f2 := @first_req2 m
  have HBX := hid (boxM_new w m (.slice ao hn hc))
  have hb0 : Below w.heap.size w (w.alloc (objM m (.slice ao hn hc))) := (Below.refl _ w).alloc (Nat.le_refl _) _
  clear hsm
  obtain ⟨me, ta, st, re, hs, bo⟩ := m
  unfold msgV
  unfold objM at HBX hb0
  simp only at KV KS KT f1 f2 HBX hb0 htl ⊢
  generalize firstB _ = r at f1 f2 ⊢
  obtain ⟨x0, x1, x2, x3, x4, x5⟩ := HBX.out
  simp only at x0 x1 x2 x3 x4 x5
  cases he : me.isEmpty with
  | true =>
    have hf := f1 he
    clear f1 f2 KS KT
    cases ht : ta.isEmpty with
    | false =>
      have HM : Hid (r = false) := show _ = _ by rw [hf, ht]; rfl
      clear hf
      go_enter Tryd.func32, Tryd.ntmps32
      go_wp2
      go_ret
      exact ⟨ret_bool HM.out.symm, hb0⟩
    | true =>
      by_cases h1 : 100 ≤ st
      · by_cases h2 : st ≤ 699
        · have HM : Hid (r = valB re) := show _ = _ by rw [hf, ht]; simp [h1, h2]
          clear hf
          generalize valB re = vb at KV HM
          go_enter Tryd.func32, Tryd.ntmps32
          go_wp2_with fail
          refine (KV.out _).mono ?_
          rintro e w1 ⟨rfl, rfl⟩
          go_wp2
          go_ret
          exact ⟨ret_bool (by rw [HM.out]), hb0⟩
        · have HM : Hid (r = false) := show _ = _ by rw [hf]; simp [h2]
          clear hf
          go_enter Tryd.func32, Tryd.ntmps32
          go_wp2
          go_ret
          exact ⟨ret_bool HM.out.symm, hb0⟩
      · have HM : Hid (r = false) := show _ = _ by rw [hf]; simp [h1]
        clear hf
        go_enter Tryd.func32, Tryd.ntmps32
        go_wp2
        go_ret
        exact ⟨ret_bool HM.out.symm, hb0⟩
  | false =>
    have hf := f2 he
    clear f1 f2 KV HBX
    have hie : ta.isEmpty = decide ((⟨ta.toArray⟩ : ByteArray).size = 0) := by rw [size_list]; cases ta <;> simp
    have hts : (⟨ta.toArray⟩ : ByteArray).size = ta.length := size_list ta
    obtain ⟨s, hs2⟩ : ∃ s : ByteArray, s = ⟨ta.toArray⟩ := ⟨_, rfl⟩
    have hd : s.data.toList = ta := by rw [hs2]
    rw [← hs2] at hie hts KS x1 hb0 ⊢
    rw [← hd] at hf
    have HF := hid hf
    have HS : Hid (s.size ≤ 140737488355328) := by show _ ≤ _; omega
    have HD := hid hd
    clear hf hs2 hd hts htl
    have HIE := hid hie
    clear hie
    have hss := HS.out
    go_enter Tryd.func32, Tryd.ntmps32
    go_wp2
    go_loop [3] (fun i => ∃ k : Nat, k ≤ s.size ∧ i = .int .i64 k ∧ Hid ((s.data.toList.take k).all (fun b => !blk b) = true)) (fun i => s.size - (intOf i).toNat)
    case atStart => exact ⟨0, Nat.zero_le _, rfl, hid (by simp)⟩
    case round =>
      obtain ⟨k, hk, rfl, hall⟩ := hrel
      by_cases hlt : k < s.size
      · have hbd := u8_bd s[k]
        by_cases hb : blk s[k] = true
        · have hb' : (cls s[k].toNat == 32) = true := by rw [← blk_cls]; exact hb
          have HM : Hid (r = false) := show _ = _ by
            rw [HF.out]
            have : s.data.toList.all (fun b => !blk b) = false := by
              rw [List.all_eq_false]; exact ⟨s[k], by rw [split_at s k hlt]; simp, by rw [hb]; simp⟩
            rw [this]; rfl
          clear hb hall HF
          go_wp2_with (go_at_call 60; refine (refclass_any _ _ hbd.1 hbd.2).mono ?_; rintro e w' ⟨rfl, rfl⟩)
          go_ret
          exact ⟨ret_bool HM.out.symm, hb0⟩
        · have hb' : (cls s[k].toNat == 32) = false := by rw [← blk_cls]; simpa using hb
          have hnx : Hid ((s.data.toList.take (k + 1)).all (fun b => !blk b) = true) := show _ = _ by
            rw [take_snoc s k hlt, List.all_append, hall.out]; simp; simpa using hb
          clear hb hall
          go_wp2_with (go_at_call 60; refine (refclass_any _ _ hbd.1 hbd.2).mono ?_; rintro e w' ⟨rfl, rfl⟩)
          go_round
          case rel => exact ⟨k + 1, by omega, by go_num, hnx⟩
          case measure => simp [intOf]; omega
      · have hf : r = (tokenB me && (!ta.isEmpty && (visB ta && (decide (st = 0) && re.isEmpty)))) := by
          have h := hall.out
          rw [take_all s k (by omega)] at h
          rw [HF.out, h, HD.out]; rfl
        have HE : Hid (ta.isEmpty = s.toList.isEmpty) := show _ = _ by rw [ByteArray.toList_eq, HD.out]
        rw [HE.out] at hf
        clear HF hall HIE HE HD
        generalize tokenB me = tb at KT hf
        generalize visB ta = vb at KS hf
        cases tb with
        | false =>
          have HM : Hid (r = false) := show _ = _ by rw [hf]; rfl
          clear hf
          go_wp2_with fail
          refine (KT.out _).mono ?_
          rintro e w1 ⟨rfl, rfl⟩
          go_wp2
          go_ret
          exact ⟨ret_bool HM.out.symm, hb0⟩
        | true =>
          cases hte : s.toList.isEmpty with
          | true =>
            have HM : Hid (r = false) := show _ = _ by rw [hf, hte]; rfl
            clear hf
            go_wp2_with fail
            refine (KT.out _).mono ?_
            rintro e w1 ⟨rfl, rfl⟩
            go_wp2
            go_ret
            exact ⟨ret_bool HM.out.symm, hb0⟩
          | false =>
            have HM : Hid (r = (vb && (decide (st = 0) && re.isEmpty))) := show _ = _ by rw [hf, hte]; rfl
            clear hf
            go_wp2_with fail
            refine (KT.out _).mono ?_
            rintro e w1 ⟨rfl, rfl⟩
            go_wp2_with fail
            refine (KS.out _).mono ?_
            rintro e w1 ⟨rfl, rfl⟩
            cases vb with
            | false =>
              go_wp2
              go_ret
              exact ⟨ret_bool (by rw [HM.out]; rfl), hb0⟩
            | true =>
              by_cases h0 : st = 0
              · have HM2 : Hid (r = re.isEmpty) := show _ = _ by rw [HM.out]; simp [h0]
                subst h0
                clear HM
                go_wp2
                go_ret
                exact ⟨ret_bool HM2.out.symm, hb0⟩
              · have e0 : (st == 0) = false := by simpa using h0
                have HM2 : Hid (r = false) := show _ = _ by rw [HM.out]; simp [h0]
                clear HM h0
                go_wp2
                go_ret
                exact ⟨ret_bool HM2.out.symm, hb0⟩

end Go.Proofs.YtagopboofmjnfaaDoor
