/-
  Contracts of package uri: Scheme, label, numbered, Host.
-/
import Derived.Test.YtfdcklekjnihjaaDoorStrSplit
import Derived.Test.YtfdcklekjnihjaaDoorRefHost
namespace Go.Proofs.YtfdcklekjnihjaaDoor
open Go.RowKit Sc
set_option linter.unusedVariables false
set_option maxRecDepth 20000

set_option maxHeartbeats 400000 in
theorem scheme_any (s : ByteArray) (w : World) :
    Calls Tryd.prog 11 #[.string s] w fun e w' => e = .returned (.bool (schemeB s.data.toList)) ∧ w' = w := by
  have hb : schemeB s.data.toList = (s.toList == [115, 105, 112] || (s.toList == [115, 105, 112, 115] || s.toList == [112, 114, 101, 115])) := by rw [ByteArray.toList_eq]; rfl
  have HB : Hid _ := hb; clear hb
  cases h1 : (s.toList == [115, 105, 112]) <;> cases h2 : (s.toList == [115, 105, 112, 115]) <;> cases h3 : (s.toList == [112, 114, 101, 115])
  all_goals (
    rw [h1, h2, h3] at HB
    go_enter Tryd.func11, Tryd.ntmps11
    go_wp2
    go_ret
    exact ⟨ret_bool HB.out.symm, rfl⟩)
theorem scheme_list (l : List UInt8) (w : World) :
    Calls Tryd.prog 11 #[.string ⟨l.toArray⟩] w fun e w' => e = .returned (.bool (schemeB l)) ∧ w' = w := scheme_any ⟨l.toArray⟩ w

theorem labB_eq (p : List UInt8) : labB p = (decide (1 ≤ p.length) && (allB 64 p && (!startsB 45 p && !endsB 45 p))) := rfl
set_option maxHeartbeats 400000 in
theorem label_any (t : ByteArray) (w : World) (ht : t.size ≤ maxLen) :
    Calls Tryd.prog 31 #[.string t] w fun e w' => e = .returned (.bool (labB t.data.toList)) ∧ w' = w := by
  have hm : t.size ≤ 9223372036854775807 := ht
  have hv := labB_eq t.data.toList
  rw [len_data] at hv
  by_cases hz : t.size = 0
  · have hE := isE_true hz
    have HV : Hid (labB t.data.toList = false) := show _ = _ by rw [hv]; simp [hz]
    clear hv
    go_enter Tryd.func31, Tryd.ntmps31
    go_wp2
    go_ret
    exact ⟨ret_bool HV.out.symm, rfl⟩
  · have hp : 0 < t.size := by omega
    have hE := isE_false hp
    have hd : decide (1 ≤ t.size) = true := decide_eq_true hp
    rw [hd, Bool.true_and] at hv
    cases ha : allB 64 t.data.toList
    · have HV : Hid (labB t.data.toList = false) := show _ = _ by rw [hv, ha]; rfl
      clear hv
      go_enter Tryd.func31, Tryd.ntmps31
      go_wp2_with (go_at_call 53; refine (all_any _ _ _ ht).mono ?_; rintro e w' ⟨rfl, rfl⟩; rw [ha])
      go_ret
      exact ⟨ret_bool HV.out.symm, rfl⟩
    · cases hf : startsB 45 t.data.toList
      · have HV : Hid (labB t.data.toList = !endsB 45 t.data.toList) := show _ = _ by rw [hv, ha, hf]; rfl
        clear hv
        go_enter Tryd.func31, Tryd.ntmps31
        go_wp2_with (first
          | (go_at_call 53; refine (all_any _ _ _ ht).mono ?_; rintro e w' ⟨rfl, rfl⟩; rw [ha])
          | (go_at_call 28; refine (strPrefix_any _ 45 _ rfl).mono ?_; rintro e w' ⟨rfl, rfl⟩; rw [hf])
          | (go_at_call 55; refine (strSuffix_any _ 45 _ rfl hm).mono ?_; rintro e w' ⟨rfl, rfl⟩))
        go_ret
        exact ⟨ret_bool HV.out.symm, rfl⟩
      · have HV : Hid (labB t.data.toList = false) := show _ = _ by rw [hv, ha, hf]; rfl
        clear hv
        go_enter Tryd.func31, Tryd.ntmps31
        go_wp2_with (first
          | (go_at_call 53; refine (all_any _ _ _ ht).mono ?_; rintro e w' ⟨rfl, rfl⟩; rw [ha])
          | (go_at_call 28; refine (strPrefix_any _ 45 _ rfl).mono ?_; rintro e w' ⟨rfl, rfl⟩; rw [hf]))
        go_ret
        exact ⟨ret_bool HV.out.symm, rfl⟩

set_option maxHeartbeats 1000000 in
theorem numbered_any (s : ByteArray) (w : World) (hs : s.size ≤ maxLen) :
    Calls Tryd.prog 29 #[.string s] w fun e w' => e = .returned (.bool (brkB s.data.toList)) ∧ w' = w := by
  have hm : s.size ≤ 9223372036854775807 := hs
  by_cases h4 : 4 ≤ s.size
  · cases he : endsB 93 s.data.toList
    · have HV : Hid (brkB s.data.toList = false) := brk_last rfl (by
        rw [endsB, len_data] at he; simpa using he)
      go_enter Tryd.func29, Tryd.ntmps29
      go_wp2_with (go_at_call 55; refine (strSuffix_any _ 93 _ rfl hm).mono ?_; rintro e w' ⟨rfl, rfl⟩; rw [he])
      go_ret
      exact ⟨ret_bool HV.out.symm, rfl⟩
    · have hla : Hid (s.data.toList.getD (s.size - 1) 0 = 93) := show _ = _ by rw [endsB, len_data] at he; simpa using he
      go_enter Tryd.func29, Tryd.ntmps29
      go_wp2_with (go_at_call 55; refine (strSuffix_any _ 93 _ rfl hm).mono ?_; rintro e w' ⟨rfl, rfl⟩; rw [he])
      go_loop [3, 4] (fun x i => ∃ k n : Nat, 1 ≤ k ∧ k + 1 ≤ s.size ∧ n ≤ k ∧ i = .int .i64 k ∧ x = .int .i64 n ∧ Hid ((mid s.data.toList 1 k).all okc = true) ∧ Hid ((mid s.data.toList 1 k).count 58 = n)) (fun _ i => s.size - (intOf i).toNat)
      case atStart => exact ⟨1, 0, by omega, by omega, by omega, rfl, rfl, show _ = _ by simp [mid], show _ = _ by simp [mid]⟩
      case round =>
        obtain ⟨k, n, hk1, hk, hnk, rfl, rfl, hall, hcnt⟩ := hrel
        by_cases hlt : k + 1 < s.size
        · have hbd := u8_bd s[k]
          have hms := mid_snoc s 1 k hk1 (by omega)
          by_cases h58 : s[k] = 58
          · have e58 : ((s[k].toNat : Int) == 58) = true := by rw [h58]; rfl
            have ha2 : Hid ((mid s.data.toList 1 (k + 1)).all okc = true) := show _ = _ by rw [hms, List.all_append, hall.out, h58]; decide
            have hc2 : Hid ((mid s.data.toList 1 (k + 1)).count 58 = n + 1) := show _ = _ by rw [hms, List.count_append, hcnt.out, h58]; rfl
            clear hms h58 hall hcnt
            go_wp2
            go_round
            case rel => exact ⟨k + 1, n + 1, by omega, by omega, by omega, by go_num, by go_num, ha2, hc2⟩
            case measure => simp [intOf]; omega
          · have e58 : ((s[k].toNat : Int) == 58) = false := u8_ne h58
            have hc2 : Hid ((mid s.data.toList 1 (k + 1)).count 58 = n) := show _ = _ by
              rw [hms, List.count_append, hcnt.out]
              have : List.count 58 [s[k]] = 0 := List.count_eq_zero.2 (by simp; intro e; exact h58 e.symm)
              omega
            by_cases h46 : s[k] = 46
            · have e46 : ((s[k].toNat : Int) != 46) = false := by rw [h46]; rfl
              have ha2 : Hid ((mid s.data.toList 1 (k + 1)).all okc = true) := show _ = _ by rw [hms, List.all_append, hall.out, h46]; decide
              clear hms h58 h46 hall hcnt
              go_wp2
              go_round
              case rel => exact ⟨k + 1, n, by omega, by omega, by omega, by go_num, by go_num, ha2, hc2⟩
              case measure => simp [intOf]; omega
            · have e46 : ((s[k].toNat : Int) != 46) = true := by
                have := u8_ne h46
                simp only [bne, Bool.not_eq_true']; exact this
              by_cases hx : isB s[k].toNat 4 = true
              · have ha2 : Hid ((mid s.data.toList 1 (k + 1)).all okc = true) := show _ = _ by rw [hms, List.all_append, hall.out]; simp [okc, hx]
                have hx2 : (bits BinOp.and IntKind.i64 (cls s[k].toNat) 4 == 0) = false := by simpa [isB] using hx
                clear hms h58 h46 hall hcnt hx
                go_wp2_with (go_at_call 56; refine (class_any _ _ hbd.1 hbd.2).mono ?_; rintro e w' ⟨rfl, rfl⟩)
                go_round
                case rel => exact ⟨k + 1, n, by omega, by omega, by omega, by go_num, by go_num, ha2, hc2⟩
                case measure => simp [intOf]; omega
              · have hx2 : (bits BinOp.and IntKind.i64 (cls s[k].toNat) 4 == 0) = true := by simpa [isB] using hx
                have hbad : Hid (brkB s.data.toList = false) := brk_bad hk1 hlt (by
                  simp only [okc, Bool.or_eq_false_iff, beq_eq_false_iff_ne, ne_eq]
                  exact ⟨h58, h46, by simpa using hx⟩)
                clear hms h58 h46 hall hcnt hx hc2
                go_wp2_with (go_at_call 56; refine (class_any _ _ hbd.1 hbd.2).mono ?_; rintro e w' ⟨rfl, rfl⟩)
                go_ret
                exact ⟨ret_bool hbad.out.symm, rfl⟩
        · have hke : k = s.size - 1 := by omega
          have hend : Hid (brkB s.data.toList = decide (2 ≤ n)) := brk_end h4 hke hall.out hcnt.out (by rw [hke]; exact hla.out)
          clear hall hcnt hla
          go_wp2
          all_goals go_ret
          all_goals exact ⟨ret_bool (by rw [hend.out]; simp; omega), rfl⟩
  · have HV : Hid (brkB s.data.toList = false) := brk_short h4
    go_enter Tryd.func29, Tryd.ntmps29
    go_wp2
    go_ret
    exact ⟨ret_bool HV.out.symm, rfl⟩

theorem host_lab0 {l : List UInt8} (h2 : l.length ≤ 64) (h : (lowL l == l) = true) (hb : startsB 91 l = false) : hostB l = labAll (splitL 46 l) := by
  have hb' : ¬ l.getD 0 0 = 91 := by simpa [startsB] using hb
  cases l with
  | nil => rfl
  | cons x l => exact host_lab (by simp) h2 h hb'
theorem host_brk0 {l : List UInt8} (h2 : l.length ≤ 64) (h : (lowL l == l) = true) (hb : startsB 91 l = true) : hostB l = brkB l := by
  have hb' : l.getD 0 0 = 91 := by simpa [startsB] using hb
  cases l with
  | nil => simp at hb'
  | cons x l => exact host_brk (by simp) h2 h hb'

set_option maxHeartbeats 2000000 in
theorem host_any (s : ByteArray) (w : World) (hs : s.size ≤ 140737488355328) :
    Calls Tryd.prog 13 #[.string s] w fun e w' => e = .returned (.bool (hostB s.data.toList)) ∧ Below w.heap.size w w' := by
  have hl := len_data s
  by_cases h64 : 64 < s.size
  · have hv : Hid (hostB s.data.toList = false) := host_long (by omega)
    clear hl
    go_enter Tryd.func13, Tryd.ntmps13
    go_wp2
    go_ret
    exact ⟨ret_bool hv.out.symm, Below.refl _ _⟩
  have hsm : s.size ≤ maxLen := by unfold maxLen; omega
  cases hlow : (s.data.toList == lowL s.data.toList)
  · have hlq : (s.toList == lowL s.data.toList) = false := by rw [ByteArray.toList_eq, hlow]
    have hv : Hid (hostB s.data.toList = false) := host_caps (by rw [← hlow]; exact Bool.beq_comm)
    clear hlow hl
    go_enter Tryd.func13, Tryd.ntmps13
    go_wp2_with (go_at_call 24; refine (lower_txt _ _ (by omega)).mono ?_; rintro e w1 ⟨rfl, hw1⟩)
    go_ret
    exact ⟨ret_bool hv.out.symm, hw1⟩
  · have hlq : (s.toList == lowL s.data.toList) = true := by rw [ByteArray.toList_eq, hlow]
    have hlow' : (lowL s.data.toList == s.data.toList) = true := by rw [← hlow]; exact Bool.beq_comm
    cases hst : startsB 91 s.data.toList
    · have hv : Hid (hostB s.data.toList = labAll (splitL 46 s.data.toList)) := host_lab0 (by omega) hlow' hst
      have hmem := splitL_mem_len 46 s.data.toList
      have hcnt := splitL_len 46 s.data.toList
      rw [hl] at hmem hcnt
      obtain ⟨p0, ps0, hp0⟩ := splitL_cons 46 s.data.toList
      have hnil : splitL 46 s.data.toList ≠ [] := by rw [hp0]; simp
      clear hlow hlow' hl hp0
      have HM : Hid _ := hmem; clear hmem
      have HN : Hid _ := hnil; clear hnil
      have HC : Hid _ := hcnt; clear hcnt
      go_enter Tryd.func13, Tryd.ntmps13
      go_wp2_with (first
        | (go_at_call 24; refine (lower_txt _ _ (by omega)).mono ?_; rintro e w1 ⟨rfl, hw1⟩)
        | (go_at_call 28; refine (strPrefix_any _ 91 _ rfl).mono ?_; rintro e w' ⟨rfl, rfl⟩; rw [hst])
        | (go_at_call 30; refine (strSplit_any s 46 _ (by omega)).mono ?_; rintro e w2 ⟨v, rfl, hown, hw2⟩; obtain ⟨g, cap, rfl, hcells⟩ := own_strs hown HN.out))
      clear hlq hst
      have hw3 := hw1.trans (hw2.mono hw1.size)
      generalize splitL 46 s.data.toList = ps at hv hcells HM HN HC
      have hpl := HC.out
      have HK : Hid _ := hcells; clear hcells hown HN HC hw1 hw2
      go_loop [21] (fun i => ∃ k : Nat, k ≤ ps.length ∧ i = .int .i64 k ∧ Hid (labAll (ps.take k) = true)) (fun i => ps.length - (intOf i).toNat)
      case atStart => exact ⟨0, by omega, rfl, rfl⟩
      case round =>
        obtain ⟨k, hk, rfl, hlab⟩ := hrel
        by_cases hlt : k < ps.length
        · have hc := HK.out k hlt
          have hpm := HM.out ps[k] (List.getElem_mem hlt)
          obtain ⟨t, ht⟩ : ∃ t : ByteArray, t = ⟨ps[k].toArray⟩ := ⟨_, rfl⟩
          have htl : t.data.toList = ps[k] := by rw [ht]
          rw [← ht] at hc
          rw [← htl, len_data] at hpm
          have htm : t.size ≤ maxLen := by unfold maxLen; omega
          cases hb : labB t.data.toList
          · have hbad : Hid (labAll ps = false) := labAll_bad hlt (by rw [← htl]; exact hb)
            clear ht htl hlab
            go_wp2_with (go_at_call 31; refine (label_any _ _ htm).mono ?_; rintro e w' ⟨rfl, rfl⟩; rw [hb])
            go_ret
            exact ⟨ret_bool (by rw [hv.out, hbad.out]), hw3⟩
          · have hgood : Hid (labAll (ps.take (k + 1)) = true) := labAll_snoc hlt hlab.out (by rw [← htl]; exact hb)
            clear ht htl hlab
            go_wp2_with (go_at_call 31; refine (label_any _ _ htm).mono ?_; rintro e w' ⟨rfl, rfl⟩; rw [hb])
            go_round
            case rel => exact ⟨k + 1, by omega, by go_num, hgood⟩
            case measure => simp [intOf]; omega
        · have he : ps.take k = ps := List.take_of_length_le (by omega)
          have hb : Hid (labAll ps = true) := show _ = _ by rw [← hlab.out, he]
          clear hlab
          go_wp2
          go_ret
          exact ⟨ret_bool (by rw [hv.out, hb.out]), hw3⟩
    · have hv : Hid (hostB s.data.toList = brkB s.data.toList) := host_brk0 (by omega) hlow' hst
      clear hlow hlow' hl
      go_enter Tryd.func13, Tryd.ntmps13
      go_wp2_with (first
        | (go_at_call 24; refine (lower_txt _ _ (by omega)).mono ?_; rintro e w1 ⟨rfl, hw1⟩)
        | (go_at_call 28; refine (strPrefix_any _ 91 _ rfl).mono ?_; rintro e w' ⟨rfl, rfl⟩; rw [hst])
        | (go_at_call 29; refine (numbered_any s _ hsm).mono ?_; rintro e w' ⟨rfl, rfl⟩))
      go_ret
      exact ⟨ret_bool hv.out.symm, hw1⟩

end Go.Proofs.YtfdcklekjnihjaaDoor
