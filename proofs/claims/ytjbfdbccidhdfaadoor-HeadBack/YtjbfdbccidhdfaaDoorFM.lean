/-
  Base texts, one behind another: RefHost, RefWhere, RefList.
-/
import Derived.Test.YtjbfdbccidhdfaaDoorFC
import Derived.Test.YtjbfdbccidhdfaaDoorFH
import Derived.Test.YtjbfdbccidhdfaaDoorFD
import Derived.Test.YtjbfdbccidhdfaaDoorFG
import Derived.Test.YtjbfdbccidhdfaaDoorFF
import Derived.Deep.RegionLaw

/-
  Contracts of the document's own Scheme and Host.
-/
namespace Go.Proofs.YtjbfdbccidhdfaaDoor
open Go.RowKit Sc
set_option linter.unusedVariables false
set_option maxRecDepth 20000

theorem lab_empty {t : ByteArray} (h : t.size = 0) : labB t.data.toList = false := by
  unfold labB; rw [len_data]; simp [h]
theorem lab_cls {t : ByteArray} (h : allB 64 t.data.toList = false) : labB t.data.toList = false := by
  unfold labB; simp [h]
theorem lab_first {t : ByteArray} (hp : 0 < t.size) (h : t[0] = 45) : labB t.data.toList = false := by
  unfold labB; rw [getD_s t 0 hp, h]; simp
theorem lab_last {t : ByteArray} (hp : t.size - 1 < t.size) (h : t[t.size - 1] = 45) : labB t.data.toList = false := by
  unfold labB; rw [len_data, getD_s t _ hp, h]; simp
theorem lab_fine {t : ByteArray} (hp : 0 < t.size) (ha : allB 64 t.data.toList = true) (h : ¬ t[0] = 45) (hq : t.size - 1 < t.size) (h2 : ¬ t[t.size - 1] = 45) : labB t.data.toList = true := by
  unfold labB
  rw [len_data, getD_s t 0 hp, getD_s t _ hq, ha]
  simp [h, h2]; omega

def labAll (ps : List (List UInt8)) : Bool := ps.all labB
theorem labAll_snoc {ps : List (List UInt8)} {k : Nat} (hk : k < ps.length) (h : labAll (ps.take k) = true) (hb : labB ps[k] = true) : labAll (ps.take (k + 1)) = true := by
  unfold labAll at *
  rw [List.take_succ_eq_append_getElem hk, List.all_append, h]
  simp [hb]
theorem labAll_bad {ps : List (List UInt8)} {k : Nat} (hk : k < ps.length) (hb : labB ps[k] = false) : labAll ps = false := by
  unfold labAll
  rw [List.all_eq_false]
  exact ⟨ps[k], List.getElem_mem hk, by simp [hb]⟩

set_option maxHeartbeats 2000000 in
set_option maxRecDepth 100000 in
theorem refhost_any (s : ByteArray) (w : World) (hs : s.size ≤ 140737488355328) :
    Calls Tryd.prog 90 #[.string s] w fun e w' => e = .returned (.bool (hostB s.data.toList)) ∧ Below w.heap.size w w' := by
  have hl := len_data s
  by_cases h0 : s.size = 0
  · have hv : Hid (hostB s.data.toList = false) := host_short (by omega)
    clear hl
    go_enter Tryd.func90, Tryd.ntmps90
    go_wp2
    go_ret
    exact ⟨ret_bool hv.out.symm, Below.refl _ _⟩
  have hne : ((s.size : Int) == 0) = false := by simpa using h0
  by_cases h64 : 64 < s.size
  · have hv : Hid (hostB s.data.toList = false) := host_long (by omega)
    clear hl
    go_enter Tryd.func90, Tryd.ntmps90
    go_wp2
    go_ret
    exact ⟨ret_bool hv.out.symm, Below.refl _ _⟩
  by_cases hlow : (lowL s.data.toList == s.data.toList) = true
  · have hlq : (lowL s.data.toList == s.toList) = true := by rw [ByteArray.toList_eq]; exact hlow
    have hpos : 0 < s.size := by omega
    by_cases hbr : s[0]'hpos = 91
    · have hb1 : (((s[0]'hpos).toNat : Int) == 91) = true := by rw [hbr]; rfl
      have hv : Hid (hostB s.data.toList = brkB s.data.toList) := host_brk (by omega) (by omega) hlow (by rw [getD_s s 0 (by omega)]; exact hbr)
      clear hlow hl hbr
      go_enter Tryd.func90, Tryd.ntmps90
      go_wp2_with (go_at_call 56; refine (reflower_txt _ _ hs).mono ?_; rintro e w1 ⟨rfl, hw1⟩)
      clear hlq hb1
      go_loop [3, 4] (fun x i => ∃ k n : Nat, 1 ≤ k ∧ (k + 1 ≤ s.size ∨ k = 1) ∧ n ≤ k ∧ i = .int .i64 k ∧ x = .int .i64 n ∧ Hid ((mid s.data.toList 1 k).all okc = true) ∧ Hid ((mid s.data.toList 1 k).count 58 = n)) (fun _ i => s.size - (intOf i).toNat)
      case atStart => exact ⟨1, 0, by omega, by omega, by omega, rfl, rfl, show _ = _ by simp [mid], show _ = _ by simp [mid]⟩
      case round =>
        obtain ⟨k, n, hk1, hk, hnk, rfl, rfl, hall, hcnt⟩ := hrel
        by_cases hlt : k + 1 < s.size
        · have hbd := u8_bd s[k]
          have hms := mid_snoc s 1 k hk1 (by omega)
          by_cases h58 : s[k] = 58
          · have e58 : ((s[k].toNat : Int) == 58) = true := by rw [h58]; rfl
            have ha2 : Hid ((mid s.data.toList 1 (k + 1)).all okc = true) := show _ = _ by rw [hms, List.all_append, hall.out, h58]; decide
            have hc2 : Hid ((mid s.data.toList 1 (k + 1)).count 58 = n + 1) := show _ = _ by rw [hms, List.count_append, hcnt.out, h58]; rfl
            clear hms h58 hall hcnt
            go_wp2
            go_round
            case rel => exact ⟨k + 1, n + 1, by omega, by omega, by omega, by go_num, by go_num, ha2, hc2⟩
            case measure => simp [intOf]; omega
          · have e58 : ((s[k].toNat : Int) == 58) = false := u8_ne h58
            have hc2 : Hid ((mid s.data.toList 1 (k + 1)).count 58 = n) := show _ = _ by
              rw [hms, List.count_append, hcnt.out]
              have : List.count 58 [s[k]] = 0 := List.count_eq_zero.2 (by simp; intro e; exact h58 e.symm)
              omega
            by_cases h46 : s[k] = 46
            · have e46 : ((s[k].toNat : Int) != 46) = false := by rw [h46]; rfl
              have ha2 : Hid ((mid s.data.toList 1 (k + 1)).all okc = true) := show _ = _ by rw [hms, List.all_append, hall.out, h46]; decide
              clear hms h58 h46 hall hcnt
              go_wp2
              go_round
              case rel => exact ⟨k + 1, n, by omega, by omega, by omega, by go_num, by go_num, ha2, hc2⟩
              case measure => simp [intOf]; omega
            · have e46 : ((s[k].toNat : Int) != 46) = true := by
                have := u8_ne h46
                simp only [bne, Bool.not_eq_true']; exact this
              by_cases hx : isB s[k].toNat 4 = true
              · have ha2 : Hid ((mid s.data.toList 1 (k + 1)).all okc = true) := show _ = _ by rw [hms, List.all_append, hall.out]; simp [okc, hx]
                have hx2 : (bits BinOp.and IntKind.i64 (cls s[k].toNat) 4 == 0) = false := by simpa [isB] using hx
                clear hms h58 h46 hall hcnt hx
                go_wp2_with (go_at_call 38; refine (refclass_any _ _ hbd.1 hbd.2).mono ?_; rintro e w' ⟨rfl, rfl⟩)
                go_round
                case rel => exact ⟨k + 1, n, by omega, by omega, by omega, by go_num, by go_num, ha2, hc2⟩
                case measure => simp [intOf]; omega
              · have hx2 : (bits BinOp.and IntKind.i64 (cls s[k].toNat) 4 == 0) = true := by simpa [isB] using hx
                have hbad : Hid (brkB s.data.toList = false) := brk_bad hk1 hlt (by
                  simp only [okc, Bool.or_eq_false_iff, beq_eq_false_iff_ne, ne_eq]
                  exact ⟨h58, h46, by simpa using hx⟩)
                clear hms h58 h46 hall hcnt hx hc2
                go_wp2_with (go_at_call 38; refine (refclass_any _ _ hbd.1 hbd.2).mono ?_; rintro e w' ⟨rfl, rfl⟩)
                go_ret
                exact ⟨ret_bool (by rw [hv.out, hbad.out]), hw1⟩
        · by_cases h4 : 4 ≤ s.size
          · have hke : k = s.size - 1 := by omega
            have hks : k < s.size := by omega
            by_cases hla : s[k] = 93
            · have ela : ((s[s.size - 1].toNat : Int) == 93) = true := by subst hke; rw [hla]; rfl
              have hend : Hid (brkB s.data.toList = decide (2 ≤ n)) := brk_end h4 hke hall.out hcnt.out (by rw [getD_s s k hks, hla])
              clear hla hall hcnt
              go_wp2
              all_goals go_ret
              all_goals exact ⟨ret_bool (by rw [hv.out, hend.out]; simp; omega), hw1⟩
            · have ela : ((s[s.size - 1].toNat : Int) == 93) = false := by subst hke; exact u8_ne hla
              have hend : Hid (brkB s.data.toList = false) := brk_last hke (by rw [getD_s s k hks]; exact hla)
              clear hla hall hcnt
              go_wp2
              all_goals go_ret
              all_goals exact ⟨ret_bool (by rw [hv.out, hend.out]), hw1⟩
          · have hend : Hid (brkB s.data.toList = false) := brk_short h4
            clear hall hcnt
            go_wp2
            all_goals go_ret
            all_goals exact ⟨ret_bool (by rw [hv.out, hend.out]), hw1⟩
    · have hb1 : (((s[0]'hpos).toNat : Int) == 91) = false := u8_ne hbr
      have hv : Hid (hostB s.data.toList = labAll (splitL 46 s.data.toList)) := host_lab (by omega) (by omega) hlow (by rw [getD_s s 0 hpos]; exact hbr)
      have hmem := splitL_mem_len 46 s.data.toList
      have hcnt := splitL_len 46 s.data.toList
      rw [hl] at hmem hcnt
      obtain ⟨p0, ps0, hp0⟩ := splitL_cons 46 s.data.toList
      have hnil : splitL 46 s.data.toList ≠ [] := by rw [hp0]; simp
      clear hlow hl hbr hp0
      have HM : Hid _ := hmem; clear hmem
      have HN : Hid _ := hnil; clear hnil
      have HC : Hid _ := hcnt; clear hcnt
      go_enter Tryd.func90, Tryd.ntmps90
      go_wp2_with (first
        | (go_at_call 56; refine (reflower_txt _ _ hs).mono ?_; rintro e w1 ⟨rfl, hw1⟩)
        | (go_at_call 104; refine (split3_any s 46 _ (by omega)).mono ?_; rintro e w2 ⟨v, rfl, hown, hw2⟩))
      clear hlq hb1
      have hw3 := hw1.trans (hw2.mono hw1.size)
      generalize splitL 46 s.data.toList = ps at hv hown HM HN HC
      have hpl := HC.out
      obtain ⟨g, cap, rfl, hcells⟩ := own_strs hown HN.out
      have HK : Hid _ := hcells; clear hcells hown HN HC hw1 hw2
      go_loop [6] (fun i => ∃ k : Nat, k ≤ ps.length ∧ i = .int .i64 k ∧ Hid (labAll (ps.take k) = true)) (fun i => ps.length - (intOf i).toNat)
      case atStart => exact ⟨0, by omega, rfl, rfl⟩
      case round =>
        obtain ⟨k, hk, rfl, hlab⟩ := hrel
        by_cases hlt : k < ps.length
        · have hc := HK.out k hlt
          have hpm := HM.out ps[k] (List.getElem_mem hlt)
          obtain ⟨t, ht⟩ : ∃ t : ByteArray, t = ⟨ps[k].toArray⟩ := ⟨_, rfl⟩
          have htl : t.data.toList = ps[k] := by rw [ht]
          rw [← ht] at hc
          rw [← htl, len_data] at hpm
          have hbad : labB t.data.toList = false → Hid (labAll ps = false) := fun h => labAll_bad hlt (by rw [← htl]; exact h)
          have hgood : labB t.data.toList = true → Hid (labAll (ps.take (k + 1)) = true) := fun h => labAll_snoc hlt hlab.out (by rw [← htl]; exact h)
          clear ht htl
          have htm : t.size ≤ maxLen := by unfold maxLen; omega
          by_cases hz : t.size = 0
          · have hE := isE_true hz
            have hb := hbad (lab_empty hz)
            clear hbad hgood hlab
            go_wp2
            go_ret
            exact ⟨ret_bool (by rw [hv.out, hb.out]), hw3⟩
          · have hp : 0 < t.size := by omega
            have hq : t.size - 1 < t.size := by omega
            have hE := isE_false hp
            by_cases ha : allB 64 t.data.toList = true
            · by_cases hf : t[0] = 45
              · have ef : ((t[0].toNat : Int) == 45) = true := by rw [hf]; rfl
                have hb := hbad (lab_first hp hf)
                clear hbad hgood hlab hf
                go_wp2_with (go_at_call 65; refine (refall_any _ _ _ htm).mono ?_; rintro e w' ⟨rfl, rfl⟩)
                go_ret
                exact ⟨ret_bool (by rw [hv.out, hb.out]), hw3⟩
              · have ef : ((t[0].toNat : Int) == 45) = false := u8_ne hf
                by_cases hg : t[t.size - 1] = 45
                · have eg : ((t[t.size - 1].toNat : Int) == 45) = true := by rw [hg]; rfl
                  have hb := hbad (lab_last hq hg)
                  clear hbad hgood hlab hf hg
                  go_wp2_with (go_at_call 65; refine (refall_any _ _ _ htm).mono ?_; rintro e w' ⟨rfl, rfl⟩)
                  go_ret
                  exact ⟨ret_bool (by rw [hv.out, hb.out]), hw3⟩
                · have eg : ((t[t.size - 1].toNat : Int) == 45) = false := u8_ne hg
                  have hb := hgood (lab_fine hp ha hf hq hg)
                  clear hbad hgood hlab hf hg
                  go_wp2_with (go_at_call 65; refine (refall_any _ _ _ htm).mono ?_; rintro e w' ⟨rfl, rfl⟩)
                  go_round
                  case rel => exact ⟨k + 1, by omega, by go_num, hb⟩
                  case measure => simp [intOf]; omega
            · have ha' : allB 64 t.data.toList = false := by simpa using ha
              have hb := hbad (lab_cls ha')
              clear hbad hgood hlab ha
              go_wp2_with (go_at_call 65; refine (refall_any _ _ _ htm).mono ?_; rintro e w' ⟨rfl, rfl⟩)
              go_ret
              exact ⟨ret_bool (by rw [hv.out, hb.out]), hw3⟩
        · have he : ps.take k = ps := List.take_of_length_le (by omega)
          have hb : Hid (labAll ps = true) := show _ = _ by rw [← hlab.out, he]
          clear hlab
          go_wp2
          go_ret
          exact ⟨ret_bool (by rw [hv.out, hb.out]), hw3⟩
  · have hlow' : (lowL s.data.toList == s.data.toList) = false := by simpa using hlow
    have hlq : (lowL s.data.toList == s.toList) = false := by rw [ByteArray.toList_eq]; exact hlow'
    have hv : Hid (hostB s.data.toList = false) := host_caps hlow'
    clear hlow hlow' hl
    go_enter Tryd.func90, Tryd.ntmps90
    go_wp2_with (go_at_call 56; refine (reflower_txt _ _ hs).mono ?_; rintro e w1 ⟨rfl, hw1⟩)
    go_ret
    exact ⟨ret_bool hv.out.symm, hw1⟩

end Go.Proofs.YtjbfdbccidhdfaaDoor

/-
  The contract of the document's own Where.
-/
namespace Go.Proofs.YtjbfdbccidhdfaaDoor
open Go.RowKit Sc
set_option linter.unusedVariables false
set_option maxRecDepth 20000

theorem ret_where {p : List UInt8 × Int × Int} {x : List UInt8} {a b : Int} (h : p = (x, a, b)) : Ending.returned (.tuple #[.string ⟨x.toArray⟩, .int .i64 a, .int .i64 b]) = .returned (.tuple #[.string ⟨p.1.toArray⟩, .int .i64 p.2.1, .int .i64 p.2.2]) := by rw [h]
theorem reflower_cut (s : ByteArray) (k : Nat) (w : World) (hs : s.size ≤ 140737488355328) (hk : k ≤ s.size) :
    Calls Tryd.prog 56 #[.string (s.extract 0 k)] w fun e w' => e = .returned (.string ⟨(lowL (s.data.toList.take k)).toArray⟩) ∧ Below w.heap.size w w' := by
  have h := reflower_txt (s.extract 0 k) w (by rw [ByteArray.size_extract]; omega)
  have e1 : (s.extract 0 k).data.toList = s.data.toList.take k := by rw [ext_list]; simp
  rw [e1] at h
  exact h
theorem refhost_list (l : List UInt8) (w : World) (hs : l.length ≤ 140737488355328) :
    Calls Tryd.prog 90 #[.string ⟨l.toArray⟩] w fun e w' => e = .returned (.bool (hostB l)) ∧ Below w.heap.size w w' :=
  refhost_any ⟨l.toArray⟩ w (by rw [size_list]; exact hs)
theorem refnumber_tail (s : ByteArray) (k : Nat) (most : Int) (w : World) (hs : s.size ≤ 140737488355328) (hm0 : -9223372036854775808 ≤ most) (hm1 : most ≤ 9223372036854775807) :
    Calls Tryd.prog 39 #[.string (s.extract k s.size), .int .i64 most] w fun e w' => e = .returned (.tuple #[.int .i64 (numV most (s.data.toList.drop k)).1, .int .i64 (numV most (s.data.toList.drop k)).2]) ∧ w' = w := by
  have h := refnumber_any (s.extract k s.size) most w (by rw [ByteArray.size_extract]; unfold maxLen; omega) hm0 hm1
  have e1 : (s.extract k s.size).data.toList = s.data.toList.drop k := by rw [ext_list, List.take_of_length_le (by rw [List.length_drop, len_data]; omega)]
  rw [e1] at h
  exact h

end Go.Proofs.YtjbfdbccidhdfaaDoor

/-
  The contract of the document's own List.
-/
namespace Go.Proofs.YtjbfdbccidhdfaaDoor
open Go.RowKit Sc
set_option linter.unusedVariables false
set_option maxRecDepth 20000

theorem apart_snoc {ps : List Par} {j : Nat} {nm : List UInt8} (hj : j < ps.length) (h : apartB (ps.take j) nm = true) (hs : sameB ps[j].name nm = false) : apartB (ps.take (j + 1)) nm = true := by
  unfold apartB at *
  rw [List.take_succ_eq_append_getElem hj, List.all_append, h]
  simp [hs]
theorem apart_bad {ps : List Par} {j k : Nat} {nm : List UInt8} (hj : j < ps.length) (hjk : j < k) (hs : sameB ps[j].name nm = true) : apartB (ps.take k) nm = false := by
  unfold apartB
  rw [List.all_eq_false]
  refine ⟨ps[j], ?_, by simp [hs]⟩
  rw [List.mem_take_iff_getElem]
  exact ⟨j, by omega, rfl⟩
end Go.Proofs.YtjbfdbccidhdfaaDoor
