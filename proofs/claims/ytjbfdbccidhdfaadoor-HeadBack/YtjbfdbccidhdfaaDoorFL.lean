/-
  Base texts, one behind another: StrSplit, UHost, UWhere.
-/
import Derived.Test.YtjbfdbccidhdfaaDoorFH
import Derived.Test.YtjbfdbccidhdfaaDoorFM
import Derived.Test.YtjbfdbccidhdfaaDoorFD
import Derived.Test.YtjbfdbccidhdfaaDoorFG

/-
  The contract of strings.Split, at a sign of one byte.
-/
namespace Go.Proofs.YtjbfdbccidhdfaaDoor
open Go.RowKit Sc
set_option linter.unusedVariables false
set_option maxRecDepth 20000

theorem splitL_count (c : UInt8) (l : List UInt8) : (splitL c l).length = Lib.countByte l c + 1 := by
  unfold Lib.countByte
  induction l with
  | nil => rfl
  | cons x l ih =>
    obtain ⟨p, ps, hp⟩ := splitL_cons c l
    rw [splitL]
    rw [hp] at ih ⊢
    by_cases h : x = c
    · rw [if_pos h, h, List.count_cons_self]; simp at ih ⊢; omega
    · rw [if_neg h, List.count_cons_of_ne h]; simpa using ih
/-- Texts written from the head on over n empty ones. -/
def filledS (ps : List (List UInt8)) (n : Nat) : List Value := strs ps ++ List.replicate (n - ps.length) (.string .empty)
theorem filledS_len (ps : List (List UInt8)) (n : Nat) (h : ps.length ≤ n) : (filledS ps n).length = n := by simp [filledS, strs]; omega
theorem filledS_full (ps : List (List UInt8)) (n : Nat) (h : ps.length = n) : filledS ps n = strs ps := by simp [filledS, h]
theorem filledS_set (ps : List (List UInt8)) (n : Nat) (p : List UInt8) (h : ps.length < n) : (filledS ps n).set ps.length (.string ⟨p.toArray⟩) = filledS (ps ++ [p]) n := by
  have e : n - ps.length = (n - (ps.length + 1)) + 1 := by omega
  have hl : (strs ps).length = ps.length := strs_length ps
  unfold filledS
  rw [List.set_append_right _ _ (by omega), hl, Nat.sub_self, e, List.replicate_succ, List.set_cons_zero, strs_append, List.append_assoc, List.length_append]
  rfl
theorem made_rowS (w : World) (e : TypeId) (n : Nat) : RowIs (w.alloc (.cells (madeCells #[.string .empty] n) e)) w.heap.size e (filledS [] n) := by
  unfold RowIs
  rw [heap_alloc_new]
  have : madeCells #[.string .empty] n = (filledS [] n).toArray := by
    apply Array.ext
    · simp [size_madeCells, filledS, strs]
    · intro i h1 h2
      simp [madeCells, filledS, strs, Nat.mod_one]
  rw [this]

set_option maxHeartbeats 1000000 in
theorem genSplit_any (l0 : List UInt8) (c : UInt8) (w : World) (hs : l0.length ≤ 1048576) :
    Calls Tryd.prog 113 #[.string ⟨l0.toArray⟩, .string ⟨#[c]⟩, .int .i64 0, .int .i64 (-1)] w fun e w' => ∃ v, e = .returned v ∧ Own w' w.heap.size 9 v (strs (splitL c l0)) ∧ Below w.heap.size w w' := by
  obtain ⟨i0, hi, hz0, hz1, hz2⟩ := info_parts info9
  have h0 : (ByteArray.mk #[c]).size = 1 := rfl
  have hz : (⟨l0.toArray⟩ : ByteArray).size = l0.length := size_list l0
  obtain ⟨N, hN⟩ : ∃ N, N = (splitL c l0).length := ⟨_, rfl⟩
  have hN1 : N ≤ l0.length + 1 := by rw [hN]; exact splitL_len c l0
  have hcn : (Lib.countByte l0 c : Int) = (N : Int) - 1 := by rw [hN, splitL_count]; omega
  have hN0 : 1 ≤ N := by rw [hN, splitL_count]; omega
  have hmk : ∀ u : World, (Instr.makeSlice 58 (.int .i64 (N : Int)) (.int .i64 (N : Int))).run Tryd.prog u =
      .ok (.slice (some ⟨u.heap.size, 0, none⟩) N N) (u.alloc (.cells (madeCells #[.string .empty] N) 9)) := fun u => by
    have h := run_make (P := Tryd.prog) u 58 9 i0 (.string .empty) Tryd.underlying58 hi hz0 .i64 .i64 (N : Int) (N : Int) (by omega) (Int.le_refl _) (by rw [hz2]; omega) (by omega)
    simpa [hz1, Value.cells] using h
  have hr0 : Hid (RowIs (w.alloc (.cells (madeCells #[.string .empty] N) 9)) w.heap.size 9 (filledS [] N)) := made_rowS w _ _
  have hw1 : IntKind.i64.wrap ((N : Int) - 1 + 1) = (N : Int) := by
    simp [IntKind.wrap, IntKind.bits, IntKind.signed]; omega
  have hNs : Hid _ := hN
  clear hN
  go_enter Tryd.func113, Tryd.ntmps113
  go_wp2_with (go_at_call 116; refine (strCount_any _ c _).mono ?_; rintro e w' ⟨rfl, rfl⟩; rw [hcn])
  clear hmk
  go_loopw [0, 10] (fun x i wr => ∃ (r : List UInt8) (ps : List (List UInt8)), x = .string ⟨r.toArray⟩ ∧ i = .int .i64 ps.length ∧ Hid (splitL c l0 = ps ++ splitL c r) ∧ r.length ≤ l0.length ∧ Hid (RowIs wr w'.heap.size 9 (filledS ps N)) ∧ Below w'.heap.size w' wr) (fun _ i _ => N - (intOf i).toNat)
  case atStart => exact ⟨l0, [], rfl, rfl, show _ = _ from rfl, Nat.le_refl _, hr0, (Below.refl _ _).alloc (Nat.le_refl _) _⟩
  case round =>
    clear hr0 hcn hw1 hz
    obtain ⟨r, ps, rfl, rfl, hsp, hrl, hr, hb⟩ := hrel
    have hz : (⟨r.toArray⟩ : ByteArray).size = r.length := size_list r
    have hln : N = ps.length + (splitL c r).length := by rw [hNs.out, hsp.out, List.length_append]
    have hln1 : 1 ≤ (splitL c r).length := by rw [splitL_count]; omega
    have hf := hr.out.frozen ps.length
    obtain ⟨x, hc⟩ : ∃ x, wr.cell? ⟨w'.heap.size, ps.length, none⟩ = some x := ⟨_, hr.out.cell ps.length (by rw [filledS_len _ _ (by omega)]; omega)⟩
    by_cases hlt : ps.length < N - 1
    · have hin : c ∈ r := by
        apply Classical.byContradiction
        intro hno
        rw [splitL_cut, cutL_miss hno] at hln
        simp at hln; omega
      rcases idx_cases r c with ⟨h1, _⟩ | ⟨a, b, h1, h2, h3⟩
      · exact absurd hin h1
      · have hd : (⟨r.toArray⟩ : ByteArray).data.toList = a ++ c :: b := h1
        obtain ⟨e1, e2, e3⟩ := cut_data ⟨r.toArray⟩ hd
        rw [hz] at e3
        have hcut : cutL c r = (a, b, true) := by rw [h1]; exact cutL_hit h2
        have hsp2 : Hid (splitL c l0 = (ps ++ [a]) ++ splitL c b) := show _ = _ by
          have := splitL_next hsp.out (by rw [hcut]); rw [hcut] at this; exact this
        have hr' : Hid (RowIs (wr.setCell ⟨w'.heap.size, ps.length, none⟩ (.string ⟨a.toArray⟩)) w'.heap.size 9 (filledS (ps ++ [a]) N)) := by
          have h := hr.out.set ps.length (.string ⟨a.toArray⟩)
          rw [filledS_set ps N a (by omega)] at h
          exact h
        have hwr : IntKind.i64.wrap ((a.length : Int) + 1) = ((a.length + 1 : Nat) : Int) := by
          simp [IntKind.wrap, IntKind.bits, IntKind.signed]; omega
        have h3' : Lib.indexByte (⟨r.toArray⟩ : ByteArray).data.toList c = (a.length : Int) := h3
        rw [hz, e3] at e2
        clear hd hcut hin h1 h2 hsp hr hln hln1
        go_wp2_with (go_at_call 117; refine (strIndex_any _ c _).mono ?_; rintro e w2 ⟨rfl, rfl⟩; rw [h3'])
        go_roundw
        case rel => exact ⟨b, ps ++ [a], by first | rfl | rw [e2], by simp, hsp2, by omega, hr', hb.setCell (Nat.le_refl _) _⟩
        case measure => simp [intOf]; omega
    · have hone : splitL c r = [r] := by
        have : (splitL c r).length = 1 := by omega
        rw [splitL_count, Lib.countByte] at this
        exact splitL_cut c r ▸ (by
          have hno : c ∉ r := List.count_eq_zero.1 (by omega)
          rw [cutL_miss hno]; rfl)
      have hr' : Hid (Own (wr.setCell ⟨w'.heap.size, ps.length, none⟩ (.string ⟨r.toArray⟩)) w'.heap.size 9 (.slice (some ⟨w'.heap.size, 0, none⟩) N N) (strs (splitL c l0))) := by
        have h := hr.out.set ps.length (.string ⟨r.toArray⟩)
        rw [filledS_set ps N r (by omega), filledS_full _ _ (by rw [List.length_append, hln, hone])] at h
        rw [hsp.out, hone]
        exact h.own _ N (Nat.le_refl _) (by rw [strs_length, List.length_append, hln, hone]) (by unfold maxLen; omega)
      have hN2 : ps.length + 1 = N := by rw [hone] at hln; simp at hln; omega
      clear hone hr hsp hln hln1
      go_wp2
      go_ret
      exact ⟨_, rfl, by first | exact hr'.out | (have := hr'.out; simpa [hN2] using this), hb.setCell (Nat.le_refl _) _⟩

set_option maxHeartbeats 400000 in
theorem strSplit_any (s : ByteArray) (c : UInt8) (w : World) (hs : s.size ≤ 1048576) :
    Calls Tryd.prog 108 #[.string s, .string ⟨#[c]⟩] w fun e w' => ∃ v, e = .returned v ∧ Own w' w.heap.size 9 v (strs (splitL c s.data.toList)) ∧ Below w.heap.size w w' := by
  have hs0 : s = ⟨s.data.toList.toArray⟩ := by apply ByteArray.ext; simp
  have hl := len_data s
  generalize s.data.toList = l0 at hs0 hl ⊢
  subst hs0
  rw [← hl] at hs
  go_enter Tryd.func108, Tryd.ntmps108
  go_wp2_with (go_at_call 113; refine (genSplit_any _ c _ hs).mono ?_; rintro e w' ⟨v, rfl, hown, hb⟩)
  go_ret
  exact ⟨_, rfl, hown, hb⟩

end Go.Proofs.YtjbfdbccidhdfaaDoor

/-
  Contracts of package uri: Scheme, label, numbered, Host.
-/
namespace Go.Proofs.YtjbfdbccidhdfaaDoor
open Go.RowKit Sc
set_option linter.unusedVariables false
set_option maxRecDepth 20000

theorem labB_eq (p : List UInt8) : labB p = (decide (1 ≤ p.length) && (allB 64 p && (!startsB 45 p && !endsB 45 p))) := rfl
set_option maxHeartbeats 400000 in
theorem label_any (t : ByteArray) (w : World) (ht : t.size ≤ maxLen) :
    Calls Tryd.prog 109 #[.string t] w fun e w' => e = .returned (.bool (labB t.data.toList)) ∧ w' = w := by
  have hm : t.size ≤ 9223372036854775807 := ht
  have hv := labB_eq t.data.toList
  rw [len_data] at hv
  by_cases hz : t.size = 0
  · have hE := isE_true hz
    have HV : Hid (labB t.data.toList = false) := show _ = _ by rw [hv]; simp [hz]
    clear hv
    go_enter Tryd.func109, Tryd.ntmps109
    go_wp2
    go_ret
    exact ⟨ret_bool HV.out.symm, rfl⟩
  · have hp : 0 < t.size := by omega
    have hE := isE_false hp
    have hd : decide (1 ≤ t.size) = true := decide_eq_true hp
    rw [hd, Bool.true_and] at hv
    cases ha : allB 64 t.data.toList
    · have HV : Hid (labB t.data.toList = false) := show _ = _ by rw [hv, ha]; rfl
      clear hv
      go_enter Tryd.func109, Tryd.ntmps109
      go_wp2_with (go_at_call 63; refine (all_any _ _ _ ht).mono ?_; rintro e w' ⟨rfl, rfl⟩; rw [ha])
      go_ret
      exact ⟨ret_bool HV.out.symm, rfl⟩
    · cases hf : startsB 45 t.data.toList
      · have HV : Hid (labB t.data.toList = !endsB 45 t.data.toList) := show _ = _ by rw [hv, ha, hf]; rfl
        clear hv
        go_enter Tryd.func109, Tryd.ntmps109
        go_wp2_with (first
          | (go_at_call 63; refine (all_any _ _ _ ht).mono ?_; rintro e w' ⟨rfl, rfl⟩; rw [ha])
          | (go_at_call 84; refine (strPrefix_any _ 45 _ rfl).mono ?_; rintro e w' ⟨rfl, rfl⟩; rw [hf])
          | (go_at_call 112; refine (strSuffix_any _ 45 _ rfl hm).mono ?_; rintro e w' ⟨rfl, rfl⟩))
        go_ret
        exact ⟨ret_bool HV.out.symm, rfl⟩
      · have HV : Hid (labB t.data.toList = false) := show _ = _ by rw [hv, ha, hf]; rfl
        clear hv
        go_enter Tryd.func109, Tryd.ntmps109
        go_wp2_with (first
          | (go_at_call 63; refine (all_any _ _ _ ht).mono ?_; rintro e w' ⟨rfl, rfl⟩; rw [ha])
          | (go_at_call 84; refine (strPrefix_any _ 45 _ rfl).mono ?_; rintro e w' ⟨rfl, rfl⟩; rw [hf]))
        go_ret
        exact ⟨ret_bool HV.out.symm, rfl⟩

set_option maxHeartbeats 1000000 in
theorem numbered_any (s : ByteArray) (w : World) (hs : s.size ≤ maxLen) :
    Calls Tryd.prog 107 #[.string s] w fun e w' => e = .returned (.bool (brkB s.data.toList)) ∧ w' = w := by
  have hm : s.size ≤ 9223372036854775807 := hs
  by_cases h4 : 4 ≤ s.size
  · cases he : endsB 93 s.data.toList
    · have HV : Hid (brkB s.data.toList = false) := brk_last rfl (by
        rw [endsB, len_data] at he; simpa using he)
      go_enter Tryd.func107, Tryd.ntmps107
      go_wp2_with (go_at_call 112; refine (strSuffix_any _ 93 _ rfl hm).mono ?_; rintro e w' ⟨rfl, rfl⟩; rw [he])
      go_ret
      exact ⟨ret_bool HV.out.symm, rfl⟩
    · have hla : Hid (s.data.toList.getD (s.size - 1) 0 = 93) := show _ = _ by rw [endsB, len_data] at he; simpa using he
      go_enter Tryd.func107, Tryd.ntmps107
      go_wp2_with (go_at_call 112; refine (strSuffix_any _ 93 _ rfl hm).mono ?_; rintro e w' ⟨rfl, rfl⟩; rw [he])
      go_loop [3, 4] (fun x i => ∃ k n : Nat, 1 ≤ k ∧ k + 1 ≤ s.size ∧ n ≤ k ∧ i = .int .i64 k ∧ x = .int .i64 n ∧ Hid ((mid s.data.toList 1 k).all okc = true) ∧ Hid ((mid s.data.toList 1 k).count 58 = n)) (fun _ i => s.size - (intOf i).toNat)
      case atStart => exact ⟨1, 0, by omega, by omega, by omega, rfl, rfl, show _ = _ by simp [mid], show _ = _ by simp [mid]⟩
      case round =>
        obtain ⟨k, n, hk1, hk, hnk, rfl, rfl, hall, hcnt⟩ := hrel
        by_cases hlt : k + 1 < s.size
        · have hbd := u8_bd s[k]
          have hms := mid_snoc s 1 k hk1 (by omega)
          by_cases h58 : s[k] = 58
          · have e58 : ((s[k].toNat : Int) == 58) = true := by rw [h58]; rfl
            have ha2 : Hid ((mid s.data.toList 1 (k + 1)).all okc = true) := show _ = _ by rw [hms, List.all_append, hall.out, h58]; decide
            have hc2 : Hid ((mid s.data.toList 1 (k + 1)).count 58 = n + 1) := show _ = _ by rw [hms, List.count_append, hcnt.out, h58]; rfl
            clear hms h58 hall hcnt
            go_wp2
            go_round
            case rel => exact ⟨k + 1, n + 1, by omega, by omega, by omega, by go_num, by go_num, ha2, hc2⟩
            case measure => simp [intOf]; omega
          · have e58 : ((s[k].toNat : Int) == 58) = false := u8_ne h58
            have hc2 : Hid ((mid s.data.toList 1 (k + 1)).count 58 = n) := show _ = _ by
              rw [hms, List.count_append, hcnt.out]
              have : List.count 58 [s[k]] = 0 := List.count_eq_zero.2 (by simp; intro e; exact h58 e.symm)
              omega
            by_cases h46 : s[k] = 46
            · have e46 : ((s[k].toNat : Int) != 46) = false := by rw [h46]; rfl
              have ha2 : Hid ((mid s.data.toList 1 (k + 1)).all okc = true) := show _ = _ by rw [hms, List.all_append, hall.out, h46]; decide
              clear hms h58 h46 hall hcnt
              go_wp2
              go_round
              case rel => exact ⟨k + 1, n, by omega, by omega, by omega, by go_num, by go_num, ha2, hc2⟩
              case measure => simp [intOf]; omega
            · have e46 : ((s[k].toNat : Int) != 46) = true := by
                have := u8_ne h46
                simp only [bne, Bool.not_eq_true']; exact this
              by_cases hx : isB s[k].toNat 4 = true
              · have ha2 : Hid ((mid s.data.toList 1 (k + 1)).all okc = true) := show _ = _ by rw [hms, List.all_append, hall.out]; simp [okc, hx]
                have hx2 : (bits BinOp.and IntKind.i64 (cls s[k].toNat) 4 == 0) = false := by simpa [isB] using hx
                clear hms h58 h46 hall hcnt hx
                go_wp2_with (go_at_call 83; refine (class_any _ _ hbd.1 hbd.2).mono ?_; rintro e w' ⟨rfl, rfl⟩)
                go_round
                case rel => exact ⟨k + 1, n, by omega, by omega, by omega, by go_num, by go_num, ha2, hc2⟩
                case measure => simp [intOf]; omega
              · have hx2 : (bits BinOp.and IntKind.i64 (cls s[k].toNat) 4 == 0) = true := by simpa [isB] using hx
                have hbad : Hid (brkB s.data.toList = false) := brk_bad hk1 hlt (by
                  simp only [okc, Bool.or_eq_false_iff, beq_eq_false_iff_ne, ne_eq]
                  exact ⟨h58, h46, by simpa using hx⟩)
                clear hms h58 h46 hall hcnt hx hc2
                go_wp2_with (go_at_call 83; refine (class_any _ _ hbd.1 hbd.2).mono ?_; rintro e w' ⟨rfl, rfl⟩)
                go_ret
                exact ⟨ret_bool hbad.out.symm, rfl⟩
        · have hke : k = s.size - 1 := by omega
          have hend : Hid (brkB s.data.toList = decide (2 ≤ n)) := brk_end h4 hke hall.out hcnt.out (by rw [hke]; exact hla.out)
          clear hall hcnt hla
          go_wp2
          all_goals go_ret
          all_goals exact ⟨ret_bool (by rw [hend.out]; simp; omega), rfl⟩
  · have HV : Hid (brkB s.data.toList = false) := brk_short h4
    go_enter Tryd.func107, Tryd.ntmps107
    go_wp2
    go_ret
    exact ⟨ret_bool HV.out.symm, rfl⟩

theorem host_lab0 {l : List UInt8} (h2 : l.length ≤ 64) (h : (lowL l == l) = true) (hb : startsB 91 l = false) : hostB l = labAll (splitL 46 l) := by
  have hb' : ¬ l.getD 0 0 = 91 := by simpa [startsB] using hb
  cases l with
  | nil => rfl
  | cons x l => exact host_lab (by simp) h2 h hb'
theorem host_brk0 {l : List UInt8} (h2 : l.length ≤ 64) (h : (lowL l == l) = true) (hb : startsB 91 l = true) : hostB l = brkB l := by
  have hb' : l.getD 0 0 = 91 := by simpa [startsB] using hb
  cases l with
  | nil => simp at hb'
  | cons x l => exact host_brk (by simp) h2 h hb'

set_option maxHeartbeats 2000000 in
theorem host_any (s : ByteArray) (w : World) (hs : s.size ≤ 140737488355328) :
    Calls Tryd.prog 102 #[.string s] w fun e w' => e = .returned (.bool (hostB s.data.toList)) ∧ Below w.heap.size w w' := by
  have hl := len_data s
  by_cases h64 : 64 < s.size
  · have hv : Hid (hostB s.data.toList = false) := host_long (by omega)
    clear hl
    go_enter Tryd.func102, Tryd.ntmps102
    go_wp2
    go_ret
    exact ⟨ret_bool hv.out.symm, Below.refl _ _⟩
  have hsm : s.size ≤ maxLen := by unfold maxLen; omega
  cases hlow : (s.data.toList == lowL s.data.toList)
  · have hlq : (s.toList == lowL s.data.toList) = false := by rw [ByteArray.toList_eq, hlow]
    have hv : Hid (hostB s.data.toList = false) := host_caps (by rw [← hlow]; exact Bool.beq_comm)
    clear hlow hl
    go_enter Tryd.func102, Tryd.ntmps102
    go_wp2_with (go_at_call 55; refine (lower_txt _ _ (by omega)).mono ?_; rintro e w1 ⟨rfl, hw1⟩)
    go_ret
    exact ⟨ret_bool hv.out.symm, hw1⟩
  · have hlq : (s.toList == lowL s.data.toList) = true := by rw [ByteArray.toList_eq, hlow]
    have hlow' : (lowL s.data.toList == s.data.toList) = true := by rw [← hlow]; exact Bool.beq_comm
    cases hst : startsB 91 s.data.toList
    · have hv : Hid (hostB s.data.toList = labAll (splitL 46 s.data.toList)) := host_lab0 (by omega) hlow' hst
      have hmem := splitL_mem_len 46 s.data.toList
      have hcnt := splitL_len 46 s.data.toList
      rw [hl] at hmem hcnt
      obtain ⟨p0, ps0, hp0⟩ := splitL_cons 46 s.data.toList
      have hnil : splitL 46 s.data.toList ≠ [] := by rw [hp0]; simp
      clear hlow hlow' hl hp0
      have HM : Hid _ := hmem; clear hmem
      have HN : Hid _ := hnil; clear hnil
      have HC : Hid _ := hcnt; clear hcnt
      go_enter Tryd.func102, Tryd.ntmps102
      go_wp2_with (first
        | (go_at_call 55; refine (lower_txt _ _ (by omega)).mono ?_; rintro e w1 ⟨rfl, hw1⟩)
        | (go_at_call 84; refine (strPrefix_any _ 91 _ rfl).mono ?_; rintro e w' ⟨rfl, rfl⟩; rw [hst])
        | (go_at_call 108; refine (strSplit_any s 46 _ (by omega)).mono ?_; rintro e w2 ⟨v, rfl, hown, hw2⟩; obtain ⟨g, cap, rfl, hcells⟩ := own_strs hown HN.out))
      clear hlq hst
      have hw3 := hw1.trans (hw2.mono hw1.size)
      generalize splitL 46 s.data.toList = ps at hv hcells HM HN HC
      have hpl := HC.out
      have HK : Hid _ := hcells; clear hcells hown HN HC hw1 hw2
      go_loop [21] (fun i => ∃ k : Nat, k ≤ ps.length ∧ i = .int .i64 k ∧ Hid (labAll (ps.take k) = true)) (fun i => ps.length - (intOf i).toNat)
      case atStart => exact ⟨0, by omega, rfl, rfl⟩
      case round =>
        obtain ⟨k, hk, rfl, hlab⟩ := hrel
        by_cases hlt : k < ps.length
        · have hc := HK.out k hlt
          have hpm := HM.out ps[k] (List.getElem_mem hlt)
          obtain ⟨t, ht⟩ : ∃ t : ByteArray, t = ⟨ps[k].toArray⟩ := ⟨_, rfl⟩
          have htl : t.data.toList = ps[k] := by rw [ht]
          rw [← ht] at hc
          rw [← htl, len_data] at hpm
          have htm : t.size ≤ maxLen := by unfold maxLen; omega
          cases hb : labB t.data.toList
          · have hbad : Hid (labAll ps = false) := labAll_bad hlt (by rw [← htl]; exact hb)
            clear ht htl hlab
            go_wp2_with (go_at_call 109; refine (label_any _ _ htm).mono ?_; rintro e w' ⟨rfl, rfl⟩; rw [hb])
            go_ret
            exact ⟨ret_bool (by rw [hv.out, hbad.out]), hw3⟩
          · have hgood : Hid (labAll (ps.take (k + 1)) = true) := labAll_snoc hlt hlab.out (by rw [← htl]; exact hb)
            clear ht htl hlab
            go_wp2_with (go_at_call 109; refine (label_any _ _ htm).mono ?_; rintro e w' ⟨rfl, rfl⟩; rw [hb])
            go_round
            case rel => exact ⟨k + 1, by omega, by go_num, hgood⟩
            case measure => simp [intOf]; omega
        · have he : ps.take k = ps := List.take_of_length_le (by omega)
          have hb : Hid (labAll ps = true) := show _ = _ by rw [← hlab.out, he]
          clear hlab
          go_wp2
          go_ret
          exact ⟨ret_bool (by rw [hv.out, hb.out]), hw3⟩
    · have hv : Hid (hostB s.data.toList = brkB s.data.toList) := host_brk0 (by omega) hlow' hst
      clear hlow hlow' hl
      go_enter Tryd.func102, Tryd.ntmps102
      go_wp2_with (first
        | (go_at_call 55; refine (lower_txt _ _ (by omega)).mono ?_; rintro e w1 ⟨rfl, hw1⟩)
        | (go_at_call 84; refine (strPrefix_any _ 91 _ rfl).mono ?_; rintro e w' ⟨rfl, rfl⟩; rw [hst])
        | (go_at_call 107; refine (numbered_any s _ hsm).mono ?_; rintro e w' ⟨rfl, rfl⟩))
      go_ret
      exact ⟨ret_bool hv.out.symm, hw1⟩

end Go.Proofs.YtjbfdbccidhdfaaDoor

/-
  Contracts of package uri: cutPort, Where.
-/
namespace Go.Proofs.YtjbfdbccidhdfaaDoor
open Go.RowKit Sc
set_option linter.unusedVariables false
set_option maxRecDepth 20000

/-- A text cut at its first colon outside of brackets. -/
def portCut (l : List UInt8) : List UInt8 × List UInt8 × Bool := (l.take (whereGo false l), l.drop (whereGo false l + 1), decide (whereGo false l < l.length))

theorem host_list (l : List UInt8) (w : World) (hs : l.length ≤ 140737488355328) :
    Calls Tryd.prog 102 #[.string ⟨l.toArray⟩] w fun e w' => e = .returned (.bool (hostB l)) ∧ Below w.heap.size w w' :=
  host_any ⟨l.toArray⟩ w (by rw [size_list]; exact hs)
theorem number_list (l : List UInt8) (most : Int) (w : World) (hs : l.length ≤ 9223372036854775807) (hm0 : -9223372036854775808 ≤ most) (hm1 : most ≤ 9223372036854775807) :
    Calls Tryd.prog 35 #[.string ⟨l.toArray⟩, .int .i64 most] w fun e w' => e = .returned (.tuple #[.int .i64 (numV most l).1, .int .i64 (numV most l).2]) ∧ w' = w :=
  number_any ⟨l.toArray⟩ most w (by rw [size_list]; exact hs) hm0 hm1
theorem ret_where' {p : List UInt8 × Int × Int} {x : List UInt8} {a b : Int} (h : p = (x, a, b)) : Ending.returned (.tuple #[.string ⟨x.toArray⟩, .int .i64 a, .int .i64 b]) = .returned (.tuple #[.string ⟨p.1.toArray⟩, .int .i64 p.2.1, .int .i64 p.2.2]) := by rw [h]

end Go.Proofs.YtjbfdbccidhdfaaDoor
