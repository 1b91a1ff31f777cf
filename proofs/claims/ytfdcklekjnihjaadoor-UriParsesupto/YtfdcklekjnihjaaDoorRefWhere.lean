/-
  The contract of the document's own Where.
-/
import Derived.Test.YtfdcklekjnihjaaDoorRefHost
import Derived.Test.YtfdcklekjnihjaaDoorRefDig
import Derived.Test.YtfdcklekjnihjaaDoorWhereL
namespace Go.Proofs.YtfdcklekjnihjaaDoor
open Go.RowKit Sc
set_option linter.unusedVariables false
set_option maxRecDepth 20000

theorem ret_where {p : List UInt8 × Int × Int} {x : List UInt8} {a b : Int} (h : p = (x, a, b)) : Ending.returned (.tuple #[.string ⟨x.toArray⟩, .int .i64 a, .int .i64 b]) = .returned (.tuple #[.string ⟨p.1.toArray⟩, .int .i64 p.2.1, .int .i64 p.2.2]) := by rw [h]
theorem reflower_cut (s : ByteArray) (k : Nat) (w : World) (hs : s.size ≤ 140737488355328) (hk : k ≤ s.size) :
    Calls Tryd.prog 26 #[.string (s.extract 0 k)] w fun e w' => e = .returned (.string ⟨(lowL (s.data.toList.take k)).toArray⟩) ∧ Below w.heap.size w w' := by
  have h := reflower_txt (s.extract 0 k) w (by rw [ByteArray.size_extract]; omega)
  have e1 : (s.extract 0 k).data.toList = s.data.toList.take k := by rw [ext_list]; simp
  rw [e1] at h
  exact h
theorem refhost_list (l : List UInt8) (w : World) (hs : l.length ≤ 140737488355328) :
    Calls Tryd.prog 14 #[.string ⟨l.toArray⟩] w fun e w' => e = .returned (.bool (hostB l)) ∧ Below w.heap.size w w' :=
  refhost_any ⟨l.toArray⟩ w (by rw [size_list]; exact hs)
theorem refnumber_tail (s : ByteArray) (k : Nat) (most : Int) (w : World) (hs : s.size ≤ 140737488355328) (hm0 : -9223372036854775808 ≤ most) (hm1 : most ≤ 9223372036854775807) :
    Calls Tryd.prog 27 #[.string (s.extract k s.size), .int .i64 most] w fun e w' => e = .returned (.tuple #[.int .i64 (numV most (s.data.toList.drop k)).1, .int .i64 (numV most (s.data.toList.drop k)).2]) ∧ w' = w := by
  have h := refnumber_any (s.extract k s.size) most w (by rw [ByteArray.size_extract]; unfold maxLen; omega) hm0 hm1
  have e1 : (s.extract k s.size).data.toList = s.data.toList.drop k := by rw [ext_list, List.take_of_length_le (by rw [List.length_drop, len_data]; omega)]
  rw [e1] at h
  exact h

set_option maxHeartbeats 2000000 in
set_option maxRecDepth 100000 in
theorem refwhere_any (s : ByteArray) (w : World) (hs : s.size ≤ 140737488355328) :
    Calls Tryd.prog 10 #[.string s] w fun e w' => e = .returned (.tuple #[.string ⟨(whereV s.data.toList).1.toArray⟩, .int .i64 (whereV s.data.toList).2.1, .int .i64 (whereV s.data.toList).2.2]) ∧ Below w.heap.size w w' := by
  go_enter Tryd.func10, Tryd.ntmps10
  go_wp2
  go_loop [5, 6] (fun i x => ∃ (k : Nat) (b : Bool), k ≤ s.size ∧ i = .int .i64 k ∧ x = .bool b ∧ Hid (whereGo false s.data.toList = k + whereGo b (s.data.toList.drop k))) (fun i _ => s.size - (intOf i).toNat)
  case atStart => exact ⟨0, false, by omega, rfl, rfl, show _ = _ by simp⟩
  case round =>
    obtain ⟨k, b, hk, rfl, rfl, hgo⟩ := hrel
    by_cases hstop : k < s.size ∧ ¬ (b = false ∧ s.data.toList.getD k 0 = 58)
    · obtain ⟨hlt, hst⟩ := hstop
      rw [getD_s s k hlt] at hst
      have hgo2 : Hid (whereGo false s.data.toList = (k + 1) + whereGo (insN b s[k]) (s.data.toList.drop (k + 1))) := show _ = _ by
        rw [hgo.out, drop_cons s k hlt, whereGo, if_neg hst]; omega
      have e58 : b = true ∨ ((s[k].toNat : Int) != 58) = true := by
        cases b with
        | true => exact Or.inl rfl
        | false =>
          right
          have := u8_ne (a := s[k]) (b := 58) (fun e => hst ⟨rfl, e⟩)
          simp only [bne, Bool.not_eq_true']; exact this
      clear hgo hst
      have hins : insN b s[k] = if s[k] = 93 then false else if s[k] = 91 then true else b := rfl
      by_cases h93 : s[k] = 93
      · have e93 : ((s[k].toNat : Int) == 93) = true := by rw [h93]; rfl
        have e91 : ((s[k].toNat : Int) == 91) = false := u8_ne (b := 91) (by rw [h93]; decide)
        rw [hins, if_pos h93] at hgo2
        clear h93 hins
        rcases e58 with rfl | e58
        all_goals (
          first | cases b | skip
          all_goals (
            go_wp2
            go_round
            case rel => exact ⟨k + 1, false, by omega, by go_num, rfl, hgo2⟩
            case measure => simp [intOf]; omega))
      · have e93 : ((s[k].toNat : Int) == 93) = false := u8_ne (b := 93) h93
        by_cases h91 : s[k] = 91
        · have e91 : ((s[k].toNat : Int) == 91) = true := by rw [h91]; rfl
          rw [hins, if_neg h93, if_pos h91] at hgo2
          clear h93 h91 hins
          rcases e58 with rfl | e58
          all_goals (
            first | cases b | skip
            all_goals (
              go_wp2
              go_round
              case rel => exact ⟨k + 1, true, by omega, by go_num, rfl, hgo2⟩
              case measure => simp [intOf]; omega))
        · have e91 : ((s[k].toNat : Int) == 91) = false := u8_ne (b := 91) h91
          rw [hins, if_neg h93, if_neg h91] at hgo2
          clear h93 h91 hins
          rcases e58 with rfl | e58
          all_goals (
            first | cases b | skip
            all_goals (
              go_wp2
              go_round
              case rel => exact ⟨k + 1, _, by omega, by go_num, rfl, hgo2⟩
              case measure => simp [intOf]; omega))
    · have hat : whereGo false s.data.toList = k := by
        rw [hgo.out]
        by_cases hlt : k < s.size
        · have : b = false ∧ s.data.toList.getD k 0 = 58 := by
            by_cases h : b = false ∧ s.data.toList.getD k 0 = 58
            · exact h
            · exact absurd ⟨hlt, h⟩ hstop
          rw [getD_s s k hlt] at this
          rw [drop_cons s k hlt, whereGo, if_pos this]; omega
        · rw [drop_all s k (by omega)]; simp [whereGo]
      have hend : (k = s.size) ∨ (k < s.size ∧ b = false ∧ s.data.toList.getD k 0 = 58) := by
        by_cases hlt : k < s.size
        · right
          by_cases h : b = false ∧ s.data.toList.getD k 0 = 58
          · exact ⟨hlt, h⟩
          · exact absurd ⟨hlt, h⟩ hstop
        · left; omega
      have HV : Hid (whereV s.data.toList = if hostB (lowL (s.data.toList.take k)) = true then portV (lowL (s.data.toList.take k)) s.data.toList k else ([], 0, 32)) := show _ = _ by rw [whereV, hat]
      have hll : (lowL (s.data.toList.take k)).length ≤ 140737488355328 := by
        rw [lowL, List.length_map, List.length_take, len_data]; omega
      clear hstop hgo hat
      rcases hend with he | ⟨hlt, rfl, h58⟩
      · have hke : ((k : Int) == (s.size : Int)) = true := by simp only [beq_iff_eq]; omega
        have hge : s.size ≤ k := by omega
        have HE : Hid _ := he; clear he
        cases hh : hostB (lowL (s.data.toList.take k)) with
        | false =>
          rw [hh] at HV
          go_wp2_with (first
            | (go_at_call 26; refine (reflower_cut s k _ hs (by omega)).mono ?_; rintro e w1 ⟨rfl, hw1⟩)
            | (go_at_call 14; refine (refhost_list _ _ hll).mono ?_; rintro e w2 ⟨rfl, hw2⟩))
          go_ret3
          exact ⟨ret_where (x := []) (by rw [HV.out]; rfl), hw1.trans (hw2.mono hw1.size)⟩
        | true =>
          rw [hh, if_pos rfl] at HV
          go_wp2_with (first
            | (go_at_call 26; refine (reflower_cut s k _ hs (by omega)).mono ?_; rintro e w1 ⟨rfl, hw1⟩)
            | (go_at_call 14; refine (refhost_list _ _ hll).mono ?_; rintro e w2 ⟨rfl, hw2⟩))
          go_ret3
          exact ⟨ret_where (by rw [HV.out, portV, if_pos (by rw [len_data]; exact HE.out)]), hw1.trans (hw2.mono hw1.size)⟩
      · rw [getD_s s k hlt] at h58
        have e58 : ((s[k].toNat : Int) != 58) = false := by rw [h58]; rfl
        have hke : ((k : Int) == (s.size : Int)) = false := by simp only [beq_eq_false_iff_ne, ne_eq]; omega
        clear h58
        cases hh : hostB (lowL (s.data.toList.take k)) with
        | false =>
          rw [hh] at HV
          go_wp2_with (first
            | (go_at_call 26; refine (reflower_cut s k _ hs (by omega)).mono ?_; rintro e w1 ⟨rfl, hw1⟩)
            | (go_at_call 14; refine (refhost_list _ _ hll).mono ?_; rintro e w2 ⟨rfl, hw2⟩))
          go_ret3
          exact ⟨ret_where (x := []) (by rw [HV.out]; rfl), hw1.trans (hw2.mono hw1.size)⟩
        | true =>
          rw [hh, if_pos rfl, portV, if_neg (by rw [len_data]; omega)] at HV
          obtain ⟨n, hn⟩ : ∃ n, (numV 65535 (s.data.toList.drop (k + 1))).1 = n := ⟨_, rfl⟩
          obtain ⟨e, he⟩ : ∃ e, (numV 65535 (s.data.toList.drop (k + 1))).2 = e := ⟨_, rfl⟩
          rw [hn, he] at HV
          by_cases hbad : e ≠ 0 ∨ n = 0
          · rw [if_pos hbad] at HV
            by_cases he0 : e = 0
            · have hn0 : n = 0 := by
                rcases hbad with h | h
                · exact absurd he0 h
                · exact h
              subst he0 hn0
              clear hbad
              go_wp2_with (first
                | (go_at_call 26; refine (reflower_cut s k _ hs (by omega)).mono ?_; rintro e w1 ⟨rfl, hw1⟩)
                | (go_at_call 27; refine (refnumber_tail s (k + 1) 65535 _ hs (by omega) (by omega)).mono ?_; rintro e w' ⟨rfl, rfl⟩; rw [hn, he])
                | (go_at_call 14; refine (refhost_list _ _ hll).mono ?_; rintro e w2 ⟨rfl, hw2⟩))
              go_ret3
              exact ⟨ret_where (x := []) (by rw [HV.out]), hw1.trans (hw2.mono hw1.size)⟩
            · have hen : (e != 0) = true := by simpa using he0
              clear hbad he0
              go_wp2_with (first
                | (go_at_call 26; refine (reflower_cut s k _ hs (by omega)).mono ?_; rintro e w1 ⟨rfl, hw1⟩)
                | (go_at_call 27; refine (refnumber_tail s (k + 1) 65535 _ hs (by omega) (by omega)).mono ?_; rintro e w' ⟨rfl, rfl⟩; rw [hn, he])
                | (go_at_call 14; refine (refhost_list _ _ hll).mono ?_; rintro e w2 ⟨rfl, hw2⟩))
              go_ret3
              exact ⟨ret_where (x := []) (by rw [HV.out]), hw1.trans (hw2.mono hw1.size)⟩
          · rw [if_neg hbad] at HV
            have hen : e = 0 := by
              by_cases h : e = 0
              · exact h
              · exact absurd (Or.inl h) hbad
            have hnn : (n == 0) = false := by
              simp only [beq_eq_false_iff_ne, ne_eq]
              intro h; exact hbad (Or.inr h)
            subst hen
            clear hbad
            go_wp2_with (first
              | (go_at_call 26; refine (reflower_cut s k _ hs (by omega)).mono ?_; rintro e w1 ⟨rfl, hw1⟩)
              | (go_at_call 27; refine (refnumber_tail s (k + 1) 65535 _ hs (by omega) (by omega)).mono ?_; rintro e w' ⟨rfl, rfl⟩; rw [hn, he])
              | (go_at_call 14; refine (refhost_list _ _ hll).mono ?_; rintro e w2 ⟨rfl, hw2⟩))
            go_ret3
            exact ⟨ret_where (by rw [HV.out]), hw1.trans (hw2.mono hw1.size)⟩

end Go.Proofs.YtfdcklekjnihjaaDoor
