/-
  Contracts of package uri: cutPort, Where.
-/
import Derived.Test.YtfdcklekjnihjaaDoorUHost
import Derived.Test.YtfdcklekjnihjaaDoorWhereL
namespace Go.Proofs.YtfdcklekjnihjaaDoor
open Go.RowKit Sc
set_option linter.unusedVariables false
set_option maxRecDepth 20000

/-- A text cut at its first colon outside of brackets. -/
def portCut (l : List UInt8) : List UInt8 × List UInt8 × Bool := (l.take (whereGo false l), l.drop (whereGo false l + 1), decide (whereGo false l < l.length))

set_option maxHeartbeats 1000000 in
theorem cutPort_any (s : ByteArray) (w : World) (hs : s.size ≤ maxLen) :
    Calls Tryd.prog 23 #[.string s] w fun e w' => e = .returned (.tuple #[.string ⟨(portCut s.data.toList).1.toArray⟩, .string ⟨(portCut s.data.toList).2.1.toArray⟩, .bool (portCut s.data.toList).2.2]) ∧ ∃ q, w' = w.drewN q := by
  unfold maxLen at hs
  go_enter Tryd.func23, Tryd.ntmps23
  go_wp2
  go_loop [5, 9] (fun x i => ∃ (k : Nat) (b : Bool), k ≤ s.size ∧ i = .int .i64 k ∧ x = .bool b ∧ Hid (whereGo false s.data.toList = k + whereGo b (s.data.toList.drop k))) (fun _ i => s.size - (intOf i).toNat)
  case atStart => exact ⟨0, false, by omega, rfl, rfl, show _ = _ by simp⟩
  case round =>
    obtain ⟨k, b, hk, rfl, rfl, hgo⟩ := hrel
    by_cases hlt : k < s.size
    · by_cases hst : b = false ∧ s[k] = 58
      · obtain ⟨rfl, h58⟩ := hst
        have hat : whereGo false s.data.toList = k := by
          rw [hgo.out, drop_cons s k hlt, whereGo, if_pos ⟨rfl, h58⟩]; omega
        have hv : Hid (portCut s.data.toList = (s.data.toList.take k, s.data.toList.drop (k + 1), true)) := show _ = _ by
          rw [portCut, hat, len_data, decide_eq_true hlt]
        have e1 : Hid ((s.extract 0 k).data.toList = s.data.toList.take k) := show _ = _ by rw [ext_list]; simp
        have e2 : Hid ((s.extract (k + 1) s.size).data.toList = s.data.toList.drop (k + 1)) := show _ = _ by
          rw [ext_list, List.take_of_length_le (by rw [List.length_drop, len_data]; omega)]
        have e91 : ((s[k].toNat : Int) == 91) = false := u8_ne (b := 91) (by rw [h58]; decide)
        have e93 : ((s[k].toNat : Int) == 93) = false := u8_ne (b := 93) (by rw [h58]; decide)
        have e58 : ((s[k].toNat : Int) == 58) = true := by rw [h58]; rfl
        have hwr : IntKind.i64.wrap ((k : Int) + 1) = ((k + 1 : Nat) : Int) := by
          simp [IntKind.wrap, IntKind.bits, IntKind.signed]; omega
        clear hgo hat h58
        go_wp2
        go_quiet (fail)
        go_wp2
        go_ret3
        exact ⟨ret_cut (by rw [hv.out, e1.out, e2.out]), nq, rfl⟩
      · have hgo2 : Hid (whereGo false s.data.toList = (k + 1) + whereGo (insN b s[k]) (s.data.toList.drop (k + 1))) := show _ = _ by
          rw [hgo.out, drop_cons s k hlt, whereGo, if_neg hst]; omega
        have hins : insN b s[k] = if s[k] = 93 then false else if s[k] = 91 then true else b := rfl
        by_cases h91 : s[k] = 91
        · have e91 : ((s[k].toNat : Int) == 91) = true := by rw [h91]; rfl
          rw [hins, if_neg (by rw [h91]; decide), if_pos h91] at hgo2
          clear hst h91 hins hgo
          go_wp2
          go_round
          case rel => exact ⟨k + 1, true, by omega, by go_num, rfl, hgo2⟩
          case measure => simp [intOf]; omega
        · have e91 : ((s[k].toNat : Int) == 91) = false := u8_ne (b := 91) h91
          by_cases h93 : s[k] = 93
          · have e93 : ((s[k].toNat : Int) == 93) = true := by rw [h93]; rfl
            rw [hins, if_pos h93] at hgo2
            clear hst h91 h93 hins hgo
            go_wp2
            go_round
            case rel => exact ⟨k + 1, false, by omega, by go_num, rfl, hgo2⟩
            case measure => simp [intOf]; omega
          · have e93 : ((s[k].toNat : Int) == 93) = false := u8_ne (b := 93) h93
            rw [hins, if_neg h93, if_neg h91] at hgo2
            by_cases h58 : s[k] = 58
            · have e58 : ((s[k].toNat : Int) == 58) = true := by rw [h58]; rfl
              have hb : b = true := by
                cases b with
                | true => rfl
                | false => exact absurd ⟨rfl, h58⟩ hst
              subst hb
              clear hst h91 h93 h58 hins hgo
              go_wp2
              go_round
              case rel => exact ⟨k + 1, true, by omega, by go_num, rfl, hgo2⟩
              case measure => simp [intOf]; omega
            · have e58 : ((s[k].toNat : Int) == 58) = false := u8_ne (b := 58) h58
              clear hst h91 h93 h58 hins hgo
              go_wp2
              go_round
              case rel => exact ⟨k + 1, b, by omega, by go_num, rfl, hgo2⟩
              case measure => simp [intOf]; omega
    · have hv : Hid (portCut s.data.toList = (s.data.toList, [], false)) := show _ = _ by
        have hat : whereGo false s.data.toList = s.data.toList.length := by
          rw [hgo.out, drop_all s k (by omega), len_data]; simp [whereGo]; omega
        rw [portCut, hat, List.take_length, List.drop_of_length_le (by omega)]
        simp
      clear hgo
      go_wp2
      go_ret3
      exact ⟨ret_cut hv.out, 0, rfl⟩

theorem lower_list (l : List UInt8) (w : World) (hs : l.length ≤ 281474976710656) :
    Calls Tryd.prog 24 #[.string ⟨l.toArray⟩] w fun e w' => e = .returned (.string ⟨(lowL l).toArray⟩) ∧ Below w.heap.size w w' :=
  lower_txt ⟨l.toArray⟩ w (by rw [size_list]; exact hs)
theorem host_list (l : List UInt8) (w : World) (hs : l.length ≤ 140737488355328) :
    Calls Tryd.prog 13 #[.string ⟨l.toArray⟩] w fun e w' => e = .returned (.bool (hostB l)) ∧ Below w.heap.size w w' :=
  host_any ⟨l.toArray⟩ w (by rw [size_list]; exact hs)
theorem number_list (l : List UInt8) (most : Int) (w : World) (hs : l.length ≤ 9223372036854775807) (hm0 : -9223372036854775808 ≤ most) (hm1 : most ≤ 9223372036854775807) :
    Calls Tryd.prog 25 #[.string ⟨l.toArray⟩, .int .i64 most] w fun e w' => e = .returned (.tuple #[.int .i64 (numV most l).1, .int .i64 (numV most l).2]) ∧ w' = w :=
  number_any ⟨l.toArray⟩ most w (by rw [size_list]; exact hs) hm0 hm1
theorem ret_where' {p : List UInt8 × Int × Int} {x : List UInt8} {a b : Int} (h : p = (x, a, b)) : Ending.returned (.tuple #[.string ⟨x.toArray⟩, .int .i64 a, .int .i64 b]) = .returned (.tuple #[.string ⟨p.1.toArray⟩, .int .i64 p.2.1, .int .i64 p.2.2]) := by rw [h]

set_option maxHeartbeats 2000000 in
theorem where_any (s : ByteArray) (w : World) (hs : s.size ≤ 140737488355328) :
    Calls Tryd.prog 9 #[.string s] w fun e w' => e = .returned (.tuple #[.string ⟨(whereV s.data.toList).1.toArray⟩, .int .i64 (whereV s.data.toList).2.1, .int .i64 (whereV s.data.toList).2.2]) ∧ Below w.heap.size w w' := by
  have hm : s.size ≤ maxLen := by unfold maxLen; omega
  have hl := len_data s
  obtain ⟨k, hat⟩ : ∃ k, whereGo false s.data.toList = k := ⟨_, rfl⟩
  have hkl : k ≤ s.size := by rw [← hat, ← hl]; exact whereGo_le _ _
  obtain ⟨a, ha⟩ : ∃ a, s.data.toList.take k = a := ⟨_, rfl⟩
  obtain ⟨b, hb⟩ : ∃ b, s.data.toList.drop (k + 1) = b := ⟨_, rfl⟩
  have hal : a.length ≤ s.size := by rw [← ha, List.length_take]; omega
  have hbl : b.length ≤ s.size := by rw [← hb, List.length_drop]; omega
  have hll : (lowL a).length ≤ 140737488355328 := by rw [lowL_len]; omega
  have hpc : portCut s.data.toList = (a, b, decide (k < s.size)) := by rw [portCut, hat, ha, hb, hl]
  have HV : Hid (whereV s.data.toList = if hostB (lowL a) = true then (if k = s.size then (lowL a, 0, 0) else if (numV 65535 b).2 ≠ 0 ∨ (numV 65535 b).1 = 0 then ([], 0, 33) else (lowL a, (numV 65535 b).1, 0)) else ([], 0, 32)) := show _ = _ by
    rw [whereV, hat, ha, portV, hb, hl]
  have h0 := cutPort_any s w hm
  rw [hpc] at h0
  clear hpc ha hb hat hl
  go_enter Tryd.func9, Tryd.ntmps9
  go_wp2_with fail
  refine h0.mono ?_
  rintro e w0 ⟨rfl, q, rfl⟩
  have hw0 := below_drewN w q
  clear h0
  generalize w.drewN q = w0 at hw0 ⊢
  have fin : ∀ {w1 w2 : World}, Below w0.heap.size w0 w1 → Below w1.heap.size w1 w2 → Below w.heap.size w w2 := fun h1 h2 => (hw0.trans (h1.mono hw0.size)).trans (h2.mono (Nat.le_trans hw0.size h1.size))
  have FIN : Hid _ := @fin
  clear fin
  cases hh : hostB (lowL a) with
  | false =>
    rw [hh] at HV
    go_wp2_with (first
      | (go_at_call 24; refine (lower_list a _ (by omega)).mono ?_; rintro e w1 ⟨rfl, hw1⟩)
      | (go_at_call 13; refine (host_list _ _ hll).mono ?_; rintro e w2 ⟨rfl, hw2⟩; rw [hh]))
    go_ret3
    exact ⟨ret_where' (x := []) (by rw [HV.out]; rfl), FIN.out hw1 hw2⟩
  | true =>
    rw [hh, if_pos rfl] at HV
    by_cases hk : k < s.size
    · have hd : decide (k < s.size) = true := decide_eq_true hk
      rw [if_neg (by omega)] at HV
      rw [hd]
      obtain ⟨n, hn⟩ : ∃ n, (numV 65535 b).1 = n := ⟨_, rfl⟩
      obtain ⟨e, he⟩ : ∃ e, (numV 65535 b).2 = e := ⟨_, rfl⟩
      rw [hn, he] at HV
      by_cases he0 : e = 0
      · subst he0
        by_cases hn0 : n = 0
        · subst hn0
          go_wp2_with (first
            | (go_at_call 24; refine (lower_list a _ (by omega)).mono ?_; rintro e w1 ⟨rfl, hw1⟩)
            | (go_at_call 13; refine (host_list _ _ hll).mono ?_; rintro e w2 ⟨rfl, hw2⟩; rw [hh])
            | (go_at_call 25; refine (number_list b 65535 _ (by omega) (by omega) (by omega)).mono ?_; rintro e w' ⟨rfl, rfl⟩; rw [hn, he]))
          go_ret3
          exact ⟨ret_where' (x := []) (by rw [HV.out]; simp), FIN.out hw1 hw2⟩
        · have hnn : (n == 0) = false := by simpa using hn0
          go_wp2_with (first
            | (go_at_call 24; refine (lower_list a _ (by omega)).mono ?_; rintro e w1 ⟨rfl, hw1⟩)
            | (go_at_call 13; refine (host_list _ _ hll).mono ?_; rintro e w2 ⟨rfl, hw2⟩; rw [hh])
            | (go_at_call 25; refine (number_list b 65535 _ (by omega) (by omega) (by omega)).mono ?_; rintro e w' ⟨rfl, rfl⟩; rw [hn, he]))
          go_ret3
          exact ⟨ret_where' (by rw [HV.out]; simp [hn0]), FIN.out hw1 hw2⟩
      · have hen : (e != 0) = true := by simpa using he0
        have hen2 : (e == 0) = false := by simpa using he0
        go_wp2_with (first
          | (go_at_call 24; refine (lower_list a _ (by omega)).mono ?_; rintro e w1 ⟨rfl, hw1⟩)
          | (go_at_call 13; refine (host_list _ _ hll).mono ?_; rintro e w2 ⟨rfl, hw2⟩; rw [hh])
          | (go_at_call 25; refine (number_list b 65535 _ (by omega) (by omega) (by omega)).mono ?_; rintro e w' ⟨rfl, rfl⟩; rw [hn, he]))
        go_ret3
        exact ⟨ret_where' (x := []) (by rw [HV.out]; simp [he0]), FIN.out hw1 hw2⟩
    · have hd : decide (k < s.size) = false := decide_eq_false hk
      rw [if_pos (by omega)] at HV
      rw [hd]
      go_wp2_with (first
        | (go_at_call 24; refine (lower_list a _ (by omega)).mono ?_; rintro e w1 ⟨rfl, hw1⟩)
        | (go_at_call 13; refine (host_list _ _ hll).mono ?_; rintro e w2 ⟨rfl, hw2⟩; rw [hh]))
      go_ret3
      exact ⟨ret_where' (by rw [HV.out]), FIN.out hw1 hw2⟩

end Go.Proofs.YtfdcklekjnihjaaDoor
