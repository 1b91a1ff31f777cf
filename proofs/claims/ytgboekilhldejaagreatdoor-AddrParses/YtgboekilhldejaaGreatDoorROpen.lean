/-
  Contracts: the document's own open and display.
-/
import Derived.Test.YtgboekilhldejaaGreatDoorWordsL
import Derived.Test.YtgboekilhldejaaGreatDoorRefFields
import Derived.Test.YtgboekilhldejaaGreatDoorGlue
namespace Go.Proofs.YtgboekilhldejaaGreatDoor
open Go.RowKit Sc
set_option linter.unusedVariables false
set_option maxRecDepth 20000

set_option maxHeartbeats 1000000 in
theorem ropen_any (s : ByteArray) (w : World) (hs : s.size ≤ 140737488355328) :
    Calls Tryz.prog 47 #[.string s] w fun e w' => e = .returned (.int .i64 (openI s.data.toList)) ∧ w' = w := by
  go_enter Tryz.func47, Tryz.ntmps47
  go_wp2
  go_loop [3, 4] (fun x i => ∃ (k : Nat) (q : Bool), k ≤ s.size + 1 ∧ i = .int .i64 k ∧ x = .bool q ∧ Hid (openV false s.data.toList = (openV q (s.data.toList.drop k)).map (· + k))) (fun _ i => s.size + 1 - (intOf i).toNat)
  case atStart => exact ⟨0, false, by omega, rfl, rfl, hid (by simp)⟩
  case round =>
    obtain ⟨k, q, hk, rfl, rfl, hop⟩ := hrel
    by_cases hlt : k < s.size
    · have hd := drop_cons s k hlt
      have hop2 : openV false s.data.toList = (openV q (s[k] :: s.data.toList.drop (k + 1))).map (· + k) := by rw [hop.out, ← hd]
      clear hop hd
      cases q with
      | true =>
        by_cases h92 : s[k] = 92
        · have e92 : ((s[k].toNat : Int) == 92) = true := by rw [h92]; rfl
          have h2 : Hid (openV false s.data.toList = (openV true (s.data.toList.drop (k + 2))).map (· + (k + 2))) := show _ = _ by
            rw [hop2, open_esc h92, map_add, List.drop_drop]
          clear hop2 h92
          go_wp2
          go_round
          case rel => exact ⟨k + 2, true, by omega, by go_num, rfl, h2⟩
          case measure => simp [intOf]; omega
        · have e92 : ((s[k].toNat : Int) == 92) = false := u8_ne h92
          by_cases h34 : s[k] = 34
          · have e34 : ((s[k].toNat : Int) == 34) = true := by rw [h34]; rfl
            have e60 : ((s[k].toNat : Int) == 60) = false := by rw [h34]; rfl
            have h2 : Hid (openV false s.data.toList = (openV false (s.data.toList.drop (k + 1))).map (· + (k + 1))) := show _ = _ by
              rw [hop2, open_q2 h34, map_add]
            clear hop2 h92 h34
            go_wp2
            go_round
            case rel => exact ⟨k + 1, false, by omega, by go_num, rfl, h2⟩
            case measure => simp [intOf]; omega
          · have e34 : ((s[k].toNat : Int) == 34) = false := u8_ne h34
            have h2 : Hid (openV false s.data.toList = (openV true (s.data.toList.drop (k + 1))).map (· + (k + 1))) := show _ = _ by
              rw [hop2, open_in h92 h34, map_add]
            clear hop2 h92 h34
            cases e60 : ((s[k].toNat : Int) == 60)
            all_goals
              go_wp2
              go_round
              case rel => exact ⟨k + 1, true, by omega, by go_num, rfl, h2⟩
              case measure => simp [intOf]; omega
      | false =>
        by_cases h34 : s[k] = 34
        · have e34 : ((s[k].toNat : Int) == 34) = true := by rw [h34]; rfl
          have e60 : ((s[k].toNat : Int) == 60) = false := by rw [h34]; rfl
          have h2 : Hid (openV false s.data.toList = (openV true (s.data.toList.drop (k + 1))).map (· + (k + 1))) := show _ = _ by
            rw [hop2, h34, open_q1, map_add]
          clear hop2 h34
          go_wp2
          go_round
          case rel => exact ⟨k + 1, true, by omega, by go_num, rfl, h2⟩
          case measure => simp [intOf]; omega
        · have e34 : ((s[k].toNat : Int) == 34) = false := u8_ne h34
          by_cases h60 : s[k] = 60
          · have e60 : ((s[k].toNat : Int) == 60) = true := by rw [h60]; rfl
            have h2 : Hid (openI s.data.toList = k) := openI_some (by rw [hop2, h60, open_hit]; simp)
            clear hop2 h34 h60
            go_wp2
            go_ret
            exact ⟨ret_int h2.out.symm, rfl⟩
          · have e60 : ((s[k].toNat : Int) == 60) = false := u8_ne h60
            have h2 : Hid (openV false s.data.toList = (openV false (s.data.toList.drop (k + 1))).map (· + (k + 1))) := show _ = _ by
              rw [hop2, open_out h60 h34, map_add]
            clear hop2 h34 h60
            go_wp2
            go_round
            case rel => exact ⟨k + 1, false, by omega, by go_num, rfl, h2⟩
            case measure => simp [intOf]; omega
    · have h2 : Hid (openI s.data.toList = -1) := openI_none (by rw [hop.out, drop_all s k (by omega)]; cases q <;> rfl)
      clear hop
      go_wp2
      go_ret
      exact ⟨ret_int h2.out.symm, rfl⟩

theorem glue_join (ps : List (List UInt8)) : ∀ k, k ≤ ps.length → glueK [32] ps k = joinB (ps.take k)
  | 0, _ => by simp [glueK, joinB]
  | k + 1, h => by
    have ih := glue_join ps k (by omega)
    rw [List.take_succ_eq_append_getElem (by omega), join_snoc]
    by_cases h0 : k = 0
    · subst h0; rw [glue_first _ _ (by omega)]; simp
    · rw [glue_next _ _ (by omega) (by omega), ih, if_neg (by intro e; have := congrArg List.length e; rw [List.length_take] at this; simp only [List.length_nil] at this; omega)]
theorem glue_nil (t : ByteArray) (a : Option Addr) (c : Nat) (w : World) :
    Calls Tryz.prog 89 #[.slice a 0 c, .string t] w fun e w' => e = .returned (.string ⟨#[]⟩) ∧ Below w.heap.size w w' := by
  go_enter Tryz.func89, Tryz.ntmps89
  go_wp2
  go_loop [5, 6] (fun v i => v = .slice none 0 0 ∧ i = .int .i64 0) (fun _ i => 0)
  case atStart => exact ⟨rfl, rfl⟩
  case round =>
    obtain ⟨rfl, rfl⟩ := hrel
    have hcv := conv_own (P := Tryz.prog) (w := w) (B := 0) [] Tryz.underlying92 Tryz.underlying5 Tryz.underlying9 (Own.nil _ _ _)
    go_wp2
    go_ret
    exact ⟨rfl, Below.refl _ _⟩
def DispRes (o : Option (List UInt8)) (t : List UInt8) (b : Bool) : Prop := match o with | some d => t = d ∧ b = true | none => b = false
theorem words_len : ∀ (t cur : List UInt8), (joinB (wordsG cur t)).length ≤ cur.length + t.length
  | [], cur => by rw [wordsG]; split <;> simp [joinB]
  | b :: r, cur => by
    rw [wordsG]
    split
    · split
      · have := words_len r []; simp at this ⊢; omega
      · have := words_len r []
        cases hw : wordsG [] r with
        | nil => simp [joinB] <;> omega
        | cons x xs => rw [hw] at this; rw [join_cons _ (by simp)]; simp at this ⊢; omega
    · have := words_len r (cur ++ [b]); simp at this ⊢; omega

end Go.Proofs.YtgboekilhldejaaGreatDoor
