/-
  Base texts, one behind another: XName, RX3, RefTexts, RX4.
-/
import Derived.Test.YtnijlmkodgdhlaaDoorYJ
import Derived.Test.YtnijlmkodgdhlaaDoorYP
import Derived.Test.YtnijlmkodgdhlaaDoorYA
import Derived.Test.YtnijlmkodgdhlaaDoorYB
import Derived.Deep.QuietTactic
import Derived.BigQuiet

/-
  Contracts: package xml's names and texts: begins, goesOn, Name, signsMayBe, textMayBe.
-/
namespace Go.Proofs.YtnijlmkodgdhlaaDoor
open Go.RowKit Sc
set_option linter.unusedVariables false
set_option maxRecDepth 20000
set_option linter.unusedSimpArgs false

theorem begins_any (c : UInt8) (w : World) : Calls Tryd.prog 31 #[.int .u8 c.toNat] w fun e w' => e = .returned (.bool (letX c)) ∧ w' = w := by
  have hbd := u8_bd c
  have KC := hid (fun w' => class_any c.toNat w' hbd.1 hbd.2)
  have hV : letX c = (isB c.toNat 2 || c == 95) := rfl
  by_cases h : c = 95
  · have q : ((c.toNat : Int) == 95) = true := u8_eq (b := 95) h
    have HV : Hid (letX c = true) := show _ = _ by rw [hV, h]; rfl
    clear hV h
    go_enter Tryd.func31, Tryd.ntmps31
    go_wp2
    go_ret
    exact ⟨ret_bool HV.out.symm, rfl⟩
  · have q : ((c.toNat : Int) == 95) = false := u8_ne (b := 95) h
    have HV : Hid (letX c = isB c.toNat 2) := show _ = _ by rw [hV, beq_eq_false_iff_ne.2 h, Bool.or_false]
    clear hV h
    go_enter Tryd.func31, Tryd.ntmps31
    go_wp2_with (go_at_call 50; refine (KC.out _).mono ?_; rintro e w' ⟨rfl, rfl⟩)
    go_ret
    exact ⟨by rw [HV.out]; exact ret_bool rfl, rfl⟩
theorem namc_is : ∀ c : UInt8, namc c = (c == 95 || (c == 45 || (c == 46 || (c == 58 || isB c.toNat 3)))) := by apply byte_all; decide +kernel
theorem goesOn_any (c : UInt8) (w : World) : Calls Tryd.prog 32 #[.int .u8 c.toNat] w fun e w' => e = .returned (.bool (namc c)) ∧ w' = w := by
  have hbd := u8_bd c
  have KC := hid (fun w' => class_any c.toNat w' hbd.1 hbd.2)
  have hV := namc_is c
  generalize namc c = R at hV ⊢
  by_cases h : c = 95
  · have q : ((c.toNat : Int) == 95) = true := u8_eq (b := 95) h
    have HV : Hid (R = true) := show _ = _ by rw [hV, h]; rfl
    clear hV h
    go_enter Tryd.func32, Tryd.ntmps32
    go_wp2
    go_ret
    exact ⟨ret_bool HV.out.symm, rfl⟩
  have q : ((c.toNat : Int) == 95) = false := u8_ne (b := 95) h
  rw [beq_eq_false_iff_ne.2 h, Bool.false_or] at hV
  clear h
  by_cases h : c = 45
  · have q1 : ((c.toNat : Int) == 45) = true := u8_eq (b := 45) h
    have HV : Hid (R = true) := show _ = _ by rw [hV, h]; rfl
    clear hV h
    go_enter Tryd.func32, Tryd.ntmps32
    go_wp2
    go_ret
    exact ⟨ret_bool HV.out.symm, rfl⟩
  have q1 : ((c.toNat : Int) == 45) = false := u8_ne (b := 45) h
  rw [beq_eq_false_iff_ne.2 h, Bool.false_or] at hV
  clear h
  by_cases h : c = 46
  · have q2 : ((c.toNat : Int) == 46) = true := u8_eq (b := 46) h
    have HV : Hid (R = true) := show _ = _ by rw [hV, h]; rfl
    clear hV h
    go_enter Tryd.func32, Tryd.ntmps32
    go_wp2
    go_ret
    exact ⟨ret_bool HV.out.symm, rfl⟩
  have q2 : ((c.toNat : Int) == 46) = false := u8_ne (b := 46) h
  rw [beq_eq_false_iff_ne.2 h, Bool.false_or] at hV
  clear h
  by_cases h : c = 58
  · have q3 : ((c.toNat : Int) == 58) = true := u8_eq (b := 58) h
    have HV : Hid (R = true) := show _ = _ by rw [hV, h]; rfl
    clear hV h
    go_enter Tryd.func32, Tryd.ntmps32
    go_wp2
    go_ret
    exact ⟨ret_bool HV.out.symm, rfl⟩
  have q3 : ((c.toNat : Int) == 58) = false := u8_ne (b := 58) h
  rw [beq_eq_false_iff_ne.2 h, Bool.false_or] at hV
  clear h
  have HV := hid hV
  clear hV
  go_enter Tryd.func32, Tryd.ntmps32
  go_wp2_with (go_at_call 50; refine (KC.out _).mono ?_; rintro e w' ⟨rfl, rfl⟩)
  go_ret
  exact ⟨by rw [HV.out]; exact ret_bool rfl, rfl⟩
set_option maxHeartbeats 1000000 in
theorem xname_any (s : ByteArray) (w : World) (hs : s.size ≤ 140737488355328) :
    Calls Tryd.prog 15 #[.string s] w fun e w' => e = .returned (.bool (nameX s.data.toList)) ∧ w' = w := by
  have HG := hid goesOn_any
  have HE := hid (name_end s)
  have HB := hid (fun k h => name_bad s k h)
  have HH := hid (fun h => name_head s h)
  have hl := len_data s
  have hlong : s.size = 0 ∨ 64 < s.size → nameX s.data.toList = false := fun h => by
    unfold nameX
    rw [hl]
    rcases h with h | h
    · have : s.data.toList = [] := List.eq_nil_of_length_eq_zero (by omega)
      rw [this]; rfl
    · rw [decide_eq_false (by omega)]; simp
  generalize nameX s.data.toList = R at HE HB HH hlong ⊢
  by_cases h0 : s.size = 0
  · have hR : Hid (R = false) := hlong (.inl h0)
    have e0 : s = ⟨#[]⟩ := by
      apply ByteArray.ext
      apply Array.eq_empty_of_size_eq_zero
      exact h0
    subst e0
    clear HE HB HH hlong hl
    go_enter Tryd.func15, Tryd.ntmps15
    go_wp2
    go_ret
    exact ⟨ret_bool hR.out.symm, rfl⟩
  have e0 : s.toList.isEmpty = false := by
    rw [ByteArray.toList_eq, List.isEmpty_eq_false_iff]
    intro e
    rw [e] at hl
    exact h0 hl.symm
  by_cases h64 : 64 < s.size
  · have hR : Hid (R = false) := hlong (.inr h64)
    have r1 : (64 : Int) < (s.size : Int) := by omega
    clear HE HB HH hlong hl h0
    go_enter Tryd.func15, Tryd.ntmps15
    go_wp2
    go_ret
    exact ⟨ret_bool hR.out.symm, rfl⟩
  have r1 : ¬ (64 : Int) < (s.size : Int) := by omega
  have hp : 0 < s.size := by omega
  have KB := hid (fun w' => begins_any s[0] w')
  have hbd := u8_bd s[0]
  cases hb : letX s[0] with
  | false =>
    rw [hb] at KB
    have hR : Hid (R = false) := HH.out hp hb
    clear HE HB HH hlong hl h0 hb
    go_enter Tryd.func15, Tryd.ntmps15
    go_wp2_with (go_at_call 31; refine (KB.out _).mono ?_; rintro e w' ⟨rfl, rfl⟩)
    go_ret
    exact ⟨ret_bool hR.out.symm, rfl⟩
  | true =>
    rw [hb] at KB
    have HE2 : Hid (∀ k, s.size ≤ k → (s.data.toList.take k).all namc = true → R = true) := fun k h1 h2 => by
      rw [HE.out k h1 h2 (.inr ⟨hp, hb⟩), decide_eq_true (by omega), decide_eq_true (by omega)]; rfl
    clear HE HH hlong hl h0 hb
    go_enter Tryd.func15, Tryd.ntmps15
    go_wp2_with (go_at_call 31; refine (KB.out _).mono ?_; rintro e w' ⟨rfl, rfl⟩)
    clear KB hbd
    go_loop [19] (fun i => ∃ k : Nat, k ≤ s.size ∧ i = .int .i64 k ∧ Hid ((s.data.toList.take k).all namc = true)) (fun i => s.size - (intOf i).toNat)
    case atStart => exact ⟨0, Nat.zero_le _, rfl, hid (by simp)⟩
    case round =>
      obtain ⟨k, hk, rfl, hv⟩ := hrel
      by_cases hlt : k < s.size
      · have KG := hid (fun w' => HG.out s[k] w')
        have hbd := u8_bd s[k]
        cases hn : namc s[k] with
        | true =>
          rw [hn] at KG
          have hv2 := hid (all_snocX namc s k hlt hv.out hn)
          clear hv hn
          go_wp2_with (go_at_call 32; refine (KG.out _).mono ?_; rintro e w' ⟨rfl, rfl⟩)
          go_round
          case rel => exact ⟨k + 1, by omega, by go_num, hv2⟩
          case measure => simp [intOf]; omega
        | false =>
          rw [hn] at KG
          have hR : Hid (R = false) := HB.out k hlt hn
          clear hv hn
          go_wp2_with (go_at_call 32; refine (KG.out _).mono ?_; rintro e w' ⟨rfl, rfl⟩)
          go_ret
          exact ⟨ret_bool hR.out.symm, rfl⟩
      · have hR : Hid (R = true) := HE2.out k (by omega) hv.out
        clear hv
        go_wp2
        go_ret
        exact ⟨ret_bool hR.out.symm, rfl⟩
theorem xname_list (l : List UInt8) (w : World) (h : l.length ≤ 140737488355328) :
    Calls Tryd.prog 15 #[.string ⟨l.toArray⟩] w fun e w' => e = .returned (.bool (nameX l)) ∧ w' = w := xname_any ⟨l.toArray⟩ w (by rw [size_list]; exact h)
theorem xblk_idx : ∀ c : UInt8, decide (Lib.indexByte [32, 9, 13, 10] c < 0) = !xblk c := by apply byte_all; decide +kernel
set_option maxHeartbeats 1000000 in
theorem xsigns_any (s : ByteArray) (w : World) (hs : s.size ≤ 140737488355328) :
    Calls Tryd.prog 48 #[.string s] w fun e w' => e = .returned (.bool (signsX s.data.toList)) ∧ w' = w := by
  have HB : Hid (∀ k (h : k < s.size), signX s[k] = false → signsX s.data.toList = false) := fun k h hp => all_badX signX s k h hp
  have HE : Hid (∀ k, s.size ≤ k → (s.data.toList.take k).all signX = true → signsX s.data.toList = true) := fun k h1 h2 => by rw [take_all s k h1] at h2; exact h2
  generalize signsX s.data.toList = R at HB HE ⊢
  go_enter Tryd.func48, Tryd.ntmps48
  go_wp2
  go_loop [6] (fun i => ∃ k : Nat, k ≤ s.size ∧ i = .int .i64 k ∧ Hid ((s.data.toList.take k).all signX = true)) (fun i => s.size - (intOf i).toNat)
  case atStart => exact ⟨0, Nat.zero_le _, rfl, hid (by simp)⟩
  case round =>
    obtain ⟨k, hk, rfl, hv⟩ := hrel
    by_cases hlt : k < s.size
    · have hbd := u8_bd s[k]
      have KI := hid (fun w' => strIndexByte_any ⟨#[32, 9, 13, 10]⟩ s[k] w')
      have hx : decide (Lib.indexByte (⟨#[32, 9, 13, 10]⟩ : ByteArray).data.toList s[k] < 0) = !xblk s[k] := xblk_idx s[k]
      generalize Lib.indexByte (⟨#[32, 9, 13, 10]⟩ : ByteArray).data.toList s[k] = n at KI hx
      by_cases h127 : s[k] = 127
      · have q : ((s[k].toNat : Int) == 127) = true := u8_eq (b := 127) h127
        have hR : Hid (R = false) := HB.out k hlt (by rw [h127]; decide)
        clear hv h127 hx
        go_wp2
        go_ret
        exact ⟨ret_bool hR.out.symm, rfl⟩
      have q : ((s[k].toNat : Int) == 127) = false := u8_ne (b := 127) h127
      by_cases h32 : s[k].toNat < 32
      · have r : (s[k].toNat : Int) < 32 := by omega
        cases hb : xblk s[k] with
        | true =>
          have hv2 := hid (all_snocX signX s k hlt hv.out (by unfold signX; rw [hb]; rfl))
          have hn : ¬ n < 0 := of_decide_eq_false (by rw [hx, hb]; rfl)
          clear hv h127 hx hb
          go_wp2_with (go_at_call 64; refine (KI.out _).mono ?_; rintro e w' ⟨rfl, rfl⟩)
          go_round
          case rel => exact ⟨k + 1, by omega, by go_num, hv2⟩
          case measure => simp [intOf]; omega
        | false =>
          have hR : Hid (R = false) := HB.out k hlt (sign_low hb h32)
          have hn : n < 0 := of_decide_eq_true (by rw [hx, hb]; rfl)
          clear hv h127 hx hb
          go_wp2_with (go_at_call 64; refine (KI.out _).mono ?_; rintro e w' ⟨rfl, rfl⟩)
          go_ret
          exact ⟨ret_bool hR.out.symm, rfl⟩
      · have r : ¬ (s[k].toNat : Int) < 32 := by omega
        have hv2 := hid (all_snocX signX s k hlt hv.out (sign_ok h32 h127))
        clear hv h127 hx
        go_wp2
        go_round
        case rel => exact ⟨k + 1, by omega, by go_num, hv2⟩
        case measure => simp [intOf]; omega
    · have hR : Hid (R = true) := HE.out k (by omega) hv.out
      clear hv
      go_wp2
      go_ret
      exact ⟨ret_bool hR.out.symm, rfl⟩
theorem xsigns_list (l : List UInt8) (w : World) (h : l.length ≤ 140737488355328) :
    Calls Tryd.prog 48 #[.string ⟨l.toArray⟩] w fun e w' => e = .returned (.bool (signsX l)) ∧ w' = w := xsigns_any ⟨l.toArray⟩ w (by rw [size_list]; exact h)
set_option maxHeartbeats 400000 in
theorem xtext_any (l : List UInt8) (w : World) (h : l.length ≤ 140737488355328) :
    Calls Tryd.prog 29 #[.string ⟨l.toArray⟩] w fun e w' => e = .returned (.bool (signsX l && xtrim l == l)) ∧ Below w.heap.size w w' := by
  have KS := hid (fun w' => xsigns_list l w' h)
  have KT := hid (fun w' => xtrimAll_list l w' h)
  cases hs : signsX l with
  | false =>
    rw [hs] at KS
    clear hs
    go_enter Tryd.func29, Tryd.ntmps29
    go_wp2_with fail
    refine (KS.out _).mono ?_
    rintro e w ⟨rfl, rfl⟩
    go_wp2
    go_ret
    exact ⟨rfl, Below.refl _ _⟩
  | true =>
    rw [hs] at KS
    clear hs
    generalize xtrim l = t at KT ⊢
    go_enter Tryd.func29, Tryd.ntmps29
    go_wp2_with fail
    refine (KS.out _).mono ?_
    rintro e w ⟨rfl, rfl⟩
    go_wp2_with fail
    refine (KT.out _).mono ?_
    rintro e w1 ⟨rfl, hw1⟩
    go_wp2
    go_ret
    exact ⟨by simp, hw1⟩
end Go.Proofs.YtnijlmkodgdhlaaDoor

/-
  The document's own layer 13: escapes.
-/
namespace Go.Proofs.YtnijlmkodgdhlaaDoor
open Go.RowKit Sc
set_option linter.unusedVariables false
set_option maxRecDepth 20000
set_option linter.unusedSimpArgs false

theorem esc_snoc (s : ByteArray) (k : Nat) (h : k < s.size) {t : List UInt8} (ht : escS s[k] = t) : escX (s.data.toList.take k) ++ t = escX (s.data.toList.take (k + 1)) := by
  rw [take_snoc s k h, escX_app, ← ht]
  congr 1
  simp [escX]
theorem glueB (a : List UInt8) (t : Array UInt8) : (⟨a.toArray⟩ : ByteArray) ++ ⟨t⟩ = ⟨(a ++ t.toList).toArray⟩ := by
  rw [ByteArray.mk_append_mk]
theorem one_ext (s : ByteArray) (k : Nat) (h : k < s.size) : s.extract k (k + 1) = ⟨#[s[k]]⟩ := by
  rw [ext_list, drop_cons s k h, Nat.add_sub_cancel_left]; rfl
theorem escS_len : ∀ b : UInt8, (escS b).length ≤ 6 := by apply byte_all; decide +kernel
theorem escX_len (l : List UInt8) : (escX l).length ≤ 6 * l.length := by
  induction l with
  | nil => simp [escX]
  | cons b r ih =>
    have := escS_len b
    have e : escX (b :: r) = escS b ++ escX r := by simp [escX]
    rw [e, List.length_append, List.length_cons]; omega

set_option maxHeartbeats 2000000 in
set_option maxRecDepth 100000 in
theorem rescaped_any (s : ByteArray) (w : World) (hs : s.size ≤ 1048576) :
    Calls Tryd.prog 47 #[.string s] w fun e w' => e = .returned (.string ⟨(escX s.data.toList).toArray⟩) ∧ w' = w := by
  have HS : Hid (∀ (k : Nat) (h : k < s.size) (t : Array UInt8), escS s[k] = t.toList → (⟨(escX (s.data.toList.take k)).toArray⟩ : ByteArray) ++ ⟨t⟩ = ⟨(escX (s.data.toList.take (k + 1))).toArray⟩) := fun k h t ht => by rw [glueB, esc_snoc s k h ht]
  have HT : Hid (∀ k, s.size ≤ k → escX (s.data.toList.take k) = escX s.data.toList) := fun k hk => by rw [take_all s k hk]
  have HL : Hid (∀ k, (escX (s.data.toList.take k)).length ≤ 6291456) := fun k => by
    have := escX_len (s.data.toList.take k)
    rw [List.length_take, len_data] at this; omega
  generalize escX s.data.toList = R at HT ⊢
  go_enter Tryd.func47, Tryd.ntmps47
  go_wp2
  go_loop [3, 4] (fun o i => ∃ k : Nat, k ≤ s.size ∧ i = .int .i64 k ∧ o = .string ⟨(escX (s.data.toList.take k)).toArray⟩) (fun _ i => s.size - (intOf i).toNat)
  case atStart => exact ⟨0, Nat.zero_le _, rfl, rfl⟩
  case round =>
    obtain ⟨k, hk, rfl, rfl⟩ := hrel
    by_cases hlt : k < s.size
    · have hbd := u8_bd s[k]
      have hw1 : IntKind.i64.wrap ((k : Int) + 1) = ((k + 1 : Nat) : Int) := by rw [IntKind.wrap_i64]; omega
      have hll := HL.out k
      have hz := size_list (escX (s.data.toList.take k))
      by_cases h38 : s[k] = 38
      · have q1 : ((s[k].toNat : Int) == 38) = true := u8_eq (b := 38) h38
        have HA := hid (HS.out k hlt #[38, 97, 109, 112, 59] (by rw [h38]; rfl))
        clear h38 HT HS HL
        go_wp2
        go_round
        case rel => exact ⟨k + 1, by omega, by go_num, by rw [← HA.out]⟩
        case measure => simp [intOf]; omega
      have q1 : ((s[k].toNat : Int) == 38) = false := u8_ne (b := 38) h38
      by_cases h60 : s[k] = 60
      · have q2 : ((s[k].toNat : Int) == 60) = true := u8_eq (b := 60) h60
        have HA := hid (HS.out k hlt #[38, 108, 116, 59] (by rw [h60]; rfl))
        clear h38 h60 HT HS HL
        go_wp2
        go_round
        case rel => exact ⟨k + 1, by omega, by go_num, by rw [← HA.out]⟩
        case measure => simp [intOf]; omega
      have q2 : ((s[k].toNat : Int) == 60) = false := u8_ne (b := 60) h60
      by_cases h62 : s[k] = 62
      · have q3 : ((s[k].toNat : Int) == 62) = true := u8_eq (b := 62) h62
        have HA := hid (HS.out k hlt #[38, 103, 116, 59] (by rw [h62]; rfl))
        clear h38 h60 h62 HT HS HL
        go_wp2
        go_round
        case rel => exact ⟨k + 1, by omega, by go_num, by rw [← HA.out]⟩
        case measure => simp [intOf]; omega
      have q3 : ((s[k].toNat : Int) == 62) = false := u8_ne (b := 62) h62
      by_cases h34 : s[k] = 34
      · have q4 : ((s[k].toNat : Int) == 34) = true := u8_eq (b := 34) h34
        have HA := hid (HS.out k hlt #[38, 113, 117, 111, 116, 59] (by rw [h34]; rfl))
        clear h38 h60 h62 h34 HT HS HL
        go_wp2
        go_round
        case rel => exact ⟨k + 1, by omega, by go_num, by rw [← HA.out]⟩
        case measure => simp [intOf]; omega
      have q4 : ((s[k].toNat : Int) == 34) = false := u8_ne (b := 34) h34
      have HA := hid (HS.out k hlt #[s[k]] (by unfold escS; rw [if_neg h38, if_neg h60, if_neg h62, if_neg h34]))
      have he := one_ext s k hlt
      have hb1 : ((k + 1 : Nat) : Int) ≤ (s.size : Int) := by omega
      clear h38 h60 h62 h34 HT HS HL
      go_wp2
      go_round
      case rel => exact ⟨k + 1, by omega, by go_num, by rw [← HA.out, ← he]⟩
      case measure => simp [intOf]; omega
    · have hR := hid (HT.out k (by omega))
      clear HT HS HL
      go_wp2
      go_ret
      exact ⟨by rw [← hR.out]; rfl, rfl⟩
end Go.Proofs.YtnijlmkodgdhlaaDoor

/-
  The contract of the document's own Texts, of two equal lists.
-/
namespace Go.Proofs.YtnijlmkodgdhlaaDoor
open Go.RowKit Sc
set_option linter.unusedVariables false
set_option maxRecDepth 20000

theorem own_strs {w : World} {B e : Nat} {v : Value} {ps : List (List UInt8)} (h : Own w B e v (strs ps)) (hne : ps ≠ []) :
    ∃ g cap, v = .slice (some ⟨g, 0, none⟩) ps.length cap ∧ ∀ j (hj : j < ps.length), w.cell? ⟨g, j, none⟩ = some (.string ⟨(ps[j]).toArray⟩) := by
  rcases h.2 with ⟨rfl, hn⟩ | ⟨g, cap, cur, rfl, hb, hg, _⟩
  · rw [strs_length] at hn
    exact absurd (List.eq_nil_of_length_eq_zero hn) hne
  · refine ⟨g, cap, by rw [strs_length], fun j hj => ?_⟩
    have := World.ownsRow.cells h (g := g) rfl j (.string ⟨(ps[j]).toArray⟩) (by simp [strs, hj])
    unfold Addr.add at this
    by_cases h0 : j = 0
    · subst h0; simpa using this
    · simpa [h0] using this

end Go.Proofs.YtnijlmkodgdhlaaDoor

/-
  The document's own layer 13: Read.
-/
namespace Go.Proofs.YtnijlmkodgdhlaaDoor
open Go.RowKit Sc
set_option linter.unusedVariables false
set_option maxRecDepth 20000
set_option linter.unusedSimpArgs false

def namesV : Array Value := #[.string ⟨#[97, 109, 112, 59]⟩, .string ⟨#[108, 116, 59]⟩, .string ⟨#[103, 116, 59]⟩, .string ⟨#[113, 117, 111, 116, 59]⟩, .string ⟨#[97, 112, 111, 115, 59]⟩]
theorem found_step (s nb : ByteArray) (k j : Nat) (hj : j < 5) (hn : entK[j]?.map (·.1) = some nb.data.toList) : foundK (s.data.toList.drop (k + 1)) (j + 1) = if isAt s.data.toList (k + 1) nb.data.toList then (j : Int) else foundK (s.data.toList.drop (k + 1)) j := by
  cases he : entK[j]? with
  | none => rw [he] at hn; cases hn
  | some e =>
    rw [he] at hn
    have hn2 : e.1 = nb.data.toList := by simpa using hn
    rw [foundK, he]
    simp only
    unfold isAt
    rw [hn2]
    by_cases h : ((s.data.toList.drop (k + 1)).take nb.data.toList.length = nb.data.toList) <;> simp [h]
def nameB (j : Nat) : ByteArray := ⟨((entK.getD j ([], 0)).1).toArray⟩
theorem nameB_at {j : Nat} (hj : j < 5) : entK[j]?.map (·.1) = some (nameB j).data.toList ∧ (nameB j).size ≤ 5 ∧ 1 ≤ (nameB j).size := by
  match j, hj with
  | 0, _ => decide +kernel
  | 1, _ => decide +kernel
  | 2, _ => decide +kernel
  | 3, _ => decide +kernel
  | 4, _ => decide +kernel
  | k + 5, h => omega
theorem names_new (w : World) {j : Nat} (hj : j < 5) : (w.alloc (.cells namesV 9)).cell? ⟨w.heap.size, j, none⟩ = some (.string (nameB j)) := by
  rw [World.cell?_alloc_new]
  match j, hj with
  | 0, _ => rfl
  | 1, _ => rfl
  | 2, _ => rfl
  | 3, _ => rfl
  | 4, _ => rfl
  | k + 5, h => omega

theorem signs_at {j : Nat} (hj : j < entK.length) : (⟨#[38, 60, 62, 34, 39]⟩ : ByteArray).extract j (j + 1) = ⟨#[entK[j].2]⟩ ∧ (nameB j).size = entK[j].1.length := by
  match j, hj with
  | 0, _ => exact ⟨rfl, rfl⟩
  | 1, _ => exact ⟨rfl, rfl⟩
  | 2, _ => exact ⟨rfl, rfl⟩
  | 3, _ => exact ⟨rfl, rfl⟩
  | 4, _ => exact ⟨rfl, rfl⟩
  | k + 5, h => exact absurd h (by simp [entK])
theorem belowD (B : Nat) (w : World) (n : Nat) : Below B w (w.drewN n) := ⟨rfl, rfl, rfl, Nat.le_refl _, fun _ _ => rfl⟩
/-- What Read hands back. -/
def readR (l : List UInt8) : Value := match readX l with
  | some v => .tuple #[.string ⟨v.toArray⟩, .bool true]
  | none => .tuple #[.string ⟨#[]⟩, .bool false]
theorem readR_none {l : List UInt8} (h : readX l = none) : Value.tuple #[.string ⟨#[]⟩, .bool false] = readR l := by unfold readR; rw [h]
theorem readR_some {l v : List UInt8} (h : readX l = some v) : Value.tuple #[.string ⟨v.toArray⟩, .bool true] = readR l := by unfold readR; rw [h]
theorem ent_long {r : List UInt8} {c : UInt8} {n : Nat} (h : entX r = some (c, n)) : n ≤ r.length := by
  unfold entX at h
  have key : ∀ (m : Nat) (t : List UInt8), r.take m = t → t.length = m → m ≤ r.length := fun m t e ht => by
    have := congrArg List.length e
    rw [List.length_take, ht] at this; omega
  split at h
  · next e => have := key 4 _ e rfl; simp at h; omega
  split at h
  · next e => have := key 3 _ e rfl; simp at h; omega
  split at h
  · next e => have := key 3 _ e rfl; simp at h; omega
  split at h
  · next e => have := key 5 _ e rfl; simp at h; omega
  split at h
  · next e => have := key 5 _ e rfl; simp at h; omega
  · cases h
/-- So much is read, so much is left. -/
def RdAt (l : List UInt8) (k : Nat) (a : List UInt8) : Prop := readX l = (readX (l.drop k)).map (a ++ ·) ∧ a.length ≤ k
theorem rd_zero (l : List UInt8) : RdAt l 0 [] := ⟨by simp, Nat.le_refl _⟩
theorem rd_plain {l a : List UInt8} {k : Nat} (h : RdAt l k a) (hk : k < l.length) (hc : l[k] ≠ 38) : RdAt l (k + 1) (a ++ [l[k]]) := by
  refine ⟨?_, by have := h.2; simp; omega⟩
  rw [h.1, readX_at hk hc, Option.map_map]
  congr 1; funext x; simp
theorem rd_end {l a : List UInt8} {k : Nat} (h : RdAt l k a) (hk : l.length ≤ k) : readX l = some a := by
  rw [h.1, List.drop_eq_nil_of_le hk]
  simp [readX, readG]
theorem rd_none {l a : List UInt8} {k : Nat} (h : RdAt l k a) (hk : k < l.length) (hc : l[k] = 38) (he : entX (l.drop (k + 1)) = none) : readX l = none := by
  rw [h.1, readX_none hk hc he]; rfl
theorem rd_ent {l a : List UInt8} {k n : Nat} {c : UInt8} (h : RdAt l k a) (hk : k < l.length) (hc : l[k] = 38) (he : entX (l.drop (k + 1)) = some (c, n)) : RdAt l (k + 1 + n) (a ++ [c]) := by
  refine ⟨?_, by have := h.2; simp; omega⟩
  rw [h.1, readX_ent hk hc he, Option.map_map]
  congr 1; funext x; simp

set_option maxHeartbeats 4000000 in
set_option maxRecDepth 100000 in
theorem rread_any (s : ByteArray) (w : World) (hs : s.size ≤ 1048576) :
    Calls Tryd.prog 79 #[.string s] w fun e w' => e = .returned (readR s.data.toList) ∧ Below w.heap.size w w' := by
  have hN := hid (fun j (hj : j < 5) => names_new w hj)
  have hbn : Below w.heap.size w (w.alloc (.cells namesV 9)) := (Below.refl _ w).alloc (Nat.le_refl _) _
  unfold namesV at hN hbn
  have hl := len_data s
  have HP : Hid (∀ (k : Nat) (a : List UInt8) (h : k < s.size), RdAt s.data.toList k a → s[k] ≠ 38 → RdAt s.data.toList (k + 1) (a ++ [s[k]])) := fun k a h hr hc => by
    have := rd_plain hr (by omega) (by rw [getB s k h]; exact hc)
    rw [getB s k h] at this; exact this
  have HN0 : Hid (∀ (k : Nat) (a : List UInt8) (h : k < s.size), RdAt s.data.toList k a → s[k] = 38 → entX (s.data.toList.drop (k + 1)) = none → readX s.data.toList = none) := fun k a h hr hc he =>
    rd_none hr (by omega) (by rw [getB s k h]; exact hc) he
  have HEn : Hid (∀ (k n : Nat) (c : UInt8) (a : List UInt8) (h : k < s.size), RdAt s.data.toList k a → s[k] = 38 → entX (s.data.toList.drop (k + 1)) = some (c, n) → RdAt s.data.toList (k + 1 + n) (a ++ [c]) ∧ k + 1 + n ≤ s.size) := fun k n c a h hr hc he =>
    ⟨rd_ent hr (by omega) (by rw [getB s k h]; exact hc) he, by have := ent_long he; rw [List.length_drop] at this; omega⟩
  have HF := hid (found_step s)
  have HI := hid (fun nb k => isAt_ext s nb k)
  have HX : Hid (∀ (k n : Nat), s.size < k + n → n ≠ 0 → ∀ nb : ByteArray, nb.size = n → isAt s.data.toList k nb.data.toList = false) := fun k n h h0 nb hn => isAt_long (by rw [len_data, len_data]; omega) (.inl (fun e => by have := len_data nb; rw [e] at this; simp at this; omega))
  generalize s.data.toList = l at HP HN0 HEn HF HI HX hl ⊢
  go_enter Tryd.func79, Tryd.ntmps79
  go_wp2
  generalize World.alloc _ _ = W0 at hN hbn ⊢
  go_loopw [5, 6] (fun o i wr => ∃ (k q : Nat) (a : List UInt8), k ≤ s.size ∧ i = .int .i64 k ∧ o = .string ⟨a.toArray⟩ ∧ wr = W0.drewN q ∧ Hid (RdAt l k a)) (fun _ i _ => s.size - (intOf i).toNat)
  case atStart => exact ⟨0, 0, [], Nat.zero_le _, rfl, rfl, rfl, rd_zero l⟩
  case round =>
    obtain ⟨k, q, a, hk, rfl, rfl, rfl, hrd⟩ := hrel
    by_cases hlt : k < s.size
    · have hbd := u8_bd s[k]
      have hw1 : IntKind.i64.wrap ((k : Int) + 1) = ((k + 1 : Nat) : Int) := by rw [IntKind.wrap_i64]; omega
      have hz := size_list a
      have hal : a.length ≤ 1048576 := by have := hrd.out.2; omega
      by_cases h38 : s[k] = 38
      · have q1 : ((s[k].toNat : Int) == 38) = true := u8_eq (b := 38) h38
        have HE0 := hid (HN0.out k a hlt hrd.out h38)
        have HE1 := hid (fun n c => HEn.out k n c a hlt hrd.out h38)
        have HFo := hid (found_ent (l.drop (k + 1)))
        clear HP HN0 HEn h38 hrd
        have q1n : ((s[k].toNat : Int) != 38) = false := by rw [bne, q1]; rfl
        go_wp2
        go_loopw [7, 8] (fun f i wr => ∃ (j q : Nat), j ≤ 5 ∧ i = .int .i64 j ∧ f = .int .i64 (foundK (l.drop (k + 1)) j) ∧ wr = W0.drewN q) (fun _ i _ => 5 - (intOf i).toNat)
        case atStart => exact ⟨0, q, by omega, rfl, rfl, rfl⟩
        case round =>
          obtain ⟨j, q2, hj, rfl, rfl, rfl⟩ := hrel
          by_cases hj5 : j < 5
          · obtain ⟨hna, hn5, hn1⟩ := nameB_at hj5
            have f1 := hN.out j hj5
            have hfs := hid (HF.out (nameB j) k j hj5 hna)
            have hie := hid (HI.out (nameB j) (k + 1))
            have hxe := hid (fun h => HX.out (k + 1) (nameB j).size h (by omega) (nameB j) rfl)
            have q6 : (j : Int) < 5 := by omega
            clear hna
            generalize nameB j = nb at f1 hn5 hn1 hfs hie hxe
            have hw2 : IntKind.i64.wrap ((k : Int) + 1 + (nb.size : Int)) = (k : Int) + 1 + (nb.size : Int) := by rw [IntKind.wrap_i64]; omega
            clear HE0 HE1 HFo HF HI HX hN
            by_cases hfit : k + 1 + nb.size ≤ s.size
            · have q7 : (k : Int) + 1 + (nb.size : Int) ≤ (s.size : Int) := by omega
              have q8 : (k : Int) + 1 ≤ (k : Int) + 1 + (nb.size : Int) := by omega
              have q10 : ((k : Int) + 1 + (nb.size : Int)).toNat = k + 1 + nb.size := by omega
              have q9 : ((k : Int) + 1).toNat = k + 1 := by omega
              cases hb : isAt l (k + 1) nb.data.toList with
              | true =>
                have hie2 : ((s.extract (k + 1) (k + 1 + nb.size)).toList == nb.toList) = true := by rw [hie.out]; exact hb
                rw [hb, if_pos rfl] at hfs
                clear hie hb hxe
                go_wp2
                go_quiet (fail)
                go_wp2
                go_roundw
                case rel => exact ⟨j + 1, q2 + nq, by omega, by go_num, by rw [hfs.out], rfl⟩
                case measure => simp [intOf]; omega
              | false =>
                have hie2 : ((s.extract (k + 1) (k + 1 + nb.size)).toList == nb.toList) = false := by rw [hie.out]; exact hb
                rw [hb, if_neg (by simp)] at hfs
                clear hie hb hxe
                go_wp2
                go_quiet (fail)
                go_wp2
                go_roundw
                case rel => exact ⟨j + 1, q2 + nq, by omega, by go_num, by rw [hfs.out], rfl⟩
                case measure => simp [intOf]; omega
            · have q7 : ¬ (k : Int) + 1 + (nb.size : Int) ≤ (s.size : Int) := by omega
              have q8 : decide ((k : Int) + 1 + (nb.size : Int) ≤ (s.size : Int)) = false := decide_eq_false q7
              rw [hxe.out (by omega), if_neg (by simp)] at hfs
              clear hie hxe
              go_wp2
              go_quiet (fail)
              go_wp2
              go_roundw
              case rel => exact ⟨j + 1, q2 + nq, by omega, by go_num, by rw [hfs.out], rfl⟩
              case measure => simp [intOf]; omega
          · have hj6 : j = 5 := by omega
            subst hj6
            rcases HFo.out with ⟨hf, he⟩ | ⟨j, hj4, hf, he⟩
            · have hv := hid (readR_none (HE0.out he))
              rw [hf]
              clear HE0 HE1 HFo HF HI HX hN he hf
              go_wp2
              go_ret2
              exact ⟨by rw [← hv.out]; rfl, hbn.trans (belowD _ _ _)⟩
            · obtain ⟨hr2, hr3⟩ := HE1.out _ _ he
              have hR2 := hid hr2
              obtain ⟨hsg, hnl⟩ := signs_at hj4
              have hj5 : j < 5 := by have : entK.length = 5 := rfl
                                     omega
              have f1 := hN.out j hj5
              rw [hf]
              generalize entK[j].2 = c at hR2 hsg
              have q6 : (j : Int) < 5 := by omega
              rw [← hnl] at hR2 hr3
              obtain ⟨hna, hn5, hn1⟩ := nameB_at hj5
              clear hna hnl hr2
              generalize nameB j = nb at f1 hR2 hr3 hn5 hn1
              have hw2 : IntKind.i64.wrap ((k : Int) + 1 + (nb.size : Int)) = (k : Int) + 1 + (nb.size : Int) := by rw [IntKind.wrap_i64]; omega
              have hw3 : IntKind.i64.wrap ((j : Int) + 1) = ((j + 1 : Nat) : Int) := by rw [IntKind.wrap_i64]; omega
              have q8 : ((j + 1 : Nat) : Int) ≤ 5 := by omega
              have HG := hid (glueB a #[c])
              clear HE0 HE1 HFo HF HI HX hN he hf
              go_wp2
              go_roundw
              case rel => exact ⟨k + 1 + nb.size, q2, a ++ [c], hr3, by go_num, by rw [HG.out], rfl, hR2⟩
              case measure => simp [intOf]; omega
      · have q1 : ((s[k].toNat : Int) == 38) = false := u8_ne (b := 38) h38
        have hrd2 := hid (HP.out k a hlt hrd.out h38)
        have he := one_ext s k hlt
        have hb1 : ((k + 1 : Nat) : Int) ≤ (s.size : Int) := by omega
        have HG := hid (glueB a #[s[k]])
        clear hrd h38 HP HN0 HEn HF HI HX hN
        go_wp2
        go_roundw
        case rel => exact ⟨k + 1, q, a ++ [s[k]], by omega, by go_num, by rw [HG.out], rfl, hrd2⟩
        case measure => simp [intOf]; omega
    · have hv := hid (readR_some (rd_end hrd.out (by omega)))
      clear hrd HP HN0 HEn HF HI HX hN
      go_wp2
      go_ret2
      exact ⟨by rw [← hv.out]; rfl, hbn.trans (belowD _ _ _)⟩
end Go.Proofs.YtnijlmkodgdhlaaDoor
