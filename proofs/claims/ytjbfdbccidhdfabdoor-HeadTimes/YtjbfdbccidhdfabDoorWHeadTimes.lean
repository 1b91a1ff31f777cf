/-
  The walk of the law HeadTimes.
-/
import Derived.Test.YtjbfdbccidhdfabDoorHAwake
import Derived.Test.YtjbfdbccidhdfabDoorFD
namespace Go.Proofs.YtjbfdbccidhdfabDoor.headTimes
open Go.RowKit Go.Sort Sc
set_option linter.unusedVariables false
set_option maxRecDepth 20000

theorem u32_of {a : Int} (h : (Lit.int .u32 a).wf = true) : 0 ≤ a ∧ a ≤ 4294967295 := by
  simpa [Lit.wf, IntKind.min, IntKind.max, IntKind.signed, IntKind.bits] using h
theorem u8_of {a : Int} (h : (Lit.int .u8 a).wf = true) : 0 ≤ a ∧ a ≤ 255 := by
  simpa [Lit.wf, IntKind.min, IntKind.max, IntKind.signed, IntKind.bits] using h
theorem digits_h (n : Int) (w : World) (h0 : 0 ≤ n) (h1 : n ≤ 9223372036854775807) :
    Calls Tryd.prog 9 #[.int .i64 n] w fun e w' => e = .returned (.string ⟨(digL n.toNat).toArray⟩) ∧ Below w.heap.size w w' := by
  have k := digits_any n.toNat w (by omega)
  rw [Int.toNat_of_nonneg h0] at k
  exact k
theorem nought_snoc (k : Nat) : (⟨(List.replicate k 48).toArray⟩ : ByteArray) ++ (⟨#[48]⟩ : ByteArray) = ⟨(List.replicate (k + 1) (48 : UInt8)).toArray⟩ := by
  have e0 : (⟨#[48]⟩ : ByteArray) = ⟨[48].toArray⟩ := rfl
  rw [e0, ByteArray.mk_append_mk, List.replicate_succ']
theorem timeglue (a b : List UInt8) : (((⟨#[32]⟩ : ByteArray) ++ ⟨a.toArray⟩) ++ ⟨b.toArray⟩) ++ (⟨#[9]⟩ : ByteArray) = ⟨(32 :: (a ++ b) ++ [9]).toArray⟩ := by
  have e0 : (⟨#[32]⟩ : ByteArray) = ⟨[32].toArray⟩ := rfl
  have e1 : (⟨#[9]⟩ : ByteArray) = ⟨[9].toArray⟩ := rfl
  rw [e0, e1, ByteArray.mk_append_mk, ByteArray.mk_append_mk, ByteArray.mk_append_mk]; simp
theorem dig_all {l : List UInt8} (h : ∀ b ∈ l, 48 ≤ b.toNat ∧ b.toNat ≤ 57) : allB 1 l = true := by
  have hb : ∀ b : UInt8, 48 ≤ b.toNat ∧ b.toNat ≤ 57 → isB b.toNat 1 = true := by apply byte_all; decide +kernel
  unfold allB
  exact List.all_eq_true.2 fun b hx => hb b (h b hx)

set_option maxHeartbeats 2000000 in
set_option maxRecDepth 100000 in
theorem law_walk (a0 a1 : Int) (a2 : ByteArray) (w0 : (Lit.int .u32 a0).wf = true) (w1 : (Lit.int .u8 a1).wf = true) (b2 : a2.size ≤ 140737488351232) (w : World) :
    Calls Tryd.prog 4 #[.int .u32 a0, .int .u8 a1, .string a2] w fun e w' => e = .returned (.bool true) ∧ Below w.heap.size w w' := by
  obtain ⟨m, rfl⟩ : ∃ l : List UInt8, a2 = ⟨l.toArray⟩ := ⟨a2.data.toList, by simp⟩
  rw [size_list] at b2
  obtain ⟨p0, p1⟩ := u32_of w0
  obtain ⟨q0, q1⟩ := u8_of w1
  obtain ⟨n, rfl⟩ := Int.eq_ofNat_of_zero_le p0
  obtain ⟨c, hc⟩ : ∃ c : Nat, (c : Int) = a1 % 20 := ⟨(a1 % 20).toNat, Int.toNat_of_nonneg (Int.emod_nonneg _ (by omega))⟩
  have hc20 : c < 20 := by have := Int.emod_lt_of_pos a1 (show (0 : Int) < 20 by omega); omega
  have hrem : a1 % 20 = (c : Int) := hc.symm
  have hrem2 : a1.tmod 20 = (c : Int) := by rw [Int.tmod_eq_emod_of_nonneg q0]; exact hc.symm
  have r1 : IntKind.u8.wrap (c : Int) = (c : Int) := by simp [IntKind.wrap, IntKind.signed, IntKind.bits]; omega
  have r2 : IntKind.i64.wrap (c : Int) = (c : Int) := by simp [IntKind.wrap, IntKind.signed, IntKind.bits]; omega
  have r3 : IntKind.i64.wrap (n : Int) = (n : Int) := by simp [IntKind.wrap, IntKind.signed, IntKind.bits]; omega
  have hdl := digL_len19 (n := n) (by omega)
  have KD := hid (fun w' => digits_h (n : Int) w' (by omega) (by omega))
  have K1 := hid (fun w' => htime_any (32 :: (List.replicate c 48 ++ digL n) ++ [9]) w' (by simp; omega))
  have K2 := hid (fun w' => htime_any (digL n ++ m) w' (by simp; omega))
  rw [time_noughts] at K1
  have HG1 := hid (timeglue (List.replicate c 48) (digL n))
  have HG2 : Hid ((⟨(digL n).toArray⟩ : ByteArray) ++ ⟨m.toArray⟩ = ⟨(digL n ++ m).toArray⟩) := show _ = _ by rw [ByteArray.mk_append_mk]
  have HM := hid (fun (h : ∀ b ∈ m, 48 ≤ b.toNat ∧ b.toNat ≤ 57) => time_more n (dig_all h))
  have hmx : (maxS : Int) = 2147483647 := rfl
  rw [hmx] at K1
  rw [hmx] at HM
  obtain ⟨v, hv⟩ : ∃ v : Int, v = if (n : Int) ≤ 2147483647 then (n : Int) else 2147483647 := ⟨_, rfl⟩
  rw [← hv] at K1 HM
  simp only [Int.toNat_natCast] at KD
  generalize digL n = dl at KD K1 K2 HG1 HG2 HM hdl
  generalize timeV (dl ++ m) = R2 at K2 HM
  obtain ⟨tb, te⟩ := R2
  simp only at K1 K2
  clear hmx w0 w1 hc
  have hvb : (v != v) = false := by simp
  have HV := hid hv
  have HC20 := hid hc20
  clear hv
  go_enter Tryd.func4, Tryd.ntmps4
  go_wp2
  go_loopw [7, 8] (fun x i wr => ∃ k : Nat, k ≤ c ∧ i = .int .i64 k ∧ x = .string ⟨(List.replicate k (48 : UInt8)).toArray⟩ ∧ wr = w) (fun _ i _ => c - (intOf i).toNat)
  case atStart => exact ⟨0, by omega, rfl, rfl, rfl⟩
  case round =>
    obtain ⟨k, hk, rfl, rfl, rfl⟩ := hrel
    by_cases hlt : k < c
    · have hsn := nought_snoc k
      have hrl : (List.replicate k (48 : UInt8)).length ≤ 20 := by simp; omega
      generalize List.replicate k (48 : UInt8) = rk at hsn hrl ⊢
      obtain ⟨rk1, hr1⟩ : ∃ r, r = List.replicate (k + 1) (48 : UInt8) := ⟨_, rfl⟩
      rw [← hr1] at hsn
      have HR1 := hid hr1
      clear hr1
      have hlt' : (k : Int) < (c : Int) := by omega
      go_wp2
      go_roundw
      case rel => exact ⟨k + 1, by omega, by go_num, by rw [← HR1.out], by first | rfl | trivial⟩
      case measure => simp [intOf]; omega
    · have hke : c = k := by omega
      subst hke
      have hlt' : ¬ ((c : Int) < (c : Int)) := by omega
      have hrl : (List.replicate c (48 : UInt8)).length ≤ 20 := by simp; omega
      generalize List.replicate c (48 : UInt8) = rk at hrl K1 HG1 ⊢
      generalize 32 :: (rk ++ dl) ++ [9] = tx at K1 HG1
      generalize dl ++ m = ty at K2 HG2
      by_cases hle : (n : Int) ≤ 2147483647
      · have hv : v = (n : Int) := by rw [HV.out, if_pos hle]
        subst hv
        clear HV
        go_wp2_with fail
        refine (KD.out _).mono ?_
        rintro e w1 ⟨rfl, hw1⟩
        have hg1 := HG1.out
        go_wp2_with fail
        refine (K1.out _).mono ?_
        rintro e w2 ⟨rfl, hw2⟩
        have hb2 := hw1.trans (hw2.mono hw1.size)
        clear hw1 hw2 hg1
        have hg2 := HG2.out
        go_wp2_with fail
        refine (KD.out _).mono ?_
        rintro e w3 ⟨rfl, hw3⟩
        have hb3 := hb2.trans (hw3.mono hb2.size)
        clear hw3
        go_wp2_with fail
        refine (K2.out _).mono ?_
        rintro e w4 ⟨rfl, hw4⟩
        have hb4 := hb3.trans (hw4.mono hb3.size)
        clear hw4 hg2 K1 K2 KD HG1 HG2
        go_wp2
        go_loopw [14] (fun i wr => ∃ k : Nat, k ≤ m.length ∧ i = .int .i64 k ∧ Hid (∀ b ∈ m.take k, 48 ≤ b.toNat ∧ b.toNat ≤ 57) ∧ wr = w4) (fun i _ => m.length - (intOf i).toNat)
        case atStart => exact ⟨0, by omega, rfl, hid (by simp), rfl⟩
        case round =>
          obtain ⟨k, hk, rfl, HA, rfl⟩ := hrel
          by_cases hlt : k < m.length
          · have hk2 : k < (⟨m.toArray⟩ : ByteArray).size := by rw [size_list]; exact hlt
            have hki : (k : Int) < (m.length : Int) := by omega
            have hge : (⟨m.toArray⟩ : ByteArray)[k]'hk2 = m[k] := rfl
            have htk : m.take (k + 1) = m.take k ++ [m[k]] := List.take_succ_eq_append_getElem hlt
            have HTK := hid htk
            clear htk
            generalize m[k] = x at hge HTK
            by_cases g1 : (x.toNat : Int) < 48
            · have dg : decide ((x.toNat : Int) < 48) = true := decide_eq_true g1
              clear HTK HM
              go_wp2_with (go_at_call 7; refine (awake8_any _).mono ?_; rintro e w9 ⟨rfl, hw9⟩)
              go_ret
              exact ⟨rfl, hb4.trans (hw9.mono hb4.size)⟩
            · have dg : decide ((x.toNat : Int) < 48) = false := decide_eq_false g1
              by_cases g2 : (57 : Int) < (x.toNat : Int)
              · have dg2 : decide ((57 : Int) < (x.toNat : Int)) = true := decide_eq_true g2
                clear HTK HM
                go_wp2_with (go_at_call 7; refine (awake8_any _).mono ?_; rintro e w9 ⟨rfl, hw9⟩)
                go_ret
                exact ⟨rfl, hb4.trans (hw9.mono hb4.size)⟩
              · have dg2 : decide ((57 : Int) < (x.toNat : Int)) = false := decide_eq_false g2
                have HA2 : Hid (∀ b ∈ m.take (k + 1), 48 ≤ b.toNat ∧ b.toNat ≤ 57) := fun b hb => by
                  rw [HTK.out] at hb
                  rcases List.mem_append.1 hb with hb | hb
                  · exact HA.out b hb
                  · simp at hb; subst hb; omega
                clear HTK
                go_wp2
                go_roundw
                case rel => exact ⟨k + 1, by omega, by go_num, HA2, by first | rfl | trivial⟩
                case measure => simp [intOf]; omega
          · have hall : ∀ b ∈ m, 48 ≤ b.toNat ∧ b.toNat ≤ 57 := by
              have := HA.out
              rw [List.take_of_length_le (by omega)] at this
              exact this
            obtain ⟨bb, hbb, hb5, hb6⟩ := HM.out hall
            simp only [Prod.mk.injEq] at hbb
            obtain ⟨hbb1, hbb2⟩ := hbb
            subst hbb1 hbb2
            clear hall HM HA
            have d5 : (n : Int) ≤ tb := hb5
            go_wp2_with (go_at_call 7; refine (awake8_any _).mono ?_; rintro e w9 ⟨rfl, hw9⟩)
            go_ret
            exact ⟨rfl, hb4.trans (hw9.mono hb4.size)⟩
      · have hv : v = 2147483647 := by rw [HV.out, if_neg hle]
        subst hv
        have hle' : (2147483647 : Int) < (n : Int) := by omega
        clear HV
        go_wp2_with fail
        refine (KD.out _).mono ?_
        rintro e w1 ⟨rfl, hw1⟩
        have hg1 := HG1.out
        go_wp2_with fail
        refine (K1.out _).mono ?_
        rintro e w2 ⟨rfl, hw2⟩
        have hb2 := hw1.trans (hw2.mono hw1.size)
        clear hw1 hw2 hg1
        have hg2 := HG2.out
        go_wp2_with fail
        refine (KD.out _).mono ?_
        rintro e w3 ⟨rfl, hw3⟩
        have hb3 := hb2.trans (hw3.mono hb2.size)
        clear hw3
        go_wp2_with fail
        refine (K2.out _).mono ?_
        rintro e w4 ⟨rfl, hw4⟩
        have hb4 := hb3.trans (hw4.mono hb3.size)
        clear hw4 hg2 K1 K2 KD HG1 HG2
        go_wp2
        go_loopw [14] (fun i wr => ∃ k : Nat, k ≤ m.length ∧ i = .int .i64 k ∧ Hid (∀ b ∈ m.take k, 48 ≤ b.toNat ∧ b.toNat ≤ 57) ∧ wr = w4) (fun i _ => m.length - (intOf i).toNat)
        case atStart => exact ⟨0, by omega, rfl, hid (by simp), rfl⟩
        case round =>
          obtain ⟨k, hk, rfl, HA, rfl⟩ := hrel
          by_cases hlt : k < m.length
          · have hk2 : k < (⟨m.toArray⟩ : ByteArray).size := by rw [size_list]; exact hlt
            have hki : (k : Int) < (m.length : Int) := by omega
            have hge : (⟨m.toArray⟩ : ByteArray)[k]'hk2 = m[k] := rfl
            have htk : m.take (k + 1) = m.take k ++ [m[k]] := List.take_succ_eq_append_getElem hlt
            have HTK := hid htk
            clear htk
            generalize m[k] = x at hge HTK
            by_cases g1 : (x.toNat : Int) < 48
            · have dg : decide ((x.toNat : Int) < 48) = true := decide_eq_true g1
              clear HTK HM
              go_wp2_with (go_at_call 7; refine (awake8_any _).mono ?_; rintro e w9 ⟨rfl, hw9⟩)
              go_ret
              exact ⟨rfl, hb4.trans (hw9.mono hb4.size)⟩
            · have dg : decide ((x.toNat : Int) < 48) = false := decide_eq_false g1
              by_cases g2 : (57 : Int) < (x.toNat : Int)
              · have dg2 : decide ((57 : Int) < (x.toNat : Int)) = true := decide_eq_true g2
                clear HTK HM
                go_wp2_with (go_at_call 7; refine (awake8_any _).mono ?_; rintro e w9 ⟨rfl, hw9⟩)
                go_ret
                exact ⟨rfl, hb4.trans (hw9.mono hb4.size)⟩
              · have dg2 : decide ((57 : Int) < (x.toNat : Int)) = false := decide_eq_false g2
                have HA2 : Hid (∀ b ∈ m.take (k + 1), 48 ≤ b.toNat ∧ b.toNat ≤ 57) := fun b hb => by
                  rw [HTK.out] at hb
                  rcases List.mem_append.1 hb with hb | hb
                  · exact HA.out b hb
                  · simp at hb; subst hb; omega
                clear HTK
                go_wp2
                go_roundw
                case rel => exact ⟨k + 1, by omega, by go_num, HA2, by first | rfl | trivial⟩
                case measure => simp [intOf]; omega
          · have hall : ∀ b ∈ m, 48 ≤ b.toNat ∧ b.toNat ≤ 57 := by
              have := HA.out
              rw [List.take_of_length_le (by omega)] at this
              exact this
            obtain ⟨bb, hbb, hb5, hb6⟩ := HM.out hall
            simp only [Prod.mk.injEq] at hbb
            obtain ⟨hbb1, hbb2⟩ := hbb
            subst hbb1 hbb2
            clear hall HM HA
            have d5 : (2147483647 : Int) ≤ tb := hb5
            go_wp2_with (go_at_call 7; refine (awake8_any _).mono ?_; rintro e w9 ⟨rfl, hw9⟩)
            go_ret
            exact ⟨rfl, hb4.trans (hw9.mono hb4.size)⟩

end Go.Proofs.YtjbfdbccidhdfabDoor.headTimes
