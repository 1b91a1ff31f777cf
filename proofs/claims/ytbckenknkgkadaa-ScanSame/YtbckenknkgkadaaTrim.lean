/-
  Contracts of Trim and Same, and of the document's own.
-/
import Derived.Test.YtbckenknkgkadaaLower
import Derived.Test.YtbckenknkgkadaaParts
namespace Go.Proofs.Ytbckenknkgkadaa
open Go.RowKit Sc
set_option linter.unusedVariables false

def blk (b : UInt8) : Bool := isB b.toNat 32
def trimL (l : List UInt8) : List UInt8 := ((l.dropWhile blk).reverse.dropWhile blk).reverse

theorem blk_cls (b : UInt8) : blk b = (cls b.toNat == 32) := by
  have h : ∀ n : Fin 256, isB (n.val : Int) 32 = (cls (n.val : Int) == 32) := by decide +kernel
  exact h ⟨b.toNat, b.toNat_lt⟩

theorem front_step {s : ByteArray} {k : Nat} (hk : k < s.size) (hb : blk s[k] = true) : (s.data.toList.drop k).dropWhile blk = (s.data.toList.drop (k + 1)).dropWhile blk := by
  rw [drop_cons s k hk, List.dropWhile_cons, if_pos hb]
theorem front_stop {s : ByteArray} {k : Nat} (hk : k < s.size) (hb : blk s[k] = false) : (s.data.toList.drop k).dropWhile blk = s.data.toList.drop k := by
  rw [drop_cons s k hk, List.dropWhile_cons, if_neg (by simp [hb])]
theorem mid_pop {s : ByteArray} {k t : Nat} (hkt : k < t) (ht : t ≤ s.size) : mid s.data.toList k t = mid s.data.toList k (t - 1) ++ [s[t - 1]] := by
  have h := mid_snoc s k (t - 1) (by omega) (by omega)
  rw [show t - 1 + 1 = t by omega] at h
  exact h
theorem back_step {s : ByteArray} {k t : Nat} (hkt : k < t) (ht : t ≤ s.size) (hb : blk s[t - 1] = true) :
    (mid s.data.toList k t).reverse.dropWhile blk = (mid s.data.toList k (t - 1)).reverse.dropWhile blk := by
  rw [mid_pop hkt ht, List.reverse_append, List.reverse_cons, List.reverse_nil, List.nil_append, List.singleton_append, List.dropWhile_cons, if_pos hb]
theorem back_stop {s : ByteArray} {k t : Nat} (hkt : k < t) (ht : t ≤ s.size) (hb : blk s[t - 1] = false) :
    (mid s.data.toList k t).reverse.dropWhile blk = (mid s.data.toList k t).reverse := by
  rw [mid_pop hkt ht, List.reverse_append, List.reverse_cons, List.reverse_nil, List.nil_append, List.singleton_append, List.dropWhile_cons, if_neg (by simp [hb])]
theorem mid_all (s : ByteArray) (k : Nat) : mid s.data.toList k s.size = s.data.toList.drop k := by
  rw [mid, List.take_of_length_le (by rw [List.length_drop, len_data]; omega)]
theorem trim_end {s : ByteArray} {k t : Nat} (hf : s.data.toList.dropWhile blk = s.data.toList.drop k)
    (hb : (s.data.toList.drop k).reverse.dropWhile blk = (mid s.data.toList k t).reverse) : s.extract k t = ⟨(trimL s.data.toList).toArray⟩ := by
  rw [ext_list, trimL, hf, hb, List.reverse_reverse, mid]

set_option maxHeartbeats 600000 in
theorem trim_any (s : ByteArray) (w : World) (hs : s.size ≤ 281474976710656) :
    Calls Try.prog 18 #[.string s] w fun e w' => e = .returned (.string ⟨(trimL s.data.toList).toArray⟩) ∧ Below w.heap.size w w' := by
  go_enter Try.func18, Try.ntmps18
  go_wp2
  go_loop [3] (fun i => ∃ k : Nat, k ≤ s.size ∧ i = .int .i64 k ∧ Hid (s.data.toList.dropWhile blk = (s.data.toList.drop k).dropWhile blk)) (fun i => s.size - (intOf i).toNat)
  case atStart => exact ⟨0, Nat.zero_le _, rfl, rfl⟩
  case round =>
    obtain ⟨k, hk, rfl, hf⟩ := hrel
    by_cases hgo : ∃ h : k < s.size, blk s[k] = true
    · obtain ⟨hlt, hb⟩ := hgo
      have hbd := u8_bd s[k]
      have hb' : isB s[k].toNat 32 = true := hb
      have hf' : Hid (s.data.toList.dropWhile blk = (s.data.toList.drop (k + 1)).dropWhile blk) := by show _ = _; rw [hf.out, front_step hlt hb]
      clear hb hf
      go_wp2_with (go_at_call 37; refine (is_any _ _ _ hbd.1 hbd.2).mono ?_; rintro e w' ⟨rfl, rfl⟩)
      go_round
      case rel => exact ⟨k + 1, by omega, by go_num, hf'⟩
      case measure => simp [intOf]; omega
    · have hF : Hid (s.data.toList.dropWhile blk = s.data.toList.drop k) := by
        show _ = _
        rw [hf.out]
        by_cases hlt : k < s.size
        · exact front_stop hlt (by by_cases hb : blk s[k] = true; exact absurd ⟨hlt, hb⟩ hgo; simpa using hb)
        · rw [drop_all s k (by omega)]; rfl
      clear hf
      by_cases hlt : k < s.size
      · have hbd := u8_bd s[k]
        have hb' : isB s[k].toNat 32 = false := by by_cases hb : blk s[k] = true; exact absurd ⟨hlt, hb⟩ hgo; simpa [blk] using hb
        clear hgo
        go_wp2_with (go_at_call 37; refine (is_any _ _ _ hbd.1 hbd.2).mono ?_; rintro e w' ⟨rfl, rfl⟩)
        go_loop [4] (fun i => ∃ t : Nat, t ≤ s.size ∧ k ≤ t ∧ i = .int .i64 t ∧ Hid ((s.data.toList.drop k).reverse.dropWhile blk = (mid s.data.toList k t).reverse.dropWhile blk)) (fun i => (intOf i).toNat)
        case atStart => exact ⟨s.size, Nat.le_refl _, hk, rfl, show _ = _ by rw [mid_all]⟩
        case round =>
          clear hb' hbd
          obtain ⟨t, ht, hkt, rfl, hbk⟩ := hrel
          by_cases hk2 : k < t
          · have hbd := u8_bd s[t - 1]
            have ht1 : ((t : Int) - 1).toNat = t - 1 := by omega
            by_cases hb : blk s[t - 1] = true
            · have hb' : isB s[t - 1].toNat 32 = true := hb
              have hbk' : Hid ((s.data.toList.drop k).reverse.dropWhile blk = (mid s.data.toList k (t - 1)).reverse.dropWhile blk) := by show _ = _; rw [hbk.out, back_step hk2 ht hb]
              clear hb hbk
              go_wp2_with (go_at_call 37; refine (is_any _ _ _ hbd.1 hbd.2).mono ?_; rintro e w' ⟨rfl, rfl⟩)
              go_round
              case rel => exact ⟨t - 1, by omega, by omega, by go_num, hbk'⟩
              case measure => simp [intOf]; omega
            · have hb' : isB s[t - 1].toNat 32 = false := by simpa [blk] using hb
              have hE : Hid (s.extract k t = ⟨(trimL s.data.toList).toArray⟩) := trim_end hF.out (by rw [hbk.out, back_stop hk2 ht (by simpa using hb)])
              clear hb hbk
              go_wp2_with (first
                | (go_at_call 37; refine (is_any _ _ _ hbd.1 hbd.2).mono ?_; rintro e w' ⟨rfl, rfl⟩)
                | (go_at_call 39; refine (piece_any s k t _ hs hkt ht).mono ?_; rintro e w2 ⟨rfl, hb2⟩))
              go_ret
              exact ⟨by rw [← hE.out]; rfl, hb2⟩
          · have hE : Hid (s.extract k t = ⟨(trimL s.data.toList).toArray⟩) := trim_end hF.out (by rw [hbk.out, show t = k by omega, mid_self]; rfl)
            clear hbk
            go_wp2_with (go_at_call 39; refine (piece_any s k t _ hs hkt ht).mono ?_; rintro e w2 ⟨rfl, hb2⟩)
            go_ret
            exact ⟨by rw [← hE.out]; rfl, hb2⟩
      · have hks : k = s.size := by omega
        have hE : Hid (s.extract k s.size = ⟨(trimL s.data.toList).toArray⟩) := trim_end hF.out (by rw [drop_all s k (by omega), hks, mid_self]; rfl)
        have HK : Hid (k = s.size) := hks
        clear hgo hks
        go_wp2
        go_loop [4] (fun i => i = .int .i64 s.size) (fun _ => 0)
        case atStart => exact rfl
        case round =>
          subst hrel
          go_wp2_with (go_at_call 39; refine (piece_any s k s.size _ hs hk (Nat.le_refl _)).mono ?_; rintro e w2 ⟨rfl, hb2⟩)
          go_ret
          exact ⟨by rw [← hE.out]; rfl, hb2⟩

set_option maxHeartbeats 600000 in
theorem reftrim_any (s : ByteArray) (w : World) (hs : s.size ≤ 281474976710656) :
    Calls Try.prog 19 #[.string s] w fun e w' => e = .returned (.string ⟨(trimL s.data.toList).toArray⟩) ∧ w' = w := by
  go_enter Try.func19, Try.ntmps19
  go_wp2
  go_loop [3] (fun i => ∃ k : Nat, k ≤ s.size ∧ i = .int .i64 k ∧ Hid (s.data.toList.dropWhile blk = (s.data.toList.drop k).dropWhile blk)) (fun i => s.size - (intOf i).toNat)
  case atStart => exact ⟨0, Nat.zero_le _, rfl, rfl⟩
  case round =>
    obtain ⟨k, hk, rfl, hf⟩ := hrel
    by_cases hgo : ∃ h : k < s.size, blk s[k] = true
    · obtain ⟨hlt, hb⟩ := hgo
      have hbd := u8_bd s[k]
      have hb' : (cls s[k].toNat == 32) = true := by rw [← blk_cls]; exact hb
      have hf' : Hid (s.data.toList.dropWhile blk = (s.data.toList.drop (k + 1)).dropWhile blk) := by show _ = _; rw [hf.out, front_step hlt hb]
      clear hb hf
      go_wp2_with (go_at_call 10; refine (refclass_any _ _ hbd.1 hbd.2).mono ?_; rintro e w' ⟨rfl, rfl⟩)
      go_round
      case rel => exact ⟨k + 1, by omega, by go_num, hf'⟩
      case measure => simp [intOf]; omega
    · have hF : Hid (s.data.toList.dropWhile blk = s.data.toList.drop k) := by
        show _ = _
        rw [hf.out]
        by_cases hlt : k < s.size
        · exact front_stop hlt (by by_cases hb : blk s[k] = true; exact absurd ⟨hlt, hb⟩ hgo; simpa using hb)
        · rw [drop_all s k (by omega)]; rfl
      clear hf
      by_cases hlt : k < s.size
      · have hbd := u8_bd s[k]
        have hb' : (cls s[k].toNat == 32) = false := by rw [← blk_cls]; by_cases hb : blk s[k] = true; exact absurd ⟨hlt, hb⟩ hgo; simpa using hb
        clear hgo
        go_wp2_with (go_at_call 10; refine (refclass_any _ _ hbd.1 hbd.2).mono ?_; rintro e w' ⟨rfl, rfl⟩)
        go_loop [4] (fun i => ∃ t : Nat, t ≤ s.size ∧ k ≤ t ∧ i = .int .i64 t ∧ Hid ((s.data.toList.drop k).reverse.dropWhile blk = (mid s.data.toList k t).reverse.dropWhile blk)) (fun i => (intOf i).toNat)
        case atStart => exact ⟨s.size, Nat.le_refl _, hk, rfl, show _ = _ by rw [mid_all]⟩
        case round =>
          clear hb' hbd
          obtain ⟨t, ht, hkt, rfl, hbk⟩ := hrel
          by_cases hk2 : k < t
          · have hbd := u8_bd s[t - 1]
            have ht1 : ((t : Int) - 1).toNat = t - 1 := by omega
            by_cases hb : blk s[t - 1] = true
            · have hb' : (cls s[t - 1].toNat == 32) = true := by rw [← blk_cls]; exact hb
              have hbk' : Hid ((s.data.toList.drop k).reverse.dropWhile blk = (mid s.data.toList k (t - 1)).reverse.dropWhile blk) := by show _ = _; rw [hbk.out, back_step hk2 ht hb]
              clear hb hbk
              go_wp2_with (go_at_call 10; refine (refclass_any _ _ hbd.1 hbd.2).mono ?_; rintro e w' ⟨rfl, rfl⟩)
              go_round
              case rel => exact ⟨t - 1, by omega, by omega, by go_num, hbk'⟩
              case measure => simp [intOf]; omega
            · have hb' : (cls s[t - 1].toNat == 32) = false := by rw [← blk_cls]; simpa using hb
              have hE : Hid (s.extract k t = ⟨(trimL s.data.toList).toArray⟩) := trim_end hF.out (by rw [hbk.out, back_stop hk2 ht (by simpa using hb)])
              clear hb hbk
              go_wp2_with (go_at_call 10; refine (refclass_any _ _ hbd.1 hbd.2).mono ?_; rintro e w' ⟨rfl, rfl⟩)
              go_ret
              exact ⟨by rw [← hE.out]; rfl, rfl⟩
          · have hE : Hid (s.extract k t = ⟨(trimL s.data.toList).toArray⟩) := trim_end hF.out (by rw [hbk.out, show t = k by omega, mid_self]; rfl)
            clear hbk
            go_wp2
            go_ret
            exact ⟨by rw [← hE.out]; rfl, rfl⟩
      · have hks : k = s.size := by omega
        have hE : Hid (s.extract k s.size = ⟨(trimL s.data.toList).toArray⟩) := trim_end hF.out (by rw [drop_all s k (by omega), hks, mid_self]; rfl)
        have HK : Hid (k = s.size) := hks
        clear hgo hks
        go_wp2
        go_loop [4] (fun i => i = .int .i64 s.size) (fun _ => 0)
        case atStart => exact rfl
        case round =>
          subst hrel
          go_wp2
          go_ret
          exact ⟨by rw [← hE.out]; rfl, rfl⟩

def sameB (a b : List UInt8) : Bool := lowL a == lowL b

set_option maxHeartbeats 400000 in
theorem same_any (a b : ByteArray) (w : World) (ha : a.size ≤ 281474976710656) (hb : b.size ≤ 281474976710656) :
    Calls Try.prog 20 #[.string a, .string b] w fun e w' => e = .returned (.bool (sameB a.data.toList b.data.toList)) ∧ Below w.heap.size w w' := by
  go_enter Try.func20, Try.ntmps20
  go_wp2_with fail
  refine (lower_txt _ _ ha).mono ?_
  rintro e w1 ⟨rfl, h1⟩
  go_wp2_with fail
  refine (lower_txt _ _ hb).mono ?_
  rintro e w2 ⟨rfl, h2⟩
  go_wp2
  go_ret
  exact ⟨ret_bool (by rw [sameB]), h1.trans (h2.mono h1.size)⟩

set_option maxHeartbeats 400000 in
theorem refsame_any (a b : ByteArray) (w : World) (ha : a.size ≤ 140737488355328) (hb : b.size ≤ 140737488355328) :
    Calls Try.prog 21 #[.string a, .string b] w fun e w' => e = .returned (.bool (sameB a.data.toList b.data.toList)) ∧ Below w.heap.size w w' := by
  go_enter Try.func21, Try.ntmps21
  go_wp2_with fail
  refine (reflower_txt _ _ ha).mono ?_
  rintro e w1 ⟨rfl, h1⟩
  go_wp2_with fail
  refine (reflower_txt _ _ hb).mono ?_
  rintro e w2 ⟨rfl, h2⟩
  go_wp2
  go_ret
  exact ⟨ret_bool (by rw [sameB]), h1.trans (h2.mono h1.size)⟩

end Go.Proofs.Ytbckenknkgkadaa
