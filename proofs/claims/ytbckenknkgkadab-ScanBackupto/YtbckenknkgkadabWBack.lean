/-
  The walk of ScanBack: there and back.
-/
import Derived.Test.YtbckenknkgkadabUnesc
import Derived.Test.YtbckenknkgkadabDigits
import Derived.Test.YtbckenknkgkadabAwake
namespace Go.Proofs.Ytbckenknkgkadab.scanBack
open Go.RowKit Sc
set_option linter.unusedVariables false

theorem i64_of {a : Int} (h : (Lit.int .i64 a).wf = true) : -9223372036854775808 ≤ a ∧ a ≤ 9223372036854775807 := by
  simpa [Lit.wf, IntKind.min, IntKind.max, IntKind.signed, IntKind.bits] using h

theorem not92 {b : UInt8} (h : bareB b.toNat = true) : (b.toNat : Int) ≠ 92 := by
  intro e; rw [e] at h; exact absurd h (by decide)
theorem small_of {b : UInt8} (h : bareB b.toNat = false) (k : barB b.toNat = false) : badB b.toNat = false := by
  have hb := u8_bd b
  rw [badB, k, Bool.false_or, decide_eq_false_iff_not]
  intro h127
  simp only [bareB, decide_eq_false_iff_not] at h
  omega
theorem unq_quo : ∀ (l : List UInt8), hasBar l = false → unq (quo l) = some l
  | [], _ => rfl
  | b :: r, h => by
    have hb : barB b.toNat = false := by simp [hasBar] at h; exact h.1
    have hr : hasBar r = false := by simp [hasBar] at h ⊢; exact h.2
    have ih := unq_quo r hr
    by_cases ha : bareB b.toNat = true
    · rw [quo, if_pos ha]
      show unq (b :: quo r) = _
      rw [unq_plain (Or.inl (not92 ha)), if_pos ha, ih]; rfl
    · have ha' : bareB b.toNat = false := by simpa using ha
      rw [quo, if_neg ha]
      show unq (92 :: b :: quo r) = _
      rw [unq_esc (by decide), small_of ha' hb, ih]; rfl
theorem back_quo {l : List UInt8} (h : hasBar l = false) : unquoteV (34 :: quo l ++ [34]) = (l, 0) := by
  have e : mid (34 :: quo l ++ [34]) 1 ((34 :: quo l ++ [34]).length - 1) = quo l := by simp [mid]
  refine unquoteV_some ?_ (by rw [e]; exact unq_quo l h)
  rintro (h1 | h1 | h1)
  · simp at h1; omega
  · exact h1 rfl
  · apply h1
    have : (34 :: quo l ++ [34]).length - 1 = (34 :: quo l).length := by simp
    rw [this, List.getElem?_append_right (Nat.le_refl _), Nat.sub_self]; rfl

theorem hexd_hex (n : Nat) (h : n < 16) : isB (hexd n).toNat 4 = true := by
  have hh : ∀ n : Fin 16, isB ((hexd n.val).toNat : Int) 4 = true := by decide +kernel
  exact hh ⟨n, h⟩
theorem hexd_back (b : UInt8) : hxb (hexd (b.toNat / 16)) (hexd (b.toNat % 16)) = b := by
  have hh : ∀ n : Fin 256, hxb (hexd (n.val / 16)) (hexd (n.val % 16)) = UInt8.ofNat n.val := by decide +kernel
  have := hh ⟨b.toNat, b.toNat_lt⟩
  simpa using this
theorem une_esc (keep : List UInt8) : ∀ l : List UInt8, une (esc (kpF keep) l) = some l
  | [] => rfl
  | b :: r => by
    have ih := une_esc keep r
    by_cases hf : free (kpF keep) b = true
    · have h37 : (b.toNat : Int) ≠ 37 := by
        intro e
        have e' : b.toNat = 37 := by omega
        rw [free, kpF, if_pos e', e'] at hf
        exact absurd hf (by decide +kernel)
      rw [esc, if_pos hf]
      show une (b :: esc (kpF keep) r) = _
      rw [une_plain h37, ih]; rfl
    · rw [esc, if_neg hf]
      show une (37 :: hexd (b.toNat / 16) :: hexd (b.toNat % 16) :: esc (kpF keep) r) = _
      have := b.toNat_lt
      rw [une_hex (by decide) (hexd_hex _ (by omega)) (hexd_hex _ (Nat.mod_lt _ (by decide))), ih, hexd_back]; rfl

theorem numL_append (most : Int) : ∀ (a b : List UInt8) (n : Int), numL most n (a ++ b) = (numL most n a).bind fun x => numL most x b
  | [], b, n => rfl
  | c :: a, b, n => by
    simp only [List.cons_append, numL]
    split
    · rfl
    · exact numL_append most a b _
theorem numL_digits (k : Nat) : ∀ (m most : Nat), m ≤ k → m ≤ most → numL most 0 (digL m) = some (m : Int) := by
  induction k with
  | zero =>
    intro m most hk hm
    have h0 : m = 0 := by omega
    subst h0
    rw [digL_small (by omega), numL, if_neg (by rw [digb_toNat]; omega), numL, digb_toNat]
    congr 1
  | succ k ih =>
    intro m most hk hm
    by_cases h : m < 10
    · rw [digL_small h, numL, if_neg (by rw [digb_toNat]; omega), numL, digb_toNat]
      congr 1
      omega
    · rw [digL_big h, numL_append, ih (m / 10) most (by omega) (by omega)]
      show numL (most : Int) ((m / 10 : Nat) : Int) [digb m] = _
      rw [numL, if_neg (by rw [digb_toNat]; omega), numL, digb_toNat]
      congr 1
      omega
theorem digits_all (k : Nat) : ∀ m : Nat, m ≤ k → allB 1 (digL m) = true := by
  have hd : ∀ m, isB (digb m).toNat 1 = true := by
    intro m
    have hb := u8_bd (digb m)
    rw [isB_digit _ hb.1 hb.2, digb_toNat]
    simp
    omega
  induction k with
  | zero => intro m hm; rw [digL_small (by omega)]; simp [allB, hd]
  | succ k ih =>
    intro m hm
    by_cases h : m < 10
    · rw [digL_small h]; simp [allB, hd]
    · rw [digL_big h, allB_snoc, ih (m / 10) (by omega), hd]; rfl
theorem digits_ne (m : Nat) : digL m ≠ [] := by
  by_cases h : m < 10
  · rw [digL_small h]; simp
  · rw [digL_big h]; simp
theorem back_num (n : Nat) : numV n (digL n) = ((n : Int), 0) := by
  rw [numV, if_neg (by simp [digits_ne, digits_all n n (Nat.le_refl _)]), numL_digits n n n (Nat.le_refl _) (Nat.le_refl _)]

theorem mk_list (l : List UInt8) : (ByteArray.mk l.toArray).data.toList = l := rfl
theorem back_str (s : ByteArray) : (⟨s.data.toList.toArray⟩ : ByteArray) = s := by apply ByteArray.ext; simp

theorem quote_ok (s : ByteArray) (w : World) (hs : s.size ≤ 1048576) (h : hasBar s.data.toList = false) :
    Calls Try.prog 11 #[.string s] w fun e w' => e = .returned (.tuple #[.string ⟨(34 :: quo s.data.toList ++ [34]).toArray⟩, .int .i64 0]) ∧ Below w.heap.size w w' := by
  have := quote_any s w (by omega)
  rw [quoteV, h] at this
  exact this
theorem quote_no (s : ByteArray) (w : World) (hs : s.size ≤ 1048576) (h : hasBar s.data.toList = true) :
    Calls Try.prog 11 #[.string s] w fun e w' => e = .returned (.tuple #[.string ⟨#[]⟩, .int .i64 11]) ∧ Below w.heap.size w w' := by
  have := quote_any s w (by omega)
  rw [quoteV, h] at this
  exact this
theorem unquote_back (s : ByteArray) (w : World) (hs : s.size ≤ 1048576) (h : hasBar s.data.toList = false) :
    Calls Try.prog 12 #[.string ⟨(34 :: quo s.data.toList ++ [34]).toArray⟩] w fun e w' => e = .returned (.tuple #[.string s, .int .i64 0]) ∧ Below w.heap.size w w' := by
  have hl := quo_len s.data.toList
  rw [len_data] at hl
  have := unquote_any ⟨(34 :: quo s.data.toList ++ [34]).toArray⟩ w (by show (34 :: quo s.data.toList ++ [34]).toArray.size ≤ _; simp; omega)
  rw [mk_list, back_quo h, back_str] at this
  exact this
theorem unescape_back (s keep : ByteArray) (w : World) (hs : s.size ≤ 1048576) :
    Calls Try.prog 13 #[.string ⟨(esc (kpF keep.data.toList) s.data.toList).toArray⟩] w fun e w' => e = .returned (.tuple #[.string s, .int .i64 0]) ∧ Below w.heap.size w w' := by
  have hl := esc_len (kpF keep.data.toList) s.data.toList
  rw [len_data] at hl
  have := unescape_any ⟨(esc (kpF keep.data.toList) s.data.toList).toArray⟩ w (by show (esc (kpF keep.data.toList) s.data.toList).toArray.size ≤ _; simp; omega)
  rw [mk_list, unescV_some (une_esc keep.data.toList s.data.toList), back_str] at this
  exact this
theorem number_back (n : Nat) (w : World) (hn : n ≤ 9223372036854775807) :
    Calls Try.prog 15 #[.string ⟨(digL n).toArray⟩, .int .i64 n] w fun e w' => e = .returned (.tuple #[.int .i64 n, .int .i64 0]) ∧ w' = w := by
  have hl := digL_len19 hn
  have := number_any ⟨(digL n).toArray⟩ n w (by show (digL n).toArray.size ≤ _; unfold maxLen; simp; omega) (by omega) (by omega)
  rw [mk_list, back_num] at this
  exact this

theorem next {w a b : World} (h : Below w.heap.size w a) (k : Below a.heap.size a b) : Below w.heap.size w b := h.trans (k.mono h.size)

set_option maxHeartbeats 1000000 in
theorem law_walk (a0 a1 : ByteArray) (a2 : Int) (b0 : a0.size ≤ 1048576) (b1 : a1.size ≤ 1048576) (w2 : (Lit.int .i64 a2).wf = true) (w : World) :
    Calls Try.prog 4 #[.string a0, .string a1, .int .i64 a2] w fun e w' => e = .returned (.bool true) ∧ Below w.heap.size w w' := by
  have h2 := i64_of w2
  have ke : a1.size ≤ 9223372036854775807 := by omega
  by_cases hbar : hasBar a0.data.toList = true
  · by_cases hn : a2 < 0
    · go_enter Try.func4, Try.ntmps4
      go_wp2_with (first
        | (go_at_call 11; refine (quote_no _ _ b0 hbar).mono ?_; rintro e w1 ⟨rfl, h1⟩)
        | (go_at_call 14; refine (escape_any _ _ _ (by omega) ke).mono ?_; rintro e w3 ⟨rfl, h3⟩)
        | (go_at_call 13; refine (unescape_back a0 a1 _ b0).mono ?_; rintro e w4 ⟨rfl, h4⟩)
        | (go_at_call 10; refine (awake_any _).mono ?_; rintro e w7 ⟨rfl, h7⟩))
      go_ret
      exact ⟨rfl, next (next (next h1 h3) h4) h7⟩
    · obtain ⟨n, rfl⟩ := Int.eq_ofNat_of_zero_le (show 0 ≤ a2 by omega)
      have hnn : n ≤ 9223372036854775807 := by omega
      go_enter Try.func4, Try.ntmps4
      go_wp2_with (first
        | (go_at_call 11; refine (quote_no _ _ b0 hbar).mono ?_; rintro e w1 ⟨rfl, h1⟩)
        | (go_at_call 14; refine (escape_any _ _ _ (by omega) ke).mono ?_; rintro e w3 ⟨rfl, h3⟩)
        | (go_at_call 13; refine (unescape_back a0 a1 _ b0).mono ?_; rintro e w4 ⟨rfl, h4⟩)
        | (go_at_call 16; refine (digits_any n _ hnn).mono ?_; rintro e w5 ⟨rfl, h5⟩)
        | (go_at_call 15; refine (number_back n _ hnn).mono ?_; rintro e w6 ⟨rfl, rfl⟩)
        | (go_at_call 10; refine (awake_any _).mono ?_; rintro e w7 ⟨rfl, h7⟩))
      go_ret
      exact ⟨rfl, next (next (next (next h1 h3) h4) h5) h7⟩
  · have hbar' : hasBar a0.data.toList = false := by simpa using hbar
    clear hbar
    by_cases hn : a2 < 0
    · go_enter Try.func4, Try.ntmps4
      go_wp2_with (first
        | (go_at_call 11; refine (quote_ok _ _ b0 hbar').mono ?_; rintro e w1 ⟨rfl, h1⟩)
        | (go_at_call 12; refine (unquote_back a0 _ b0 hbar').mono ?_; rintro e w2 ⟨rfl, hq⟩)
        | (go_at_call 14; refine (escape_any _ _ _ (by omega) ke).mono ?_; rintro e w3 ⟨rfl, h3⟩)
        | (go_at_call 13; refine (unescape_back a0 a1 _ b0).mono ?_; rintro e w4 ⟨rfl, h4⟩)
        | (go_at_call 10; refine (awake_any _).mono ?_; rintro e w7 ⟨rfl, h7⟩))
      go_ret
      exact ⟨rfl, next (next (next (next h1 hq) h3) h4) h7⟩
    · obtain ⟨n, rfl⟩ := Int.eq_ofNat_of_zero_le (show 0 ≤ a2 by omega)
      have hnn : n ≤ 9223372036854775807 := by omega
      go_enter Try.func4, Try.ntmps4
      go_wp2_with (first
        | (go_at_call 11; refine (quote_ok _ _ b0 hbar').mono ?_; rintro e w1 ⟨rfl, h1⟩)
        | (go_at_call 12; refine (unquote_back a0 _ b0 hbar').mono ?_; rintro e w2 ⟨rfl, hq⟩)
        | (go_at_call 14; refine (escape_any _ _ _ (by omega) ke).mono ?_; rintro e w3 ⟨rfl, h3⟩)
        | (go_at_call 13; refine (unescape_back a0 a1 _ b0).mono ?_; rintro e w4 ⟨rfl, h4⟩)
        | (go_at_call 16; refine (digits_any n _ hnn).mono ?_; rintro e w5 ⟨rfl, h5⟩)
        | (go_at_call 15; refine (number_back n _ hnn).mono ?_; rintro e w6 ⟨rfl, rfl⟩)
        | (go_at_call 10; refine (awake_any _).mono ?_; rintro e w7 ⟨rfl, h7⟩))
      go_ret
      exact ⟨rfl, next (next (next (next (next h1 hq) h3) h4) h5) h7⟩

end Go.Proofs.Ytbckenknkgkadab.scanBack
