/-
  Numbers spelled in letters, five bits a letter, the lowest first; and read again. Of no program.
-/
import Derived.Lib.Bytealg
namespace Go.Proofs.Ytlhkembihpafaaa

def lettA : ByteArray := ⟨#[97, 98, 99, 100, 101, 102, 103, 104, 105, 106, 107, 108, 109, 110, 111, 112, 113, 114, 115, 116, 117, 118, 119, 120, 121, 122, 50, 51, 52, 53, 54, 55]⟩
def lt (m : Nat) : UInt8 := lettA.data.toList.getD m 0
def spell (n : Nat) : Nat → List UInt8
  | 0 => []
  | k + 1 => lt (n % 32) :: spell (n / 32) k

theorem spell_len (n k : Nat) : (spell n k).length = k := by
  induction k generalizing n with
  | zero => rfl
  | succ k ih => simp [spell, ih]
theorem spell_snoc (n k : Nat) : spell n (k + 1) = spell n k ++ [lt (n / 32 ^ k % 32)] := by
  induction k generalizing n with
  | zero => simp [spell]
  | succ k ih =>
    rw [spell, ih (n / 32), spell, List.cons_append, Nat.div_div_eq_div_mul, Nat.pow_succ, Nat.mul_comm]

/-- A letter's number; below 0: it is none. -/
def worthV (c : UInt8) : Int := Lib.indexByte lettA.data.toList c
theorem worth_lt (m : Nat) (h : m < 32) : worthV (lt m) = m := by
  have : ∀ m : Fin 32, worthV (lt m.val) = (m.val : Int) := by decide +kernel
  exact this ⟨m, h⟩
theorem worth_cases (c : UInt8) : worthV c = -1 ∨ ∃ m : Nat, m < 32 ∧ worthV c = m ∧ c = lt m := by
  have : ∀ c : Fin 256, worthV (UInt8.ofNat c.val) = -1 ∨ ∃ m : Fin 32, worthV (UInt8.ofNat c.val) = (m.val : Int) ∧ UInt8.ofNat c.val = lt m.val := by decide +kernel
  have h := this ⟨c.toNat, c.toNat_lt⟩
  simp only [UInt8.ofNat_toNat] at h
  rcases h with h | ⟨m, h1, h2⟩
  · exact Or.inl h
  · exact Or.inr ⟨m.val, m.isLt, h1, h2⟩

/-- What read does: the letters' number, from letter i on, atop n; none, if there is a byte that is no letter or a bit too many. -/
def rd : Nat → Nat → List UInt8 → Option Nat
  | _, n, [] => some n
  | i, n, c :: l => if worthV c < 0 then none else if (worthV c).toNat * 32 ^ i < 18446744073709551616 then rd (i + 1) (n + (worthV c).toNat * 32 ^ i) l else none

theorem rd_spell (len i k n : Nat) (hk : k < 32 ^ len) (hb : k * 32 ^ i < 18446744073709551616) : rd i n (spell k len) = some (n + k * 32 ^ i) := by
  induction len generalizing i k n with
  | zero =>
    have : k = 0 := by simpa using hk
    subst this
    simp [spell, rd]
  | succ len ih =>
    have hm : k % 32 < 32 := Nat.mod_lt _ (by decide)
    have hsum : k % 32 * 32 ^ i + k / 32 * 32 ^ (i + 1) = k * 32 ^ i := by
      rw [Nat.pow_succ, Nat.mul_comm (32 ^ i) 32, ← Nat.mul_assoc, ← Nat.add_mul]
      congr 1; omega
    rw [spell, rd, worth_lt _ hm, if_neg (by omega), Int.toNat_natCast, if_pos (by omega), ih (i + 1) (k / 32) _ (by rw [Nat.pow_succ] at hk; omega) (by omega)]
    congr 1; omega

theorem dvd64 {i : Nat} (h : i ≤ 12) : ∃ q, 18446744073709551616 = q * 32 ^ i := by
  have : ∀ i : Fin 13, 18446744073709551616 = (18446744073709551616 / 32 ^ i.val) * 32 ^ i.val := by decide +kernel
  exact ⟨_, this ⟨i, by omega⟩⟩

theorem rd_back (l : List UInt8) (i n m : Nat) (hi : i + l.length ≤ 13) (hn : n < 32 ^ i) (hn2 : n < 18446744073709551616) (h : rd i n l = some m) :
    ∃ k, m = n + k * 32 ^ i ∧ l = spell k l.length ∧ k < 32 ^ l.length ∧ m < 18446744073709551616 := by
  induction l generalizing i n with
  | nil => refine ⟨0, ?_, rfl, by simp, ?_⟩ <;> (simp [rd] at h; omega)
  | cons c l ih =>
    rw [rd] at h
    rcases worth_cases c with hw | ⟨d, hd, hw, hc⟩
    · rw [hw] at h; simp at h
    · rw [hw, if_neg (by omega), Int.toNat_natCast] at h
      by_cases hb : d * 32 ^ i < 18446744073709551616
      · rw [if_pos hb] at h
        simp only [List.length_cons] at hi
        obtain ⟨q, hq⟩ := dvd64 (i := i) (by omega)
        have hbd : n + d * 32 ^ i < 18446744073709551616 := by
          have h1 : d < q := by
            rw [hq] at hb
            exact Nat.lt_of_mul_lt_mul_right hb
          have h2 : (d + 1) * 32 ^ i ≤ q * 32 ^ i := Nat.mul_le_mul_right _ h1
          rw [← hq, Nat.add_mul] at h2
          omega
        have hlt : n + d * 32 ^ i < 32 ^ (i + 1) := by
          have h2 : (d + 1) * 32 ^ i ≤ 32 * 32 ^ i := Nat.mul_le_mul_right _ hd
          rw [Nat.add_mul] at h2
          rw [Nat.pow_succ]; omega
        obtain ⟨k, h1, h2, h3, h4⟩ := ih (i + 1) _ (by omega) hlt hbd h
        refine ⟨d + 32 * k, ?_, ?_, ?_, h4⟩
        · rw [h1, Nat.add_mul, Nat.pow_succ, Nat.mul_comm (32 ^ i) 32, ← Nat.mul_assoc, Nat.mul_comm k 32, Nat.add_assoc]
        · rw [List.length_cons, spell]
          have e1 : (d + 32 * k) % 32 = d := by omega
          have e2 : (d + 32 * k) / 32 = k := by omega
          rw [e1, e2, ← h2, hc]
        · rw [List.length_cons, Nat.pow_succ]; omega
      · rw [if_neg hb] at h; simp at h

/-- The tag. -/
def tagL (a c : Nat) : List UInt8 := spell a 13 ++ spell c 9
theorem tagL_len (a c : Nat) : (tagL a c).length = 22 := by simp [tagL, spell_len]
theorem tagL_take (a c : Nat) : (tagL a c).take 13 = spell a 13 := by rw [tagL, List.take_append_of_le_length (by rw [spell_len]; omega), List.take_of_length_le (by rw [spell_len]; omega)]
theorem tagL_drop (a c : Nat) : (tagL a c).drop 13 = spell c 9 := by rw [tagL, List.drop_append_of_le_length (by rw [spell_len]; omega), List.drop_of_length_le (by rw [spell_len]; omega)]; rfl

/-- What Read reads. -/
def readV (l : List UInt8) : Option (Nat × Nat) :=
  if l.length = 22 then
    match rd 0 0 (l.take 13), rd 0 0 (l.drop 13) with
    | some a, some c => if c ≤ 1099511627776 then some (a, c) else none
    | _, _ => none
  else none

theorem readV_tag {a c : Nat} (ha : a < 18446744073709551616) (hc : c ≤ 1099511627776) : readV (tagL a c) = some (a, c) := by
  rw [readV, if_pos (tagL_len a c), tagL_take, tagL_drop, rd_spell 13 0 a 0 (by omega) (by omega), rd_spell 9 0 c 0 (by omega) (by omega)]
  simp [hc]
theorem readV_some {l : List UInt8} {a c : Nat} (h : readV l = some (a, c)) : a < 18446744073709551616 ∧ c ≤ 1099511627776 ∧ l = tagL a c := by
  unfold readV at h
  split at h
  · rename_i hl
    split at h
    · rename_i x y hx hy
      obtain ⟨k, h1, h2, h3, h4⟩ := rd_back _ 0 0 x (by rw [List.length_take]; omega) (by simp) (by omega) hx
      obtain ⟨k', g1, g2, g3, g4⟩ := rd_back _ 0 0 y (by rw [List.length_drop]; omega) (by simp) (by omega) hy
      have e1 : k = x := by rw [h1]; simp
      have e2 : k' = y := by rw [g1]; simp
      subst e1 e2
      have t1 : (l.take 13).length = 13 := by rw [List.length_take]; omega
      have t2 : (l.drop 13).length = 9 := by rw [List.length_drop]; omega
      split at h
      · rename_i hc
        simp only [Option.some.injEq, Prod.mk.injEq] at h
        obtain ⟨rfl, rfl⟩ := h
        refine ⟨h4, hc, ?_⟩
        rw [tagL, ← List.take_append_drop 13 l]
        rw [t1] at h2
        rw [t2] at g2
        rw [← h2, ← g2]
      · simp at h
    · simp at h
  · simp at h
theorem tag_inj {a c b d : Nat} (ha : a < 18446744073709551616) (hc : c ≤ 1099511627776) (hb : b < 18446744073709551616) (hd : d ≤ 1099511627776) (h : tagL a c = tagL b d) : a = b ∧ c = d := by
  have h1 := readV_tag ha hc
  rw [h, readV_tag hb hd] at h1
  simp only [Option.some.injEq, Prod.mk.injEq] at h1
  exact ⟨h1.1.symm, h1.2.symm⟩

end Go.Proofs.Ytlhkembihpafaaa
