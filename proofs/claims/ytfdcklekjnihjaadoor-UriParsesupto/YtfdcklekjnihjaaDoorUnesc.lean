/-
  Contracts of hexValue and Unescape.
-/
import Derived.Test.YtfdcklekjnihjaaDoorUnquote
import Derived.Test.YtfdcklekjnihjaaDoorEscape
import Derived.Deep.QuietTactic
import Derived.BigQuiet
namespace Go.Proofs.YtfdcklekjnihjaaDoor
open Go.RowKit Sc
set_option linter.unusedVariables false
set_option maxRecDepth 20000

theorem Own.drewN {w : World} {B : Nat} {e : TypeId} {v : Value} {xs : List Value} (h : Own w B e v xs) (q : Nat) : Own (w.drewN q) B e v xs := h
theorem Below.drewN {B : Nat} {a w : World} (h : Below B a w) (q : Nat) : Below B a (w.drewN q) := ⟨h.os, h.tape, h.output, h.size, h.block⟩

/-- What a digit of sixteen is worth. -/
def hexv (c : Int) : Int := if 48 ≤ c ∧ c ≤ 57 then c - 48 else low c - 87
theorem isB_hex (c : Int) (h0 : 0 ≤ c) (h1 : c ≤ 255) : isB c 4 = decide (48 ≤ c ∧ c ≤ 57 ∨ 97 ≤ c ∧ c ≤ 102 ∨ 65 ≤ c ∧ c ≤ 70) := by
  obtain ⟨n, rfl⟩ := Int.eq_ofNat_of_zero_le h0
  have h : ∀ n : Fin 256, isB (n.val : Int) 4 = decide (48 ≤ (n.val : Int) ∧ (n.val : Int) ≤ 57 ∨ 97 ≤ (n.val : Int) ∧ (n.val : Int) ≤ 102 ∨ 65 ≤ (n.val : Int) ∧ (n.val : Int) ≤ 70) := by decide +kernel
  exact h ⟨n, by omega⟩
theorem hex_of {b : UInt8} (h : isB b.toNat 4 = true) : 48 ≤ (b.toNat : Int) ∧ (b.toNat : Int) ≤ 57 ∨ 97 ≤ (b.toNat : Int) ∧ (b.toNat : Int) ≤ 102 ∨ 65 ≤ (b.toNat : Int) ∧ (b.toNat : Int) ≤ 70 := by
  have hb := u8_bd b
  rw [isB_hex _ hb.1 hb.2] at h
  simpa using h
theorem hexv_bd {b : UInt8} (h : isB b.toNat 4 = true) : 0 ≤ hexv b.toNat ∧ hexv b.toNat ≤ 15 := by
  have := hex_of h
  unfold hexv low
  repeat' split
  all_goals omega
def hxb (x y : UInt8) : UInt8 := UInt8.ofNat (16 * hexv x.toNat + hexv y.toNat).toNat
theorem hxb_toNat {x y : UInt8} (hx : isB x.toNat 4 = true) (hy : isB y.toNat 4 = true) : ((hxb x y).toNat : Int) = 16 * hexv x.toNat + hexv y.toNat := by
  have h1 := hexv_bd hx
  have h2 := hexv_bd hy
  rw [hxb, UInt8.toNat_ofNat']
  omega

set_option maxHeartbeats 400000 in
theorem hexvalue_any (b : UInt8) (w : World) (h : isB b.toNat 4 = true) :
    Calls Tryd.prog 82 #[.int .u8 b.toNat] w fun e w' => e = .returned (.int .u8 (hexv b.toNat)) ∧ w' = w := by
  have hbd := u8_bd b
  have hx := hex_of h
  by_cases hd : 48 ≤ (b.toNat : Int) ∧ (b.toNat : Int) ≤ 57
  · have h1 : isB b.toNat 1 = true := by rw [isB_digit _ hbd.1 hbd.2]; simpa using hd
    have hv : Hid (hexv b.toNat = (b.toNat : Int) - 48) := by show _ = _; rw [hexv, if_pos hd]
    obtain ⟨hd1, hd2⟩ := hd
    clear h hx
    go_enter Tryd.func82, Tryd.ntmps82
    go_wp2_with (go_at_call 59; refine (is_any _ _ _ hbd.1 hbd.2).mono ?_; rintro e w' ⟨rfl, rfl⟩)
    go_ret
    exact ⟨ret_int hv.out.symm, rfl⟩
  · have h1 : isB b.toNat 1 = false := by rw [isB_digit _ hbd.1 hbd.2]; simpa using hd
    have hl : 97 ≤ low b.toNat ∧ low b.toNat ≤ 102 := by unfold low; split <;> omega
    have hv : Hid (hexv b.toNat = low b.toNat - 97 + 10) := by show _ = _; rw [hexv, if_neg hd]; omega
    obtain ⟨hl1, hl2⟩ := hl
    clear h hx hd
    go_enter Tryd.func82, Tryd.ntmps82
    go_wp2_with (first
      | (go_at_call 59; refine (is_any _ _ _ hbd.1 hbd.2).mono ?_; rintro e w' ⟨rfl, rfl⟩)
      | (go_at_call 52; refine (lower_any _ _ hbd.1 hbd.2).mono ?_; rintro e w' ⟨rfl, rfl⟩))
    go_ret
    exact ⟨ret_int hv.out.symm, rfl⟩

/-- What escapes stand for. -/
def une : List UInt8 → Option (List UInt8)
  | [] => some []
  | [b] => if (b.toNat : Int) = 37 then none else some [b]
  | [b, x] => if (b.toNat : Int) = 37 then none else (une [x]).map (b :: ·)
  | b :: x :: y :: r => if (b.toNat : Int) = 37 then (if isB x.toNat 4 && isB y.toNat 4 then (une r).map (hxb x y :: ·) else none) else (une (x :: y :: r)).map (b :: ·)
theorem une_plain {b : UInt8} {r : List UInt8} (h : (b.toNat : Int) ≠ 37) : une (b :: r) = (une r).map (b :: ·) := by
  match r with
  | [] => simp [une, h]
  | [x] => show (if (b.toNat : Int) = 37 then none else (une [x]).map (b :: ·)) = _; rw [if_neg h]
  | x :: y :: r => rw [une, if_neg h]
theorem une_short {b : UInt8} {r : List UInt8} (h : (b.toNat : Int) = 37) (hr : r.length < 2) : une (b :: r) = none := by
  match r, hr with
  | [], _ => simp [une, h]
  | [x], _ => rw [une, if_pos h]
  | x :: y :: r, hr => simp at hr; omega
theorem une_hex {b x y : UInt8} {r : List UInt8} (h : (b.toNat : Int) = 37) (hx : isB x.toNat 4 = true) (hy : isB y.toNat 4 = true) : une (b :: x :: y :: r) = (une r).map (hxb x y :: ·) := by
  rw [une, if_pos h, hx, hy]; rfl
theorem une_bad {b x y : UInt8} {r : List UInt8} (h : (b.toNat : Int) = 37) (hx : (isB x.toNat 4 && isB y.toNat 4) = false) : une (b :: x :: y :: r) = none := by
  rw [une, if_pos h, hx]; rfl
def unescV (l : List UInt8) : List UInt8 × Int := match une l with | some r => (r, 0) | none => ([], 12)
theorem unescV_some {l r : List UInt8} (h : une l = some r) : unescV l = (r, 0) := by rw [unescV, h]
theorem unescV_none {l : List UInt8} (h : une l = none) : unescV l = ([], 12) := by rw [unescV, h]

def UneAt (l acc rest : List UInt8) : Prop := une l = (une rest).map (acc ++ ·)
theorem uneAt0 (l : List UInt8) : UneAt l [] l := by unfold UneAt; cases une l <;> simp
theorem uneAt_end {l acc : List UInt8} (h : UneAt l acc []) : une l = some acc := by rw [h]; simp [une]
theorem uneAt_plain {l acc : List UInt8} {b : UInt8} {r : List UInt8} (h : UneAt l acc (b :: r)) (hb : (b.toNat : Int) ≠ 37) : UneAt l (acc ++ [b]) r := by
  unfold UneAt at *
  rw [h, une_plain hb]; exact map_snoc acc b (une r)
theorem uneAt_hex {l acc : List UInt8} {b x y : UInt8} {r : List UInt8} (h : UneAt l acc (b :: x :: y :: r)) (hb : (b.toNat : Int) = 37) (hx : isB x.toNat 4 = true) (hy : isB y.toNat 4 = true) : UneAt l (acc ++ [hxb x y]) r := by
  unfold UneAt at *
  rw [h, une_hex hb hx hy]; exact map_snoc acc _ (une r)
theorem uneAt_short {l acc : List UInt8} {b : UInt8} {r : List UInt8} (h : UneAt l acc (b :: r)) (hb : (b.toNat : Int) = 37) (hr : r.length < 2) : une l = none := by
  unfold UneAt at h
  rw [h, une_short hb hr]; rfl
theorem uneAt_bad {l acc : List UInt8} {b x y : UInt8} {r : List UInt8} (h : UneAt l acc (b :: x :: y :: r)) (hb : (b.toNat : Int) = 37) (hx : (isB x.toNat 4 && isB y.toNat 4) = false) : une l = none := by
  unfold UneAt at h
  rw [h, une_bad hb hx]; rfl

theorem or_hex {x y : UInt8} (hx : isB x.toNat 4 = true) (hy : isB y.toNat 4 = true) : bits BinOp.or IntKind.u8 (hexv x.toNat * 16 % 256) (hexv y.toNat) = ((hxb x y).toNat : Int) := by
  rw [hxb_toNat hx hy]
  have h1 := hexv_bd hx
  have h2 := hexv_bd hy
  obtain ⟨m, hm⟩ := Int.eq_ofNat_of_zero_le h1.1
  obtain ⟨n, hn⟩ := Int.eq_ofNat_of_zero_le h2.1
  rw [hm, hn]
  have h : ∀ m n : Fin 16, bits BinOp.or IntKind.u8 ((m.val : Int) * 16 % 256) (n.val : Int) = 16 * (m.val : Int) + (n.val : Int) := by decide +kernel
  exact h ⟨m, by omega⟩ ⟨n, by omega⟩

theorem all2 (s : ByteArray) (k : Nat) (h : k + 2 < s.size) (c : Int) : allB c (s.extract (k + 1) (k + 3)).data.toList = (isB s[k + 1].toNat c && isB s[k + 2].toNat c) := by
  have e : (s.extract (k + 1) (k + 3)).data.toList = [s[k + 1], s[k + 2]] := by
    rw [ext_list, show k + 3 - (k + 1) = 2 by omega, drop_cons s (k + 1) (by omega), drop_cons s (k + 1 + 1) (by omega)]
    rfl
  rw [e, allB]; simp

theorem all_hex2 (s : ByteArray) (k : Nat) (h : k + 2 < s.size) (hs : s.size ≤ maxLen) (w : World) (b : Bool) (hb : (isB s[k + 1].toNat 4 && isB s[k + 2].toNat 4) = b) :
    Calls Tryd.prog 53 #[.string (s.extract (k + 1) (k + 3)), .int .i64 4] w fun e w' => e = .returned (.bool b) ∧ w' = w := by
  have := all_any (s.extract (k + 1) (k + 3)) 4 w (by rw [ByteArray.size_extract]; omega)
  rw [all2 s k h, hb] at this
  exact this

set_option maxHeartbeats 2000000 in
theorem unescape_any (s : ByteArray) (w : World) (hs : s.size ≤ 140737488355328) :
    Calls Tryd.prog 73 #[.string s] w fun e w' => e = .returned (.tuple #[.string ⟨(unescV s.data.toList).1.toArray⟩, .int .i64 (unescV s.data.toList).2]) ∧ Below w.heap.size w w' := by
  obtain ⟨i0, hi, hz0, hz1, hz2⟩ := info_parts info5
  go_enter Tryd.func73, Tryd.ntmps73
  go_wp2_with (at_make; refine wp_make _ rfl _ _ 45 rfl w.heap.size 5 i0 (.int .u8 0) Tryd.underlying45 hi hz0 hz1 .i64 .i64 _ s.size rfl rfl rfl (by rw [hz2]; omega) (by unfold maxLen; omega) w (Below.refl _ _) (Nat.le_refl _) ?_; intro v0 w1 hown1 hb1 hB1)
  go_loopw [4, 5] (fun v i wr => ∃ (k : Nat) (acc : List UInt8), k ≤ s.size ∧ i = .int .i64 k ∧ acc.length ≤ k ∧ Own wr w.heap.size 5 v (Lib.byteCells acc) ∧ Below w.heap.size w wr ∧ w.heap.size ≤ wr.heap.size ∧
      Hid (UneAt s.data.toList acc (s.data.toList.drop k))) (fun _ i _ => s.size - (intOf i).toNat)
  case atStart => exact ⟨0, [], Nat.zero_le _, rfl, Nat.le_refl _, hown1, hb1, hB1, show UneAt _ _ _ by rw [List.drop_zero]; exact uneAt0 _⟩
  case round =>
    clear hown1 hb1 hB1
    obtain ⟨k, acc, hk, rfl, hac, hown, hb, hB, hu⟩ := hrel
    by_cases hlt : k < s.size
    · have hu' := hu.out
      rw [drop_cons s k hlt] at hu'
      by_cases h37 : (s[k].toNat : Int) = 37
      · have c1 : ((s[k].toNat : Int) == 37) = true := by simpa using h37
        by_cases hsh : k + 2 < s.size
        · rw [drop_cons s (k + 1) (by omega), drop_cons s (k + 1 + 1) (by omega)] at hu'
          by_cases hx : (isB s[k + 1].toNat 4 && isB s[k + 2].toNat 4) = true
          · have hx1 : isB s[k + 1].toNat 4 = true := by simp at hx; exact hx.1
            have hx2 : isB s[k + 2].toNat 4 = true := by simp at hx; exact hx.2
            have hn : Hid (UneAt s.data.toList (acc ++ [hxb s[k + 1] s[k + 2]]) (s.data.toList.drop (k + 1 + 1 + 1))) := uneAt_hex hu' h37 hx1 hx2
            have HX : Hid ((isB s[k + 1].toNat 4 && isB s[k + 2].toNat 4) = true) := hx
            clear hu hu' h37 hx
            go_wp2_with (go_at_call 53; refine (all_hex2 s k hsh (by unfold maxLen; omega) _ true HX.out).mono ?_; rintro e w' ⟨rfl, rfl⟩)
            have q1 : IntKind.i64.wrap ((k : Int) + 1) = (k : Int) + 1 := by simp [IntKind.wrap, IntKind.signed, IntKind.bits]; omega
            have q2 : IntKind.i64.wrap ((k : Int) + 2) = (k : Int) + 2 := by simp [IntKind.wrap, IntKind.signed, IntKind.bits]; omega
            have q3 : ((k : Int) + 1).toNat = k + 1 := by omega
            have q4 : ((k : Int) + 2).toNat = k + 2 := by omega
            have q5 : (0 : Int) ≤ (k : Int) + 1 := by omega
            have q6 : (k : Int) + 1 < (s.size : Int) := by omega
            have q7 : (0 : Int) ≤ (k : Int) + 2 := by omega
            have q8 : (k : Int) + 2 < (s.size : Int) := by omega
            go_quiet ((go_at_call 82; exact Calls.quiet_of_same (hexvalue_any _ _ (by assumption))))
            have qv := or_hex hx1 hx2
            have hown' := hown.drewN nq
            have hb' : Below w.heap.size w (w'.drewN nq) := Below.drewN hb nq
            have hB' : w.heap.size ≤ (w'.drewN nq).heap.size := hB
            generalize w'.drewN nq = wq at hown' hb' hB' ⊢
            rw [qv]
            clear hown hb hB qv
            go_wp2_with (at_builtin; refine wp_app _ rfl (.tmp 50) (.tmp 52) 45 rfl w.heap.size 5 i0 (.int .u8 0) 1 Tryd.underlying45 hi hz0 hz1 hz2 rfl _ _ rfl (by exact hown'.alloc _) ⟨_, 0, none⟩ 1 1 (Lib.byteCells [hxb s[k + 1] s[k + 2]]) rfl rfl (by exact one_new _ _ _) (byteCells_one _) (by rw [Lib.byteCells_length]; unfold maxLen; omega) (by rw [Lib.byteCells_length]; omega) w (by exact hb'.alloc hB' _) (by simp; omega) ?_; intro v3 w3 hown3 hb3 hB3)
            rw [byteCells_snoc] at hown3
            go_wp2
            go_roundw
            case rel => exact ⟨k + 1 + 1 + 1, _, by omega, by go_num, by simp; omega, hown3, hb3, hB3, hn⟩
            case measure => simp [intOf]; omega
          · have hx' : (isB s[k + 1].toNat 4 && isB s[k + 2].toNat 4) = false := by simpa using hx
            have hv : Hid (unescV s.data.toList = ([], 12)) := unescV_none (uneAt_bad hu' h37 hx')
            have HX : Hid ((isB s[k + 1].toNat 4 && isB s[k + 2].toNat 4) = false) := hx'
            clear hu hu' h37 hx hx'
            go_wp2_with (go_at_call 53; refine (all_hex2 s k hsh (by unfold maxLen; omega) _ false HX.out).mono ?_; rintro e w' ⟨rfl, rfl⟩)
            go_ret2
            exact ⟨ret_str [] 12 hv.out, hb⟩
        · have hv : Hid (unescV s.data.toList = ([], 12)) := unescV_none (uneAt_short hu' h37 (by rw [List.length_drop, len_data]; omega))
          clear hu hu' h37
          go_wp2
          go_ret2
          exact ⟨ret_str [] 12 hv.out, hb⟩
      · have c1 : ((s[k].toNat : Int) == 37) = false := by simpa using h37
        have hn : Hid (UneAt s.data.toList (acc ++ [s[k]]) (s.data.toList.drop (k + 1))) := uneAt_plain hu' h37
        clear hu hu' h37
        go_wp2_with (at_builtin; refine wp_app _ rfl (.tmp 50) (.tmp 52) 45 rfl w.heap.size 5 i0 (.int .u8 0) 1 Tryd.underlying45 hi hz0 hz1 hz2 rfl _ _ rfl (hown.alloc _) ⟨_, 0, none⟩ 1 1 (Lib.byteCells [s[k]]) rfl rfl (by exact one_new _ _ _) (byteCells_one _) (by rw [Lib.byteCells_length]; unfold maxLen; omega) (by rw [Lib.byteCells_length]; omega) w (hb.alloc hB _) (by simp; omega) ?_; intro v3 w3 hown3 hb3 hB3)
        rw [byteCells_snoc] at hown3
        go_wp2
        go_roundw
        case rel => exact ⟨k + 1, _, by omega, by go_num, by simp; omega, hown3, hb3, hB3, hn⟩
        case measure => simp [intOf]; omega
    · have hu' := hu.out
      rw [drop_all s k (by omega)] at hu'
      have hv : Hid (unescV s.data.toList = (acc, 0)) := unescV_some (uneAt_end hu')
      have hcv := conv_own (P := Tryd.prog) _ Tryd.underlying45 Tryd.underlying5 Tryd.underlying9 hown
      clear hu hu'
      go_wp2
      go_ret2
      exact ⟨ret_str acc 0 hv.out, hb⟩

end Go.Proofs.YtfdcklekjnihjaaDoor
