/-
  Contracts: package frame's visible, isValue, isTarget, isLength, trimEnd; the document's own Visible, Value, behind, length.
-/
import Derived.Test.YtagopboofmjnfaaDoorFStr
import Derived.Test.YtagopboofmjnfaaDoorBAny
namespace Go.Proofs.YtagopboofmjnfaaDoor
open Go.RowKit Sc
set_option linter.unusedVariables false
set_option maxRecDepth 20000

theorem vis_snoc (l : List UInt8) (b : UInt8) : visB (l ++ [b]) = (visB l && visc b) := by simp [visB]
theorem vis_bad {s : ByteArray} {k : Nat} (h : k < s.size) (hb : visc s[k] = false) : visB s.data.toList = false := by
  unfold visB
  rw [List.all_eq_false]
  exact ⟨s[k], by rw [split_at s k h]; simp, by rw [hb]; simp⟩
theorem visc_is (b : UInt8) : visc b = !((decide (b.toNat < 32) && b != 9) || b == 127) := rfl
theorem list_beq (a b : List UInt8) : ((⟨a.toArray⟩ : ByteArray).toList == (⟨b.toArray⟩ : ByteArray).toList) = (a == b) := by
  have e : ∀ l : List UInt8, (⟨l.toArray⟩ : ByteArray).toList = l := fun l => by rw [ByteArray.toList_eq]
  rw [e, e]

set_option maxHeartbeats 400000 in
theorem rvisible_any (s : ByteArray) (w : World) (hs : s.size ≤ 140737488355328) :
    Calls Tryd.prog 50 #[.string s] w fun e w' => e = .returned (.bool (visB s.data.toList)) ∧ w' = w := by
  go_enter Tryd.func50, Tryd.ntmps50
  go_wp2
  go_loop [3] (fun i => ∃ k : Nat, k ≤ s.size ∧ i = .int .i64 k ∧ Hid (visB (s.data.toList.take k) = true)) (fun i => s.size - (intOf i).toNat)
  case atStart => exact ⟨0, Nat.zero_le _, rfl, hid (by simp [visB])⟩
  case round =>
    obtain ⟨k, hk, rfl, hv⟩ := hrel
    by_cases hlt : k < s.size
    · have hgood : Hid (visc s[k] = true → visB (s.data.toList.take (k + 1)) = true) := fun h => by rw [take_snoc s k hlt, vis_snoc, hv.out, h]; rfl
      have hbad := hid (@vis_bad s k hlt)
      have hbd := u8_bd s[k]
      have hvis := hid (visc_is s[k])
      clear hv
      by_cases h32 : s[k].toNat < 32
      · have h32' : (s[k].toNat : Int) < 32 := by omega
        by_cases h9 : s[k] = 9
        · have e9 : ((s[k].toNat : Int) != 9) = false := by rw [h9]; rfl
          have e127 : ((s[k].toNat : Int) == 127) = false := by rw [h9]; rfl
          have hnx := hid (hgood.out (by rw [hvis.out, h9]; decide))
          clear hgood hbad hvis h9
          go_wp2
          go_round
          case rel => exact ⟨k + 1, by omega, by go_num, hnx⟩
          case measure => simp [intOf]; omega
        · have e9 : ((s[k].toNat : Int) != 9) = true := by rw [bne, show ((s[k].toNat : Int) == 9) = false from u8_ne (b := 9) h9]; rfl
          have hv : Hid (visB s.data.toList = false) := hbad.out (by rw [hvis.out]; simp [h32, h9])
          clear hgood hbad hvis h9
          go_wp2
          go_ret
          exact ⟨ret_bool hv.out.symm, rfl⟩
      · have h32' : ¬ ((s[k].toNat : Int) < 32) := by omega
        by_cases h127 : s[k] = 127
        · have e127 : ((s[k].toNat : Int) == 127) = true := by rw [h127]; rfl
          have hv : Hid (visB s.data.toList = false) := hbad.out (by rw [hvis.out]; simp [h127])
          clear hgood hbad hvis h127
          go_wp2
          go_ret
          exact ⟨ret_bool hv.out.symm, rfl⟩
        · have e127 : ((s[k].toNat : Int) == 127) = false := u8_ne (b := 127) h127
          have hnx := hid (hgood.out (by rw [hvis.out]; simp [h32, h127]))
          clear hgood hbad hvis h127
          go_wp2
          go_round
          case rel => exact ⟨k + 1, by omega, by go_num, hnx⟩
          case measure => simp [intOf]; omega
    · have hv2 : Hid (visB s.data.toList = true) := show _ = _ by have := hv.out; rw [take_all s k (by omega)] at this; exact this
      clear hv
      go_wp2
      go_ret
      exact ⟨ret_bool hv2.out.symm, rfl⟩
theorem rvisible_list (l : List UInt8) (w : World) (h : l.length ≤ 140737488355328) :
    Calls Tryd.prog 50 #[.string ⟨l.toArray⟩] w fun e w' => e = .returned (.bool (visB l)) ∧ w' = w := rvisible_any ⟨l.toArray⟩ w (by rw [size_list]; exact h)

set_option maxHeartbeats 400000 in
theorem fvisible_any (s : ByteArray) (w : World) (hs : s.size ≤ 140737488355328) :
    Calls Tryd.prog 76 #[.string s] w fun e w' => e = .returned (.bool (visB s.data.toList)) ∧ w' = w := by
  go_enter Tryd.func76, Tryd.ntmps76
  go_wp2
  go_loop [6] (fun i => ∃ k : Nat, k ≤ s.size ∧ i = .int .i64 k ∧ Hid (visB (s.data.toList.take k) = true)) (fun i => s.size - (intOf i).toNat)
  case atStart => exact ⟨0, Nat.zero_le _, rfl, hid (by simp [visB])⟩
  case round =>
    obtain ⟨k, hk, rfl, hv⟩ := hrel
    by_cases hlt : k < s.size
    · have hgood : Hid (visc s[k] = true → visB (s.data.toList.take (k + 1)) = true) := fun h => by rw [take_snoc s k hlt, vis_snoc, hv.out, h]; rfl
      have hbad := hid (@vis_bad s k hlt)
      have hbd := u8_bd s[k]
      have hvis := hid (visc_is s[k])
      clear hv
      by_cases h32 : s[k].toNat < 32
      · have h32' : (s[k].toNat : Int) < 32 := by omega
        by_cases h9 : s[k] = 9
        · have e9 : ((s[k].toNat : Int) != 9) = false := by rw [h9]; rfl
          have e127 : ((s[k].toNat : Int) == 127) = false := by rw [h9]; rfl
          have hnx := hid (hgood.out (by rw [hvis.out, h9]; decide))
          clear hgood hbad hvis h9
          go_wp2
          go_round
          case rel => exact ⟨k + 1, by omega, by go_num, hnx⟩
          case measure => simp [intOf]; omega
        · have e9 : ((s[k].toNat : Int) != 9) = true := by rw [bne, show ((s[k].toNat : Int) == 9) = false from u8_ne (b := 9) h9]; rfl
          have hv : Hid (visB s.data.toList = false) := hbad.out (by rw [hvis.out]; simp [h32, h9])
          clear hgood hbad hvis h9
          go_wp2
          go_ret
          exact ⟨ret_bool hv.out.symm, rfl⟩
      · have h32' : ¬ ((s[k].toNat : Int) < 32) := by omega
        by_cases h127 : s[k] = 127
        · have e127 : ((s[k].toNat : Int) == 127) = true := by rw [h127]; rfl
          have hv : Hid (visB s.data.toList = false) := hbad.out (by rw [hvis.out]; simp [h127])
          clear hgood hbad hvis h127
          go_wp2
          go_ret
          exact ⟨ret_bool hv.out.symm, rfl⟩
        · have e127 : ((s[k].toNat : Int) == 127) = false := u8_ne (b := 127) h127
          have hnx := hid (hgood.out (by rw [hvis.out]; simp [h32, h127]))
          clear hgood hbad hvis h127
          go_wp2
          go_round
          case rel => exact ⟨k + 1, by omega, by go_num, hnx⟩
          case measure => simp [intOf]; omega
    · have hv2 : Hid (visB s.data.toList = true) := show _ = _ by have := hv.out; rw [take_all s k (by omega)] at this; exact this
      clear hv
      go_wp2
      go_ret
      exact ⟨ret_bool hv2.out.symm, rfl⟩
theorem fvisible_list (l : List UInt8) (w : World) (h : l.length ≤ 140737488355328) :
    Calls Tryd.prog 76 #[.string ⟨l.toArray⟩] w fun e w' => e = .returned (.bool (visB l)) ∧ w' = w := fvisible_any ⟨l.toArray⟩ w (by rw [size_list]; exact h)

set_option maxHeartbeats 400000 in
theorem rvalue_list (l : List UInt8) (w : World) (h : l.length ≤ 140737488355328) :
    Calls Tryd.prog 35 #[.string ⟨l.toArray⟩] w fun e w' => e = .returned (.bool (valB l)) ∧ w' = w := by
  have KV := hid (fun w' => rvisible_list l w' h)
  have KT := hid (fun w' => reftrim_list l w' (by omega))
  have hv : valB l = (visB l && trimL l == l) := rfl
  generalize valB l = r at hv ⊢
  cases hb : visB l with
  | false =>
    rw [hb] at KV hv
    have HV : Hid (r = false) := hv
    clear hv hb
    go_enter Tryd.func35, Tryd.ntmps35
    go_wp2_with fail
    refine (KV.out _).mono ?_
    rintro e w ⟨rfl, rfl⟩
    go_wp2
    go_ret
    exact ⟨ret_bool HV.out.symm, rfl⟩
  | true =>
    rw [hb] at KV hv
    have HV : Hid (r = (trimL l == l)) := hv
    clear hv hb
    generalize trimL l = t at KT HV
    go_enter Tryd.func35, Tryd.ntmps35
    go_wp2_with fail
    refine (KV.out _).mono ?_
    rintro e w ⟨rfl, rfl⟩
    go_wp2_with fail
    refine (KT.out _).mono ?_
    rintro e w ⟨rfl, rfl⟩
    go_wp2
    go_ret
    exact ⟨ret_bool (by rw [HV.out]), rfl⟩
set_option maxHeartbeats 400000 in
theorem fvalue_list (l : List UInt8) (w : World) (h : l.length ≤ 140737488355328) :
    Calls Tryd.prog 56 #[.string ⟨l.toArray⟩] w fun e w' => e = .returned (.bool (valB l)) ∧ Below w.heap.size w w' := by
  have KV := hid (fun w' => fvisible_list l w' h)
  have KT := hid (fun w' => trim_list l w' (by omega))
  have hv : valB l = (visB l && trimL l == l) := rfl
  generalize valB l = r at hv ⊢
  cases hb : visB l with
  | false =>
    rw [hb] at KV hv
    have HV : Hid (r = false) := hv
    clear hv hb
    go_enter Tryd.func56, Tryd.ntmps56
    go_wp2_with fail
    refine (KV.out _).mono ?_
    rintro e w ⟨rfl, rfl⟩
    go_wp2
    go_ret
    exact ⟨ret_bool HV.out.symm, Below.refl _ _⟩
  | true =>
    rw [hb] at KV hv
    have HV : Hid (r = (trimL l == l)) := hv
    clear hv hb
    generalize trimL l = t at KT HV
    go_enter Tryd.func56, Tryd.ntmps56
    go_wp2_with fail
    refine (KV.out _).mono ?_
    rintro e w ⟨rfl, rfl⟩
    go_wp2_with fail
    refine (KT.out _).mono ?_
    rintro e w1 ⟨rfl, hw1⟩
    go_wp2
    go_ret
    exact ⟨ret_bool (by rw [HV.out]), hw1⟩
theorem rlength_list (l : List UInt8) (w : World) (h : l.length ≤ 140737488355328) :
    Calls Tryd.prog 34 #[.string ⟨l.toArray⟩] w fun e w' => e = .returned (.bool (lengthB l)) ∧ Below w.heap.size w w' := by
  have K := hid (fun w' => refsame_list l lengthK w' h (by decide))
  have hv : lengthB l = sameB l lengthK := rfl
  rw [← hv] at K
  go_enter Tryd.func34, Tryd.ntmps34
  go_wp2_with fail
  refine (K.out _).mono ?_
  rintro e w1 ⟨rfl, hw1⟩
  go_wp2
  go_ret
  exact ⟨rfl, hw1⟩
theorem flength_list (l : List UInt8) (w : World) (h : l.length ≤ 140737488355328) :
    Calls Tryd.prog 59 #[.string ⟨l.toArray⟩] w fun e w' => e = .returned (.bool (lengthB l)) ∧ Below w.heap.size w w' := by
  have K := hid (fun w' => same_list l lengthK w' h (by decide))
  have hv : lengthB l = sameB l lengthK := rfl
  rw [← hv] at K
  go_enter Tryd.func59, Tryd.ntmps59
  go_wp2_with fail
  refine (K.out _).mono ?_
  rintro e w1 ⟨rfl, hw1⟩
  go_wp2
  go_ret
  exact ⟨rfl, hw1⟩
def tgtB (l : List UInt8) : Bool := !l.isEmpty && (visB l && !blkB l)
set_option maxHeartbeats 400000 in
theorem ftarget_list (l : List UInt8) (w : World) (h : l.length ≤ 140737488355328) :
    Calls Tryd.prog 58 #[.string ⟨l.toArray⟩] w fun e w' => e = .returned (.bool (tgtB l)) ∧ Below w.heap.size w w' := by
  have KV := hid (fun w' => fvisible_list l w' h)
  have KC := hid (fun w' => bcontainsAny_any l w' h)
  have hv : tgtB l = (!l.isEmpty && (visB l && !blkB l)) := rfl
  generalize tgtB l = r at hv ⊢
  generalize blkB l = k at KC hv
  cases he : l.isEmpty with
  | true =>
    have HV : Hid (r = false) := show _ = _ by rw [hv, he]; rfl
    clear hv KV KC
    go_enter Tryd.func58, Tryd.ntmps58
    go_wp2
    go_ret
    exact ⟨ret_bool HV.out.symm, Below.refl _ _⟩
  | false =>
    cases hb : visB l with
    | false =>
      rw [hb] at KV
      have HV : Hid (r = false) := show _ = _ by rw [hv, hb, he]; rfl
      clear hv hb KC
      go_enter Tryd.func58, Tryd.ntmps58
      go_wp2_with fail
      refine (KV.out _).mono ?_
      rintro e w ⟨rfl, rfl⟩
      go_wp2
      go_ret
      exact ⟨ret_bool HV.out.symm, Below.refl _ _⟩
    | true =>
      rw [hb] at KV
      have HV : Hid (r = !k) := show _ = _ by rw [hv, hb, he]; simp
      clear hv hb
      go_enter Tryd.func58, Tryd.ntmps58
      go_wp2_with fail
      refine (KV.out _).mono ?_
      rintro e w ⟨rfl, rfl⟩
      go_wp2_with fail
      refine (KC.out _).mono ?_
      rintro e w1 ⟨rfl, hw1⟩
      go_wp2
      go_ret
      exact ⟨ret_bool (by rw [HV.out]), hw1⟩

-- blanks at the end
theorem behind_drop {l : List UInt8} {b : UInt8} (h : blk b = true) : behindL (l ++ [b]) = behindL l := by
  unfold behindL; simp [h]
theorem behind_stop {l : List UInt8} {b : UInt8} (h : blk b = false) : behindL (l ++ [b]) = l ++ [b] := by
  unfold behindL; simp [h]
theorem last_split (t : ByteArray) (h : 0 < t.size) : t.data.toList = (t.extract 0 (t.size - 1)).data.toList ++ [t[t.size - 1]] := by
  have := take_snoc t (t.size - 1) (by omega)
  rw [show t.size - 1 + 1 = t.size by omega, take_all t t.size (Nat.le_refl _)] at this
  rw [Lib.extract_from_zero, ← this]
def strSize : Value → Nat | .string t => t.size | _ => 0
theorem ret_data {t : ByteArray} {l : List UInt8} (h : t.data.toList = l) : Ending.returned (.string t) = .returned (.string ⟨l.toArray⟩) := by
  rw [← h]
set_option maxHeartbeats 400000 in
theorem rbehind_any (s : ByteArray) (w : World) (hs : s.size ≤ 140737488355328) :
    Calls Tryd.prog 48 #[.string s] w fun e w' => e = .returned (.string ⟨(behindL s.data.toList).toArray⟩) ∧ w' = w := by
  go_enter Tryd.func48, Tryd.ntmps48
  go_wp2
  go_loop [0] (fun x => ∃ t : ByteArray, x = .string t ∧ t.size ≤ s.size ∧ Hid (behindL s.data.toList = behindL t.data.toList)) (fun x => strSize x)
  case atStart => exact ⟨s, rfl, Nat.le_refl _, hid rfl⟩
  case round =>
    obtain ⟨t, rfl, hts, hv⟩ := hrel
    by_cases h0 : 0 < t.size
    · have hl := last_split t h0
      have hbd := u8_bd t[t.size - 1]
      have ht1 : ((t.size : Int) - 1).toNat = t.size - 1 := by omega
      have HZ : Hid ((t.extract 0 (t.size - 1)).size = t.size - 1) := show _ = _ by rw [ByteArray.size_extract]; omega
      by_cases hb : blk t[t.size - 1] = true
      · have hb' : (cls t[t.size - 1].toNat == 32) = true := by rw [← blk_cls]; exact hb
        have hnx : Hid (behindL s.data.toList = behindL (t.extract 0 (t.size - 1)).data.toList) := show _ = _ by rw [hv.out, hl, behind_drop hb]
        clear hl hb hv
        go_wp2_with (go_at_call 60; refine (refclass_any _ _ hbd.1 hbd.2).mono ?_; rintro e w' ⟨rfl, rfl⟩)
        go_round
        case rel => exact ⟨t.extract 0 (t.size - 1), rfl, by rw [HZ.out]; omega, hnx⟩
        case measure => show (t.extract 0 (t.size - 1)).size < t.size; rw [HZ.out]; omega
      · have hb' : (cls t[t.size - 1].toNat == 32) = false := by rw [← blk_cls]; simpa using hb
        have hE : Hid (t.data.toList = behindL s.data.toList) := show _ = _ by rw [hv.out, hl, behind_stop (by simpa using hb)]
        clear hl hb hv
        go_wp2_with (go_at_call 60; refine (refclass_any _ _ hbd.1 hbd.2).mono ?_; rintro e w' ⟨rfl, rfl⟩)
        go_ret
        exact ⟨ret_data hE.out, rfl⟩
    · have hE : Hid (t.data.toList = behindL s.data.toList) := show _ = _ by
        have : t.data.toList = [] := List.eq_nil_of_length_eq_zero (by rw [len_data]; omega)
        rw [hv.out, this]; rfl
      clear hv
      go_wp2
      go_ret
      exact ⟨ret_data hE.out, rfl⟩
theorem rbehind_list (l : List UInt8) (w : World) (h : l.length ≤ 140737488355328) :
    Calls Tryd.prog 48 #[.string ⟨l.toArray⟩] w fun e w' => e = .returned (.string ⟨(behindL l).toArray⟩) ∧ w' = w := rbehind_any ⟨l.toArray⟩ w (by rw [size_list]; exact h)
set_option maxHeartbeats 400000 in
theorem trimAscii_any (s : ByteArray) (b : Nat) (w : World) (hs : s.size ≤ 140737488355328) (hc : ∀ x : UInt8, w.cell? ⟨b, x.toNat, none⟩ = some (.bool (blk x))) :
    Calls Tryd.prog 108 #[.string s, .pointer (some ⟨b, 0, none⟩)] w fun e w' => e = .returned (.string ⟨(behindL s.data.toList).toArray⟩) ∧ w' = w := by
  have HC := hid hc
  clear hc
  go_enter Tryd.func108, Tryd.ntmps108
  go_wp2
  go_loop [0] (fun x => ∃ t : ByteArray, x = .string t ∧ t.size ≤ s.size ∧ Hid (behindL s.data.toList = behindL t.data.toList)) (fun x => strSize x)
  case atStart => exact ⟨s, rfl, Nat.le_refl _, hid rfl⟩
  case round =>
    obtain ⟨t, rfl, hts, hv⟩ := hrel
    by_cases h0 : 0 < t.size
    · have hl := last_split t h0
      have ht1 : ((t.size : Int) - 1).toNat = t.size - 1 := by omega
      have HZ : Hid ((t.extract 0 (t.size - 1)).size = t.size - 1) := show _ = _ by rw [ByteArray.size_extract]; omega
      have KH := hid (setHas_any b t[t.size - 1] _ _ (HC.out t[t.size - 1]))
      by_cases hb : blk t[t.size - 1] = true
      · rw [hb] at KH
        have hnx : Hid (behindL s.data.toList = behindL (t.extract 0 (t.size - 1)).data.toList) := show _ = _ by rw [hv.out, hl, behind_drop hb]
        clear hl hb hv
        go_wp2_with (go_at_call 103; refine KH.out.mono ?_; rintro e w' ⟨rfl, hw⟩; rw [hw])
        go_round
        case rel => exact ⟨t.extract 0 (t.size - 1), rfl, by rw [HZ.out]; omega, hnx⟩
        case measure => show (t.extract 0 (t.size - 1)).size < t.size; rw [HZ.out]; omega
      · have hb2 : blk t[t.size - 1] = false := by simpa using hb
        rw [hb2] at KH
        have hE : Hid (t.data.toList = behindL s.data.toList) := show _ = _ by rw [hv.out, hl, behind_stop hb2]
        clear hl hb hb2 hv
        go_wp2_with (go_at_call 103; refine KH.out.mono ?_; rintro e w' ⟨rfl, hw⟩; rw [hw])
        go_ret
        exact ⟨ret_data hE.out, rfl⟩
    · have hE : Hid (t.data.toList = behindL s.data.toList) := show _ = _ by
        have : t.data.toList = [] := List.eq_nil_of_length_eq_zero (by rw [len_data]; omega)
        rw [hv.out, this]; rfl
      clear hv
      go_wp2
      go_ret
      exact ⟨ret_data hE.out, rfl⟩
set_option maxHeartbeats 1000000 in
set_option maxRecDepth 100000 in
theorem trimRight_list (l : List UInt8) (w : World) (hl : l.length ≤ 140737488355328) :
    Calls Tryd.prog 99 #[.string ⟨l.toArray⟩, .string ⟨#[32, 9]⟩] w fun e w' => e = .returned (.string ⟨(behindL l).toArray⟩) ∧ Below w.heap.size w w' := by
  cases he : l.isEmpty with
  | true =>
    obtain rfl : l = [] := by simpa using he
    have hE : Hid (behindL [] = []) := rfl
    go_enter Tryd.func99, Tryd.ntmps99
    go_wp2
    go_ret
    exact ⟨by rw [hE.out]; rfl, Below.refl _ _⟩
  | false =>
    have KM := hid (makeSet_any ⟨#[32, 9]⟩ w (by decide) bany_ascii)
    have hsz := Lib.setCells_size [32, 9]
    have hi2 := hid (show (Tryd.prog.info? 112).map (·.size) = some (Lib.setCells [32, 9]).size by rw [hsz]; exact (zero_of_info infoSet).2)
    have hzv := (zero_of_info infoSet).1
    have hcellAt : ∀ x : UInt8, ((w.alloc (.cells (Lib.setCells [32, 9]) 112)).alloc (.cells (Lib.setCells [32, 9]) 112)).cell? ⟨w.heap.size + 1, x.toNat, none⟩ = some (.bool (blk x)) := fun x => by
      rw [World.cell?_alloc_at _ _ _ _ (by simp), Lib.setCells_at, ← blkL_is]; rfl
    have KT := hid (trimAscii_any ⟨l.toArray⟩ (w.heap.size + 1) _ (by rw [size_list]; exact hl) hcellAt)
    have hb2 : Below w.heap.size w ((w.alloc (.cells (Lib.setCells [32, 9]) 112)).alloc (.cells (Lib.setCells [32, 9]) 112)) := ((Below.refl _ _).alloc (Nat.le_refl _) _).alloc (by simp) _
    have hrep : Hid ((Array.replicate 256 (Value.bool false)).size = (Lib.setCells [32, 9]).size) := show _ = _ by rw [hsz, Array.size_replicate]
    have HA1 : Hid ((w.alloc (.cells (Lib.setCells [32, 9]) 112)).heap.size = w.heap.size + 1) := show _ = _ by simp
    clear hcellAt hsz
    go_enter Tryd.func99, Tryd.ntmps99
    go_wp2_with (first
      | (go_at_call 102; refine KM.out.mono ?_; rintro e w' ⟨rfl, hw⟩; rw [hw])
      | (go_at_call 108; refine KT.out.mono ?_; rintro e w' ⟨rfl, hw⟩; rw [hw])
      | (refine wp_store_new rfl (.tmp 5) (.tmp 29) 112 rfl rfl (Array.replicate 256 (.bool false)) (Lib.setCells [32, 9]) hi2.out hrep.out (Lib.setCells_one _) (w.heap.size + 1) HA1.out rfl rfl ?_))
    go_ret
    exact ⟨rfl, hb2⟩
theorem trimEnd_list (l : List UInt8) (w : World) (h : l.length ≤ 140737488355328) :
    Calls Tryd.prog 87 #[.string ⟨l.toArray⟩] w fun e w' => e = .returned (.string ⟨(behindL l).toArray⟩) ∧ Below w.heap.size w w' := by
  have K := hid (fun w' => trimRight_list l w' h)
  go_enter Tryd.func87, Tryd.ntmps87
  go_wp2_with fail
  refine (K.out _).mono ?_
  rintro e w1 ⟨rfl, hw1⟩
  go_wp2
  go_ret
  exact ⟨rfl, hw1⟩

end Go.Proofs.YtagopboofmjnfaaDoor
