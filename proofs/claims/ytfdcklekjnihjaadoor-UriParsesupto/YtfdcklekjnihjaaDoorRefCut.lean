/-
  Contracts of the document's own Has, Cut and Split.
-/
import Derived.Test.YtfdcklekjnihjaaDoorParts
import Derived.Test.YtfdcklekjnihjaaDoorCutL
import Derived.Deep.QuietTactic
import Derived.BigQuiet
namespace Go.Proofs.YtfdcklekjnihjaaDoor
open Go.RowKit Sc
set_option linter.unusedVariables false
set_option maxRecDepth 20000

theorem u8_eq {a b : UInt8} (h : a = b) : ((a.toNat : Int) == (b.toNat : Int)) = true := by simp [h]
theorem u8_ne {a b : UInt8} (h : ¬ a = b) : ((a.toNat : Int) == (b.toNat : Int)) = false := by
  simp only [beq_eq_false_iff_ne, ne_eq]
  intro e; exact h (UInt8.toNat_inj.1 (by omega))
theorem notMem_snoc {c : UInt8} {s : ByteArray} {k : Nat} (hk : k < s.size) (h : c ∉ s.data.toList.take k) (hc : ¬ s[k] = c) : c ∉ s.data.toList.take (k + 1) := by
  rw [take_snoc s k hk]
  simp only [List.mem_append, List.mem_singleton, not_or]
  exact ⟨h, fun e => hc e.symm⟩
theorem split_at (s : ByteArray) (k : Nat) (hk : k < s.size) : s.data.toList = s.data.toList.take k ++ s[k] :: s.data.toList.drop (k + 1) := by
  rw [← drop_cons s k hk, List.take_append_drop]

set_option maxHeartbeats 400000 in
theorem has3_any (s : ByteArray) (c : UInt8) (w : World) (hs : s.size ≤ maxLen) :
    Calls Tryd.prog 48 #[.string s, .int .u8 c.toNat] w fun e w' => e = .returned (.bool (hasL c s.data.toList)) ∧ w' = w := by
  unfold maxLen at hs
  go_enter Tryd.func48, Tryd.ntmps48
  go_wp2
  go_loop [5] (fun i => ∃ k : Nat, k ≤ s.size ∧ i = .int .i64 k ∧ Hid (c ∉ s.data.toList.take k)) (fun i => s.size - (intOf i).toNat)
  case atStart => exact ⟨0, Nat.zero_le _, rfl, show _ ∉ _ by simp⟩
  case round =>
    obtain ⟨k, hk, rfl, hno⟩ := hrel
    by_cases hlt : k < s.size
    · by_cases hc : s[k] = c
      · have he := u8_eq hc
        have hv : Hid (hasL c s.data.toList = true) := show _ = _ by rw [hasL, split_at s k hlt, hc]; simp
        clear hc hno
        go_wp2
        go_ret
        exact ⟨ret_bool hv.out.symm, rfl⟩
      · have he := u8_ne hc
        have hno2 : Hid (c ∉ s.data.toList.take (k + 1)) := notMem_snoc hlt hno.out hc
        clear hc hno
        go_wp2
        go_round
        case rel => exact ⟨k + 1, by omega, by go_num, hno2⟩
        case measure => simp [intOf]; omega
    · have hv : Hid (hasL c s.data.toList = false) := show _ = _ by
        rw [hasL]
        have := hno.out
        rw [take_all s k (by omega)] at this
        simpa using this
      clear hno
      go_wp2
      go_ret
      exact ⟨ret_bool hv.out.symm, rfl⟩

theorem ret_cut {p : List UInt8 × List UInt8 × Bool} {x y : ByteArray} {b : Bool} (h : p = (x.data.toList, y.data.toList, b)) : Ending.returned (.tuple #[.string x, .string y, .bool b]) = .returned (.tuple #[.string ⟨p.1.toArray⟩, .string ⟨p.2.1.toArray⟩, .bool p.2.2]) := by
  have hx : (⟨x.data.toList.toArray⟩ : ByteArray) = x := by apply ByteArray.ext; simp
  have hy : (⟨y.data.toList.toArray⟩ : ByteArray) = y := by apply ByteArray.ext; simp
  rw [h, hx, hy]

set_option maxHeartbeats 400000 in
theorem cut3_any (s : ByteArray) (c : UInt8) (w : World) (hs : s.size ≤ maxLen) :
    Calls Tryd.prog 47 #[.string s, .int .u8 c.toNat] w fun e w' => e = .returned (.tuple #[.string ⟨(cutL c s.data.toList).1.toArray⟩, .string ⟨(cutL c s.data.toList).2.1.toArray⟩, .bool (cutL c s.data.toList).2.2]) ∧ ∃ q, w' = w.drewN q := by
  unfold maxLen at hs
  go_enter Tryd.func47, Tryd.ntmps47
  go_wp2
  go_loop [7] (fun i => ∃ k : Nat, k ≤ s.size ∧ i = .int .i64 k ∧ Hid (c ∉ s.data.toList.take k)) (fun i => s.size - (intOf i).toNat)
  case atStart => exact ⟨0, Nat.zero_le _, rfl, show _ ∉ _ by simp⟩
  case round =>
    obtain ⟨k, hk, rfl, hno⟩ := hrel
    by_cases hlt : k < s.size
    · by_cases hc : s[k] = c
      · have he := u8_eq hc
        have hv : Hid (cutL c s.data.toList = (s.data.toList.take k, s.data.toList.drop (k + 1), true)) := show _ = _ by
          conv => lhs; rw [split_at s k hlt, hc]
          exact cutL_hit hno.out
        have e1 : Hid ((s.extract 0 k).data.toList = s.data.toList.take k) := show _ = _ by rw [ext_list]; simp
        have e2 : Hid ((s.extract (k + 1) s.size).data.toList = s.data.toList.drop (k + 1)) := show _ = _ by
          rw [ext_list, List.take_of_length_le (by rw [List.length_drop, len_data]; omega)]
        clear hc hno
        have hwr : IntKind.i64.wrap ((k : Int) + 1) = ((k + 1 : Nat) : Int) := by
          simp [IntKind.wrap, IntKind.bits, IntKind.signed]; omega
        go_wp2
        go_quiet (fail)
        go_wp2
        go_ret3
        exact ⟨ret_cut (by rw [hv.out, e1.out, e2.out]), nq, rfl⟩
      · have he := u8_ne hc
        have hno2 : Hid (c ∉ s.data.toList.take (k + 1)) := notMem_snoc hlt hno.out hc
        clear hc hno
        go_wp2
        go_round
        case rel => exact ⟨k + 1, by omega, by go_num, hno2⟩
        case measure => simp [intOf]; omega
    · have hv : Hid (cutL c s.data.toList = (s.data.toList, [], false)) := show _ = _ by
        have := hno.out
        rw [take_all s k (by omega)] at this
        exact cutL_miss this
      clear hno
      go_wp2
      go_ret3
      exact ⟨ret_cut hv.out, 0, rfl⟩

theorem cut3_list (r : List UInt8) (c : UInt8) (w : World) (hs : r.length ≤ 9223372036854775807) :
    Calls Tryd.prog 47 #[.string ⟨r.toArray⟩, .int .u8 c.toNat] w fun e w' => e = .returned (.tuple #[.string ⟨(cutL c r).1.toArray⟩, .string ⟨(cutL c r).2.1.toArray⟩, .bool (cutL c r).2.2]) ∧ ∃ q, w' = w.drewN q :=
  cut3_any ⟨r.toArray⟩ c w (by unfold maxLen; simp [ByteArray.size]; omega)
def lenOf : Value → Nat
  | .string s => s.size
  | _ => 0
def boolOf : Value → Nat
  | .bool true => 1
  | _ => 0
theorem size_list (l : List UInt8) : (⟨l.toArray⟩ : ByteArray).size = l.length := by simp [ByteArray.size]
theorem splitL_next {c : UInt8} {l0 r : List UInt8} {ps : List (List UInt8)} (h : splitL c l0 = ps ++ splitL c r) (hb : (cutL c r).2.2 = true) : splitL c l0 = (ps ++ [(cutL c r).1]) ++ splitL c (cutL c r).2.1 := by
  rw [h, splitL_cut c r, if_pos hb]; simp
theorem splitL_last {c : UInt8} {l0 r : List UInt8} {ps : List (List UInt8)} (h : splitL c l0 = ps ++ splitL c r) (hb : (cutL c r).2.2 = false) : splitL c l0 = ps ++ [(cutL c r).1] := by
  rw [h, splitL_cut c r, if_neg (by simp [hb])]
theorem cutL_dec {c : UInt8} {r : List UInt8} (hb : (cutL c r).2.2 = true) : (cutL c r).2.1.length < r.length := by
  have h := cutL_join c r hb
  have := congrArg List.length h
  simp at this; omega

set_option maxHeartbeats 1000000 in
theorem split3_any (s : ByteArray) (c : UInt8) (w : World) (hs : s.size ≤ 1048576) :
    Calls Tryd.prog 33 #[.string s, .int .u8 c.toNat] w fun e w' => ∃ v, e = .returned v ∧ Own w' w.heap.size 9 v (strs (splitL c s.data.toList)) ∧ Below w.heap.size w w' := by
  obtain ⟨i0, hi, hz0, hz1, hz2⟩ := info_parts info9
  go_enter Tryd.func33, Tryd.ntmps33
  go_wp2
  have hs0 : s = ⟨s.data.toList.toArray⟩ := by apply ByteArray.ext; simp
  have hl := len_data s
  generalize s.data.toList = l0 at hs0 hl ⊢
  subst hs0
  go_loopw [0, 5, 6] (fun x v m wr => ∃ (r : List UInt8) (ps : List (List UInt8)) (b : Bool), x = .string ⟨r.toArray⟩ ∧ m = .bool b ∧ Own wr w.heap.size 9 v (strs ps) ∧ Below w.heap.size w wr ∧ w.heap.size ≤ wr.heap.size ∧ ps.length + r.length ≤ l0.length + 1 ∧ r.length ≤ l0.length ∧
      Hid (if b = true then splitL c l0 = ps ++ splitL c r ∧ ps.length + r.length ≤ l0.length else splitL c l0 = ps)) (fun x _ m _ => lenOf x + boolOf m)
  case atStart => exact ⟨l0, [], true, rfl, rfl, Own.nil _ _ _, Below.refl _ _, Nat.le_refl _, by simp, by omega, show _ = _ ∧ _ from ⟨rfl, by simp⟩⟩
  case round =>
    obtain ⟨r, ps, b, rfl, rfl, hown, hb, hB, hln, hrl, hsp⟩ := hrel
    cases b with
    | false =>
      go_wp2
      go_ret
      exact ⟨_, rfl, by have := hsp.out; simp at this; rw [this]; exact hown, hb⟩
    | true =>
      have hsp2 := hsp.out
      rw [if_pos rfl] at hsp2
      have hsp3 : Hid _ := hsp2
      clear hsp hsp2
      have hcl := cutL_len c r
      have hdec := @cutL_dec c r
      have hnx := @splitL_next c l0 r ps hsp3.out.1
      have hlast := @splitL_last c l0 r ps hsp3.out.1
      have hl2 := hsp3.out.2
      rw [size_list] at hs
      clear hsp3 hl
      go_wp2_with fail
      refine (cut3_list r c _ (by omega)).mono ?_
      rintro e w' ⟨rfl, q, rfl⟩
      generalize cutL c r = p at hcl hdec hnx hlast ⊢
      obtain ⟨p1, p2, b⟩ := p
      have HD : Hid _ := hdec; clear hdec
      have HN : Hid _ := hnx; clear hnx
      have HL : Hid _ := hlast; clear hlast
      have hown1 := hown.below (below_drewN wr q)
      have hb1 := hb.trans ((below_drewN wr q).mono hB)
      have hB1 : w.heap.size ≤ (wr.drewN q).heap.size := hB
      clear hown hb hB
      generalize wr.drewN q = w1 at hown1 hb1 hB1 ⊢
      go_wp2_with (at_builtin; refine wp_app _ rfl (.tmp 16) (.tmp 18) 56 rfl w.heap.size 9 i0 (.string .empty) 16 Tryd.underlying56 hi hz0 hz1 hz2 rfl _ _ rfl (hown1.alloc _) ⟨_, 0, none⟩ 1 1 [.string ⟨p1.toArray⟩] rfl rfl (by exact one_new _ _ _) (by intro u hu; simp at hu; subst hu; rfl) (by rw [strs_length]; unfold maxLen; omega) (by rw [strs_length]; omega) w (hb1.alloc (by omega) _) (by simp; omega) ?_; intro v3 w3 hown3 hb3 hB3)
      have e1 : [Value.string ⟨p1.toArray⟩] = strs [p1] := rfl
      rw [e1, ← strs_append] at hown3
      cases b with
      | true =>
        have hd : p2.length < r.length := HD.out rfl
        have hn : Hid (splitL c l0 = ps ++ [p1] ++ splitL c p2) := HN.out rfl
        clear HD HN HL
        go_wp2
        go_roundw
        case rel => exact ⟨p2, ps ++ [p1], true, rfl, rfl, hown3, hb3, hB3, by simp; omega, by omega, show _ = _ ∧ _ from ⟨hn.out, by simp; omega⟩⟩
        case measure => simp [lenOf, boolOf, size_list]; omega
      | false =>
        have hn : Hid (splitL c l0 = ps ++ [p1]) := HL.out rfl
        clear HD HN HL
        go_wp2
        go_roundw
        case rel => exact ⟨p2, ps ++ [p1], false, rfl, rfl, hown3, hb3, hB3, by simp; omega, by omega, hn⟩
        case measure => simp [lenOf, boolOf, size_list]; omega

end Go.Proofs.YtfdcklekjnihjaaDoor
