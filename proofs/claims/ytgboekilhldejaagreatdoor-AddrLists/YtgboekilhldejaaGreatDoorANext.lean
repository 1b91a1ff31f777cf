/-
  Contracts: package addr's blank, the closure of words.
-/
import Derived.Test.YtgboekilhldejaaGreatDoorACut
import Derived.Deep.LoopGhost
namespace Go.Proofs.YtgboekilhldejaaGreatDoor
open Go.RowKit Sc
set_option linter.unusedVariables false
set_option maxRecDepth 20000

set_option maxHeartbeats 400000 in
theorem blank_any (c : UInt8) (w : World) :
    Calls Tryz.prog 135 #[.int .u8 c.toNat] w fun e w' => e = .returned (.bool (blk c)) ∧ w' = w := by
  have hbd := u8_bd c
  have K := hid (fun w' => class_any c.toNat w' hbd.1 hbd.2)
  have hv : Hid (blk c = (bits BinOp.and IntKind.i64 (cls c.toNat) 32 != 0)) := show _ = _ from rfl
  go_enter Tryz.func135, Tryz.ntmps135
  go_wp2_with fail
  refine (K.out _).mono ?_
  rintro e w1 ⟨rfl, rfl⟩
  go_wp2
  go_ret
  exact ⟨by rw [hv.out]; rfl, rfl⟩

theorem dropW_blk {L : List UInt8} {i : Nat} {b : UInt8} (h : L.drop i = b :: L.drop (i + 1)) (hb : blk b = true) : (L.drop i).dropWhile blk = (L.drop (i + 1)).dropWhile blk := by rw [h, List.dropWhile_cons, if_pos hb]
theorem dropW_stop {L : List UInt8} {i : Nat} {b : UInt8} (h : L.drop i = b :: L.drop (i + 1)) (hb : blk b = false) : (L.drop i).dropWhile blk = L.drop i := by rw [h, List.dropWhile_cons, if_neg (by rw [hb]; simp)]
/-- What the closure says: where a word begins and ends. -/
structure NextW (L : List UInt8) (k i j : Nat) : Prop where
  le1 : k ≤ i
  le2 : i ≤ j
  le3 : j ≤ L.length
  skip : (L.drop k).dropWhile blk = L.drop i
  head : ∀ b, (L.drop i).head? = some b → blk b = false
  word : ∀ b ∈ (L.drop i).take (j - i), blk b = false
  stop : ∀ b, (L.drop j).head? = some b → blk b = true

theorem take_next {s : ByteArray} {i j : Nat} (hij : i ≤ j) (h : j < s.size) (hw : ∀ b ∈ (s.data.toList.drop i).take (j - i), blk b = false) (hb : blk s[j] = false) : ∀ b ∈ (s.data.toList.drop i).take (j + 1 - i), blk b = false := by
  have e : j + 1 - i = (j - i) + 1 := by omega
  have hl : j - i < (s.data.toList.drop i).length := by rw [List.length_drop, len_data]; omega
  rw [e, List.take_succ_eq_append_getElem hl]
  intro b hbm
  rcases List.mem_append.1 hbm with hm | hm
  · exact hw b hm
  · have := List.mem_singleton.1 hm
    subst this
    rw [List.getElem_drop]
    have e2 : i + (j - i) = j := by omega
    simp only [e2]
    exact hb
set_option maxHeartbeats 1000000 in
set_option maxRecDepth 100000 in
theorem next_any (b0 b1 : Nat) (s : ByteArray) (k : Nat) (w : World) (hs : s.size ≤ 140737488355328) (hk : k ≤ s.size) (h01 : b0 < b1) (hsr : RowIs w b0 9 [.string s]) (har : RowIs w b1 3 [.int .i64 k]) :
    Calls Tryz.prog 134 #[.pointer (some ⟨b1, 0, none⟩), .pointer (some ⟨b0, 0, none⟩)] w fun e w' => ∃ i j, NextW s.data.toList k i j ∧ e = .returned (.string (s.extract i j)) ∧ RowIs w' b1 3 [.int .i64 j] ∧ Only b1 w w' := by
  have hl := len_data s
  have HS := hid hsr
  have HA := hid har
  clear hsr har
  go_enter Tryz.func134, Tryz.ntmps134
  go_wp2
  go_loopg [4] (s.size - k) (fun g _ wx => ∃ i : Nat, i + g = s.size ∧ k ≤ i ∧ Hid (RowIs wx b1 3 [.int .i64 i]) ∧ Hid (Only b1 w wx) ∧ Hid ((s.data.toList.drop k).dropWhile blk = (s.data.toList.drop i).dropWhile blk))
  case atStart => exact ⟨k, by omega, by omega, HA, Only.refl _ _, rfl⟩
  case round =>
    obtain ⟨i, hig, hki, hrow, hon, hdw⟩ := hrel
    have cA := hrow.out.cell 0 (by simp)
    have fA := hrow.out.frozen 0
    have cS := (HS.out.below hon.out.below h01).cell 0 (by simp)
    simp only [List.getElem_cons_zero] at cA cS
    have hrow0 := hrow
    cases gk with
    | zero =>
      have hge1 : s.size ≤ i := by omega
      have hge2 : i ≤ s.size := by omega
      have hnl : ¬ ((i : Int) < (s.size : Int)) := by omega
      clear hig
      have hd0 := drop_all s i (by omega)
      have hskip : Hid ((s.data.toList.drop k).dropWhile blk = s.data.toList.drop i) := show _ = _ by rw [hdw.out, hd0]; rfl
      have hhead : Hid (∀ b, (s.data.toList.drop i).head? = some b → blk b = false) := fun b hb => by rw [hd0] at hb; cases hb
      clear hd0
      go_wp2
      clear hrow hdw cA cS fA
      go_loopg [17] (s.size - i) (fun g _ wx => ∃ j : Nat, j + g = s.size ∧ i ≤ j ∧ Hid (RowIs wx b1 3 [.int .i64 j]) ∧ Hid (Only b1 w wx) ∧ Hid (∀ b ∈ (s.data.toList.drop i).take (j - i), blk b = false))
      case atStart => exact ⟨i, by omega, by omega, hrow0, hon, hid (by simp)⟩
      case round =>
        clear hrow0 hon
        obtain ⟨j, hjg, hij, hrow, hon, hwd⟩ := hrel
        have cA := hrow.out.cell 0 (by simp)
        have fA := hrow.out.frozen 0
        have cS := (HS.out.below hon.out.below h01).cell 0 (by simp)
        simp only [List.getElem_cons_zero] at cA cS
        cases gk with
        | zero =>
          have hje1 : s.size ≤ j := by omega
          have hje2 : j ≤ s.size := by omega
          have hfin : Hid (NextW s.data.toList k i j) := ⟨hki, hij, by omega, hskip.out, hhead.out, hwd.out, fun b hb => by rw [drop_all s j (by omega)] at hb; cases hb⟩
          have hji : ¬ ((j : Int) < (s.size : Int)) := by omega
          clear hwd hjg
          go_wp2
          go_ret
          exact ⟨i, j, hfin.out, rfl, hrow.out, hon.out⟩
        | succ g => exfalso; omega
    | succ g =>
      have hlt : i < s.size := by omega
      have hdi := drop_cons s i hlt
      cases hbk : blk s[i] with
      | true =>
        have hd2 : Hid ((s.data.toList.drop k).dropWhile blk = (s.data.toList.drop (i + 1)).dropWhile blk) := show _ = _ by rw [hdw.out, dropW_blk hdi hbk]
        have hr2 : Hid (RowIs (wr.setCell ⟨b1, 0, none⟩ (.int .i64 ((i + 1 : Nat) : Int))) b1 3 [.int .i64 ((i + 1 : Nat) : Int)]) := by have := hrow.out.set 0 (.int .i64 ((i + 1 : Nat) : Int)); exact hid (by simpa using this)
        have ho2 : Hid (Only b1 w (wr.setCell ⟨b1, 0, none⟩ (.int .i64 ((i + 1 : Nat) : Int)))) := hid (hon.out.set 0 _)
        rw [show ((i + 1 : Nat) : Int) = (i : Int) + 1 by omega] at hr2 ho2
        have KB := hid (fun w' => blank_any s[i] w')
        rw [hbk] at KB
        clear hdw hdi hbk
        go_wp2_with fail
        refine (KB.out _).mono ?_
        rintro e w1 ⟨rfl, rfl⟩
        go_wp2
        go_roundg g
        case measure => omega
        case rel => exact ⟨i + 1, by omega, by omega, by first | exact hr2 | simpa using hr2, by first | exact ho2 | simpa using ho2, hd2⟩
      | false =>
        have hskip : Hid ((s.data.toList.drop k).dropWhile blk = s.data.toList.drop i) := show _ = _ by rw [hdw.out, dropW_stop hdi hbk]
        have hhead : Hid (∀ b, (s.data.toList.drop i).head? = some b → blk b = false) := fun b hb => by rw [hdi] at hb; cases hb; exact hbk
        have KB := hid (fun w' => blank_any s[i] w')
        rw [hbk] at KB
        clear hdi hbk
        go_wp2_with fail
        refine (KB.out _).mono ?_
        rintro e w1 ⟨rfl, rfl⟩
        clear KB
        go_wp2
        clear hrow hdw cA cS fA
        go_loopg [17] (s.size - i) (fun g _ wx => ∃ j : Nat, j + g = s.size ∧ i ≤ j ∧ Hid (RowIs wx b1 3 [.int .i64 j]) ∧ Hid (Only b1 w wx) ∧ Hid (∀ b ∈ (s.data.toList.drop i).take (j - i), blk b = false))
        case atStart => exact ⟨i, by omega, by omega, hrow0, hon, hid (by simp)⟩
        case round =>
          clear hrow0 hon
          obtain ⟨j, hjg, hij, hrow, hon, hwd⟩ := hrel
          have cA := hrow.out.cell 0 (by simp)
          have fA := hrow.out.frozen 0
          have cS := (HS.out.below hon.out.below h01).cell 0 (by simp)
          simp only [List.getElem_cons_zero] at cA cS
          cases gk with
          | zero =>
            have hje1 : s.size ≤ j := by omega
            have hje2 : j ≤ s.size := by omega
            have hfin : Hid (NextW s.data.toList k i j) := ⟨hki, hij, by omega, hskip.out, hhead.out, hwd.out, fun b hb => by rw [drop_all s j (by omega)] at hb; cases hb⟩
            have hji : ¬ ((j : Int) < (s.size : Int)) := by omega
            clear hwd hjg
            go_wp2
            go_ret
            exact ⟨i, j, hfin.out, rfl, hrow.out, hon.out⟩
          | succ g =>
            have hlt2 : j < s.size := by omega
            have hdj := drop_cons s j hlt2
            cases hbk : blk s[j] with
            | false =>
              have hw2 : Hid (∀ b ∈ (s.data.toList.drop i).take (j + 1 - i), blk b = false) := hid (take_next hij hlt2 hwd.out hbk)
              have hr2 : Hid (RowIs (wr.setCell ⟨b1, 0, none⟩ (.int .i64 ((j + 1 : Nat) : Int))) b1 3 [.int .i64 ((j + 1 : Nat) : Int)]) := by have := hrow.out.set 0 (.int .i64 ((j + 1 : Nat) : Int)); exact hid (by simpa using this)
              have ho2 : Hid (Only b1 w (wr.setCell ⟨b1, 0, none⟩ (.int .i64 ((j + 1 : Nat) : Int)))) := hid (hon.out.set 0 _)
              rw [show ((j + 1 : Nat) : Int) = (j : Int) + 1 by omega] at hr2 ho2
              have KB := hid (fun w' => blank_any s[j] w')
              rw [hbk] at KB
              clear hwd hdj hbk
              go_wp2_with fail
              refine (KB.out _).mono ?_
              rintro e w1 ⟨rfl, rfl⟩
              go_wp2
              go_roundg g
              case measure => omega
              case rel => exact ⟨j + 1, by omega, by omega, by first | exact hr2 | simpa using hr2, by first | exact ho2 | simpa using ho2, hw2⟩
            | true =>
              have hfin : Hid (NextW s.data.toList k i j) := ⟨hki, hij, by omega, hskip.out, hhead.out, hwd.out, fun b hb => by rw [hdj] at hb; cases hb; exact hbk⟩
              have KB := hid (fun w' => blank_any s[j] w')
              rw [hbk] at KB
              clear hwd hdj hbk
              go_wp2_with fail
              refine (KB.out _).mono ?_
              rintro e w1 ⟨rfl, rfl⟩
              go_wp2
              go_ret
              exact ⟨i, j, hfin.out, rfl, hrow.out, hon.out⟩

end Go.Proofs.YtgboekilhldejaaGreatDoor
