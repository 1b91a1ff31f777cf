/-
  The contract of strings.ContainsAny where the signs are ? , and the quote: the short road, and both.
-/
import Derived.Test.YtgboekilhldejaaGreatDoorAAny3
import Derived.Test.YtgboekilhldejaaGreatDoorBaseA
import Derived.Lib.OthersKept
namespace Go.Proofs.YtgboekilhldejaaGreatDoor
open Go.RowKit Sc
set_option linter.unusedVariables false
set_option maxRecDepth 20000

def anyB (l : List UInt8) : Bool := hasL 63 l || (hasL 44 l || hasL 34 l)
theorem any_three (b : UInt8) : anyL.contains b = (b == 63 || (b == 44 || b == 34)) := by
  have : ∀ b : UInt8, anyL.contains b = (b == 63 || (b == 44 || b == 34)) := by apply byte_all; decide +kernel
  exact this b
theorem beq_turn (x b : UInt8) : (x == b) = (b == x) := by
  by_cases h : x = b
  · subst h; rfl
  · have h2 : ¬ b = x := fun e => h e.symm
    rw [beq_eq_false_iff_ne.2 h, beq_eq_false_iff_ne.2 h2]
theorem anyB_index : ∀ l : List UInt8, decide (0 ≤ Lib.indexAny l anyL) = anyB l
  | [] => rfl
  | b :: l => by
    have ih := anyB_index l
    have hge := Lib.indexAny_ge anyL l
    have hb := any_three b
    unfold Lib.indexAny
    rw [hb]
    have e : anyB (b :: l) = ((b == 63 || (b == 44 || b == 34)) || anyB l) := by
      simp only [anyB, hasL, List.contains_cons]
      rw [beq_turn 63 b, beq_turn 44 b, beq_turn 34 b]
      generalize (b == 63) = p
      generalize (b == 44) = q
      generalize (b == 34) = r
      generalize List.contains l 63 = s
      generalize List.contains l 44 = t
      generalize List.contains l 34 = u
      revert p q r s t u; decide
    rw [e, ← ih]
    split
    · rename_i h; rw [h]; rfl
    · rename_i h
      rw [show (b == 63 || (b == 44 || b == 34)) = false by simpa using h]
      split
      · rename_i h2
        have : Lib.indexAny l anyL = -1 := by simpa using h2
        rw [this]; decide
      · rename_i h2
        have : ¬ Lib.indexAny l anyL = -1 := by simpa using h2
        rw [Bool.false_or]
        congr 1
        apply propext
        omega

set_option maxHeartbeats 1000000 in
set_option maxRecDepth 1000000 in
theorem indexAny_short (s : ByteArray) (w : World) (h8 : s.size ≤ 8) :
    Calls Tryz.prog 119 #[.string s, .string ⟨#[63, 44, 34]⟩] w fun e w' => e = .returned (.int .i64 (Lib.indexAny s.data.toList anyL)) ∧ Below w.heap.size w w' := by
  have h8z : decide ((8 : Int) < (s.size : Int)) = false := decide_eq_false (by omega)
  have K8 := hid (useSet_any (s.size : Int))
  rw [h8z] at K8
  have hit0 : (w.iter s 0).heap[w.heap.size]? = some (.stringIter s 0) := World.iter_heap w s 0
  have hbi : Below w.heap.size w (w.iter s 0) := (Below.refl _ _).alloc (Nat.le_refl _) _
  have HI := hid hit0
  clear hit0
  go_enter Tryz.func119, Tryz.ntmps119
  go_wp2_with (go_at_call 137; refine (K8.out _).mono ?_; rintro e w' ⟨rfl, hw⟩; rw [hw])
  generalize w.iter s 0 = W at HI hbi ⊢
  go_loopg [9, 10] s.size (fun g _ _ wx => ∃ i : Nat, Hid (i + g = s.size) ∧ i ≤ s.size ∧ Hid (wx.heap[w.heap.size]? = some (.stringIter s i)) ∧ Hid (Lib.NoAny s.data.toList anyL i) ∧ Below w.heap.size w wx)
  case atStart => exact ⟨0, hid (by omega), by omega, HI, Lib.NoAny.zero _ _, hbi⟩
  case round =>
    clear HI hbi
    obtain ⟨i, hig, his, HI, HN, hb⟩ := hrel
    by_cases hlt : i < s.size
    · have hnx := fun ty => Lib.run_next_any_at (P := Tryz.prog) wr w.heap.size s i ty HI.out hlt
      obtain ⟨dw1, dw2, _⟩ := decode_wide s i hlt
      have HI2 := hid (Lib.iterAt_heap wr w.heap.size s i (i + (Utf8.decode s i).2) HI.out)
      have hb2 := Lib.below_iterAt hb (Nat.le_refl _) s (i + (Utf8.decode s i).2)
      have hgk : Hid (s.size - (i + (Utf8.decode s i).2) < gk) := show _ < _ by have := hig.out; omega
      have hltw : w.heap.size < (wr.iterAt w.heap.size s (i + (Utf8.decode s i).2)).heap.size := by rw [Lib.iterAt_size]; exact (Array.getElem?_eq_some_iff.1 HI.out).1
      by_cases hx : (s[i]'hlt).toNat < 128
      · have hda := decode_ascii s i hlt hx
        have KL := hid (fun w' => indexRune_low s[i] w' hx)
        have hcon := Lib.contains_iff_indexByte anyL s[i]
        cases hin : anyL.contains s[i] with
        | true =>
          have hv : Hid (Lib.indexAny s.data.toList anyL = i) := Lib.indexAny_hit HN.out (getL s i hlt) hin
          have hge : (0 : Int) ≤ Lib.indexByte [63, 44, 34] s[i] := of_decide_eq_true (by rw [← hin]; exact hcon.symm)
          rw [hda] at hnx hb2
          simp only at hnx hb2
          generalize wr.iterAt w.heap.size s (i + 1) = wi at hnx hb2
          clear HN hin hcon HI HI2 hda hltw
          go_wp2_with (go_at_call 136; refine (KL.out _).mono ?_; rintro e w' ⟨rfl, hw⟩; rw [hw])
          go_ret
          exact ⟨by rw [hv.out]; rfl, hb2⟩
        | false =>
          have hn2 := hid (HN.out.succ (getL s i hlt) hin)
          have hge : ¬ ((0 : Int) ≤ Lib.indexByte [63, 44, 34] s[i]) := of_decide_eq_false (by rw [← hin]; exact hcon.symm)
          rw [hda] at hnx hb2 HI2 hgk
          simp only at hnx hb2 HI2 hgk
          generalize wr.iterAt w.heap.size s (i + 1) = wi at hnx hb2 HI2
          clear HN hin hcon HI hda hltw
          go_wp2_with (go_at_call 136; refine (KL.out _).mono ?_; rintro e w' ⟨rfl, hw⟩; rw [hw])
          go_roundg (s.size - (i + 1))
          case measure => exact hgk.out
          case rel => exact ⟨i + 1, hid (by omega), by omega, HI2, hn2, hb2⟩
      · have hhi := decode_high s i hlt (by omega)
        have hle := decode_le s i
        have KH := hid (fun w' => indexRune_high (Utf8.decode s i).1 w' hhi.1 hle)
        have hn2 := hid (noAny_rune hlt (by omega) HN.out)
        generalize Utf8.decode s i = dd at hnx hb2 HI2 hgk KH hn2 dw1 dw2 hltw
        obtain ⟨dc, dn⟩ := dd
        simp only at hnx hb2 HI2 hgk KH hn2 dw1 dw2 hltw
        generalize wr.iterAt w.heap.size s (i + dn) = wi at hnx hb2 HI2 hltw
        clear HN HI hhi hle
        go_wp2_with fail
        refine (KH.out _).mono ?_
        rintro e w2 ⟨rfl, hw2⟩
        have HI3 : Hid (w2.heap[w.heap.size]? = some (.stringIter s (i + dn))) := show _ = _ by rw [hw2.block _ hltw]; exact HI2.out
        have hb3 := hb2.trans (hw2.mono hb2.size)
        clear HI2 hb2 hw2
        go_wp2
        go_roundg (s.size - (i + dn))
        case measure => exact hgk.out
        case rel => exact ⟨i + dn, hid (by omega), by omega, HI3, hn2, hb3⟩
    · have hnx := fun ty => Lib.run_next_end_at (P := Tryz.prog) wr w.heap.size s i ty HI.out hlt
      have hv : Hid (Lib.indexAny s.data.toList anyL = -1) := Lib.indexAny_none (fun j b hj hb => HN.out j b (by rw [len_data] at hj; omega) hb)
      clear HN HI
      go_wp2
      go_ret
      exact ⟨by rw [hv.out]; rfl, hb⟩

set_option maxHeartbeats 400000 in
theorem containsAny_any (l : List UInt8) (w : World) (hl : l.length ≤ 1048576) :
    Calls Tryz.prog 107 #[.string ⟨l.toArray⟩, .string ⟨#[63, 44, 34]⟩] w fun e w' => e = .returned (.bool (anyB l)) ∧ Below w.heap.size w w' := by
  have z := size_list l
  have K : Calls Tryz.prog 119 #[.string ⟨l.toArray⟩, .string ⟨#[63, 44, 34]⟩] w fun e w' => e = .returned (.int .i64 (Lib.indexAny l anyL)) ∧ Below w.heap.size w w' := by
    by_cases h8 : (⟨l.toArray⟩ : ByteArray).size ≤ 8
    · exact indexAny_short ⟨l.toArray⟩ w h8
    · exact indexAny_long ⟨l.toArray⟩ w (by omega) (by omega)
  have hv := anyB_index l
  have KK := hid K
  clear K
  generalize Lib.indexAny l anyL = n at KK hv
  have HV := hid hv
  clear hv z
  go_enter Tryz.func107, Tryz.ntmps107
  go_wp2_with fail
  refine KK.out.mono ?_
  rintro e w1 ⟨rfl, hw1⟩
  go_wp2
  go_ret
  exact ⟨by rw [← HV.out]; rfl, hw1⟩

end Go.Proofs.YtgboekilhldejaaGreatDoor
