/-
  The walk of the law HeadOnce.
-/
import Derived.Test.YtjbfdbccidhdfaaDoorHOnceL
namespace Go.Proofs.YtjbfdbccidhdfaaDoor.headOnce
open Go.RowKit Go.Sort Sc
set_option linter.unusedVariables false
set_option maxRecDepth 20000

set_option maxHeartbeats 4000000 in
set_option maxRecDepth 100000 in
theorem law_walk (a0 : ByteArray) (b0 : a0.size ≤ 1048576) (w : World) :
    Calls Tryd.prog 8 #[.string a0] w fun e w' => e = .returned (.bool true) ∧ Below w.heap.size w w' := by
  obtain ⟨s, rfl⟩ : ∃ l : List UInt8, a0 = ⟨l.toArray⟩ := ⟨a0.data.toList, by simp⟩
  rw [size_list] at b0
  obtain ⟨ev, en, hev⟩ : ∃ ev en, eventV s = (ev, en) := ⟨_, _, rfl⟩
  have K1 := hid (fun w' => readE hev w' b0)
  by_cases hen : en = 0
  · subst hen
    have heb := event_checked hev
    have hes := event_small hev
    have hpr : evPrint ev = (evT ev, 0) := by rw [evPrint, if_pos heb]
    have hel := evT_small heb
    have K2 := hid (fun q w' (k : EvC.At w' ⟨ev, q⟩) => hevprint_any ⟨ev, q⟩ w' (hes.le (by omega)) k)
    have K3 := hid (fun w' => readE (event_back heb) w' (by omega))
    have K4 := hid (fun q q' w' (k1 : EvC.At w' ⟨ev, q⟩) (k2 : EvC.At w' ⟨ev, q'⟩) => evsame_any ⟨ev, q⟩ ⟨ev, q'⟩ w' (by have := hes.2.1; simp only; omega) k1 k2)
    simp only at K2
    rw [hpr] at K2
    generalize evT ev = et at K2 K3 hel
    clear hev heb hes hpr
    obtain ⟨zn, zp⟩ := ev
    unfold evV at K1 K2 K3 K4
    simp only [decide_true] at K1 K2 K3 K4
    go_enter Tryd.func8, Tryd.ntmps8
    go_wp2_with fail
    refine (K1.out _).mono ?_
    rintro e w1 ⟨a3, c3, rfl, hat1, hw1⟩
    have hA := (Below.refl _ w1).alloc (Nat.le_refl _) (objE ⟨zn, zp⟩ (.slice a3 zp.length c3))
    have hltA := alloc_lt w1 (objE ⟨zn, zp⟩ (.slice a3 zp.length c3))
    have HZ1 := hid (boxE_new w1 ⟨zn, zp⟩ (.slice a3 zp.length c3))
    unfold objE at hA hltA HZ1
    simp only at hA hltA HZ1
    have HAT1 := hid (hat1.below hA)
    have hb1 := hw1.trans (hA.mono hw1.size)
    clear hat1 hw1 hA K1
    obtain ⟨x0, x1⟩ := HZ1.out
    simp only at x0 x1
    go_wp2_with fail
    refine (K2.out _ _ HAT1.out).mono ?_
    rintro e w2 ⟨rfl, hw2⟩
    have HZ2 := hid (BoxE.below HZ1.out hw2 hltA)
    have HAT2 := hid (HAT1.out.below hw2)
    have hb2 := hb1.trans (hw2.mono hb1.size)
    have hlt2 : w1.heap.size < w2.heap.size := Nat.lt_of_lt_of_le hltA hw2.size
    clear HZ1 HAT1 hb1 hw2 hltA x0 x1 K2
    go_wp2_with fail
    refine (K3.out _).mono ?_
    rintro e w3 ⟨a4, c4, rfl, hat3, hw3⟩
    have hB := (Below.refl _ w3).alloc (Nat.le_refl _) (objE ⟨zn, zp⟩ (.slice a4 zp.length c4))
    unfold objE at hB
    simp only at hB
    have HZ3 := BoxE.below (BoxE.below HZ2.out hw3 hlt2) hB (Nat.lt_of_lt_of_le hlt2 hw3.size)
    have HAT3 := hid ((HAT2.out.below hw3).below hB)
    have HATB := hid (hat3.below hB)
    have hb3 := (hb2.trans (hw3.mono hb2.size)).trans (hB.mono (Nat.le_trans hb2.size hw3.size))
    clear HZ2 HAT2 hb2 hw3 hat3 hB hlt2 K3
    obtain ⟨x0, x1⟩ := HZ3
    simp only at x0 x1
    go_wp2_with fail
    refine (K4.out _ _ _ HAT3.out HATB.out).mono ?_
    rintro e w4 ⟨rfl, hw4⟩
    have hb4 := hb3.trans (hw4.mono hb3.size)
    clear HAT3 HATB hb3 hw4 x0 x1 K4
    have K5 := hid (fun w' => hstate_any s w' b0)
    obtain ⟨st, sn, hst⟩ : ∃ st sn, stateV s = (st, sn) := ⟨_, _, rfl⟩
    rw [hst] at K5
    simp only at K5
    by_cases hsn : sn = 0
    · subst hsn
      have hsb := state_checked hst
      have hsf := stt_facts hsb
      have hsh : sttShow st = (sttT st, 0) := by rw [sttShow, if_pos hsb]
      have hsl := sttT_small hsb
      have K6 := hid (fun w' => hshow_any st w' hsf.1 hsf.2.1 hsf.2.2)
      have K7 := hid (fun w' => hstate_any (sttT st) w' (by omega))
      rw [hsh] at K6
      rw [stt_back hsb] at K7
      have hg := guardStt
      have hq : ∀ u, (binOp .neq 50 (.agg #[.string ⟨st.name.toArray⟩, .int .i64 st.expires, .string ⟨st.reason.toArray⟩]) (.agg #[.string ⟨st.name.toArray⟩, .int .i64 st.expires, .string ⟨st.reason.toArray⟩])).run Tryd.prog u = .ok (.bool false) u := fun u => by
        have h := neqStt st st u
        simp only [decide_true, Bool.not_true] at h
        exact h
      clear hsb hsf hsh hst
      generalize sttT st = tt at K6 K7 hsl
      obtain ⟨n1, x1, r1⟩ := st
      unfold sttV at K5 K6 K7
      simp only at K5 K6 K7 hq
      go_wp2_with fail
      refine (K5.out _).mono ?_
      rintro e w5 ⟨rfl, hw5⟩
      have hb5 := hb4.trans (hw5.mono hb4.size)
      have hA5 := (Below.refl _ w5).alloc (Nat.le_refl _) (objS ⟨n1, x1, r1⟩)
      have hl5 := alloc_lt w5 (objS ⟨n1, x1, r1⟩)
      have HS5 := hid (boxS_new w5 ⟨n1, x1, r1⟩)
      unfold objS at hA5 hl5 HS5
      simp only at hA5 hl5 HS5
      have hb6 := hb5.trans (hA5.mono hb5.size)
      clear hw5 hb5 hA5 K5
      obtain ⟨s0, s1, s2⟩ := HS5.out
      simp only at s0 s1 s2
      go_wp2_with fail
      refine (K6.out _).mono ?_
      rintro e w6 ⟨rfl, hw6⟩
      have HS6 := hid (BoxS.below HS5.out hw6 hl5)
      have hb7 := hb6.trans (hw6.mono hb6.size)
      have hl6 : w5.heap.size < w6.heap.size := Nat.lt_of_lt_of_le hl5 hw6.size
      clear hw6 hb6 HS5 hl5 s0 s1 s2 K6
      go_wp2_with fail
      refine (K7.out _).mono ?_
      rintro e w7 ⟨rfl, hw7⟩
      have HS7 := BoxS.below HS6.out hw7 hl6
      have hb8 := hb7.trans (hw7.mono hb7.size)
      have hl7 : w5.heap.size < w7.heap.size := Nat.lt_of_lt_of_le hl6 hw7.size
      have hA7 : ∀ o, Below w7.heap.size w7 (w7.alloc o) := fun o => (Below.refl _ w7).alloc (Nat.le_refl _) o
      have HS8 := fun o => BoxS.below HS7 (hA7 o) hl7
      have s0 := fun o => (HS8 o).1
      have s1 := fun o => (HS8 o).2.1
      have s2 := fun o => (HS8 o).2.2
      simp only at s0 s1 s2
      have HB8 := hid (fun o => hb8.trans ((hA7 o).mono hb8.size))
      clear HS8 HS7 HS6 hw7 hb8 hA7 hb7 K7
      go_wp2_with (go_at_call 17; refine (awake8_any _).mono ?_; rintro e w9 ⟨rfl, hw9⟩)
      go_ret
      exact ⟨rfl, (HB8.out _).trans (hw9.mono (HB8.out _).size)⟩
    · have hs1 : (sn != 0) = true := by simpa using hsn
      have hs2 : (sn == 0) = false := by simpa using hsn
      clear hst
      obtain ⟨n1, x1, r1⟩ := st
      unfold sttV at K5
      simp only at K5
      go_wp2_with fail
      refine (K5.out _).mono ?_
      rintro e w5 ⟨rfl, hw5⟩
      have hb5 := hb4.trans (hw5.mono hb4.size)
      have HB8 := hid (fun o => hb5.alloc hb5.size o)
      clear hw5 hb5 K5
      go_wp2_with (go_at_call 17; refine (awake8_any _).mono ?_; rintro e w9 ⟨rfl, hw9⟩)
      go_ret
      exact ⟨rfl, (HB8.out _).trans (hw9.mono (HB8.out _).size)⟩
  · have hn1 : (en != 0) = true := by simpa using hen
    have hn2 : (en == 0) = false := by simpa using hen
    clear hev
    obtain ⟨zn, zp⟩ := ev
    unfold evV at K1
    simp only at K1
    go_enter Tryd.func8, Tryd.ntmps8
    go_wp2_with fail
    refine (K1.out _).mono ?_
    rintro e w1 ⟨a3, c3, rfl, hat1, hw1⟩
    have hb4 := hw1.alloc hw1.size (.cells #[.string ⟨zn.toArray⟩, .slice a3 zp.length c3] 40)
    clear hat1 hw1 K1
    have K5 := hid (fun w' => hstate_any s w' b0)
    obtain ⟨st, sn, hst⟩ : ∃ st sn, stateV s = (st, sn) := ⟨_, _, rfl⟩
    rw [hst] at K5
    simp only at K5
    by_cases hsn : sn = 0
    · subst hsn
      have hsb := state_checked hst
      have hsf := stt_facts hsb
      have hsh : sttShow st = (sttT st, 0) := by rw [sttShow, if_pos hsb]
      have hsl := sttT_small hsb
      have K6 := hid (fun w' => hshow_any st w' hsf.1 hsf.2.1 hsf.2.2)
      have K7 := hid (fun w' => hstate_any (sttT st) w' (by omega))
      rw [hsh] at K6
      rw [stt_back hsb] at K7
      have hg := guardStt
      have hq : ∀ u, (binOp .neq 50 (.agg #[.string ⟨st.name.toArray⟩, .int .i64 st.expires, .string ⟨st.reason.toArray⟩]) (.agg #[.string ⟨st.name.toArray⟩, .int .i64 st.expires, .string ⟨st.reason.toArray⟩])).run Tryd.prog u = .ok (.bool false) u := fun u => by
        have h := neqStt st st u
        simp only [decide_true, Bool.not_true] at h
        exact h
      clear hsb hsf hsh hst
      generalize sttT st = tt at K6 K7 hsl
      obtain ⟨n1, x1, r1⟩ := st
      unfold sttV at K5 K6 K7
      simp only at K5 K6 K7 hq
      go_wp2_with fail
      refine (K5.out _).mono ?_
      rintro e w5 ⟨rfl, hw5⟩
      have hb5 := hb4.trans (hw5.mono hb4.size)
      have hA5 := (Below.refl _ w5).alloc (Nat.le_refl _) (objS ⟨n1, x1, r1⟩)
      have hl5 := alloc_lt w5 (objS ⟨n1, x1, r1⟩)
      have HS5 := hid (boxS_new w5 ⟨n1, x1, r1⟩)
      unfold objS at hA5 hl5 HS5
      simp only at hA5 hl5 HS5
      have hb6 := hb5.trans (hA5.mono hb5.size)
      clear hw5 hb5 hA5 K5
      obtain ⟨s0, s1, s2⟩ := HS5.out
      simp only at s0 s1 s2
      go_wp2_with fail
      refine (K6.out _).mono ?_
      rintro e w6 ⟨rfl, hw6⟩
      have HS6 := hid (BoxS.below HS5.out hw6 hl5)
      have hb7 := hb6.trans (hw6.mono hb6.size)
      have hl6 : w5.heap.size < w6.heap.size := Nat.lt_of_lt_of_le hl5 hw6.size
      clear hw6 hb6 HS5 hl5 s0 s1 s2 K6
      go_wp2_with fail
      refine (K7.out _).mono ?_
      rintro e w7 ⟨rfl, hw7⟩
      have HS7 := BoxS.below HS6.out hw7 hl6
      have hb8 := hb7.trans (hw7.mono hb7.size)
      have hl7 : w5.heap.size < w7.heap.size := Nat.lt_of_lt_of_le hl6 hw7.size
      have hA7 : ∀ o, Below w7.heap.size w7 (w7.alloc o) := fun o => (Below.refl _ w7).alloc (Nat.le_refl _) o
      have HS8 := fun o => BoxS.below HS7 (hA7 o) hl7
      have s0 := fun o => (HS8 o).1
      have s1 := fun o => (HS8 o).2.1
      have s2 := fun o => (HS8 o).2.2
      simp only at s0 s1 s2
      have HB8 := hid (fun o => hb8.trans ((hA7 o).mono hb8.size))
      clear HS8 HS7 HS6 hw7 hb8 hA7 hb7 K7
      go_wp2_with (go_at_call 17; refine (awake8_any _).mono ?_; rintro e w9 ⟨rfl, hw9⟩)
      go_ret
      exact ⟨rfl, (HB8.out _).trans (hw9.mono (HB8.out _).size)⟩
    · have hs1 : (sn != 0) = true := by simpa using hsn
      have hs2 : (sn == 0) = false := by simpa using hsn
      clear hst
      obtain ⟨n1, x1, r1⟩ := st
      unfold sttV at K5
      simp only at K5
      go_wp2_with fail
      refine (K5.out _).mono ?_
      rintro e w5 ⟨rfl, hw5⟩
      have hb5 := hb4.trans (hw5.mono hb4.size)
      have HB8 := hid (fun o => hb5.alloc hb5.size o)
      clear hw5 hb5 K5
      go_wp2_with (go_at_call 17; refine (awake8_any _).mono ?_; rintro e w9 ⟨rfl, hw9⟩)
      go_ret
      exact ⟨rfl, (HB8.out _).trans (hw9.mono (HB8.out _).size)⟩

end Go.Proofs.YtjbfdbccidhdfaaDoor.headOnce
