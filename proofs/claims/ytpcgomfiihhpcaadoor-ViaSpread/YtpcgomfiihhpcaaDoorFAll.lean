/-
  Contracts: All, One of package frame and the document's own.
-/
import Derived.Test.YtpcgomfiihhpcaaDoorFW

namespace Go.Proofs.YtpcgomfiihhpcaaDoor
open Go.RowKit Go.Sort Sc
set_option linter.unusedVariables false
set_option maxRecDepth 20000

theorem sameB_is (a b : List UInt8) : sameB a b = (lowL a == lowL b) := rfl
/-- The values of the first k headers. -/
def allK (hs : List Hdr) (nm : List UInt8) (k : Nat) : List (List UInt8) := ((hs.take k).filter fun x => sameB x.name nm).map Hdr.value
theorem allK_yes {hs : List Hdr} {nm : List UInt8} {k : Nat} (hk : k < hs.length) (h : sameB hs[k].name nm = true) : allK hs nm (k + 1) = allK hs nm k ++ [hs[k].value] := by
  unfold allK; rw [all_step hk, if_pos h]
theorem allK_no {hs : List Hdr} {nm : List UInt8} {k : Nat} (hk : k < hs.length) (h : sameB hs[k].name nm = false) : allK hs nm (k + 1) = allK hs nm k := by
  unfold allK; rw [all_step hk, if_neg (by simp [h])]; simp
theorem allK_len (hs : List Hdr) (nm : List UInt8) (k : Nat) : (allK hs nm k).length ≤ k := by
  unfold allK
  rw [List.length_map]
  refine Nat.le_trans (List.length_filter_le _ _) ?_
  rw [List.length_take]; omega
theorem allK_end (m : Ms) (nm : List UInt8) {k : Nat} (hk : m.headers.length ≤ k) : allK m.headers nm k = allV m nm := by
  unfold allK allV; rw [List.take_of_length_le hk]

set_option maxHeartbeats 2000000 in
set_option maxRecDepth 100000 in
theorem fall_any (m : Ms) (h : Value) (nm : List UInt8) (w : World) (hsm : SmallM 140737488355328 m) (hhl : m.headers.length ≤ 4398046511104) (hnl : nm.length ≤ 140737488355328) (hat : HdrsAt w h m.headers) :
    Calls Tryd.prog 46 #[msgV m h, .string ⟨nm.toArray⟩] w fun e w' => ∃ v, e = .returned v ∧ Own w' w.heap.size 9 v (strs (allV m nm)) ∧ Below w.heap.size w w' := by
  obtain ⟨i0, hi, hz0, hz1, hz2⟩ := info_parts info9
  obtain ⟨ao, cap, rfl, hcell⟩ := hat.get
  have HC := hid hcell
  have HSM := hid hsm.2.2.2.2.2
  have HEND := hid (fun (k : Nat) (hk : m.headers.length ≤ k) => allK_end m nm hk)
  have KL := hid (fun w' => lower_list nm w' (by omega))
  have HBX := hid (boxM_new w m (.slice ao m.headers.length cap))
  have hb0 : Below w.heap.size w (w.alloc (objM m (.slice ao m.headers.length cap))) := (Below.refl _ w).alloc (Nat.le_refl _) _
  have hlt := alloc_lt w (objM m (.slice ao m.headers.length cap))
  clear hsm hat hcell
  obtain ⟨me, ta, st, re, hs, bo⟩ := m
  unfold msgV
  unfold objM at HBX hb0 hlt
  simp only at HC HSM HEND HBX hb0 hlt hhl ⊢
  generalize allV _ nm = R at HEND ⊢
  obtain ⟨n, hn⟩ : ∃ n, n = hs.length := ⟨_, rfl⟩
  rw [← hn] at HBX hb0 hlt hhl ⊢
  have HN := hid hn
  clear hn
  obtain ⟨x0, x1, x2, x3, x4, x5⟩ := HBX.out
  simp only at x0 x1 x2 x3 x4 x5
  obtain ⟨ln, hln⟩ : ∃ ln, ln = lowL nm := ⟨_, rfl⟩
  rw [← hln] at KL
  have HLN := hid hln
  clear hln
  go_enter Tryd.func46, Tryd.ntmps46
  go_wp2_with fail
  refine (KL.out _).mono ?_
  rintro e w1 ⟨rfl, hw1⟩
  have HB1 := hid (BoxM.below HBX.out hw1 hlt)
  have hb1 := hb0.trans (hw1.mono hb0.size)
  clear HBX hw1 hb0 hlt x0 x1 x2 x3 x4 x5 KL
  obtain ⟨x0, x1, x2, x3, x4, x5⟩ := HB1.out
  simp only at x0 x1 x2 x3 x4 x5
  go_wp2
  go_loopw [6, 14] (fun x i wr => ∃ k : Nat, k ≤ n ∧ i = .int .i64 k ∧ Hid (Own wr w.heap.size 9 x (strs (allK hs nm k))) ∧ Below w.heap.size w wr) (fun _ i _ => n - (intOf i).toNat)
  case atStart => exact ⟨0, Nat.zero_le _, rfl, hid (Own.nil _ _ _), hb1⟩
  case round =>
    clear x0 x1 x2 x3 x4 x5 HB1 hb1
    obtain ⟨k, hk, rfl, HO, hb⟩ := hrel
    by_cases hlt2 : k < n
    · have hkl : k < hs.length := by have := HN.out; omega
      obtain ⟨a, ha, hab, h0, h1⟩ := HC.out k hkl
      have d0 := cell_below hb (by rw [add_block]; exact hab) h0
      have d1 := cell_below hb (by simp only [add_block]; exact hab) h1
      have hss := HSM.out _ (List.getElem_mem hkl)
      have hyes := hid (@allK_yes hs nm k hkl)
      have hno := hid (@allK_no hs nm k hkl)
      have hal := allK_len hs nm k
      clear hab h0 h1
      subst ha
      generalize hs[k] = x at d0 d1 hss hyes hno
      obtain ⟨xn, xv⟩ := x
      simp only at d0 d1 hss hyes hno
      rw [sameB_is, ← HLN.out] at hyes hno
      have KX := hid (fun w' => lower_list xn w' (by omega))
      have KV := hid (fun w' => clone_list xv w' hss.2)
      generalize lowL xn = lx at hyes hno KX
      generalize allK hs nm k = Q at HO hyes hno hal
      obtain ⟨xa, xc, hxe⟩ := HO.out.form
      subst hxe
      have HBH := hid (boxH_new wr ⟨xn, xv⟩)
      have hA := (Below.refl _ wr).alloc (Nat.le_refl _) (objH ⟨xn, xv⟩)
      have hltA := alloc_lt wr (objH ⟨xn, xv⟩)
      unfold objH at HBH hA hltA
      simp only at HBH hA hltA
      have hbA := hb.trans (hA.mono hb.size)
      have HOA := hid (HO.out.below hA)
      obtain ⟨z0, z1⟩ := HBH.out
      simp only at z0 z1
      clear HO hA hb
      go_wp2_with fail
      refine (KX.out _).mono ?_
      rintro e w3 ⟨rfl, hw3⟩
      have HB3 := hid (BoxH.below HBH.out hw3 hltA)
      have hb3 := hbA.trans (hw3.mono hbA.size)
      have HO3 := hid (HOA.out.below hw3)
      clear HBH hw3 hltA hbA HOA z0 z1 KX d0 d1
      obtain ⟨z0, z1⟩ := HB3.out
      simp only at z0 z1
      cases heq : (lx == ln) with
      | false =>
        have HQ := hid (hno.out heq)
        clear hyes hno
        go_wp2
        go_roundw
        case rel => exact ⟨k + 1, by omega, by go_num, hid (by rw [HQ.out]; exact HO3.out), hb3⟩
        case measure => simp [intOf]; omega
      | true =>
        have HQ := hid (hyes.out heq)
        clear hyes hno
        go_wp2_with fail
        refine (KV.out _).mono ?_
        rintro e w4 ⟨rfl, hw4⟩
        have hb4 := hb3.trans (hw4.mono hb3.size)
        have HO4 := hid (HO3.out.below hw4)
        have HNV := hid (one_new w4 9 (.string ⟨xv.toArray⟩))
        have HOX := hid (fun o => HO4.out.alloc o)
        have HBX := hid (fun o => hb4.alloc hb4.size o)
        clear HO3 HO4 hw4 hb3 KV z0 z1
        go_wp2_with (at_builtin; refine wp_appT _ rfl (.tmp 23) (.tmp 27) 56 rfl w.heap.size 9 i0 (.string .empty) Tryd.underlying56 hi hz0 hz1 hz2 rfl _ Q rfl (HOX.out _) ⟨_, 0, none⟩ 1 [xv] 1 rfl rfl (by exact HNV.out) (by omega) w (HBX.out _) (by have := hb4.size; simp; omega) ?_; intro v5 w5 hown5 hb5 hB5)
        rw [← HQ.out] at hown5
        have HO5 := hid hown5
        clear hown5
        go_wp2
        go_roundw
        case rel => exact ⟨k + 1, by omega, by go_num, HO5, hb5⟩
        case measure => simp [intOf]; omega
    · rw [HEND.out k (by have := HN.out; omega)] at HO
      go_wp2
      go_ret
      exact ⟨_, rfl, HO.out, hb⟩

theorem oneV_is (m : Ms) (nm : List UInt8) : (∀ x, allV m nm = [x] → oneV m nm = (x, true)) ∧ ((allV m nm).length ≠ 1 → oneV m nm = ([], false)) := by
  unfold oneV
  constructor
  · intro x h; rw [h]
  · intro h
    match e : allV m nm with
    | [] => rfl
    | [x] => rw [e] at h; simp at h
    | _ :: _ :: _ => rfl
theorem ret_sb {R : List UInt8 × Bool} {x : List UInt8} {b : Bool} (h : R = (x, b)) : Ending.returned (.tuple #[.string ⟨x.toArray⟩, .bool b]) = .returned (.tuple #[.string ⟨R.1.toArray⟩, .bool R.2]) := by rw [h]

end Go.Proofs.YtpcgomfiihhpcaaDoor
