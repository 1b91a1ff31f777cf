/-
  Contracts: the document's own All and One; Texts of two equal lists.
-/
import Derived.Test.YtpcgomfiihhpcaaDoorFAll
namespace Go.Proofs.YtpcgomfiihhpcaaDoor
open Go.RowKit Go.Sort Sc
set_option linter.unusedVariables false
set_option maxRecDepth 20000

theorem Own.mono {w : World} {B C : Nat} {e : TypeId} {v : Value} {xs : List Value} (h : Own w B e v xs) (hc : C ≤ B) : Own w C e v xs := by
  obtain ⟨h1, h2⟩ := h
  refine ⟨h1, ?_⟩
  rcases h2 with h2 | ⟨g, cap, cur, hv, hg, r⟩
  · exact Or.inl h2
  · exact Or.inr ⟨g, cap, cur, hv, Nat.le_trans hc hg, r⟩
set_option maxHeartbeats 2000000 in
set_option maxRecDepth 100000 in
theorem rall_any (m : Ms) (h : Value) (nm : List UInt8) (w : World) (hsm : SmallM 140737488355328 m) (hhl : m.headers.length ≤ 4398046511104) (hnl : nm.length ≤ 140737488355328) (hat : HdrsAt w h m.headers) :
    Calls Tryd.prog 47 #[msgV m h, .string ⟨nm.toArray⟩] w fun e w' => ∃ v, e = .returned v ∧ Own w' w.heap.size 9 v (strs (allV m nm)) ∧ Below w.heap.size w w' := by
  obtain ⟨i0, hi, hz0, hz1, hz2⟩ := info_parts info9
  obtain ⟨ao, cap, rfl, hcell⟩ := hat.get
  have HC := hid hcell
  have HSM := hid hsm.2.2.2.2.2
  have HEND := hid (fun (k : Nat) (hk : m.headers.length ≤ k) => allK_end m nm hk)
  have HBX := hid (boxM_new w m (.slice ao m.headers.length cap))
  have hb0 : Below w.heap.size w (w.alloc (objM m (.slice ao m.headers.length cap))) := (Below.refl _ w).alloc (Nat.le_refl _) _
  have hlt := alloc_lt w (objM m (.slice ao m.headers.length cap))
  clear hsm hat hcell
  obtain ⟨me, ta, st, re, hs, bo⟩ := m
  unfold msgV
  unfold objM at HBX hb0 hlt
  simp only at HC HSM HEND HBX hb0 hlt hhl ⊢
  generalize allV _ nm = R at HEND ⊢
  obtain ⟨n, hn⟩ : ∃ n, n = hs.length := ⟨_, rfl⟩
  rw [← hn] at HBX hb0 hlt hhl ⊢
  have HN := hid hn
  clear hn
  obtain ⟨x0, x1, x2, x3, x4, x5⟩ := HBX.out
  simp only at x0 x1 x2 x3 x4 x5
  generalize hW : World.alloc w _ = W at HBX hb0 hlt x0 x1 x2 x3 x4 x5
  go_enter Tryd.func47, Tryd.ntmps47
  go_wp2
  clear hW
  have HOUT := hid (fun (w' : World) (h' : Below W.heap.size W w') => hb0.trans (h'.mono hb0.size))
  have HBX2 := hid (fun (w' : World) (h' : Below W.heap.size W w') => BoxM.below HBX.out h' hlt)
  have hWl := Nat.le_of_lt hlt
  go_loopw [5, 6] (fun x i wr => ∃ k : Nat, k ≤ n ∧ i = .int .i64 k ∧ Hid (Own wr W.heap.size 9 x (strs (allK hs nm k))) ∧ Below W.heap.size W wr) (fun _ i _ => n - (intOf i).toNat)
  case atStart => exact ⟨0, Nat.zero_le _, rfl, hid (Own.nil _ _ _), Below.refl _ W⟩
  case round =>
    clear x0 x1 x2 x3 x4 x5 HBX hb0
    obtain ⟨k, hk, rfl, HO, hb⟩ := hrel
    obtain ⟨x0, x1, x2, x3, x4, x5⟩ := HBX2.out _ hb
    simp only at x0 x1 x2 x3 x4 x5
    by_cases hlt2 : k < n
    · have hkl : k < hs.length := by have := HN.out; omega
      obtain ⟨a, ha, hab, h0, h1⟩ := HC.out k hkl
      have D0 := hid (fun (w' : World) (hb : Below w.heap.size w w') => cell_below hb (by rw [add_block]; exact hab) h0)
      have D1 := hid (fun (w' : World) (hb : Below w.heap.size w w') => cell_below hb (by simp only [add_block]; exact hab) h1)
      have hss := HSM.out _ (List.getElem_mem hkl)
      have hyes := hid (@allK_yes hs nm k hkl)
      have hno := hid (@allK_no hs nm k hkl)
      have hal := allK_len hs nm k
      clear hab h0 h1
      subst ha
      generalize hs[k] = x at D0 D1 hss hyes hno
      obtain ⟨xn, xv⟩ := x
      simp only at D0 D1 hss hyes hno
      have KX := hid (fun w' => refsame_list xn nm w' hss.1 hnl)
      generalize allK hs nm k = Q at HO hyes hno hal
      obtain ⟨xa, xc, hxe⟩ := HO.out.form
      subst hxe
      have d0 := D0.out _ (HOUT.out _ hb)
      go_wp2_with fail
      refine (KX.out _).mono ?_
      rintro e w3 ⟨rfl, hw3⟩
      have hb3 := hb.trans (hw3.mono hb.size)
      have HO3 := hid (HO.out.below hw3)
      clear hw3 hb HO KX x0 x1 x2 x3 x4 x5 d0
      obtain ⟨x0, x1, x2, x3, x4, x5⟩ := HBX2.out _ hb3
      simp only at x0 x1 x2 x3 x4 x5
      cases heq : sameB xn nm with
      | false =>
        have HQ := hid (hno.out heq)
        clear hyes hno
        go_wp2
        go_roundw
        case rel => exact ⟨k + 1, by omega, by go_num, hid (by rw [HQ.out]; exact HO3.out), hb3⟩
        case measure => simp [intOf]; omega
      | true =>
        have HQ := hid (hyes.out heq)
        clear hyes hno
        have d1 := D1.out _ (HOUT.out _ hb3)
        have HNV := hid (one_new w3 9 (.string ⟨xv.toArray⟩))
        have HOX := hid (fun o => HO3.out.alloc o)
        have HBX := hid (fun o => hb3.alloc hb3.size o)
        clear HO3
        go_wp2_with (at_builtin; refine wp_appT _ rfl (.tmp 22) (.tmp 29) 56 rfl W.heap.size 9 i0 (.string .empty) Tryd.underlying56 hi hz0 hz1 hz2 rfl _ Q rfl (HOX.out _) ⟨_, 0, none⟩ 1 [xv] 1 rfl rfl (by exact HNV.out) (by omega) W (HBX.out _) (by have := hb3.size; simp; omega) ?_; intro v5 w5 hown5 hb5 hB5)
        rw [← HQ.out] at hown5
        have HO5 := hid hown5
        clear hown5
        go_wp2
        go_roundw
        case rel => exact ⟨k + 1, by omega, by go_num, HO5, hb5⟩
        case measure => simp [intOf]; omega
    · rw [HEND.out k (by have := HN.out; omega)] at HO
      go_wp2
      go_ret
      exact ⟨_, rfl, HO.out.mono hWl, HOUT.out _ hb⟩

end Go.Proofs.YtpcgomfiihhpcaaDoor
