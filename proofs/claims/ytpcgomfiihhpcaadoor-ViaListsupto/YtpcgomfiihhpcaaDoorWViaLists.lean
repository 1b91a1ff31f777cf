/-
  The walk of the law ViaLists.
-/
import Derived.Test.YtpcgomfiihhpcaaDoorVAwake
import Derived.Test.YtpcgomfiihhpcaaDoorRVList
import Derived.Test.YtpcgomfiihhpcaaDoorVSame
import Derived.Test.YtpcgomfiihhpcaaDoorOpenMsg
namespace Go.Proofs.YtpcgomfiihhpcaaDoor
open Go.RowKit Sc
theorem hopsG_small : ∀ (qs : List (List UInt8)) (out : List Hop), (∀ a ∈ out, SmallV 140737488355328 a) → out.length ≤ 16 → (∀ a ∈ (hopsG out qs).1, SmallV 140737488355328 a) ∧ (hopsG out qs).1.length ≤ 16
  | [], out, h, hl => ⟨h, hl⟩
  | q :: qs, out, h, hl => by
    rw [hopsG]
    split
    · exact ⟨fun a ha => by simp at ha, by simp⟩
    · split
      · exact ⟨fun a ha => by simp at ha, by simp⟩
      · refine hopsG_small qs (out ++ [(parseH q).1]) (fun a ha => ?_) (by simp; omega)
        rcases List.mem_append.1 ha with ha | ha
        · exact h a ha
        · simp at ha; subst ha; exact parseH_small
theorem hopsV_small (vs : List (List UInt8)) : (∀ a ∈ (hopsV vs).1, SmallV 140737488355328 a) ∧ (hopsV vs).1.length ≤ 16 := by
  have h := hopsG_small (vs.flatMap (partsV 44)) [] (fun a ha => by simp at ha) (by simp)
  unfold hopsV
  split
  · exact ⟨fun a ha => by simp at ha, by simp⟩
  · split
    · exact ⟨fun a ha => by simp at ha, by simp⟩
    · exact h
end Go.Proofs.YtpcgomfiihhpcaaDoor
namespace Go.Proofs.YtpcgomfiihhpcaaDoor.viaLists
open Go.RowKit Sc
set_option linter.unusedVariables false
set_option maxRecDepth 20000

set_option maxHeartbeats 2000000 in
set_option maxRecDepth 100000 in
theorem law_walk (w : World) (v0 : Value) (k0 : MsgGot 1048576 w v0) :
    Calls Tryd.prog 5 #[v0] w fun e w' => e = .returned (.bool true) ∧ Below w.heap.size w w' := by
  obtain ⟨m, h, rfl, hat, hsm0, hcnt, _⟩ := k0
  have hsm := hsm0.le (C := 140737488355328) (by omega)
  have hvl : ∀ l ∈ allV m viaK, l.length ≤ 1048576 := by
    intro l hl
    unfold allV at hl
    simp only [List.mem_map, List.mem_filter] at hl
    obtain ⟨x, ⟨hx, _⟩, rfl⟩ := hl
    exact (hsm0.2.2.2.2.2 x hx).2
  have hn1 := hsm0.2.2.2.2.1
  have HSM0 := hid hsm0.2.2.2.2.2
  clear hsm0
  have K1 := hid (fun w' (hb : Below w.heap.size w w') => vlist_any m h w' hsm hcnt (hat.below hb) hvl)
  have K3 := hid (fun w' (hb : Below w.heap.size w w') => rvlist_any m h w' hsm hcnt (hat.below hb) hvl)
  obtain ⟨ao, cap, rfl, hcell⟩ := hat.get
  have HC := hid hcell
  have HX0 := hid (boxM_new w m (.slice ao m.headers.length cap))
  have hb0 : Below w.heap.size w (w.alloc (objM m (.slice ao m.headers.length cap))) := (Below.refl _ w).alloc (Nat.le_refl _) _
  have hlt0 := alloc_lt w (objM m (.slice ao m.headers.length cap))
  have hrs := hopsV_small (allV m viaK)
  unfold HopsRes at K1 K3
  generalize hopsV (allV m viaK) = R at K1 K3 hrs
  obtain ⟨al, er⟩ := R
  simp only at K1 K3 hrs
  have HSM := hid hrs
  clear hsm hvl hat hcell hrs
  obtain ⟨me, ta, st, re, hs, bo⟩ := m
  unfold msgV at K1 K3 ⊢
  unfold objM at HX0 hb0 hlt0
  simp only at K1 K3 HX0 hb0 hlt0 hcnt HC hn1 HSM0 ⊢
  obtain ⟨n, hn⟩ : ∃ n, n = hs.length := ⟨_, rfl⟩
  rw [← hn] at K1 K3 HX0 hb0 hlt0 hcnt hn1 ⊢
  have HN := hid hn
  clear hn
  obtain ⟨x0, x1, x2, x3, x4, x5⟩ := HX0.out
  simp only at x0 x1 x2 x3 x4 x5
  have een : (er == er) = true := by simp
  go_enter Tryd.func5, Tryd.ntmps5
  go_wp2
  go_loopw [3, 4] (fun x i wr => ∃ (k s : Nat), k ≤ n ∧ i = .int .i64 k ∧ x = .int .i64 s ∧ s ≤ k * 1048577 ∧ wr = w.alloc (.cells #[.string ⟨me.toArray⟩, .string ⟨ta.toArray⟩, .int .i64 st, .string ⟨re.toArray⟩, .slice ao n cap, .string ⟨bo.toArray⟩] 45)) (fun _ i _ => n - (intOf i).toNat)
  case atStart => exact ⟨0, 0, by omega, rfl, rfl, by omega, rfl⟩
  case round =>
    obtain ⟨k, s, hkn, rfl, rfl, hsk, rfl⟩ := hrel
    by_cases hlt : k < n
    · have hkl : k < hs.length := by have := HN.out; omega
      obtain ⟨a, hao, hab, hh⟩ := HC.out k hkl
      have d1 := cell_below hb0 (by simp only [add_block]; exact hab) hh.2
      have hvk := (HSM0.out _ (List.getElem_mem hkl)).2
      subst hao
      clear hh hab
      generalize hs[k] = x at d1 hvk
      obtain ⟨xn, xv⟩ := x
      simp only at d1 hvk
      go_wp2
      go_roundw
      case rel => exact ⟨k + 1, s + 1 + xv.length, by omega, by go_num, by go_num, by omega, by first | rfl | trivial⟩
      case measure => simp [intOf]; omega
    · by_cases h8 : 8000 < s
      · have h8' : (8000 : Int) < (s : Int) := by omega
        clear K1 K3
        go_wp2_with (go_at_call 9; refine (awake7_any _).mono ?_; rintro e w9 ⟨rfl, hw9⟩)
        go_ret
        exact ⟨rfl, hb0.trans (hw9.mono hb0.size)⟩
      · have h8' : ¬ ((8000 : Int) < (s : Int)) := by omega
        have h8d : decide ((8000 : Int) < (s : Int)) = false := decide_eq_false h8'
        go_wp2_with fail
        refine (K1.out _ hb0).mono ?_
        rintro e w1 ⟨⟨v1, cs1, rfl, hm1, ho1⟩, hw1⟩
        obtain ⟨xa, xc, hxe⟩ := ho1.form
        subst hxe
        have HX1 := hid (BoxM.below HX0.out hw1 hlt0)
        have hb1 := hb0.trans (hw1.mono hb0.size)
        have P1 := hid ho1.hopsAt
        clear K1 ho1 x0 x1 x2 x3 x4 x5 HX0 hw1 hlt0 hb0
        obtain ⟨x0, x1, x2, x3, x4, x5⟩ := HX1.out
        simp only at x0 x1 x2 x3 x4 x5
        go_wp2_with fail
        refine (K3.out _ hb1).mono ?_
        rintro e w2 ⟨⟨v2, cs2, rfl, hm2, ho2⟩, hw2⟩
        obtain ⟨ya, yc, hye⟩ := ho2.form
        subst hye
        have P2 := hid ho2.hopsAt
        have P1' := hid (P1.out.below hw2)
        have hb2 := hb1.trans (hw2.mono hb1.size)
        have HM := hid (hm1.trans hm2.symm)
        have hlen : cs1.length ≤ 1048576 := by have := HSM.out.2; rw [← hm1] at this; simp at this; omega
        have HS1 : Hid (∀ c ∈ cs1, SmallV 140737488355328 c.h) := fun c hc => HSM.out.1 _ (by rw [← hm1]; exact List.mem_map_of_mem hc)
        clear K3 ho2 P1 hb1 hw2 hm1 hm2 HSM x0 x1 x2 x3 x4 x5 HX1
        go_wp2_with fail
        refine (vall_any _ _ cs1 cs2 _ hlen HS1.out HM.out P1'.out P2.out).mono ?_
        rintro e w3 ⟨rfl, hw3⟩
        have hb3 := hb2.trans (hw3.mono hb2.size)
        clear P1' P2 HM HS1 hb2 hw3
        go_wp2_with (go_at_call 9; refine (awake7_any _).mono ?_; rintro e w7 ⟨rfl, hw7⟩)
        go_ret
        exact ⟨rfl, hb3.trans (hw7.mono hb3.size)⟩

end Go.Proofs.YtpcgomfiihhpcaaDoor.viaLists
