/-
  The walk of the law AddrLists.
-/
import Derived.Test.YtgboekilhldejaaGreatDoorAAll
import Derived.Test.YtgboekilhldejaaGreatDoorRListA
import Derived.Test.YtgboekilhldejaaGreatDoorWAddrParses
namespace Go.Proofs.YtgboekilhldejaaGreatDoor.addrLists
open Go.RowKit Sc
set_option linter.unusedVariables false
set_option maxRecDepth 20000

theorem listG_small : ∀ (qs : List (List UInt8)) (out : List Adr), (∀ a ∈ out, SmallA 140737488355328 a) → (∀ a ∈ (listG out qs).1, SmallA 140737488355328 a) ∧ (listG out qs).1.length ≤ out.length + qs.length
  | [], out, h => ⟨h, by simp [listG]⟩
  | q :: qs, out, h => by
    rw [listG]
    split
    · exact ⟨fun a ha => by simp at ha, by simp⟩
    · have := listG_small qs (out ++ [(parseA q).1]) (fun a ha => by
        rcases List.mem_append.1 ha with ha | ha
        · exact h a ha
        · simp at ha; subst ha; exact addrParses.small_parsed q)
      refine ⟨this.1, ?_⟩
      have h2 := this.2
      simp at h2 ⊢; omega
theorem list_small (s : List UInt8) : (∀ a ∈ (listA s).1, SmallA 140737488355328 a) ∧ (listA s).1.length ≤ 16 := by
  unfold listA
  split
  · exact ⟨fun a ha => by simp at ha, by simp⟩
  · have := listG_small (partsV 44 s) [] (fun a ha => by simp at ha)
    refine ⟨this.1, ?_⟩
    have h2 := this.2
    simp at h2; omega

set_option maxHeartbeats 1000000 in
set_option maxRecDepth 100000 in
theorem law_walk (a0 : ByteArray) (b0 : a0.size ≤ 140737488351232) (w : World) :
    Calls Tryz.prog 6 #[.string a0] w fun e w' => e = .returned (.bool true) ∧ Below w.heap.size w w' := by
  by_cases h5 : a0.size ≤ 5000
  case neg =>
    have h5' : (5000 : Int) < (a0.size : Int) := by omega
    go_enter Tryz.func6, Tryz.ntmps6
    go_wp2_with (go_at_call 7; refine (awake5_any _).mono ?_; rintro e w7 ⟨rfl, hw7⟩)
    go_ret
    exact ⟨rfl, hw7⟩
  have h5' : ¬ ((5000 : Int) < (a0.size : Int)) := by omega
  have hs0 : a0 = ⟨a0.data.toList.toArray⟩ := by apply ByteArray.ext; simp
  have hl := len_data a0
  have hsm := list_small a0.data.toList
  have K1 := hid (fun w' => alist_any a0.data.toList w' (by omega))
  have K3 := hid (fun w' => rlist_any a0.data.toList w' (by omega))
  rw [← hs0] at K1 K3
  unfold ListRes at K1 K3
  generalize listA a0.data.toList = R at hsm K1 K3
  obtain ⟨al, er⟩ := R
  simp only at hsm K1 K3
  have HSM := hid hsm
  clear hs0 hl hsm
  have een : (er == er) = true := by simp
  go_enter Tryz.func6, Tryz.ntmps6
  go_wp2_with fail
  refine (K1.out _).mono ?_
  rintro e w1 ⟨⟨v1, cs1, rfl, hm1, ho1⟩, hw1⟩
  obtain ⟨xa, xc, hxe⟩ := ho1.form
  subst hxe
  have P1 := hid ho1.adrsAt
  clear K1 ho1
  go_wp2_with fail
  refine (K3.out _).mono ?_
  rintro e w2 ⟨⟨v2, cs2, rfl, hm2, ho2⟩, hw2⟩
  obtain ⟨ya, yc, hye⟩ := ho2.form
  subst hye
  have P2 := hid ho2.adrsAt
  have P1' := hid (P1.out.below hw2)
  have hb2 := hw1.trans (hw2.mono hw1.size)
  have HM := hid (hm1.trans hm2.symm)
  have hlen : cs1.length ≤ 1048576 := by have := HSM.out.2; rw [← hm1] at this; simp at this; omega
  have HS1 : Hid (∀ c ∈ cs1, SmallA 140737488355328 c.a) := fun c hc => HSM.out.1 _ (by rw [← hm1]; exact List.mem_map_of_mem hc)
  clear K3 ho2 P1 hw1 hw2 hm1 hm2 HSM
  go_wp2_with fail
  refine (aall_any _ _ cs1 cs2 _ hlen HS1.out HM.out P1'.out P2.out).mono ?_
  rintro e w3 ⟨rfl, hw3⟩
  have hb3 := hb2.trans (hw3.mono hb2.size)
  clear P1' P2 HM HS1 hb2 hw3
  go_wp2_with (go_at_call 7; refine (awake5_any _).mono ?_; rintro e w7 ⟨rfl, hw7⟩)
  go_ret
  exact ⟨rfl, hb3.trans (hw7.mono hb3.size)⟩

end Go.Proofs.YtgboekilhldejaaGreatDoor.addrLists
