/-
  The walk of the law XmlParses.
-/
import Derived.Test.YtnijlmkodgdhlaaDoorRX14
import Derived.Test.YtnijlmkodgdhlaaDoorYU
import Derived.Test.YtnijlmkodgdhlaaDoorYW
namespace Go.Proofs.YtnijlmkodgdhlaaDoor.xmlParses
open Go.RowKit Sc
set_option linter.unusedVariables false
set_option maxRecDepth 20000

theorem parsed_small (s : List UInt8) : (parseX s).1.length ≤ 200 ∧ ∀ x ∈ (parseX s).1, x.attrs.length ≤ 140737488355328 := by
  by_cases h : (parseX s).2 = 0
  · have hp : parseX s = ((parseX s).1, 0) := by rw [← h]
    have h1 := (checkX_ok (parseX_ok hp)).2.1
    exact ⟨h1, fun x hx => ((parseX_sm hp x hx).small (by decide)).2.2.1.1⟩
  · have hp : parseX s = ((parseX s).1, (parseX s).2) := rfl
    rw [parseX_err hp h]
    exact ⟨by simp, fun x hx => by simp at hx⟩
set_option maxHeartbeats 2000000 in
set_option maxRecDepth 100000 in
theorem law_walk (a0 : ByteArray) (b0 : a0.size ≤ 140737488351232) (w : World) :
    Calls Tryd.prog 4 #[.string a0] w fun e w' => e = .returned (.bool true) ∧ Below w.heap.size w w' := by
  have hs0 : a0 = ⟨a0.data.toList.toArray⟩ := by apply ByteArray.ext; simp
  have hl := len_data a0
  have K1 := hid (fun w' => xparse_any a0.data.toList w' (by omega))
  rw [← hs0] at K1
  have K2 := hid (fun w' => rparse13_any a0 w' (by omega))
  obtain ⟨hp1, hp2⟩ := parsed_small a0.data.toList
  obtain ⟨x, er, hpv⟩ : ∃ x er, parseX a0.data.toList = (x, er) := ⟨_, _, rfl⟩
  rw [hpv] at K1 K2 hp1 hp2
  simp only [ParP] at K1 K2 hp1 hp2
  have KS := hid (fun v u cs ds w' (hc : ndsL cs = x) (hd : ndsL ds = x) (hv : NdsAt w' v cs) (hu : NdsAt w' u ds) => rsame13_any v u cs ds w' (by rw [← ndsL_len, hc]; omega) (by rw [← ndsL_len, hd]; omega) (fun c hm => hp2 c.nd (by rw [← hc]; exact List.mem_map.2 ⟨c, hm, rfl⟩)) hv hu)
  have HQ : Hid (∀ cs ds : List NdC, ndsL cs = x → ndsL ds = x → decide (ndsL cs = ndsL ds) = true) := fun cs ds h1 h2 => by rw [h1, h2]; simp
  have een : (er == er) = true := by simp
  clear hpv hp1 hp2 hs0
  go_enter Tryd.func4, Tryd.ntmps4
  go_wp2_with fail
  refine (K1.out _).mono ?_
  rintro e w1 ⟨v1, cs1, rfl, hk1, hown1, hw1⟩
  have HK1 := hid hk1
  have HN1 := hid hown1.ndsAt
  obtain ⟨ao, cp, e1⟩ := hown1.form
  obtain ⟨n1, hn1⟩ : ∃ n1, n1 = cs1.length := ⟨_, rfl⟩
  rw [← hn1] at e1
  subst e1
  clear hk1 hown1 K1 hn1
  go_wp2_with fail
  refine (K2.out _).mono ?_
  rintro e w2 ⟨v2, cs2, rfl, hk2, hown2, hw2⟩
  have HK2 := hid hk2
  have HN2 := hid hown2.ndsAt
  have HN3 := hid (HN1.out.below hw2)
  have hb2 := hw1.trans (hw2.mono hw1.size)
  obtain ⟨bo, cq, e2⟩ := hown2.form
  obtain ⟨n2, hn2⟩ : ∃ n2, n2 = cs2.length := ⟨_, rfl⟩
  rw [← hn2] at e2
  subst e2
  clear hk2 hown2 K2 hn2 HN1 hw1 hw2
  go_wp2_with fail
  refine (KS.out _ _ cs1 cs2 _ HK1.out HK2.out HN3.out HN2.out).mono ?_
  rintro e w5 ⟨rfl, q, rfl⟩
  rw [HQ.out cs1 cs2 HK1.out HK2.out]
  have hb5 := hb2.trans (below_drewN w2 q |>.mono hb2.size)
  clear hb2 HN2 HN3
  go_wp2_with (go_at_call 10; refine (awake13_any _).mono ?_; rintro e w7 ⟨rfl, hw7⟩)
  go_ret
  exact ⟨rfl, hb5.trans (hw7.mono hb5.size)⟩
end Go.Proofs.YtnijlmkodgdhlaaDoor.xmlParses
