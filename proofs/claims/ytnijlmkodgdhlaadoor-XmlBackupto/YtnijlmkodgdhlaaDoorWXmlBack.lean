/-
  The walk of the law XmlBack.
-/
import Derived.Test.YtnijlmkodgdhlaaDoorYU
import Derived.Test.YtnijlmkodgdhlaaDoorYV
import Derived.Test.YtnijlmkodgdhlaaDoorYW
namespace Go.Proofs.YtnijlmkodgdhlaaDoor.xmlBack
open Go.RowKit Sc
set_option linter.unusedVariables false
set_option maxRecDepth 20000

set_option maxHeartbeats 2000000 in
set_option maxRecDepth 100000 in
theorem law_walk (w : World) (v0 : Value) (k0 : NdsIn 1048576 w v0) :
    Calls Tryd.prog 5 #[v0] w fun e w' => e = .returned (.bool true) ∧ Below w.heap.size w w' := by
  obtain ⟨cs, hat, hz, hsm0⟩ := k0
  have hsm : ∀ c ∈ cs, SmallN 140737488355328 c.nd := fun c hc => by
    obtain ⟨h1, h2, h3, h4⟩ := hsm0 c hc
    exact ⟨by omega, by omega, ⟨by have := h3.1; omega, fun p hp => ⟨by have := (h3.2 p hp).1; omega, by have := (h3.2 p hp).2; omega⟩⟩, h4⟩
  have KS := hid (fun u ds w' (hb : Below w.heap.size w w') (hd : ndsL ds = ndsL cs) (hu : NdsAt w' u ds) => rsame13_any v0 u cs ds w' (by omega) (by rw [← ndsL_len, hd, ndsL_len]; omega) (fun c hm => (hsm c hm).2.2.1.1) (hat.below hb) hu)
  have HQ : Hid (∀ ds : List NdC, ndsL ds = ndsL cs → decide (ndsL cs = ndsL ds) = true) := fun ds h1 => by rw [h1]; simp
  by_cases hck : checkX (ndsL cs) = 0
  · obtain ⟨t, hf, hok⟩ := tree_of hck
    have hW := ok_W (K := 1048576) hck fun y hy => by
      obtain ⟨c, hc, rfl⟩ := List.mem_map.1 hy
      obtain ⟨h1, h2, h3, h4⟩ := hsm0 c hc
      exact ⟨h1, h2, fun p hp => h3.2 p hp⟩
    have hpl := printX_W 0 t
    rw [hf] at hpl
    have K2 := hid (xprint_ok v0 cs t w hsm hat hck hf (by omega))
    have K3 := hid (fun (h4 : (prologK ++ printX t).length ≤ 4096) w' => by
      have k := xparse_any (prologK ++ printX t) w' (by omega)
      have hb := doc_back hck hf hok (bl := []) (fun b hb => by simp at hb) (by rw [List.append_nil]; exact h4)
      rw [List.append_nil] at hb
      rw [hb] at k
      exact k)
    have hTl : (prologK ++ printX t).length ≤ 140737488355328 := by
      have : prologK.length = 39 := rfl
      rw [List.length_append]; omega
    simp only [ParP] at K3
    generalize prologK ++ printX t = T at K2 K3 hTl
    have z1 := size_list T
    obtain ⟨ao, cp, rfl⟩ := hat.form
    clear hat hsm hsm0 hck hf hok hW hpl
    generalize cs.length = n at KS K2 hz ⊢
    by_cases h4 : 4096 < T.length
    · have r4 : (4096 : Int) < (T.length : Int) := by omega
      go_enter Tryd.func5, Tryd.ntmps5
      go_wp2_with fail
      refine K2.out.mono ?_
      rintro e w1 ⟨rfl, hw1⟩
      go_wp2_with (go_at_call 10; refine (awake13_any _).mono ?_; rintro e w7 ⟨rfl, hw7⟩)
      go_ret
      exact ⟨rfl, hw1.trans (hw7.mono hw1.size)⟩
    · have r4 : ¬ (4096 : Int) < (T.length : Int) := by omega
      have K4 := hid (K3.out (by omega))
      clear K3
      go_enter Tryd.func5, Tryd.ntmps5
      go_wp2_with fail
      refine K2.out.mono ?_
      rintro e w1 ⟨rfl, hw1⟩
      clear K2
      go_wp2_with fail
      refine (K4.out _).mono ?_
      rintro e w4 ⟨v4, cs4, rfl, hk4, hown4, hw4⟩
      have HK4 := hid hk4
      have HN4 := hid hown4.ndsAt
      have hb4 := hw1.trans (hw4.mono hw1.size)
      obtain ⟨ao4, cp4, rfl⟩ := hown4.form
      clear hk4 hown4 hw1 hw4 K4
      go_wp2_with fail
      refine (KS.out _ cs4 _ hb4 HK4.out HN4.out).mono ?_
      rintro e w5 ⟨rfl, q, rfl⟩
      rw [HQ.out cs4 HK4.out]
      have hb5 := hb4.trans (below_drewN w4 q |>.mono hb4.size)
      clear hb4 HN4
      go_wp2_with (go_at_call 10; refine (awake13_any _).mono ?_; rintro e w7 ⟨rfl, hw7⟩)
      go_ret
      exact ⟨rfl, hb5.trans (hw7.mono hb5.size)⟩
  · have K2 := hid (xprint_bad v0 cs w (by omega) hsm hat hck)
    have hn : (checkX (ndsL cs) != 0) = true := by simpa using hck
    have hn2 : (checkX (ndsL cs) == 0) = false := by simpa using hck
    obtain ⟨ao, cp, rfl⟩ := hat.form
    clear hat hsm hsm0 hck KS HQ
    generalize checkX (ndsL cs) = R at K2 hn hn2
    generalize cs.length = n at K2 hz ⊢
    go_enter Tryd.func5, Tryd.ntmps5
    go_wp2_with fail
    refine K2.out.mono ?_
    rintro e w1 ⟨rfl, hw1⟩
    go_wp2_with (go_at_call 10; refine (awake13_any _).mono ?_; rintro e w7 ⟨rfl, hw7⟩)
    go_ret
    exact ⟨rfl, hw1.trans (hw7.mono hw1.size)⟩
end Go.Proofs.YtnijlmkodgdhlaaDoor.xmlBack
