/-
  The walk of the law XmlOnce.
-/
import Derived.Test.YtnijlmkodgdhlaaDoorYU
import Derived.Test.YtnijlmkodgdhlaaDoorYV
import Derived.Test.YtnijlmkodgdhlaaDoorYW
namespace Go.Proofs.YtnijlmkodgdhlaaDoor.xmlOnce
open Go.RowKit Sc
set_option linter.unusedVariables false
set_option maxRecDepth 20000

set_option maxHeartbeats 2000000 in
set_option maxRecDepth 100000 in
theorem law_walk (a0 : ByteArray) (b0 : a0.size ≤ 140737488351232) (w : World) :
    Calls Tryd.prog 6 #[.string a0] w fun e w' => e = .returned (.bool true) ∧ Below w.heap.size w w' := by
  have hs0 : a0 = ⟨a0.data.toList.toArray⟩ := by apply ByteArray.ext; simp
  have hl := len_data a0
  obtain ⟨x, er, hpv⟩ : ∃ x er, parseX a0.data.toList = (x, er) := ⟨_, _, rfl⟩
  have K1 := hid (fun w' => xparse_any a0.data.toList w' (by omega))
  rw [← hs0, hpv] at K1
  simp only [ParP] at K1
  by_cases he : er = 0
  · subst he
    have hck := parseX_ok hpv
    have hsm := parseX_sm hpv
    obtain ⟨c1, c2, _, _⟩ := checkX_ok hck
    obtain ⟨t, hf, hok⟩ := tree_of hck
    have hW := ok_W (K := 4096) hck fun y hy => ⟨(hsm y hy).1, (hsm y hy).2.1, (hsm y hy).2.2.2.1⟩
    have hpl := printX_W 0 t
    rw [hf] at hpl
    have hsmN : ∀ cs : List NdC, ndsL cs = x → ∀ c ∈ cs, SmallN 140737488355328 c.nd := fun cs hc c hm => (hsm c.nd (by rw [← hc]; exact List.mem_map.2 ⟨c, hm, rfl⟩)).small (by decide)
    have hlen : ∀ cs : List NdC, ndsL cs = x → cs.length = x.length := fun cs hc => by rw [← hc, ndsL_len]
    have K2 := hid (fun v cs w' (hc : ndsL cs = x) (hv : NdsAt w' v cs) => xprint_ok v cs t w' (hsmN cs hc) hv (by rw [hc]; exact hck) (by rw [hc]; exact hf) (by omega))
    have KC := hid (fun v cs w' (hc : ndsL cs = x) (hv : NdsAt w' v cs) => xcheck_any v cs w' (by rw [hlen cs hc]; omega) (hsmN cs hc) hv)
    have KS := hid (fun v u cs ds w' (hc : ndsL cs = x) (hd : ndsL ds = x) (hv : NdsAt w' v cs) (hu : NdsAt w' u ds) => rsame13_any v u cs ds w' (by rw [hlen cs hc]; omega) (by rw [hlen ds hd]; omega) (fun c hm => (hsmN cs hc c hm).2.2.1.1) hv hu)
    have K3 := hid (fun (h4 : (prologK ++ printX t).length ≤ 4096) w' => by
      have k := xparse_any (prologK ++ printX t) w' (by omega)
      have hb := doc_back hck hf hok (bl := []) (fun b hb => by simp at hb) (by rw [List.append_nil]; exact h4)
      rw [List.append_nil] at hb
      rw [hb] at k
      exact k)
    have HQ : Hid (∀ cs ds : List NdC, ndsL cs = x → ndsL ds = x → decide (ndsL cs = ndsL ds) = true) := fun cs ds h1 h2 => by rw [h1, h2]; simp
    have HCK := hid (fun cs (hc : ndsL cs = x) => show checkX (ndsL cs) = 0 by rw [hc]; exact hck)
    have HL := hid hlen
    have HTL := hid (show 1 ≤ x.length from c1)
    have hTl : (prologK ++ printX t).length ≤ 140737488355328 := by
      have : prologK.length = 39 := rfl
      rw [List.length_append]; omega
    simp only [ParP] at K3
    generalize prologK ++ printX t = T at K2 K3 hTl
    have z1 := size_list T
    clear hpv hck hsm hf hok hW hpl hsmN hlen c1 c2 hs0
    go_enter Tryd.func6, Tryd.ntmps6
    go_wp2_with fail
    refine (K1.out _).mono ?_
    rintro e w1 ⟨v1, cs1, rfl, hk1, hown1, hw1⟩
    have HK1 := hid hk1
    have HN1 := hid hown1.ndsAt
    have hcl := HL.out cs1 hk1
    have hx1 := HTL.out
    obtain ⟨ao, cp, rfl⟩ := hown1.form
    clear hk1 hown1 K1
    obtain ⟨n, hn⟩ : ∃ n, n = cs1.length := ⟨_, rfl⟩
    rw [← hn] at HN1 hcl ⊢
    clear hn
    have hn0 : ((n : Int) == 0) = false := by rw [beq_eq_false_iff_ne]; omega
    clear hcl hx1
    have KP := hid (K2.out _ cs1 _ HK1.out HN1.out)
    go_wp2_with fail
    refine KP.out.mono ?_
    rintro e w2 ⟨rfl, hw2⟩
    have hb2 := hw1.trans (hw2.mono hw1.size)
    have HN2 := hid (HN1.out.below hw2)
    clear HN1 hw2 K2 hw1
    go_wp2_with fail
    refine (KC.out _ cs1 _ HK1.out HN2.out).mono ?_
    rintro e w3 ⟨rfl, hw3⟩
    rw [HCK.out cs1 HK1.out]
    have hb3 := hb2.trans (hw3.mono hb2.size)
    have HN3 := hid (HN2.out.below hw3)
    clear HN2 hw3 KC hb2
    by_cases h4 : 4096 < T.length
    · have r4 : (4096 : Int) < (T.length : Int) := by omega
      go_wp2_with (go_at_call 10; refine (awake13_any _).mono ?_; rintro e w7 ⟨rfl, hw7⟩)
      go_ret
      exact ⟨rfl, hb3.trans (hw7.mono hb3.size)⟩
    · have r4 : ¬ (4096 : Int) < (T.length : Int) := by omega
      have K4 := hid (K3.out (by omega))
      clear K3
      go_wp2_with fail
      refine (K4.out _).mono ?_
      rintro e w4 ⟨v4, cs4, rfl, hk4, hown4, hw4⟩
      have HK4 := hid hk4
      have HN4 := hid hown4.ndsAt
      have hb4 := hb3.trans (hw4.mono hb3.size)
      have HN5 := hid (HN3.out.below hw4)
      obtain ⟨ao4, cp4, rfl⟩ := hown4.form
      clear hk4 hown4 hb3 HN3 hw4 K4
      go_wp2_with fail
      refine (KS.out _ _ cs1 cs4 _ HK1.out HK4.out HN5.out HN4.out).mono ?_
      rintro e w5 ⟨rfl, q, rfl⟩
      rw [HQ.out cs1 cs4 HK1.out HK4.out]
      have hb5 := hb4.trans (below_drewN w4 q |>.mono hb4.size)
      clear hb4 HN4 HN5
      go_wp2_with (go_at_call 10; refine (awake13_any _).mono ?_; rintro e w7 ⟨rfl, hw7⟩)
      go_ret
      exact ⟨rfl, hb5.trans (hw7.mono hb5.size)⟩
  · have hx := parseX_err hpv he
    subst hx
    have hn : (er != 0) = true := by simpa using he
    clear hpv he hs0
    go_enter Tryd.func6, Tryd.ntmps6
    go_wp2_with fail
    refine (K1.out _).mono ?_
    rintro e w1 ⟨v1, cs1, rfl, hk1, hown1, hw1⟩
    obtain ⟨ao, cp, rfl⟩ := hown1.form
    have hc0 : cs1.length = 0 := by rw [← ndsL_len, hk1]; rfl
    rw [hc0]
    clear hk1 hown1 K1 hc0
    go_wp2_with (go_at_call 10; refine (awake13_any _).mono ?_; rintro e w7 ⟨rfl, hw7⟩)
    go_ret
    exact ⟨rfl, hw1.trans (hw7.mono hw1.size)⟩
end Go.Proofs.YtnijlmkodgdhlaaDoor.xmlOnce
