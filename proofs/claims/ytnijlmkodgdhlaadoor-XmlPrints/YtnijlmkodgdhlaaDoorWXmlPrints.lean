/-
  The walk of the law XmlPrints.
-/
import Derived.Test.YtnijlmkodgdhlaaDoorYW
import Derived.Test.YtnijlmkodgdhlaaDoorYV
import Derived.Test.YtnijlmkodgdhlaaDoorYQ
namespace Go.Proofs.YtnijlmkodgdhlaaDoor.xmlPrints
open Go.RowKit Sc
set_option linter.unusedVariables false
set_option maxRecDepth 20000

theorem small_of {cs : List NdC} (hsm : ∀ c ∈ cs, SmallN 140737488355328 c.nd) (h : ndsW (ndsL cs) ≤ 5000) : ∀ c ∈ cs, SmallN 1048576 c.nd := fun c hc => by
  have h1 := ndsW_mem (l := ndsL cs) (x := c.nd) (List.mem_map.2 ⟨c, hc, rfl⟩)
  have h2 := attsW_len c.nd.attrs
  unfold ndW at h1
  refine ⟨by omega, by omega, ⟨by omega, fun p hp => ?_⟩, (hsm c hc).2.2.2⟩
  have h3 := attsW_mem hp
  unfold attW at h3
  exact ⟨by omega, by omega⟩
set_option maxHeartbeats 2000000 in
set_option maxRecDepth 100000 in
/-- What is left when both have printed alike. -/
theorem law_walk (w : World) (v0 : Value) (a1 : ByteArray) (k0 : NdsIn 140737488351232 w v0) (b1 : a1.size ≤ 140737488351232) :
    Calls Tryd.prog 3 #[v0, .string a1] w fun e w' => e = .returned (.bool true) ∧ Below w.heap.size w w' := by
  obtain ⟨cs, hat, hz, hsm0⟩ := k0
  have hsm : ∀ c ∈ cs, SmallN 140737488355328 c.nd := fun c hc => by
    obtain ⟨h1, h2, h3, h4⟩ := hsm0 c hc
    exact ⟨by omega, by omega, ⟨by have := h3.1; omega, fun p hp => ⟨by have := (h3.2 p hp).1; omega, by have := (h3.2 p hp).2; omega⟩⟩, h4⟩
  have KL := hid (lsmall13 v0 cs w (by omega) hsm hat)
  have KC := hid (fun w' (hb : Below w.heap.size w w') => xcheck_any v0 cs w' (by omega) hsm (hat.below hb))
  have KR := hid (fun w' (hb : Below w.heap.size w w') => rcheck13_any v0 cs w' (by omega) hsm (hat.below hb))
  have KN := hid (fun w' => xname_any a1 w' (by omega))
  have KM := hid (fun w' => rname_any a1 w' (by omega))
  generalize nameX a1.data.toList = NM at KN KM
  -- both print alike
  have KP : Hid (ndsW (ndsL cs) ≤ 5000 ∨ checkX (ndsL cs) ≠ 0 → ∃ (T : List UInt8), (∀ w', Below w.heap.size w w' → Calls Tryd.prog 11 #[v0] w' fun e w2 => e = .returned (.tuple #[.string ⟨T.toArray⟩, .int .i64 (checkX (ndsL cs))]) ∧ Below w'.heap.size w' w2) ∧ (∀ w', Below w.heap.size w w' → Calls Tryd.prog 12 #[v0] w' fun e w2 => e = .returned (.tuple #[.string ⟨T.toArray⟩, .int .i64 (checkX (ndsL cs))]) ∧ Below w'.heap.size w' w2)) := fun hor => by
    by_cases hck : checkX (ndsL cs) = 0
    · have h5 : ndsW (ndsL cs) ≤ 5000 := hor.resolve_right (fun h => h hck)
      obtain ⟨t, hf, hok⟩ := tree_of hck
      have hpl := printX_W 0 t
      rw [hf] at hpl
      have hn := (checkX_ok hck).2.1
      rw [ndsL_len] at hn
      rw [hck]
      exact ⟨prologK ++ printX t, fun w' hb => xprint_ok v0 cs t w' hsm (hat.below hb) hck hf (by omega), fun w' hb => rprint13_ok v0 cs t w' (by omega) (small_of hsm h5) (hat.below hb) hck hf (by omega)⟩
    · exact ⟨[], fun w' hb => xprint_bad v0 cs w' (by omega) hsm (hat.below hb) hck, fun w' hb => rprint13_bad v0 cs w' (by omega) hsm (hat.below hb) hck⟩
  have HW : Hid (checkX (ndsL cs) = 0 → ndsW (ndsL cs) ≤ 4611686018427387904) := fun hck => by
    have := ok_W (K := 140737488355328) hck fun y hy => by
      obtain ⟨c, hc, rfl⟩ := List.mem_map.1 hy
      obtain ⟨h1, h2, h3, h4⟩ := hsm c hc
      exact ⟨h1, h2, fun p hp => h3.2 p hp⟩
    omega
  obtain ⟨ao, cp, rfl⟩ := hat.form
  clear hat hsm hsm0
  generalize cs.length = n at KL KC KR KP hz ⊢
  go_enter Tryd.func3, Tryd.ntmps3
  go_wp2_with fail
  refine KL.out.mono ?_
  rintro e w1 ⟨b, rfl, hbv, q, rfl⟩
  have hb1 : Below w.heap.size w (w.drewN q) := below_drewN w q
  cases b with
  | false =>
    clear KP HW hbv KL
    go_wp2_with (go_at_call 10; refine (awake13_any _).mono ?_; rintro e w7 ⟨rfl, hw7⟩)
    go_ret
    exact ⟨rfl, hb1.trans (hw7.mono hb1.size)⟩
  | true =>
    have hor : ndsW (ndsL cs) ≤ 5000 ∨ checkX (ndsL cs) ≠ 0 := by
      by_cases hck : checkX (ndsL cs) = 0
      · left
        have := hbv (HW.out hck)
        simpa using this.symm
      · exact .inr hck
    obtain ⟨T, hp1, hp2⟩ := KP.out hor
    have KP1 := hid hp1
    have KP2 := hid hp2
    clear KP HW hbv KL hor hp1 hp2
    generalize checkX (ndsL cs) = R at KC KR KP1 KP2
    have eR : (R == R) = true := by simp
    have eT : (T == T) = true := by simp
    have eN : (NM == NM) = true := by simp
    go_wp2_with fail
    refine (KP1.out _ hb1).mono ?_
    rintro e w2 ⟨rfl, hw2⟩
    have hb2 := hb1.trans (hw2.mono hb1.size)
    clear hb1 hw2 KP1
    go_wp2_with fail
    refine (KP2.out _ hb2).mono ?_
    rintro e w3 ⟨rfl, hw3⟩
    have hb3 := hb2.trans (hw3.mono hb2.size)
    clear hb2 hw3 KP2
    go_wp2_with fail
    refine (KC.out _ hb3).mono ?_
    rintro e w4 ⟨rfl, hw4⟩
    have hb4 := hb3.trans (hw4.mono hb3.size)
    clear hb3 hw4 KC
    go_wp2_with fail
    refine (KR.out _ hb4).mono ?_
    rintro e w5 ⟨rfl, hw5⟩
    have hb5 := hb4.trans (hw5.mono hb4.size)
    clear hb4 hw5 KR
    go_wp2_with fail
    refine (KN.out _).mono ?_
    rintro e w6 ⟨rfl, hq6⟩
    rw [hq6]; clear hq6 w6
    go_wp2_with fail
    refine (KM.out _).mono ?_
    rintro e w6 ⟨rfl, hq6⟩
    rw [hq6]; clear hq6 w6
    go_wp2_with (go_at_call 10; refine (awake13_any _).mono ?_; rintro e w7 ⟨rfl, hw7⟩)
    go_ret
    exact ⟨rfl, hb5.trans (hw7.mono hb5.size)⟩
end Go.Proofs.YtnijlmkodgdhlaaDoor.xmlPrints
