/-
  Contracts: package head's Event, Print and Is.
-/
import Derived.Test.YtjbfdbccidhdfabDoorHHead1
import Derived.Test.YtjbfdbccidhdfabDoorFR
import Derived.Test.YtjbfdbccidhdfabDoorAText
import Derived.Test.YtjbfdbccidhdfabDoorFN
namespace Go.Proofs.YtjbfdbccidhdfabDoor
open Go.RowKit Sc
set_option linter.unusedVariables false
set_option maxRecDepth 20000
set_option linter.unusedSimpArgs false

set_option maxHeartbeats 1000000 in
set_option maxRecDepth 100000 in
theorem hevent_any (s : List UInt8) (w : World) (hs : s.length ≤ 1048576) :
    Calls Tryd.prog 16 #[.string ⟨s.toArray⟩] w fun e w' => EvRes (eventV s) w w' e ∧ Below w.heap.size w w' := by
  obtain ⟨p0', ps0, hpt⟩ := partsG_cons 59 s pl0 []
  have hpt2 : partsV 59 s = p0' :: ps0 := hpt
  have hmem := h_mem_len 59 s
  rw [hpt2] at hmem
  have hp0 := hmem p0' (by simp)
  have htp := trimL_len p0'
  have KP := hid (fun w' => parts_of hpt2 w' (by omega))
  have KTT := hid (fun w' => trim_list p0' w' (by omega))
  have KK := hid (fun w' => token_list (trimL p0') w' (by omega))
  have HML : Hid (∀ l ∈ ps0, l.length ≤ 1048576) := fun l hl => by have := hmem l (by simp [hl]); omega
  have HV := hid (eventV_of hpt2)
  clear hpt hpt2 hmem
  generalize eventV s = R at HV ⊢
  generalize trimL p0' = tp at KTT KK HV htp
  have hr0 := row2_at w (.string ⟨#[]⟩) (.slice none 0 0) 42
  have hb0 : Below w.heap.size w (w.alloc (.cells #[.string ⟨#[]⟩, .slice none 0 0] 42)) := (Below.refl _ w).alloc (Nat.le_refl _) _
  have hlt0 := alloc_lt w (.cells #[.string ⟨#[]⟩, .slice none 0 0] 42)
  go_enter Tryd.func16, Tryd.ntmps16
  go_wp2_with fail
  refine (KP.out _).mono ?_
  rintro e w5 ⟨g, cap, rfl, hcap, hgl, hcells, hw5⟩
  have hg0 := hcells 0 (by simp)
  simp only [List.getElem_cons_zero] at hg0
  have hr6 := hr0.below hw5 hlt0
  have hb6 := hb0.trans (hw5.mono hb0.size)
  have hlt6 := Nat.lt_of_lt_of_le hlt0 hw5.size
  have HC := hid hcells
  clear hcells hw5 KP hr0 hb0 hlt0
  go_wp2_with fail
  refine (KTT.out _).mono ?_
  rintro e w6 ⟨rfl, hw6⟩
  have HSA : Hid (StrsAt w6 (.slice (some ⟨g, 1, none⟩) ps0.length (cap - 1)) ps0) := strs_tail HC.out hgl hw6
  have HSB : Hid (ps0 = [] → StrsAt w6 (.slice (some ⟨g, 0, none⟩) ps0.length 0) ps0) := fun h => by subst h; exact strs_none _ _ _
  have hr7 := hr6.below hw6 hlt6
  have hb7 := hb6.trans (hw6.mono hb6.size)
  have hlt7 := Nat.lt_of_lt_of_le hlt6 hw6.size
  clear HC hg0 hgl KTT hw6 hr6 hb6 hlt6
  go_wp2_with fail
  all_goals (
    refine (afields_any _ ps0 w6 HML.out ?hstr).mono ?_
    case hstr => first | with_reducible exact HSA.out | exact HSB.out (List.eq_nil_of_length_eq_zero (by omega))
    rintro e w9 ⟨fv, fn, rfl, ⟨hfn, hfo⟩, hw9⟩
    generalize fieldsV ps0 = fr at HV hfn hfo
    obtain ⟨fp, fm⟩ := fr
    simp only at HV hfn hfo
    subst hfn
    obtain ⟨a3, k3, hfe⟩ := hfo.parsAt.form
    subst hfe
    have hr9 := hr7.below hw9 hlt7
    have hb9 := hb7.trans (hw9.mono hb7.size)
    have HO9 := hid (OwnP.mono hfo (show w.heap.size + 1 ≤ _ by omega))
    clear hfo hw9 hr7 hb7 HSA HSB
    obtain ⟨y0, y1, f0, f1⟩ := hr9.two2
    by_cases hfz : fn = 0
    case neg =>
      have HR : Hid (R = (noE, 81)) := show _ = _ by rw [HV.out, if_pos (Or.inr hfz)]
      have hne : (fn != 0) = true := by simpa using hfz
      have hrA := row_store2 hr9 (.string ⟨#[]⟩) (.slice none 0 0)
      have hbA := store_below2 hb9 w.heap.size (Nat.le_refl _) (.string ⟨#[]⟩) (.slice none 0 0)
      have HA := hid (And.intro hrA hbA)
      clear HV hrA hbA
      go_wp2
      generalize World.setCell _ _ _ = wA at HA ⊢
      obtain ⟨hrA, hbA⟩ := HA.out
      obtain ⟨d0, d1, _, _⟩ := hrA.two2
      try simp only [Exit.inBlock, Exit.then]
      refine bodyPost_ret (v := .tuple #[.agg #[.string ⟨#[]⟩, .slice none 0 0], .int .i64 81]) (by simp [results, Tryd.results16, go_sem, d0, d1]; try rfl) rfl ?_
      exact ⟨eres_none HR.out, hbA⟩
    subst hfz
    cases htk : tokenB tp with
    | false =>
      have HR : Hid (R = (noE, 81)) := show _ = _ by rw [HV.out, if_pos (Or.inl htk)]
      rw [htk] at KK
      have hrA := row_store2 hr9 (.string ⟨#[]⟩) (.slice none 0 0)
      have hbA := store_below2 hb9 w.heap.size (Nat.le_refl _) (.string ⟨#[]⟩) (.slice none 0 0)
      have HA := hid (And.intro hrA hbA)
      clear HV hrA hbA
      go_wp2_with (go_at_call 14; refine (KK.out _).mono ?_; rintro e wx ⟨rfl, hwx⟩; rw [hwx])
      generalize World.setCell _ _ _ = wA at HA ⊢
      obtain ⟨hrA, hbA⟩ := HA.out
      obtain ⟨d0, d1, _, _⟩ := hrA.two2
      try simp only [Exit.inBlock, Exit.then]
      refine bodyPost_ret (v := .tuple #[.agg #[.string ⟨#[]⟩, .slice none 0 0], .int .i64 81]) (by simp [results, Tryd.results16, go_sem, d0, d1]; try rfl) rfl ?_
      exact ⟨eres_none HR.out, hbA⟩
    | true =>
      rw [htk] at KK
      have HR : Hid (R = (⟨tp, fp⟩, 0)) := show _ = _ by rw [HV.out, if_neg (by simp [htk])]
      have hrA := row_store2 hr9 (.string ⟨tp.toArray⟩) (.slice a3 fp.length k3)
      have hbA := store_below2 hb9 w.heap.size (Nat.le_refl _) (.string ⟨tp.toArray⟩) (.slice a3 fp.length k3)
      have q3 := (OwnP.store2 HO9.out (Nat.lt_succ_self _) (.string ⟨tp.toArray⟩) (.slice a3 fp.length k3)).mono (Nat.le_succ w.heap.size)
      have HA := hid (And.intro hrA (And.intro hbA q3))
      clear HV hrA hbA q3
      go_wp2_with (go_at_call 14; refine (KK.out _).mono ?_; rintro e wx ⟨rfl, hwx⟩; rw [hwx])
      generalize World.setCell _ _ _ = wA at HA ⊢
      obtain ⟨hrA, hbA, q3⟩ := HA.out
      obtain ⟨d0, d1, _, _⟩ := hrA.two2
      try simp only [Exit.inBlock, Exit.then]
      refine bodyPost_ret (v := .tuple #[.agg #[.string ⟨tp.toArray⟩, .slice a3 fp.length k3], .int .i64 0]) (by simp [results, Tryd.results16, go_sem, d0, d1]; try rfl) rfl ?_
      refine ⟨?_, hbA⟩
      rw [HR.out]
      exact ⟨_, rfl, q3⟩)

end Go.Proofs.YtjbfdbccidhdfabDoor
