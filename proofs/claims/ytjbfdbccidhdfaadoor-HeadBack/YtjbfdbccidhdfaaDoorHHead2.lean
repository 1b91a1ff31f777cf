/-
  Contracts: package head's Event, Print and Is.
-/
import Derived.Test.YtjbfdbccidhdfaaDoorHHead1
import Derived.Test.YtjbfdbccidhdfaaDoorFR
import Derived.Test.YtjbfdbccidhdfaaDoorAText
import Derived.Test.YtjbfdbccidhdfaaDoorFN
namespace Go.Proofs.YtjbfdbccidhdfaaDoor
open Go.RowKit Sc
set_option linter.unusedVariables false
set_option maxRecDepth 20000
set_option linter.unusedSimpArgs false

set_option maxHeartbeats 1000000 in
set_option maxRecDepth 100000 in
theorem hevent_any (s : List UInt8) (w : World) (hs : s.length ≤ 1048576) :
    Calls Tryd.prog 18 #[.string ⟨s.toArray⟩] w fun e w' => EvRes (eventV s) w w' e ∧ Below w.heap.size w w' := by
  obtain ⟨p0', ps0, hpt⟩ := partsG_cons 59 s pl0 []
  have hpt2 : partsV 59 s = p0' :: ps0 := hpt
  have hmem := h_mem_len 59 s
  rw [hpt2] at hmem
  have hp0 := hmem p0' (by simp)
  have htp := trimL_len p0'
  have KP := hid (fun w' => parts_of hpt2 w' (by omega))
  have KTT := hid (fun w' => trim_list p0' w' (by omega))
  have KK := hid (fun w' => token_list (trimL p0') w' (by omega))
  have HML : Hid (∀ l ∈ ps0, l.length ≤ 1048576) := fun l hl => by have := hmem l (by simp [hl]); omega
  have HV := hid (eventV_of hpt2)
  clear hpt hpt2 hmem
  generalize eventV s = R at HV ⊢
  generalize trimL p0' = tp at KTT KK HV htp
  have hr0 := row2_at w (.string ⟨#[]⟩) (.slice none 0 0) 40
  have hb0 : Below w.heap.size w (w.alloc (.cells #[.string ⟨#[]⟩, .slice none 0 0] 40)) := (Below.refl _ w).alloc (Nat.le_refl _) _
  have hlt0 := alloc_lt w (.cells #[.string ⟨#[]⟩, .slice none 0 0] 40)
  go_enter Tryd.func18, Tryd.ntmps18
  go_wp2_with fail
  refine (KP.out _).mono ?_
  rintro e w5 ⟨g, cap, rfl, hcap, hgl, hcells, hw5⟩
  have hg0 := hcells 0 (by simp)
  simp only [List.getElem_cons_zero] at hg0
  have hr6 := hr0.below hw5 hlt0
  have hb6 := hb0.trans (hw5.mono hb0.size)
  have hlt6 := Nat.lt_of_lt_of_le hlt0 hw5.size
  have HC := hid hcells
  clear hcells hw5 KP hr0 hb0 hlt0
  go_wp2_with fail
  refine (KTT.out _).mono ?_
  rintro e w6 ⟨rfl, hw6⟩
  have HSA : Hid (StrsAt w6 (.slice (some ⟨g, 1, none⟩) ps0.length (cap - 1)) ps0) := strs_tail HC.out hgl hw6
  have HSB : Hid (ps0 = [] → StrsAt w6 (.slice (some ⟨g, 0, none⟩) ps0.length 0) ps0) := fun h => by subst h; exact strs_none _ _ _
  have hr7 := hr6.below hw6 hlt6
  have hb7 := hb6.trans (hw6.mono hb6.size)
  have hlt7 := Nat.lt_of_lt_of_le hlt6 hw6.size
  clear HC hg0 hgl KTT hw6 hr6 hb6 hlt6
  go_wp2_with fail
  all_goals (
    refine (afields_any _ ps0 w6 HML.out ?hstr).mono ?_
    case hstr => first | with_reducible exact HSA.out | exact HSB.out (List.eq_nil_of_length_eq_zero (by omega))
    rintro e w9 ⟨fv, fn, rfl, ⟨hfn, hfo⟩, hw9⟩
    generalize fieldsV ps0 = fr at HV hfn hfo
    obtain ⟨fp, fm⟩ := fr
    simp only at HV hfn hfo
    subst hfn
    obtain ⟨a3, k3, hfe⟩ := hfo.parsAt.form
    subst hfe
    have hr9 := hr7.below hw9 hlt7
    have hb9 := hb7.trans (hw9.mono hb7.size)
    have HO9 := hid (OwnP.mono hfo (show w.heap.size + 1 ≤ _ by omega))
    clear hfo hw9 hr7 hb7 HSA HSB
    obtain ⟨y0, y1, f0, f1⟩ := hr9.two2
    by_cases hfz : fn = 0
    case neg =>
      have HR : Hid (R = (noE, 81)) := show _ = _ by rw [HV.out, if_pos (Or.inr hfz)]
      have hne : (fn != 0) = true := by simpa using hfz
      have hrA := row_store2 hr9 (.string ⟨#[]⟩) (.slice none 0 0)
      have hbA := store_below2 hb9 w.heap.size (Nat.le_refl _) (.string ⟨#[]⟩) (.slice none 0 0)
      have HA := hid (And.intro hrA hbA)
      clear HV hrA hbA
      go_wp2
      generalize World.setCell _ _ _ = wA at HA ⊢
      obtain ⟨hrA, hbA⟩ := HA.out
      obtain ⟨d0, d1, _, _⟩ := hrA.two2
      try simp only [Exit.inBlock, Exit.then]
      refine bodyPost_ret (v := .tuple #[.agg #[.string ⟨#[]⟩, .slice none 0 0], .int .i64 81]) (by simp [results, Tryd.results18, go_sem, d0, d1]; try rfl) rfl ?_
      exact ⟨eres_none HR.out, hbA⟩
    subst hfz
    cases htk : tokenB tp with
    | false =>
      have HR : Hid (R = (noE, 81)) := show _ = _ by rw [HV.out, if_pos (Or.inl htk)]
      rw [htk] at KK
      have hrA := row_store2 hr9 (.string ⟨#[]⟩) (.slice none 0 0)
      have hbA := store_below2 hb9 w.heap.size (Nat.le_refl _) (.string ⟨#[]⟩) (.slice none 0 0)
      have HA := hid (And.intro hrA hbA)
      clear HV hrA hbA
      go_wp2_with (go_at_call 36; refine (KK.out _).mono ?_; rintro e wx ⟨rfl, hwx⟩; rw [hwx])
      generalize World.setCell _ _ _ = wA at HA ⊢
      obtain ⟨hrA, hbA⟩ := HA.out
      obtain ⟨d0, d1, _, _⟩ := hrA.two2
      try simp only [Exit.inBlock, Exit.then]
      refine bodyPost_ret (v := .tuple #[.agg #[.string ⟨#[]⟩, .slice none 0 0], .int .i64 81]) (by simp [results, Tryd.results18, go_sem, d0, d1]; try rfl) rfl ?_
      exact ⟨eres_none HR.out, hbA⟩
    | true =>
      rw [htk] at KK
      have HR : Hid (R = (⟨tp, fp⟩, 0)) := show _ = _ by rw [HV.out, if_neg (by simp [htk])]
      have hrA := row_store2 hr9 (.string ⟨tp.toArray⟩) (.slice a3 fp.length k3)
      have hbA := store_below2 hb9 w.heap.size (Nat.le_refl _) (.string ⟨tp.toArray⟩) (.slice a3 fp.length k3)
      have q3 := (OwnP.store2 HO9.out (Nat.lt_succ_self _) (.string ⟨tp.toArray⟩) (.slice a3 fp.length k3)).mono (Nat.le_succ w.heap.size)
      have HA := hid (And.intro hrA (And.intro hbA q3))
      clear HV hrA hbA q3
      go_wp2_with (go_at_call 36; refine (KK.out _).mono ?_; rintro e wx ⟨rfl, hwx⟩; rw [hwx])
      generalize World.setCell _ _ _ = wA at HA ⊢
      obtain ⟨hrA, hbA, q3⟩ := HA.out
      obtain ⟨d0, d1, _, _⟩ := hrA.two2
      try simp only [Exit.inBlock, Exit.then]
      refine bodyPost_ret (v := .tuple #[.agg #[.string ⟨tp.toArray⟩, .slice a3 fp.length k3], .int .i64 0]) (by simp [results, Tryd.results18, go_sem, d0, d1]; try rfl) rfl ?_
      refine ⟨?_, hbA⟩
      rw [HR.out]
      exact ⟨_, rfl, q3⟩)

set_option maxHeartbeats 1000000 in
set_option maxRecDepth 100000 in
theorem hevprint_any (c : EvC) (w : World) (hsm : SmallE 140737488355328 c.v) (hat : c.At w) :
    Calls Tryd.prog 20 #[evV c.v c.q] w fun e w' => e = .returned (.tuple #[.string ⟨(evPrint c.v).1.toArray⟩, .int .i64 (evPrint c.v).2]) ∧ Below w.heap.size w w' := by
  obtain ⟨a, q⟩ := c
  obtain ⟨h3, hcap⟩ := hat
  simp only at h3 hcap hsm ⊢
  have hnl := hsm.1
  have KT := hid (fun w' (hb : Below w.heap.size w w') => atext_any q a.params w' hsm.2 (h3.below hb) hcap)
  have KK := hid (fun w' => token_list a.name w' (by omega))
  have e1 := hid (@evPrint_1 a)
  have e2 := hid (@evPrint_2 a)
  have e3 := hid (@evPrint_3 a)
  have htl := text_small a.params
  have HBX := hid (boxE_new w a q)
  have hb0 : Below w.heap.size w (w.alloc (objE a q)) := (Below.refl _ w).alloc (Nat.le_refl _) _
  have hlt := alloc_lt w (objE a q)
  obtain ⟨a3, c3, rfl⟩ := h3.form
  clear h3 hsm hcap
  obtain ⟨nm, ps⟩ := a
  unfold evV
  unfold objE at hb0 hlt HBX
  simp only at KT KK e1 e2 e3 HBX hb0 hlt hnl htl ⊢
  generalize evPrint _ = R at e1 e2 e3 ⊢
  generalize textV ps = tv at KT e2 e3 htl
  obtain ⟨tt, tn⟩ := tv
  simp only at KT e2 e3 htl
  obtain ⟨x0, x1⟩ := HBX.out
  simp only at x0 x1
  go_enter Tryd.func20, Tryd.ntmps20
  go_wp2_with fail
  refine (KT.out _ hb0).mono ?_
  rintro e w1 ⟨rfl, hw1⟩
  have HB1 := hid (BoxE.below HBX.out hw1 hlt)
  have hb1 := hb0.trans (hw1.mono hb0.size)
  clear HBX hw1 hb0 hlt x0 x1 KT
  obtain ⟨x0, x1⟩ := HB1.out
  simp only at x0 x1
  by_cases hz : tn = 0
  case neg =>
    have HR := hid (e2.out hz)
    have hne : (tn != 0) = true := by simpa using hz
    clear e1 e2 e3
    go_wp2
    go_ret2
    exact ⟨by rw [HR.out]; rfl, hb1⟩
  subst hz
  cases htk : tokenB nm with
  | false =>
    have HR := hid (e1.out htk)
    rw [htk] at KK
    clear e1 e2 e3
    go_wp2_with (go_at_call 36; refine (KK.out _).mono ?_; rintro e wx ⟨rfl, hwx⟩; rw [hwx])
    go_ret2
    exact ⟨by rw [HR.out]; rfl, hb1⟩
  | true =>
    rw [htk] at KK
    have HR := hid (e3.out htk rfl)
    have KC := hid (fun w' => hclone_list nm w' hnl)
    clear e1 e2 e3
    go_wp2_with (first | (go_at_call 36; refine (KK.out _).mono ?_; rintro e wx ⟨rfl, hwx⟩; rw [hwx]) | (go_at_call 48; refine (KC.out _).mono ?_; rintro e w2 ⟨rfl, hw2⟩))
    go_ret2
    exact ⟨by rw [HR.out, ← ByteArray.mk_append_mk]; rfl, hb1.trans (hw2.mono hb1.size)⟩

set_option maxHeartbeats 1000000 in
set_option maxRecDepth 100000 in
theorem hevis_any (c c' : EvC) (w : World) (hsm : SmallE 140737488355328 c.v) (hsm' : SmallE 140737488355328 c'.v) (h : c.At w) (h' : c'.At w) :
    Calls Tryd.prog 23 #[evV c.v c.q, evV c'.v c'.q] w fun e w' => e = .returned (.bool (evIs c.v c'.v)) ∧ Below w.heap.size w w' := by
  obtain ⟨a, q⟩ := c
  obtain ⟨a', q'⟩ := c'
  obtain ⟨h3, _⟩ := h
  obtain ⟨k3, _⟩ := h'
  simp only at h3 k3 hsm hsm' ⊢
  have hd := evIs_val a a'
  have K1 := hid (fun w' (hb : Below w.heap.size w w') => value_any q a.params idK w' (by decide) hsm.2 (h3.below hb))
  have K2 := hid (fun w' (hb : Below w.heap.size w w') => value_any q' a'.params idK w' (by decide) hsm'.2 (k3.below hb))
  have hbx := boxE_new w a q
  have hb0 : Below w.heap.size w (w.alloc (objE a q)) := (Below.refl _ w).alloc (Nat.le_refl _) _
  have hlt := alloc_lt w (objE a q)
  have hby := boxE_new (w.alloc (objE a q)) a' q'
  have hb1 : Below w.heap.size w ((w.alloc (objE a q)).alloc (objE a' q')) := hb0.alloc hb0.size _
  have hbz := hbx.below ((Below.refl _ (w.alloc (objE a q))).alloc (Nat.le_refl _) (objE a' q')) hlt
  have hlt2 := alloc_lt (w.alloc (objE a q)) (objE a' q')
  have hs1 : (w.alloc (objE a q)).heap.size = w.heap.size + 1 := by simp
  rw [hs1] at hby hlt2
  clear hbx hb0
  obtain ⟨a3, c3, rfl⟩ := h3.form
  obtain ⟨a6, c6, rfl⟩ := k3.form
  clear h3 k3 hsm hsm'
  generalize evIs a a' = R at hd ⊢
  generalize valV a.params idK = v1 at hd K1
  generalize valV a'.params idK = v2 at hd K2
  obtain ⟨t1, b1⟩ := v1
  obtain ⟨t2, b2⟩ := v2
  obtain ⟨ho, ps⟩ := a
  obtain ⟨ho', ps'⟩ := a'
  unfold evV
  unfold objE at hb1 hbz hby hs1 hlt hlt2
  unfold idK at K1 K2
  simp only at K1 K2 hb1 hbz hby hd hs1 hlt hlt2 ⊢
  have HD := hid hd
  have HZ := hid hbz
  have HY := hid hby
  clear hd hs1 hbz hby
  obtain ⟨x0, x1⟩ := HZ.out
  obtain ⟨y0, y1⟩ := HY.out
  simp only at x0 x1 y0 y1
  go_enter Tryd.func23, Tryd.ntmps23
  go_wp2_with fail
  refine (K1.out _ hb1).mono ?_
  rintro e w2 ⟨rfl, hw2⟩
  have HZ2 := hid (BoxE.below HZ.out hw2 (Nat.lt_trans hlt (by simp)))
  have HY2 := hid (BoxE.below HY.out hw2 hlt2)
  have hb2 := hb1.trans (hw2.mono hb1.size)
  have hlz := Nat.lt_of_lt_of_le (Nat.lt_trans hlt (by simp)) hw2.size
  have hly := Nat.lt_of_lt_of_le hlt2 hw2.size
  clear x0 x1 y0 y1 HZ HY hw2 K1 hb1 hlt hlt2
  obtain ⟨x0, x1⟩ := HZ2.out
  obtain ⟨y0, y1⟩ := HY2.out
  simp only at x0 x1 y0 y1
  go_wp2_with fail
  refine (K2.out _ hb2).mono ?_
  rintro e w3 ⟨rfl, hw3⟩
  have HZ3 := BoxE.below HZ2.out hw3 hlz
  have HY3 := BoxE.below HY2.out hw3 hly
  have hb3 := hb2.trans (hw3.mono hb2.size)
  clear x0 x1 y0 y1 HZ2 HY2 hw3 K2 hb2 hlz hly
  obtain ⟨x0, x1⟩ := HZ3
  obtain ⟨y0, y1⟩ := HY3
  simp only at x0 x1 y0 y1
  cases hn : (ho == ho') with
  | false =>
    go_wp2
    go_ret
    exact ⟨ret_bool (by rw [HD.out, hn]; rfl), hb3⟩
  | true =>
    cases htt : (t1 == t2) with
    | false =>
      go_wp2
      go_ret
      exact ⟨ret_bool (by rw [HD.out, hn, htt]; simp), hb3⟩
    | true =>
      go_wp2
      go_ret
      exact ⟨ret_bool (by rw [HD.out, hn, htt]; simp), hb3⟩

end Go.Proofs.YtjbfdbccidhdfaaDoor
