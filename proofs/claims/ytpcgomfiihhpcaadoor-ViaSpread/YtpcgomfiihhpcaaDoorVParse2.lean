/-
  The contract of package via's Parse.
-/
import Derived.Test.YtpcgomfiihhpcaaDoorVParse
import Derived.Test.YtpcgomfiihhpcaaDoorFR
import Derived.Test.YtpcgomfiihhpcaaDoorFN
namespace Go.Proofs.YtpcgomfiihhpcaaDoor
open Go.RowKit Sc
set_option linter.unusedVariables false
set_option maxRecDepth 20000

theorem OwnP.store3 {w : World} {B : Nat} {v : Value} {ps : List Par} (h : OwnP w B v ps) {b : Nat} (hb : b < B) (v0 v1 v2 : Value) : OwnP (((w.setCell ⟨b, 0, none⟩ v0).setCell ⟨b, 1, none⟩ v1).setCell ⟨b, 2, none⟩ v2) B v ps :=
  ownsRow_setCell_below (ownsRow_setCell_below (ownsRow_setCell_below h hb _) hb _) hb _
/-- What Parse hands back. -/
def HopRes (R : Hop × Int) (w w' : World) (e : Ending) : Prop := ∃ q, e = .returned (.tuple #[hpV R.1 q, .int .i64 R.2]) ∧ OwnP w' w.heap.size q R.1.params
theorem hres_none {R : Hop × Int} {n : Int} {w w' : World} (h : R = (noH, n)) : HopRes R w w' (.returned (.tuple #[.agg #[.string ⟨#[]⟩, .int .i64 0, .slice none 0 0], .int .i64 n])) := by
  subst h
  exact ⟨.slice none 0 0, rfl, OwnP.nil _ _⟩
theorem pG_mem_len (sep : Int) : ∀ (l : List UInt8) (p : Pl) (cur x : List UInt8), x ∈ partsG sep p cur l → x.length ≤ cur.length + l.length
  | [], p, cur, x, h => by rw [partsG] at h; simp at h; subst h; simp
  | b :: r, p, cur, x, h => by
    rw [partsG] at h
    split at h
    · rcases List.mem_cons.1 h with rfl | h
      · omega
      · have := pG_mem_len sep r _ _ x h; simp at this ⊢; omega
    · have := pG_mem_len sep r _ _ x h; simp at this ⊢; omega
theorem p_mem_len (sep : Int) (l : List UInt8) : ∀ x ∈ partsV sep l, x.length ≤ l.length := fun x h => by have := pG_mem_len sep l pl0 [] x h; simpa using this
theorem row3_at (w : World) (v0 v1 v2 : Value) (t : TypeId) : RowIs (w.alloc (.cells #[v0, v1, v2] t)) w.heap.size t [v0, v1, v2] := by
  unfold RowIs; rw [heap_alloc_new]
theorem where_list (l : List UInt8) (w : World) (hs : l.length ≤ 140737488355328) :
    Calls Tryd.prog 37 #[.string ⟨l.toArray⟩] w fun e w' => e = .returned (.tuple #[.string ⟨(whereV l).1.toArray⟩, .int .i64 (whereV l).2.1, .int .i64 (whereV l).2.2]) ∧ Below w.heap.size w w' := where_any ⟨l.toArray⟩ w (by rw [size_list]; exact hs)

set_option maxHeartbeats 1000000 in
set_option maxRecDepth 100000 in
theorem vparse_any (s : List UInt8) (w : World) (hs : s.length ≤ 1048576) :
    Calls Tryd.prog 18 #[.string ⟨s.toArray⟩] w fun e w' => HopRes (parseH s) w w' e ∧ Below w.heap.size w w' := by
  have hts := trimL_len s
  have hbl := behV_len (trimL s)
  have KT := hid (fun w' => trim_list s w' (by omega))
  have KB := hid (fun w' => behind_any (trimL s) w' (by omega))
  have hv := parseH_beh s
  generalize parseH s = R at hv ⊢
  generalize trimL s = t at KT KB hv hts hbl
  generalize behV t = B at KB hv hbl
  obtain ⟨r, bb⟩ := B
  simp only at KB hv hbl
  have hr0 := row3_at w (.string ⟨#[]⟩) (.int .i64 0) (.slice none 0 0) 24
  have hb0 : Below w.heap.size w (w.alloc (.cells #[.string ⟨#[]⟩, .int .i64 0, .slice none 0 0] 24)) := (Below.refl _ w).alloc (Nat.le_refl _) _
  have hlt0 := alloc_lt w (.cells #[.string ⟨#[]⟩, .int .i64 0, .slice none 0 0] 24)
  have HV := hid hv
  clear hv
  go_enter Tryd.func18, Tryd.ntmps18
  go_wp2_with fail
  refine (KT.out _).mono ?_
  rintro e w1 ⟨rfl, hw1⟩
  have hr1 := hr0.below hw1 hlt0
  have hb1 := hb0.trans (hw1.mono hb0.size)
  have hlt1 := Nat.lt_of_lt_of_le hlt0 hw1.size
  clear hr0 hb0 hlt0 hw1 KT
  go_wp2_with fail
  refine (KB.out _).mono ?_
  rintro e w2 ⟨rfl, hw2⟩
  have hr2 := hr1.below hw2 hlt1
  have hb2 := hb1.trans (hw2.mono hb1.size)
  have hlt2 := Nat.lt_of_lt_of_le hlt1 hw2.size
  clear hr1 hb1 hlt1 hw2 KB
  cases bb with
  | false =>
    have HR : Hid (R = (noH, 70)) := show _ = _ by rw [HV.out]; rfl
    clear HV
    have hr7 := row_store3 hr2 (.string ⟨#[]⟩) (.int .i64 0) (.slice none 0 0)
    have hb7 := store_below3 hb2 w.heap.size (Nat.le_refl _) (.string ⟨#[]⟩) (.int .i64 0) (.slice none 0 0)
    obtain ⟨y0, y1, y2, f0, f1, f2⟩ := hr2.three
    have H7 := hid (And.intro hr7 hb7)
    clear hr7 hb7
    go_wp2
    generalize World.setCell _ _ _ = w7 at H7 ⊢
    obtain ⟨hr7, hb7⟩ := H7.out
    obtain ⟨d0, d1, d2, _, _, _⟩ := hr7.three
    try simp only [Exit.inBlock, Exit.then]
    refine bodyPost_ret (v := .tuple #[.agg #[.string ⟨#[]⟩, .int .i64 0, .slice none 0 0], .int .i64 70]) (by simp [results, Tryd.results18, go_sem, d0, d1, d2]; try rfl) rfl ?_
    exact ⟨hres_none HR.out, hb7⟩
  | true =>
    rw [if_neg (by simp)] at HV
    obtain ⟨p0', ps0, hpt⟩ := partsG_cons 59 r pl0 []
    have hpt2 : partsV 59 r = p0' :: ps0 := hpt
    have hmem := p_mem_len 59 r
    rw [hpt2] at hmem
    have hp0 := hmem p0' (by simp)
    have htp := trimL_len p0'
    have KP := hid (fun w' => parts_of hpt2 w' (by omega))
    have KTT := hid (fun w' => trim_list p0' w' (by omega))
    have KW := hid (fun w' => where_list (trimL p0') w' (by omega))
    have HML : Hid (∀ l ∈ ps0, l.length ≤ 1048576) := fun l hl => by have := hmem l (by simp [hl]); omega
    rw [restH_of hpt2] at HV
    clear hpt hpt2 hmem
    generalize trimL p0' = tp at KTT KW HV htp
    generalize whereV tp = W at KW HV
    obtain ⟨wh, wp, wn⟩ := W
    simp only at KW HV
    go_wp2_with fail
    refine (KP.out _).mono ?_
    rintro e w5 ⟨g, cap, rfl, hcap, hgl, hcells, hw5⟩
    have hg0 := hcells 0 (by simp)
    simp only [List.getElem_cons_zero] at hg0
    have hr6 := hr2.below hw5 hlt2
    have hb6 := hb2.trans (hw5.mono hb2.size)
    have hlt6 := Nat.lt_of_lt_of_le hlt2 hw5.size
    have HC := hid hcells
    clear hcells hw5 KP
    go_wp2_with fail
    refine (KTT.out _).mono ?_
    rintro e w6 ⟨rfl, hw6⟩
    have hr7 := hr6.below hw6 hlt6
    have hb7 := hb6.trans (hw6.mono hb6.size)
    have hlt7 := Nat.lt_of_lt_of_le hlt6 hw6.size
    clear hr6 hb6 KTT
    go_wp2_with fail
    refine (KW.out _).mono ?_
    rintro e w7 ⟨rfl, hw7⟩
    have hr8 := hr7.below hw7 hlt7
    have hb8 := hb7.trans (hw7.mono hb7.size)
    have hlt8 := Nat.lt_of_lt_of_le hlt7 hw7.size
    have hw8 := hw6.trans (hw7.mono hw6.size)
    clear hr7 hb7 KW hlt7 hw6 hw7
    by_cases hun : wn = 0
    · subst hun
      have HT2 : Hid (R = if (fieldsV ps0).2 ≠ 0 then (noH, (fieldsV ps0).2) else (⟨wh, wp, (fieldsV ps0).1⟩, 0)) := show _ = _ by rw [HV.out, if_neg (by simp)]
      have HSA : Hid (StrsAt w7 (.slice (some ⟨g, 1, none⟩) ps0.length (cap - 1)) ps0) := strs_tail HC.out hgl hw8
      have HSB : Hid (ps0 = [] → StrsAt w7 (.slice (some ⟨g, 0, none⟩) ps0.length 0) ps0) := fun h => by subst h; exact strs_none _ _ _
      clear HV HC hg0 hgl hw8
      go_wp2_with fail
      all_goals (
        refine (afields_any _ ps0 w7 HML.out ?hstr).mono ?_
        case hstr => first | with_reducible exact HSA.out | exact HSB.out (List.eq_nil_of_length_eq_zero (by omega))
        rintro e w9 ⟨fv, fn, rfl, ⟨hfn, hfo⟩, hw9⟩
        generalize fieldsV ps0 = fr at HT2 hfn hfo
        obtain ⟨fp, fm⟩ := fr
        simp only at HT2 hfn hfo
        subst hfn
        obtain ⟨a3, k3, hfe⟩ := hfo.parsAt.form
        subst hfe
        have hr9 := hr8.below hw9 hlt8
        have hb9 := hb8.trans (hw9.mono hb8.size)
        have HO9 := hid (OwnP.mono hfo (show w.heap.size + 1 ≤ _ by omega))
        clear hfo hw9 hr8 hb8
        by_cases hfz : fn = 0
        · subst hfz
          have HR : Hid (R = (⟨wh, wp, fp⟩, 0)) := show _ = _ by rw [HT2.out, if_neg (by simp)]
          clear HT2
          have hrA := row_store3 hr9 (.string ⟨wh.toArray⟩) (.int .i64 wp) (.slice a3 fp.length k3)
          have hbA := store_below3 hb9 w.heap.size (Nat.le_refl _) (.string ⟨wh.toArray⟩) (.int .i64 wp) (.slice a3 fp.length k3)
          have q3 := (OwnP.store3 HO9.out (Nat.lt_succ_self _) (.string ⟨wh.toArray⟩) (.int .i64 wp) (.slice a3 fp.length k3)).mono (Nat.le_succ w.heap.size)
          obtain ⟨y0, y1, y2, f0, f1, f2⟩ := hr9.three
          have HA := hid (And.intro hrA (And.intro hbA q3))
          clear hrA hbA q3
          go_wp2
          generalize World.setCell _ _ _ = wA at HA ⊢
          obtain ⟨hrA, hbA, q3⟩ := HA.out
          obtain ⟨d0, d1, d2, _, _, _⟩ := hrA.three
          try simp only [Exit.inBlock, Exit.then]
          refine bodyPost_ret (v := .tuple #[.agg #[.string ⟨wh.toArray⟩, .int .i64 wp, .slice a3 fp.length k3], .int .i64 0]) (by simp [results, Tryd.results18, go_sem, d0, d1, d2]; try rfl) rfl ?_
          refine ⟨?_, hbA⟩
          rw [HR.out]
          exact ⟨_, rfl, q3⟩
        · have HR : Hid (R = (noH, fn)) := show _ = _ by rw [HT2.out, if_pos hfz]
          have hne : (fn != 0) = true := by simpa using hfz
          clear HT2 HO9
          have hr7 := row_store3 hr9 (.string ⟨#[]⟩) (.int .i64 0) (.slice none 0 0)
          have hb7 := store_below3 hb9 w.heap.size (Nat.le_refl _) (.string ⟨#[]⟩) (.int .i64 0) (.slice none 0 0)
          obtain ⟨y0, y1, y2, f0, f1, f2⟩ := hr9.three
          have H7 := hid (And.intro hr7 hb7)
          clear hr7 hb7
          go_wp2
          generalize World.setCell _ _ _ = w7 at H7 ⊢
          obtain ⟨hr7, hb7⟩ := H7.out
          obtain ⟨d0, d1, d2, _, _, _⟩ := hr7.three
          try simp only [Exit.inBlock, Exit.then]
          refine bodyPost_ret (v := .tuple #[.agg #[.string ⟨#[]⟩, .int .i64 0, .slice none 0 0], .int .i64 fn]) (by simp [results, Tryd.results18, go_sem, d0, d1, d2]; try rfl) rfl ?_
          exact ⟨hres_none HR.out, hb7⟩
          )
    · have HR : Hid (R = (noH, wn)) := show _ = _ by rw [HV.out, if_pos hun]
      have hne : (wn != 0) = true := by simpa using hun
      clear HV HC
      have hr7 := row_store3 hr8 (.string ⟨#[]⟩) (.int .i64 0) (.slice none 0 0)
      have hb7 := store_below3 hb8 w.heap.size (Nat.le_refl _) (.string ⟨#[]⟩) (.int .i64 0) (.slice none 0 0)
      obtain ⟨y0, y1, y2, f0, f1, f2⟩ := hr8.three
      have H7 := hid (And.intro hr7 hb7)
      clear hr7 hb7
      go_wp2
      generalize World.setCell _ _ _ = w7 at H7 ⊢
      obtain ⟨hr7, hb7⟩ := H7.out
      obtain ⟨d0, d1, d2, _, _, _⟩ := hr7.three
      try simp only [Exit.inBlock, Exit.then]
      refine bodyPost_ret (v := .tuple #[.agg #[.string ⟨#[]⟩, .int .i64 0, .slice none 0 0], .int .i64 wn]) (by simp [results, Tryd.results18, go_sem, d0, d1, d2]; try rfl) rfl ?_
      exact ⟨hres_none HR.out, hb7⟩


end Go.Proofs.YtpcgomfiihhpcaaDoor
