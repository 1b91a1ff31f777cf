/-
  The contract of the document's own Parse of hops.
-/
import Derived.Test.YtpcgomfiihhpcaaDoorVParse2
import Derived.Test.YtpcgomfiihhpcaaDoorFM
import Derived.Test.YtpcgomfiihhpcaaDoorFT
import Derived.Test.YtpcgomfiihhpcaaDoorFH
namespace Go.Proofs.YtpcgomfiihhpcaaDoor
open Go.RowKit Sc
set_option linter.unusedVariables false
set_option maxRecDepth 20000

theorem refwhere_list (l : List UInt8) (w : World) (hs : l.length ≤ 140737488355328) :
    Calls Tryd.prog 43 #[.string ⟨l.toArray⟩] w fun e w' => e = .returned (.tuple #[.string ⟨(whereV l).1.toArray⟩, .int .i64 (whereV l).2.1, .int .i64 (whereV l).2.2]) ∧ Below w.heap.size w w' := refwhere_any ⟨l.toArray⟩ w (by rw [size_list]; exact hs)
theorem blk_no {b : UInt8} : blk b = false ↔ (cls (b.toNat : Int) != 32) = true := by
  rw [blk_cls]
  simp
theorem parseH_1 {s : List UInt8} (h : wordN (trimL s) = (trimL s).length) : parseH s = (noH, 70) := by rw [parseH, if_pos (Or.inl h)]
theorem parseH_2 {s : List UInt8} (h : sameB ((trimL s).take (wordN (trimL s))) protoK = false) : parseH s = (noH, 70) := by rw [parseH, if_pos (Or.inr h)]
theorem parseH_3 {s : List UInt8} (h : wordN (trimL s) ≠ (trimL s).length) (h2 : sameB ((trimL s).take (wordN (trimL s))) protoK = true) : parseH s = restH ((trimL s).drop (wordN (trimL s))) := by
  rw [parseH, if_neg]
  rintro (k | k)
  · exact h k
  · rw [h2] at k; cases k

set_option maxHeartbeats 2000000 in
set_option maxRecDepth 100000 in
theorem rvparse_any (s : List UInt8) (w : World) (hs : s.length ≤ 1048576) :
    Calls Tryd.prog 19 #[.string ⟨s.toArray⟩] w fun e w' => HopRes (parseH s) w w' e ∧ Below w.heap.size w w' := by
  have hts := trimL_len s
  have KT := hid (fun w' => reftrim_list s w' (by omega))
  have v1 := hid (@parseH_1 s)
  have v2 := hid (@parseH_2 s)
  have v3 := hid (@parseH_3 s)
  generalize parseH s = R at v1 v2 v3 ⊢
  generalize trimL s = t at KT v1 v2 v3 hts
  have HLE := hid (wordN_le t)
  have HPOS := hid (fun k (hk : k < t.length) (hp : k ≤ wordN t) (hb : blk t[k] = true) => wordN_pos hk hp hb)
  have HMORE := hid (fun k (hk : k < t.length) (hp : k ≤ wordN t) (hb : blk t[k] = false) => wordN_more hk hp hb)
  have KS := hid (fun w' => refsame_list (t.take (wordN t)) protoK w' (by simp; omega) (by decide))
  have htk := vtake_ext t (wordN t)
  have hdr := vdrop_ext t (wordN t)
  have HTK := hid htk
  have HDR := hid hdr
  clear htk hdr
  have HDL : Hid ((t.drop (wordN t)).length ≤ 1048576) := show _ ≤ _ by simp; omega
  generalize wordN t = n at v1 v2 v3 HLE HPOS HMORE KS HTK HDR HDL
  have hr0 := row3_at w (.string ⟨#[]⟩) (.int .i64 0) (.slice none 0 0) 24
  have hb0 : Below w.heap.size w (w.alloc (.cells #[.string ⟨#[]⟩, .int .i64 0, .slice none 0 0] 24)) := (Below.refl _ w).alloc (Nat.le_refl _) _
  have hlt0 := alloc_lt w (.cells #[.string ⟨#[]⟩, .int .i64 0, .slice none 0 0] 24)
  have HR0 := hid hr0
  clear hr0
  go_enter Tryd.func19, Tryd.ntmps19
  go_wp2_with fail
  refine (KT.out _).mono ?_
  rintro e w1 ⟨rfl, hw1⟩
  rw [hw1]
  clear KT hw1
  go_wp2
  go_loopw [4] (fun i wr => ∃ k : Nat, k ≤ n ∧ i = .int .i64 k ∧ wr = w.alloc (.cells #[.string ⟨#[]⟩, .int .i64 0, .slice none 0 0] 24)) (fun i _ => n - (intOf i).toNat)
  case atStart => exact ⟨0, by omega, rfl, rfl⟩
  case round =>
    obtain ⟨k, hkn, rfl, rfl⟩ := hrel
    have hle := HLE.out
    by_cases hlt : k < t.length
    · have hk2 : k < (⟨t.toArray⟩ : ByteArray).size := by rw [size_list]; exact hlt
      have hki : (k : Int) < (t.length : Int) := by omega
      have hge : (⟨t.toArray⟩ : ByteArray)[k]'hk2 = t[k] := rfl
      have hpos := HPOS.out k hlt hkn
      have hmore := HMORE.out k hlt hkn
      generalize t[k] = x at hge hpos hmore
      have hbt := UInt8.toNat_lt x
      have KC := hid (fun w' => refclass_any (x.toNat : Int) w' (by omega) (by omega))
      have hbn := @blk_no x
      cases hbx : blk x with
      | false =>
        have hc : (cls (x.toNat : Int) != 32) = true := hbn.1 hbx
        have hm := hmore hbx
        clear hpos hmore hbn hbx
        go_wp2_with fail
        refine (KC.out _).mono ?_
        rintro e w2 ⟨rfl, hw2⟩
        rw [hw2]
        go_wp2
        go_roundw
        case rel => exact ⟨k + 1, by omega, by go_num, by first | rfl | trivial⟩
        case measure => simp [intOf]; omega
      | true =>
        have hc : (cls (x.toNat : Int) != 32) = false := by
          cases h : (cls (x.toNat : Int) != 32) with
          | false => rfl
          | true => rw [hbn.2 h] at hbx; cases hbx
        have hn := hpos hbx
        clear hpos hmore hbn hbx
        subst hn
        have hnl : ((n : Int) == (t.length : Int)) = false := by simp; omega
        have htk := HTK.out
        have hne : n ≠ t.length := by omega
        have hv3 := hid (v3.out hne)
        clear HTK v3 v1 HPOS HMORE HLE
        have hr1 := HR0.out
        clear HR0
        generalize t.take n = tk at KS htk v2 hv3
        cases hsb : sameB tk protoK with
        | false =>
          have HR := hid (v2.out hsb)
          rw [hsb] at KS
          clear v2 hv3 hsb HDR HDL
          unfold protoK at KS
          go_wp2_with (first | (go_at_call 40; refine (KC.out _).mono ?_; rintro e w2 ⟨rfl, hw2⟩; rw [hw2]))
          refine (KS.out _).mono ?_
          rintro e w3 ⟨rfl, hw3⟩
          have hr3 := hr1.below hw3 hlt0
          have hb3 := hb0.trans (hw3.mono hb0.size)
          clear hr1 hb0 hw3
          have hr7 := row_store3 hr3 (.string ⟨#[]⟩) (.int .i64 0) (.slice none 0 0)
          have hb7 := store_below3 hb3 w.heap.size (Nat.le_refl _) (.string ⟨#[]⟩) (.int .i64 0) (.slice none 0 0)
          obtain ⟨y0, y1, y2, f0, f1, f2⟩ := hr3.three
          have H7 := hid (And.intro hr7 hb7)
          clear hr7 hb7
          go_wp2
          generalize World.setCell _ _ _ = w7 at H7 ⊢
          obtain ⟨hr7, hb7⟩ := H7.out
          obtain ⟨d0, d1, d2, _, _, _⟩ := hr7.three
          try simp only [Exit.inBlock, Exit.then]
          refine bodyPost_ret (v := .tuple #[.agg #[.string ⟨#[]⟩, .int .i64 0, .slice none 0 0], .int .i64 70]) (by simp [results, Tryd.results19, go_sem, d0, d1, d2]; try rfl) rfl ?_
          exact ⟨hres_none HR.out, hb7⟩
        | true =>
          have HV := hid (hv3.out hsb)
          rw [hsb] at KS
          clear v2 hv3 hsb
          unfold protoK at KS
          have hdr := HDR.out
          have hdr2 : (⟨t.toArray⟩ : ByteArray).extract n t.length = ⟨(t.drop n).toArray⟩ := by rw [← hdr, size_list]
          have hdl := HDL.out
          clear HDR HDL
          generalize t.drop n = r at hdr hdr2 HV hdl
          obtain ⟨p0', ps0, hpt⟩ := partsG_cons 59 r pl0 []
          have hpt2 : partsV 59 r = p0' :: ps0 := hpt
          have hmem := p_mem_len 59 r
          rw [hpt2] at hmem
          have hp0 := hmem p0' (by simp)
          have htp := trimL_len p0'
          have KP := hid (fun w' => refparts_of hpt2 w' (by omega))
          have KTT := hid (fun w' => reftrim_list p0' w' (by omega))
          have KW := hid (fun w' => refwhere_list (trimL p0') w' (by omega))
          have HML : Hid (∀ l ∈ ps0, l.length ≤ 1048576) := fun l hl => by have := hmem l (by simp [hl]); omega
          rw [restH_of hpt2] at HV
          clear hpt hpt2 hmem
          generalize trimL p0' = tp at KTT KW HV htp
          generalize whereV tp = W at KW HV
          obtain ⟨wh, wp, wn⟩ := W
          simp only at KW HV
          go_wp2_with (first | (go_at_call 40; refine (KC.out _).mono ?_; rintro e w2 ⟨rfl, hw2⟩; rw [hw2]))
          refine (KS.out _).mono ?_
          rintro e w3 ⟨rfl, hw3⟩
          have hr3 := hr1.below hw3 hlt0
          have hb3 := hb0.trans (hw3.mono hb0.size)
          have hlt3 := Nat.lt_of_lt_of_le hlt0 hw3.size
          clear hr1 hb0 hw3 hlt0 KS
          go_wp2_with fail
          refine (KP.out _).mono ?_
          rintro e w5 ⟨g, cap, rfl, hcap, hgl, hcells, hw5⟩
          have hg0 := hcells 0 (by simp)
          simp only [List.getElem_cons_zero] at hg0
          have hr6 := hr3.below hw5 hlt3
          have hb6 := hb3.trans (hw5.mono hb3.size)
          have hlt6 := Nat.lt_of_lt_of_le hlt3 hw5.size
          have HC := hid hcells
          clear hcells hw5 KP
          go_wp2_with fail
          refine (KTT.out _).mono ?_
          rintro e w6 ⟨rfl, rfl⟩
          have hw6 : Below w6.heap.size w6 w6 := Below.refl _ _
          have hr7 := hr6.below hw6 hlt6
          have hb7 := hb6.trans (hw6.mono hb6.size)
          have hlt7 := Nat.lt_of_lt_of_le hlt6 hw6.size
          clear hr6 hb6 KTT
          go_wp2_with fail
          refine (KW.out _).mono ?_
          rintro e w7 ⟨rfl, hw7⟩
          have hr8 := hr7.below hw7 hlt7
          have hb8 := hb7.trans (hw7.mono hb7.size)
          have hlt8 := Nat.lt_of_lt_of_le hlt7 hw7.size
          have hw8 := hw6.trans (hw7.mono hw6.size)
          clear hr7 hb7 KW hlt7 hw6 hw7
          by_cases hun : wn = 0
          · subst hun
            have HT2 : Hid (R = if (fieldsV ps0).2 ≠ 0 then (noH, (fieldsV ps0).2) else (⟨wh, wp, (fieldsV ps0).1⟩, 0)) := show _ = _ by rw [HV.out, if_neg (by simp)]
            have HSA : Hid (StrsAt w7 (.slice (some ⟨g, 1, none⟩) ps0.length (cap - 1)) ps0) := strs_tail HC.out hgl hw8
            have HSB : Hid (ps0 = [] → StrsAt w7 (.slice (some ⟨g, 0, none⟩) ps0.length 0) ps0) := fun h => by subst h; exact strs_none _ _ _
            clear HV HC hg0 hgl hw8
            go_wp2_with fail
            all_goals (
              refine (reffields_any _ ps0 w7 HML.out ?hstr).mono ?_
              case hstr => first | with_reducible exact HSA.out | exact HSB.out (List.eq_nil_of_length_eq_zero (by omega))
              rintro e w9 ⟨fv, fn, rfl, ⟨hfn, hfo⟩, hw9⟩
              generalize fieldsV ps0 = fr at HT2 hfn hfo
              obtain ⟨fp, fm⟩ := fr
              simp only at HT2 hfn hfo
              subst hfn
              obtain ⟨a3, k3, hfe⟩ := hfo.parsAt.form
              subst hfe
              have hr9 := hr8.below hw9 hlt8
              have hb9 := hb8.trans (hw9.mono hb8.size)
              have HO9 := hid (OwnP.mono hfo (show w.heap.size + 1 ≤ _ by omega))
              clear hfo hw9 hr8 hb8
              by_cases hfz : fn = 0
              · subst hfz
                have HR : Hid (R = (⟨wh, wp, fp⟩, 0)) := show _ = _ by rw [HT2.out, if_neg (by simp)]
                clear HT2
                have hrA := row_store3 hr9 (.string ⟨wh.toArray⟩) (.int .i64 wp) (.slice a3 fp.length k3)
                have hbA := store_below3 hb9 w.heap.size (Nat.le_refl _) (.string ⟨wh.toArray⟩) (.int .i64 wp) (.slice a3 fp.length k3)
                have q3 := (OwnP.store3 HO9.out (Nat.lt_succ_self _) (.string ⟨wh.toArray⟩) (.int .i64 wp) (.slice a3 fp.length k3)).mono (Nat.le_succ w.heap.size)
                obtain ⟨y0, y1, y2, f0, f1, f2⟩ := hr9.three
                have HA := hid (And.intro hrA (And.intro hbA q3))
                clear hrA hbA q3
                go_wp2
                generalize World.setCell _ _ _ = wA at HA ⊢
                obtain ⟨hrA, hbA, q3⟩ := HA.out
                obtain ⟨d0, d1, d2, _, _, _⟩ := hrA.three
                try simp only [Exit.inBlock, Exit.then]
                refine bodyPost_ret (v := .tuple #[.agg #[.string ⟨wh.toArray⟩, .int .i64 wp, .slice a3 fp.length k3], .int .i64 0]) (by simp [results, Tryd.results19, go_sem, d0, d1, d2]; try rfl) rfl ?_
                refine ⟨?_, hbA⟩
                rw [HR.out]
                exact ⟨_, rfl, q3⟩
              · have HR : Hid (R = (noH, fn)) := show _ = _ by rw [HT2.out, if_pos hfz]
                have hne : (fn != 0) = true := by simpa using hfz
                clear HT2 HO9
                have hr7 := row_store3 hr9 (.string ⟨#[]⟩) (.int .i64 0) (.slice none 0 0)
                have hb7 := store_below3 hb9 w.heap.size (Nat.le_refl _) (.string ⟨#[]⟩) (.int .i64 0) (.slice none 0 0)
                obtain ⟨y0, y1, y2, f0, f1, f2⟩ := hr9.three
                have H7 := hid (And.intro hr7 hb7)
                clear hr7 hb7
                go_wp2
                generalize World.setCell _ _ _ = w7 at H7 ⊢
                obtain ⟨hr7, hb7⟩ := H7.out
                obtain ⟨d0, d1, d2, _, _, _⟩ := hr7.three
                try simp only [Exit.inBlock, Exit.then]
                refine bodyPost_ret (v := .tuple #[.agg #[.string ⟨#[]⟩, .int .i64 0, .slice none 0 0], .int .i64 fn]) (by simp [results, Tryd.results19, go_sem, d0, d1, d2]; try rfl) rfl ?_
                exact ⟨hres_none HR.out, hb7⟩
                )
          · have HR : Hid (R = (noH, wn)) := show _ = _ by rw [HV.out, if_pos hun]
            have hne : (wn != 0) = true := by simpa using hun
            clear HV HC
            have hr7 := row_store3 hr8 (.string ⟨#[]⟩) (.int .i64 0) (.slice none 0 0)
            have hb7 := store_below3 hb8 w.heap.size (Nat.le_refl _) (.string ⟨#[]⟩) (.int .i64 0) (.slice none 0 0)
            obtain ⟨y0, y1, y2, f0, f1, f2⟩ := hr8.three
            have H7 := hid (And.intro hr7 hb7)
            clear hr7 hb7
            go_wp2
            generalize World.setCell _ _ _ = w7 at H7 ⊢
            obtain ⟨hr7, hb7⟩ := H7.out
            obtain ⟨d0, d1, d2, _, _, _⟩ := hr7.three
            try simp only [Exit.inBlock, Exit.then]
            refine bodyPost_ret (v := .tuple #[.agg #[.string ⟨#[]⟩, .int .i64 0, .slice none 0 0], .int .i64 wn]) (by simp [results, Tryd.results19, go_sem, d0, d1, d2]; try rfl) rfl ?_
            exact ⟨hres_none HR.out, hb7⟩


    · have hn : k = t.length := by omega
      have hn2 : n = t.length := by omega
      have HR := hid (v1.out hn2)
      subst hn
      have hr1 := HR0.out
      clear v1 v2 v3 HPOS HMORE HLE KS HTK HDR HDL HR0 hn2
      go_wp2
      try simp only [Exit.inBlock, Exit.then]
      refine bodyPost_ret (v := .tuple #[.agg #[.string ⟨#[]⟩, .int .i64 0, .slice none 0 0], .int .i64 70]) (by simp [results, Tryd.results19, go_sem]; try rfl) rfl ?_
      exact ⟨hres_none HR.out, hb0⟩

end Go.Proofs.YtpcgomfiihhpcaaDoor
