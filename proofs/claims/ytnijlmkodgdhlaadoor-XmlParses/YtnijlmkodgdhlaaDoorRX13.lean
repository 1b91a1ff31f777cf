/-
  The document's own layer 13: content, over element.
-/
import Derived.Test.YtnijlmkodgdhlaaDoorRX12
import Derived.Test.YtnijlmkodgdhlaaDoorRX13L
import Derived.Test.YtnijlmkodgdhlaaDoorYQ
import Derived.Test.YtnijlmkodgdhlaaDoorRX9
import Derived.Test.YtnijlmkodgdhlaaDoorXElem
import Derived.Test.YtnijlmkodgdhlaaDoorYP
namespace Go.Proofs.YtnijlmkodgdhlaaDoor
open Go.RowKit Sc
set_option linter.unusedVariables false
set_option maxRecDepth 20000
set_option linter.unusedSimpArgs false

theorem FrN.set {v v' u : Value} {w w' : World} {g j : Nat} (h : FrN v w v' w') (hg : v'.ownBlock = some g) : FrN v w v' (w'.setCell ⟨g, j, Option.none⟩ u) := by
  refine ⟨h.os, h.tape, h.output, by rw [World.size_setCell]; exact h.size, fun c hc hv => ?_, h.own⟩
  have hne : c ≠ g := fun e => by
    subst e
    rcases h.own c hg with e | e
    · exact hv e
    · omega
  rw [heap_setCell_other _ _ _ _ hne]; exact h.block c hc hv
theorem el_no {o : Option (List Nd × List UInt8)} {s : ByteArray} {cs : List NdC} {B : Nat} {v v' : Value} {w w' : World} (h : o = none) (hf : FrN v w v' w') : ElPost o s cs B v w (.returned (.tuple #[.slice none 0 0, .int .i64 (-1)])) w' := by
  subst h; exact ⟨rfl, hf.none⟩
theorem rupto6 (s : ByteArray) (k : Nat) (w : World) (hs : s.size ≤ 1048576) (hk : k ≤ s.size) :
    Calls Tryd.prog 38 #[.string s, .int .i64 (k : Int), .string ⟨#[60]⟩] w fun e w' => e = .returned (.int .i64 (runL (· != 60) s.data.toList k)) ∧ w' = w :=
  rupto_at s k #[60] (· != 60) (k : Int) rfl (fun b => has_one 60 b) w (by omega) (by decide) hk
theorem xtrim_le (l : List UInt8) : (xtrim l).length ≤ l.length := by
  unfold xtrim
  rw [List.length_reverse]
  have h1 := (List.dropWhile_suffix (l := (l.dropWhile xblk).reverse) xblk).length_le
  have h2 := (List.dropWhile_suffix (l := l) xblk).length_le
  rw [List.length_reverse] at h1
  omega
theorem glue2 (nm : List UInt8) : (⟨#[60, 47]⟩ : ByteArray) ++ ⟨nm.toArray⟩ = ⟨([60, 47] ++ nm).toArray⟩ := by
  rw [ByteArray.mk_append_mk]; first | done | rfl
theorem glueX (t : List UInt8) (s : ByteArray) (a b : Nat) : (⟨t.toArray⟩ : ByteArray) ++ s.extract a b = ⟨(t ++ (s.data.toList.drop a).take (b - a)).toArray⟩ := by
  rw [ext_list, ByteArray.mk_append_mk]; first | done | rfl

set_option maxHeartbeats 8000000 in
set_option maxRecDepth 100000 in
theorem rcont_step (s : ByteArray) (F : Nat) (hs : s.size ≤ 1048576) (hel : ∀ m, m < F → ElRes s m) : CoRes s F := by
  intro k d nm ps a v cs B w hv hpa hB hk hd hcs hnm hF
  have hl := len_data s
  obtain ⟨vo, vcap, hvf⟩ := hv.form
  obtain ⟨po, pc, hpf⟩ := ownP_form hpa
  subst hvf hpf
  have HEL := hid hel
  obtain ⟨R, hR0⟩ : ∃ R, R = contX F ⟨d, nm, ps, []⟩ d cs.length [] [] (s.data.toList.drop k) := ⟨_, rfl⟩
  rw [← hR0]
  have HR := hid hR0
  unfold ndV
  simp only
  obtain ⟨i1, hj, hy0, hy1, hy2⟩ := info_parts infoNodeB
  have HV := hid hv
  have HPA := hid hpa
  obtain ⟨pl, hpl⟩ : ∃ pl, pl = ps.length := ⟨_, rfl⟩
  obtain ⟨cn, hcn⟩ : ∃ cn, cn = cs.length := ⟨_, rfl⟩
  have HCN := hid hcn
  have hcl2 : cs.length ≤ 2000000 := by omega
  have zn := size_list nm
  have hnewN := hid (fun (W : World) (g : Nat) (hg : g = W.heap.size) => nd_newW W ⟨⟨d, nm, ps, []⟩, .slice po ps.length pc⟩ g hg)
  have hr0 := rc_row4 w (.int .i64 (d : Int)) (.string ⟨nm.toArray⟩) (.slice po ps.length pc) (.string ⟨#[]⟩) 48
  have hb0 : Below w.heap.size w (w.alloc (.cells #[.int .i64 (d : Int), .string ⟨nm.toArray⟩, .slice po ps.length pc, .string ⟨#[]⟩] 48)) := (Below.refl _ w).alloc (Nat.le_refl _) _
  have hlt0 := alloc_lt w (.cells #[.int .i64 (d : Int), .string ⟨nm.toArray⟩, .slice po ps.length pc, .string ⟨#[]⟩] 48)
  clear hpa hel hR0
  obtain ⟨b0, b1, b2, b3, f0, f1, f2, f3⟩ := hr0.rc4
  have hlv : (Value.slice vo cs.length vcap).ownBlock ≠ some w.heap.size := fun e => by have := (World.ownsRow.lt hv.1 _ e).2; omega
  clear hv
  have HR0 := hid hr0
  have hCL : Hid (cs.length = cn) := hcn.symm
  rw [← hcn] at HV hlv hcs HR ⊢
  rw [← hpl] at HPA HR0 hb0 hlt0 b0 b1 b2 b3 f0 f1 f2 f3 hnewN ⊢
  clear hr0 hcn hpl
  go_enter Tryd.func60, Tryd.ntmps60
  go_wp2_with (at_builtin; refine wp_appN2 _ rfl (.tmp 17) (.tmp 19) 22 rfl B i1 _ Tryd.underlying22 hj hy0 hy1 hy2 rfl (.slice vo cn vcap) cs rfl (by exact OwnN.alloc (OwnN.below HV.out hb0) _) ⟨_, 0, none⟩ 1 ⟨⟨d, nm, ps, []⟩, .slice po pl pc⟩ (by exact OwnP.alloc (OwnP.below HPA.out hb0) _) rfl (by exact hnewN.out _ _ (by simp)) hcl2 (by simp; omega) ?_; intro v5 w5 hown5 hf5; obtain ⟨xa, xc, e5⟩ := hown5.form; subst e5)
  have hbA : Below w.heap.size w ((w.alloc (.cells #[.int .i64 (d : Int), .string ⟨nm.toArray⟩, .slice po pl pc, .string ⟨#[]⟩] 48)).alloc (.cells #[.int .i64 (d : Int), .string ⟨nm.toArray⟩, .slice po pl pc, .string ⟨#[]⟩] 48)) := hb0.alloc hb0.size _
  have hff := hid ((FrN.below (v := .slice vo cn vcap) hbA).trans hf5)
  have hrA := hid (hf5.row (HR0.out.below ((Below.refl _ _).alloc (Nat.le_refl _) _) hlt0) (by simp; omega) hlv)
  have hownA := hid hown5
  have hneA : Hid ((Value.slice xa (cs ++ [(⟨⟨d, nm, ps, []⟩, .slice po pl pc⟩ : NdC)]).length xc).ownBlock ≠ some w.heap.size) := fun e => by
    rcases hf5.own _ e with q | q
    · exact hlv q
    · simp at q; omega
  clear hbA hf5 hown5 HR0 hb0 hlt0 b0 b1 b2 b3 f0 f1 f2 f3 hnewN HPA HV
  have hlenA : Hid ((cs ++ [(⟨⟨d, nm, ps, []⟩, .slice po pl pc⟩ : NdC)]).length = cn + 1) := show _ = _ by rw [List.length_append, hCL.out]; rfl
  go_loopw [1, 3, 11] (fun av lv tv wr => ∃ (p m : Nat) (txt : List UInt8) (kc : List NdC), av = .int .i64 (p : Int) ∧ tv = .string ⟨txt.toArray⟩ ∧ p ≤ s.size ∧ txt.length ≤ p ∧ Hid (R = contX m ⟨d, nm, ps, []⟩ d cn txt (ndsL kc) (s.data.toList.drop p)) ∧ s.size - p + 2 ≤ m ∧ m ≤ F ∧ cn + 1 + kc.length ≤ 200 ∧ Hid (OwnN wr B lv (cs ++ [⟨⟨d, nm, ps, []⟩, .slice po pl pc⟩] ++ kc)) ∧ Hid (FrN (.slice vo cn vcap) w lv wr) ∧ Hid (RowIs wr w.heap.size 48 [.int .i64 (d : Int), .string ⟨nm.toArray⟩, .slice po pl pc, .string ⟨#[]⟩]) ∧ Hid (lv.ownBlock ≠ some w.heap.size) ∧ ∃ xa xn xc, lv = .slice xa xn xc) (fun av _ _ _ => s.size - (intOf av).toNat)
  case atStart => exact ⟨k, F, [], [], rfl, rfl, hk, Nat.zero_le _, HR, hF, Nat.le_refl _, by simp; omega, hid (by rw [List.append_nil]; first | exact hownA.out | simpa using hownA.out), by first | exact hff | (refine hid ?_; simpa using hff.out), hrA, by first | exact hneA | (refine hid ?_; simpa using hneA.out), _, _, _, rfl⟩
  case round =>
    obtain ⟨p, m, txt, kc, rfl, rfl, hp, htp, hR, hm, hmF, hkc, hown, hfr, hrow, hne, xa, xn, xc, rfl⟩ := hrel
    clear hownA hff hrA hlenA hneA HR
    have hwlt : w.heap.size < wr.heap.size := (Array.getElem?_eq_some_iff.1 (show wr.heap[w.heap.size]? = some _ from hrow.out)).1
    have KU := hid (fun w' => rupto6 s p w' hs hp)
    have htl := run_le (p := (· != 60)) (l := s.data.toList) (k := p) (by omega)
    rw [hl] at htl
    obtain ⟨u, hu⟩ : ∃ u, u = runL (· != 60) s.data.toList p := ⟨_, rfl⟩
    rw [← hu] at KU htl
    have HU := hid hu
    obtain ⟨m', rfl⟩ : ∃ m', m = m' + 1 := ⟨m - 1, by omega⟩
    have hGX := hid (glueX txt s p u)
    have hb1 : (p : Int) ≤ (u : Int) := by omega
    have hb2 : (u : Int) ≤ (s.size : Int) := by omega
    have zt := size_list txt
    have hzx : (s.extract p u).size = u - p := by rw [ByteArray.size_extract]; omega
    obtain ⟨txt2, ht2⟩ : ∃ txt2, txt2 = txt ++ (s.data.toList.drop p).take (u - p) := ⟨_, rfl⟩
    have ht2l : txt2.length ≤ u := by rw [ht2, List.length_append, List.length_take, List.length_drop]; omega
    rw [← ht2] at hGX
    have HT2 := hid ht2
    clear hu ht2
    obtain ⟨c0, c1, c2, c3, g0, g1, g2, g3⟩ := hrow.out.rc4
    by_cases hus : u = s.size
    · have hRn : Hid (R = none) := show _ = _ by rw [hR.out]; exact cont_end (by omega) HU.out (by omega)
      have q0 : ((u : Int) == (s.size : Int)) = true := by rw [beq_iff_eq]; omega
      clear hR HT2 HU HEL
      go_wp2_with fail
      refine (KU.out _).mono ?_
      rintro e w' ⟨rfl, hw'⟩; rw [hw']; clear hw' w'
      go_wp2
      go_ret2
      exact el_no hRn.out hfr.out
    have q0 : ((u : Int) == (s.size : Int)) = false := by rw [beq_eq_false_iff_ne]; omega
    have hul : u < s.data.toList.length := by omega
    have KI := hid (fun w' => ris_at s u #[60, 47] (u : Int) rfl w' (by omega) (by decide) (by decide) (by omega))
    rw [show (#[60, 47] : Array UInt8).toList = [60, 47] from rfl] at KI
    cases hi : isAt s.data.toList u [60, 47] with
    | false =>
      rw [hi] at KI
      have hin := cont_in (m := m') (d := d) (c := cn) (x := ⟨d, nm, ps, []⟩) (txt := txt) (kids := ndsL kc) (by omega) HU.out hul hi
      rw [← hR.out, ← HT2.out, ndsL_len] at hin
      have hlen : (cs ++ [(⟨⟨d, nm, ps, []⟩, .slice po pl pc⟩ : NdC)] ++ kc).length = cn + 1 + kc.length := by rw [List.length_append, List.length_append, hCL.out]; rfl
      have KE := hid (HEL.out m' (by omega) u (d + 1) (.slice xa xn xc) _ B wr hown.out (Nat.le_trans hB hfr.out.size) (by omega) (by omega) (by rw [hlen]; exact hkc) (by omega))
      rw [hlen, show ((d + 1 : Nat) : Int) = (d : Int) + 1 by omega] at KE
      have hsuf : ∀ ns r, elemX m' (d + 1) (cn + 1 + kc.length) (s.data.toList.drop u) = some (ns, r) → s.data.toList.drop (s.size - r.length) = r ∧ u + 2 < s.size - r.length ∧ s.size - r.length ≤ s.size ∧ cn + 1 + kc.length + ns.length ≤ 200 := fun ns r he => by
        obtain ⟨h1, h2⟩ := elem_suf _ _ _ _ _ _ he
        have h3 := elem_cap _ _ _ _ _ _ he
        have h4 := h1.trans (List.drop_suffix u _)
        have h5 := suf_drop h4
        rw [hl] at h5
        rw [List.length_drop, hl] at h2
        exact ⟨h5.symm, by omega, by omega, h3⟩
      have HIN := hid hin
      have HSF := hid hsuf
      have hwd : IntKind.i64.wrap ((d : Int) + 1) = (d : Int) + 1 := by rw [IntKind.wrap_i64]; omega
      clear hR HT2 HU HEL hin hsuf hlen hi
      generalize elemX m' (d + 1) (cn + 1 + kc.length) (s.data.toList.drop u) = E at KE HIN HSF
      go_wp2_with fail
      refine (KU.out _).mono ?_
      rintro e w' ⟨rfl, hw'⟩; rw [hw']; clear hw' w'
      go_wp2_with fail
      refine (KI.out _).mono ?_
      rintro e w' ⟨rfl, hw'⟩; rw [hw']; clear hw' w'
      go_wp2_with fail
      refine KE.out.mono ?_
      cases E with
      | none =>
        rintro e w2 ⟨rfl, hf2⟩
        go_wp2
        go_ret2
        exact el_no HIN.out (hfr.out.trans hf2)
      | some x =>
        obtain ⟨ns, r⟩ := x
        rintro e w2 ⟨v2, cs2, rfl, hk2, hown2, hf2⟩
        obtain ⟨h1, h2, h3, h4⟩ := HSF.out ns r rfl
        have hR2 := HIN.out
        simp only at hR2
        rw [← h1, ← hk2] at hR2
        have hnl2 : ns.length = cs2.length := by rw [← hk2, ndsL_len]
        have hrow2 := hid (hf2.row hrow.out hwlt hne.out)
        have hne2 : Hid (v2.ownBlock ≠ some w.heap.size) := fun e => by
          rcases hf2.own _ e with q | q
          · exact hne.out q
          · omega
        have hf3 := hid (hfr.out.trans hf2)
        have hown3 : Hid (OwnN w2 B v2 (cs ++ [⟨⟨d, nm, ps, []⟩, .slice po pl pc⟩] ++ (kc ++ cs2))) := by refine hid ?_; rw [← List.append_assoc]; exact hown2
        have hR3 : Hid (R = contX m' ⟨d, nm, ps, []⟩ d cn txt2 (ndsL (kc ++ cs2)) (s.data.toList.drop (s.size - r.length))) := show _ = _ by rw [hR2]; simp [ndsL]
        obtain ⟨ya, yc, e5⟩ := hown2.form
        generalize hyn : (cs ++ [(⟨⟨d, nm, ps, []⟩, .slice po pl pc⟩ : NdC)] ++ kc ++ cs2).length = yn at e5
        subst e5
        obtain ⟨p2, hp2⟩ : ∃ p2, p2 = s.size - r.length := ⟨_, rfl⟩
        rw [← hp2] at hR3 h2 h3 ⊢
        have q9 : ¬ (p2 : Int) < 0 := by omega
        have hkc2 : cn + 1 + (kc ++ cs2).length ≤ 200 := by rw [List.length_append]; omega
        clear hR2 h1 hk2 hown2 hf2 HIN HSF KE hp2 hyn hnl2 h4 hown hfr hrow hne KU KI c0 c1 c2 c3 g0 g1 g2 g3
        rw [hGX.out]
        go_wp2
        go_roundw
        case rel => exact ⟨p2, m', txt2, kc ++ cs2, rfl, rfl, h3, by omega, hR3, by omega, by omega, hkc2, hown3, hf3, hrow2, hne2, _, _, _, rfl⟩
        case measure => simp [intOf]; omega
    | true =>
      rw [hi] at KI
      have hout := cont_out (m := m') (d := d) (c := cn) (x := ⟨d, nm, ps, []⟩) (txt := txt) (kids := ndsL kc) (by omega) HU.out hul hi
      rw [← hR.out, ← HT2.out] at hout
      unfold closeT at hout
      simp only at hout
      have KI2 := hid (fun w' => ris_at s u ([60, 47] ++ nm).toArray (u : Int) rfl w' (by omega) (by simp; omega) (by simp) (by omega))
      rw [← glue2] at KI2
      have eTL : (([60, 47] ++ nm : List UInt8).toArray).toList = [60, 47] ++ nm := by simp
      rw [eTL] at KI2
      clear eTL
      clear hR HT2 HU HEL hi
      cases hi2 : isAt s.data.toList u ([60, 47] ++ nm) with
      | false =>
        rw [hi2] at KI2
        have hRn : Hid (R = none) := show _ = _ by rw [hout, if_pos hi2]
        clear hout hi2
        go_wp2_with fail
        refine (KU.out _).mono ?_
        rintro e w' ⟨rfl, hw'⟩; rw [hw']; clear hw' w'
        go_wp2_with fail
        refine (KI.out _).mono ?_
        rintro e w' ⟨rfl, hw'⟩; rw [hw']; clear hw' w'
        go_wp2_with fail
        refine (KI2.out _).mono ?_
        rintro e w' ⟨rfl, hw'⟩; rw [hw']; clear hw' w'
        go_wp2
        go_ret2
        exact el_no hRn.out hfr.out
      | true =>
        rw [hi2] at KI2
        have hu2 : u + 2 + nm.length ≤ s.size := by
          apply Classical.byContradiction
          intro hh
          have := isAt_long (l := s.data.toList) (k := u) (t := [60, 47] ++ nm) (by simp; omega) (.inl (by simp))
          rw [this] at hi2; cases hi2
        rw [if_neg (by rw [hi2]; simp)] at hout
        have KO := hid (fun w' => rover_at s (u + 2 + nm.length) ((u : Int) + 2 + (nm.length : Int)) (by omega) w' (by omega) hu2)
        have hel := run_le (p := xblk) (l := s.data.toList) (k := u + 2 + nm.length) (by omega)
        rw [hl] at hel
        obtain ⟨e1, he1⟩ : ∃ e1, e1 = runL xblk s.data.toList (u + 2 + nm.length) := ⟨_, rfl⟩
        rw [← he1] at KO hel hout
        clear he1 hi2
        have KT := hid (fun w' => trimX_list txt2 w' (by omega))
        have hxl := xtrim_le txt2
        have KR := hid (fun w' => rread_any ⟨(xtrim txt2).toArray⟩ w' (by rw [size_list]; omega))
        rw [show (⟨(xtrim txt2).toArray⟩ : ByteArray).data.toList = xtrim txt2 from by simp] at KR
        have KI3 := hid (fun w' => ris_at s e1 #[62] (e1 : Int) rfl w' (by omega) (by decide) (by decide) (by omega))
        rw [show isAt s.data.toList e1 (#[62] : Array UInt8).toList = decide (s.data.toList[e1]? = some 62) from isAt_one] at KI3
        have w2 : IntKind.i64.wrap ((u : Int) + 2) = (u : Int) + 2 := by rw [IntKind.wrap_i64]; omega
        have w3 : IntKind.i64.wrap ((u : Int) + 2 + (nm.length : Int)) = (u : Int) + 2 + (nm.length : Int) := by rw [IntKind.wrap_i64]; omega
        have hsA : ∀ w', Below wr.heap.size wr w' → FrN (.slice vo cn vcap) w (.slice xa xn xc) w' := fun w' h => hfr.out.trans (FrN.below h)
        have HFA := hid hsA
        clear hsA
        by_cases h62 : s.data.toList[e1]? = some 62
        · rw [decide_eq_true h62] at KI3
          rw [if_pos h62] at hout
          have h6l : e1 < s.size := by have := (List.getElem?_eq_some_iff.1 h62).1; omega
          clear h62
          cases hrd : readX (xtrim txt2) with
          | none =>
            rw [← readR_none hrd] at KR
            have hRn : Hid (R = none) := show _ = _ by rw [hout, hrd]; rfl
            clear hout hrd
            go_wp2_with fail
            refine (KU.out _).mono ?_
            rintro e w' ⟨rfl, hw'⟩; rw [hw']; clear hw' w'
            go_wp2_with fail
            refine (KI.out _).mono ?_
            rintro e w' ⟨rfl, hw'⟩; rw [hw']; clear hw' w'
            go_wp2_with fail
            refine (KI2.out _).mono ?_
            rintro e w' ⟨rfl, hw'⟩; rw [hw']; clear hw' w'
            go_wp2_with fail
            refine (KO.out _).mono ?_
            rintro e w' ⟨rfl, hw'⟩; rw [hw']; clear hw' w'
            rw [hGX.out]
            go_wp2_with fail
            refine (KT.out _).mono ?_
            rintro e w' ⟨rfl, hw'⟩; rw [hw']; clear hw' w'
            go_wp2_with fail
            refine (KR.out _).mono ?_
            rintro e w7 ⟨rfl, hw7⟩
            go_wp2_with fail
            refine (KI3.out _).mono ?_
            rintro e w' ⟨rfl, hw'⟩; rw [hw']; clear hw' w'
            go_wp2
            go_ret2
            exact el_no hRn.out (HFA.out _ hw7)
          | some tt =>
            rw [← readR_some hrd] at KR
            have htl2 := readX_len hrd
            have KT2 := hid (fun w' => trimX_list tt w' (by omega))
            have hRs : Hid (R = some (⟨d, nm, ps, xtrim tt⟩ :: ndsL kc, s.data.toList.drop (e1 + 1))) := show _ = _ by rw [hout, hrd]; rfl
            have wE : IntKind.i64.wrap ((e1 : Int) + 1) = (e1 : Int) + 1 := by rw [IntKind.wrap_i64]; omega
            have HOT := hid (fun w7 (h : Below wr.heap.size wr w7) => own_text (hown.out.below h))
            have HOS := hid (fun w7 (h : Below wr.heap.size wr w7) => hown.out.below h)
            obtain ⟨g, cap, N8, fz0, hv8, hN8, hat0⟩ := own_text hown.out
            simp only [Value.slice.injEq] at hv8
            obtain ⟨rfl, rfl, rfl⟩ := hv8
            have hN9 : (cn : Int) < (xn : Int) := by have := hCL.out; omega
            clear hout hrd fz0 hat0 hN8
            go_wp2_with fail
            refine (KU.out _).mono ?_
            rintro e w' ⟨rfl, hw'⟩; rw [hw']; clear hw' w'
            go_wp2_with fail
            refine (KI.out _).mono ?_
            rintro e w' ⟨rfl, hw'⟩; rw [hw']; clear hw' w'
            go_wp2_with fail
            refine (KI2.out _).mono ?_
            rintro e w' ⟨rfl, hw'⟩; rw [hw']; clear hw' w'
            go_wp2_with fail
            refine (KO.out _).mono ?_
            rintro e w' ⟨rfl, hw'⟩; rw [hw']; clear hw' w'
            rw [hGX.out]
            go_wp2_with fail
            refine (KT.out _).mono ?_
            rintro e w' ⟨rfl, hw'⟩; rw [hw']; clear hw' w'
            go_wp2_with fail
            refine (KR.out _).mono ?_
            rintro e w7 ⟨rfl, hw7⟩
            go_wp2_with fail
            refine (KI3.out _).mono ?_
            rintro e w' ⟨rfl, hw'⟩; rw [hw']; clear hw' w'
            obtain ⟨g7, cap7, N7, fz7, hv7, hN7, hat7⟩ := HOT.out w7 hw7
            simp only [Value.slice.injEq, Option.some.injEq, Addr.mk.injEq, and_true] at hv7
            obtain ⟨rfl, rfl, rfl⟩ := hv7
            rw [hCL.out] at fz7 hat7
            have hown8 := own_text_set (HOS.out w7 hw7) (xtrim tt)
            rw [hCL.out] at hown8
            have hf8 : FrN (.slice vo cn vcap) w (.slice (some ⟨g, 0, none⟩) xn xc) (w7.setCell ⟨g, cn * 4 + 3, none⟩ (.string ⟨(xtrim tt).toArray⟩)) := (HFA.out w7 hw7).set rfl
            have HO8 := hid hown8
            have HF8 := hid hf8
            clear hown8 hf8 HOT HOS hown hfr hN7 hw7
            go_wp2_with fail
            refine (KT2.out _).mono ?_
            rintro e w' ⟨rfl, hw'⟩; rw [hw']; clear hw' w'
            go_wp2
            go_ret2
            have hls : ((s.size - (s.data.toList.drop (e1 + 1)).length : Nat) : Int) = (e1 : Int) + 1 := by rw [List.length_drop, hl]; omega
            rw [hRs.out]
            refine ⟨_, setText ⟨⟨d, nm, ps, []⟩, .slice po pl pc⟩ (xtrim tt) :: kc, ?_, rfl, HO8.out, HF8.out⟩
            rw [hls]
            rfl
        · rw [decide_eq_false h62] at KI3
          have hRn : Hid (R = none) := show _ = _ by rw [hout, if_neg h62]
          clear hout h62
          cases hrd : readX (xtrim txt2) with
          | none =>
            rw [← readR_none hrd] at KR
            clear hrd
            go_wp2_with fail
            refine (KU.out _).mono ?_
            rintro e w' ⟨rfl, hw'⟩; rw [hw']; clear hw' w'
            go_wp2_with fail
            refine (KI.out _).mono ?_
            rintro e w' ⟨rfl, hw'⟩; rw [hw']; clear hw' w'
            go_wp2_with fail
            refine (KI2.out _).mono ?_
            rintro e w' ⟨rfl, hw'⟩; rw [hw']; clear hw' w'
            go_wp2_with fail
            refine (KO.out _).mono ?_
            rintro e w' ⟨rfl, hw'⟩; rw [hw']; clear hw' w'
            rw [hGX.out]
            go_wp2_with fail
            refine (KT.out _).mono ?_
            rintro e w' ⟨rfl, hw'⟩; rw [hw']; clear hw' w'
            go_wp2_with fail
            refine (KR.out _).mono ?_
            rintro e w7 ⟨rfl, hw7⟩
            go_wp2_with fail
            refine (KI3.out _).mono ?_
            rintro e w' ⟨rfl, hw'⟩; rw [hw']; clear hw' w'
            go_wp2
            go_ret2
            exact el_no hRn.out (HFA.out _ hw7)
          | some tt =>
            rw [← readR_some hrd] at KR
            clear hrd
            go_wp2_with fail
            refine (KU.out _).mono ?_
            rintro e w' ⟨rfl, hw'⟩; rw [hw']; clear hw' w'
            go_wp2_with fail
            refine (KI.out _).mono ?_
            rintro e w' ⟨rfl, hw'⟩; rw [hw']; clear hw' w'
            go_wp2_with fail
            refine (KI2.out _).mono ?_
            rintro e w' ⟨rfl, hw'⟩; rw [hw']; clear hw' w'
            go_wp2_with fail
            refine (KO.out _).mono ?_
            rintro e w' ⟨rfl, hw'⟩; rw [hw']; clear hw' w'
            rw [hGX.out]
            go_wp2_with fail
            refine (KT.out _).mono ?_
            rintro e w' ⟨rfl, hw'⟩; rw [hw']; clear hw' w'
            go_wp2_with fail
            refine (KR.out _).mono ?_
            rintro e w7 ⟨rfl, hw7⟩
            go_wp2_with fail
            refine (KI3.out _).mono ?_
            rintro e w' ⟨rfl, hw'⟩; rw [hw']; clear hw' w'
            go_wp2
            go_ret2
            exact el_no hRn.out (HFA.out _ hw7)
theorem rboth (s : ByteArray) (hs : s.size ≤ 1048576) : ∀ F, ElRes s F ∧ CoRes s F := by
  intro F
  induction F using Nat.strongRecOn with
  | _ F ih =>
    have hco : CoRes s F := rcont_step s F hs fun m hm => (ih m hm).1
    refine ⟨?_, hco⟩
    cases F with
    | zero => intro k d v cs B w _ _ hk _ _ h; omega
    | succ n => exact relem_step s n hs (ih n (Nat.lt_succ_self n)).2
end Go.Proofs.YtnijlmkodgdhlaaDoor
