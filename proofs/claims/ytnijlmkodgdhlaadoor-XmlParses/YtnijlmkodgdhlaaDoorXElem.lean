/-
  Contracts: package xml's element, over inner.
-/
import Derived.Test.YtnijlmkodgdhlaaDoorYO
import Derived.Deep.Cut
import Derived.Deep.CutRange
import Derived.Deep.RegionLaw
namespace Go.Proofs.YtnijlmkodgdhlaaDoor
open Go.RowKit Sc
set_option linter.unusedVariables false
set_option maxRecDepth 20000
set_option linter.unusedSimpArgs false

theorem FrN.rd {v v' : Value} {w w' : World} {b : Nat} {l : List UInt8} {u : Value} (h : FrN v w v' w') (hr : XrAt w b l u) (hn : v.ownBlock ≠ some b) : XrAt w' b l u := h.row hr hr.lt hn
theorem XrAt.nodes {w : World} {b : Nat} {l : List UInt8} {v : Value} (h : XrAt w b l v) (u : Value) : XrAt (w.setCell ⟨b, 1, none⟩ u) b l u := by
  have := RowIs.set h 1 u
  unfold XrAt; simpa using this
theorem OwnN.put {w : World} {b B : Nat} {v u x : Value} {l : List UInt8} {cs : List NdC} {j : Nat} (h : OwnN w B v cs) (hr : XrAt w b l u) : OwnN (w.setCell ⟨b, j, none⟩ x) B v cs := h.fr ((FrR.refl b w).setCell j x) hr
/-- The text of an element ahead of which cs stand. -/
theorem own_text {w : World} {B : Nat} {v : Value} {cs k8 : List NdC} {c : NdC} (h : OwnN w B v (cs ++ [c] ++ k8)) : ∃ g cap N, w.frozen? ⟨g, cs.length * 4 + 3, none⟩ = false ∧ v = .slice (some ⟨g, 0, none⟩) N cap ∧ cs.length < N ∧ w.cell? ⟨g, cs.length * 4 + 3, none⟩ = some (.string ⟨c.nd.text.toArray⟩) := by
  have h0 := h.1
  rcases h.1.2 with ⟨_, hn⟩ | ⟨g, cap, cur, rfl, hb, hg, r⟩
  · simp at hn
  · refine ⟨g, cap, _, ?_, rfl, by simp, ?_⟩
    · unfold World.frozen?
      rw [hg]; simp
    · have hc : (cs ++ [c] ++ k8)[cs.length]'(by simp) = c := by simp
      have := World.ownsRow.cells h0 (g := g) rfl (cs.length * 4 + 3) (.string ⟨c.nd.text.toArray⟩) (ndsCells_get _ cs.length (by simp) 3 _ (by rw [hc]; rfl))
      have e : (⟨g, 0, none⟩ : Addr).add (cs.length * 4 + 3) = ⟨g, cs.length * 4 + 3, none⟩ := by unfold Addr.add; split <;> simp_all
      rw [e] at this; exact this
theorem own_text_set {w : World} {B g N cap : Nat} {cs k8 : List NdC} {c : NdC} (h : OwnN w B (.slice (some ⟨g, 0, none⟩) N cap) (cs ++ [c] ++ k8)) (t : List UInt8) : OwnN (w.setCell ⟨g, cs.length * 4 + 3, none⟩ (.string ⟨t.toArray⟩)) B (.slice (some ⟨g, 0, none⟩) N cap) (cs ++ (setText c t :: k8)) := by
  obtain ⟨a, cap', hv⟩ := h.form
  simp only [Value.slice.injEq] at hv
  obtain ⟨_, hN, rfl⟩ := hv
  subst hN
  have := h.text cs.length (by simp) t
  have e : (cs ++ [c] ++ k8).set cs.length (setText ((cs ++ [c] ++ k8)[cs.length]'(by simp)) t) = cs ++ (setText c t :: k8) := by
    have hc : (cs ++ [c] ++ k8)[cs.length]'(by simp) = c := by simp
    rw [hc, List.append_assoc, List.set_append_right _ _ (Nat.le_refl _)]
    simp
  rw [e] at this
  exact this
theorem below_drew (w : World) : Below w.heap.size w w.drew := (Below.refl _ w).drew
set_option maxHeartbeats 4000000 in
set_option maxRecDepth 100000 in
theorem el_step (n : Nat) (hIn : InS n) : ElS (n + 1) := by
  intro b d l v cs B w hrd hown hbB hB hn hcl hdl
  obtain ⟨i1, hj, hy0, hy1, hy2⟩ := info_parts infoNodeB
  have HI := hid hIn
  have HO := hid hown
  have HRD := hid hrd
  have hE := elemC.eq_2 d l n
  generalize elemC (n + 1) d l = R at hE ⊢
  clear hIn
  cases h0 : preX [60] l with
  | false =>
    have KM := hid (must_bad b l [60] v w hrd (by omega) (by decide) h0)
    have HE : Hid (R = none) := show _ = _ by rw [hE, if_pos h0]
    clear hE h0 hrd hown
    go_enter Tryd.func57, Tryd.ntmps57
    go_wp2_with fail
    refine (KM.out).mono ?_
    rintro e w1 ⟨rfl, hf1⟩
    refine ⟨rfl, ?_⟩
    rw [HE.out]
    exact ⟨rfl, (FrX.of hf1).none⟩
  | true =>
    have KM := hid (must_ok b l [60] v w hrd (by omega) (by decide) h0)
    have hp := pre_len h0
    rw [if_neg (by rw [h0]; simp)] at hE
    rw [show l.drop [(60 : UInt8)].length = l.drop 1 from rfl] at KM
    have hl1 : (l.drop 1).length = l.length - 1 := by rw [List.length_drop]
    simp only [List.length_cons, List.length_nil] at hp
    generalize l.drop 1 = l1 at hE KM hl1
    clear h0
    cases hu : upP endc l1 with
    | none =>
      rw [hu] at hE
      have HE : Hid (R = none) := hE
      have HU := hid hu
      clear hE hu hrd hown
      go_enter Tryd.func57, Tryd.ntmps57
      go_wp2_with fail
      refine (KM.out).mono ?_
      rintro e w1 ⟨rfl, hr1, hf1⟩
      go_wp2_with fail
      refine (upTo_bad endc ⟨#[32, 9, 13, 10, 47, 62]⟩ b l1 v w1 hr1 (by omega) (fun w' => xend_of l1 w' (by omega)) HU.out).mono ?_
      rintro e w2 ⟨rfl, hf2⟩
      refine ⟨rfl, ?_⟩
      rw [HE.out]
      exact ⟨rfl, (FrX.of (hf1.trans hf2)).none⟩
    | some xy =>
      obtain ⟨nm, r⟩ := xy
      rw [hu] at hE
      simp only at hE
      have HU := hid hu
      obtain ⟨c0, q0, hq0, _, hlq⟩ := up_head hu
      have hql : 1 ≤ r.length := by rw [hq0]; simp
      have KA := hid (fun w' (h' : XrAt w' b r v) => attrs_any b r v w' h' (by omega) (r.length + 1) (by omega))
      clear hu hq0
      cases ha : attrsC (r.length + 1) [] r with
      | none =>
        rw [ha] at hE KA
        simp only [AtsPost] at KA
        have HE : Hid (R = none) := hE
        clear hE ha hrd hown
        go_enter Tryd.func57, Tryd.ntmps57
        go_wp2_with fail
        refine (KM.out).mono ?_
        rintro e w1 ⟨rfl, hr1, hf1⟩
        go_wp2_with fail
        refine (upTo_ok endc ⟨#[32, 9, 13, 10, 47, 62]⟩ b l1 v w1 hr1 (by omega) (fun w' => xend_of l1 w' (by omega)) nm r HU.out).mono ?_
        rintro e w2 ⟨rfl, hr2, hf2⟩
        go_wp2_with fail
        refine (KA.out w2 hr2).mono ?_
        rintro e w3 ⟨rfl, hf3⟩
        refine ⟨rfl, ?_⟩
        rw [HE.out]
        exact ⟨rfl, (FrX.of ((hf1.trans hf2).trans hf3)).none⟩
      | some pr =>
        obtain ⟨ps, r2⟩ := pr
        have hal := attrsC_len _ _ _ _ _ ha
        rw [ha] at hE KA
        simp only [AtsPost] at KA
        simp only at hE
        have HE := hid hE
        have KC := hid (fun w' => xclone_list nm w' (by omega))
        clear hE ha hrd hown
        go_enter Tryd.func57, Tryd.ntmps57
        go_wp2_with fail
        refine (KM.out).mono ?_
        rintro e w1 ⟨rfl, hr1, hf1⟩
        go_wp2_with fail
        refine (upTo_ok endc ⟨#[32, 9, 13, 10, 47, 62]⟩ b l1 v w1 hr1 (by omega) (fun w' => xend_of l1 w' (by omega)) nm r HU.out).mono ?_
        rintro e w2 ⟨rfl, hr2, hf2⟩
        go_wp2_with fail
        refine (KA.out w2 hr2).mono ?_
        rintro e w3 ⟨av, rfl, hav, hr3, hf3⟩
        have hfA := (hf1.trans hf2).trans hf3
        have hown3 := HO.out.fr hfA HRD.out
        have hav3 := ownP_mono hav (show B ≤ w2.heap.size from Nat.le_trans hB (hf1.trans hf2).size)
        have hB3 : B ≤ w3.heap.size := Nat.le_trans hB hfA.size
        have hfx3 : FrX b v w v w3 := FrX.of hfA
        obtain ⟨po, pc, rfl⟩ := xownP_form hav3
        obtain ⟨vo, vc, rfl⟩ := hown3.form
        obtain ⟨c0, c1, f0, f1⟩ := RowIs.rc2 hr3
        have hap : (Value.slice vo cs.length vc).ownBlock ≠ some b := row_apart hr3 hown3.1 (by decide)
        obtain ⟨N1, hN1⟩ : ∃ N1, (cs ++ [(⟨⟨d, nm, ps, []⟩, .slice po ps.length pc⟩ : NdC)]).length = N1 := ⟨_, rfl⟩
        have HN1 := hid hN1
        have HR3 := hid hr3
        have HO3 := hid hown3
        have HP3 := hid hav3
        have HF3 := hid hfx3
        clear hf1 hf2 hf3 hfA hr1 hr2 hav KM KA HU HO HRD hN1 hr3 hown3 hav3 hfx3
        have hcl2 : cs.length ≤ 2000000 := by omega
        go_upto_region 4 with fail
        go_cut [32] from 19 to 32 (fun s32 wx => ∃ v5, Hid (OwnN wx B v5 (cs ++ [⟨⟨d, nm, ps, []⟩, .slice po ps.length pc⟩])) ∧ Hid (XrAt wx b r2 v5) ∧ Hid (FrX b (.slice vo cs.length vc) w v5 wx))
        case first =>
          have hnewN := hid (fun (W : World) (g : Nat) (hg : g = W.heap.size) => xnd_new W ⟨⟨d, nm, ps, []⟩, .slice po ps.length pc⟩ g hg)
          go_region_law (first
            | (go_simp; go_at_call 43; refine (KC.out _).mono ?_; rintro e w4 ⟨rfl, hw4⟩; replace hw4 := (show Below w3.heap.size w3 w4 from (Below.refl w3.heap.size w3).drew.trans hw4); have hr4 := HR3.out.below hw4; have hown4 := HO3.out.below hw4; have hav4 := HP3.out.below hw4; obtain ⟨e0, e1, k0, k1⟩ := RowIs.rc2 hr4; have ea := fun o => cell_below ((Below.refl w4.heap.size w4).alloc (Nat.le_refl _) o) hr4.lt e1; have hB4 := Nat.le_trans hB3 hw4.size)
            | (refine step_appN rfl (.tmp 23) (.tmp 29) 22 rfl B i1 _ Tryd.underlying22 hj hy0 hy1 hy2 rfl _ cs rfl (by exact hown4.alloc _) ⟨_, 0, none⟩ 1 ⟨⟨d, nm, ps, []⟩, .slice po ps.length pc⟩ (by exact OwnP.alloc hav4 _) rfl (by exact hnewN.out _ _ rfl) hcl2 (by simp; omega) ?_; intro v5 w5 hown5 hf5; have hr5 := hf5.rd (hr4.below ((Below.refl w4.heap.size w4).alloc (Nat.le_refl _) _)) hap; obtain ⟨d0, d1, g0, g1⟩ := RowIs.rc2 hr5; obtain ⟨xa, xc, e5⟩ := hown5.form; rw [HN1.out] at e5; subst e5))
          all_goals
            (have hown6 := hown5.put (j := 1) (x := .slice xa N1 xc) hr5
             have hr6 := hr5.nodes (.slice xa N1 xc)
             have hfx6 := (((HF3.out.trans (FrX.of (FrR.below hw4))).trans (FrX.of (FrR.below ((Below.refl w4.heap.size w4).alloc (Nat.le_refl _) _)))).trans (FrX.ofN hf5)).put (u := .slice xa N1 xc) 1
             go_wp2_with fail
             go_meet
             case rel => exact ⟨.slice xa N1 xc, hid hown6, hid hr6, hid hfx6⟩)
        case rest =>
          obtain ⟨v5, HO5, HR5, HF5⟩ := hcut
          clear HF3 HP3 HO3 HR3 c0 c1 f0 f1 KC
          have hB5 : B ≤ wc.heap.size := Nat.le_trans hB HF5.out.size
          have KT := hid (took_any b r2 [47, 62] v5 wc HR5.out (by omega) (by decide))
          cases h4 : preX [47, 62] r2 with
          | true =>
            have HE2 : Hid (R = some ([⟨d, nm, ps, []⟩], r2.drop 2)) := show _ = _ by rw [HE.out, if_pos h4]
            rw [h4, show tookL [47, 62] r2 = r2.drop 2 by unfold tookL; rw [if_pos h4]; rfl] at KT
            clear HE h4
            go_wp2_with fail
            refine (KT.out).mono ?_
            rintro e w6 ⟨rfl, hr6, hf6⟩
            have hown6 := HO5.out.fr hf6 HR5.out
            go_wp2
            first | go_end0 | refine bodyPost_ret (results_none rfl _ _ _) rfl ?_
            rw [HE2.out]
            exact ⟨v5, [⟨⟨d, nm, ps, []⟩, .slice po ps.length pc⟩], rfl, rfl, hown6, hr6, HF5.out.trans (FrX.of hf6)⟩
          | false =>
            have hE3 := HE.out
            rw [if_neg (by rw [h4]; simp)] at hE3
            rw [h4, show tookL [47, 62] r2 = r2 by unfold tookL; rw [if_neg (by rw [h4]; simp)]] at KT
            clear HE h4
            cases h6 : preX [62] r2 with
            | false =>
              have HE2 : Hid (R = none) := show _ = _ by rw [hE3, if_pos h6]
              have H6 := hid h6
              clear hE3 h6
              go_wp2_with fail
              refine (KT.out).mono ?_
              rintro e w6 ⟨rfl, hr6, hf6⟩
              go_wp2_with fail
              refine (must_bad b r2 [62] v5 w6 hr6 (by omega) (by decide) H6.out).mono ?_
              rintro e w7 ⟨rfl, hf7⟩
              refine ⟨rfl, ?_⟩
              rw [HE2.out]
              exact ⟨rfl, (HF5.out.trans (FrX.of (hf6.trans hf7))).none⟩
            | true =>
              rw [if_neg (by rw [h6]; simp)] at hE3
              have hp2 := pre_len h6
              simp only [List.length_cons, List.length_nil] at hp2
              have hl3 : (r2.drop 1).length = r2.length - 1 := by rw [List.length_drop]
              have hwd : IntKind.i64.wrap ((d : Int) + 1) = (d : Int) + 1 := by rw [IntKind.wrap_i64]; omega
              have KM6 := hid (fun w' (h' : XrAt w' b r2 v5) => must_ok b r2 [62] v5 w' h' (by omega) (by decide) h6)
              rw [show r2.drop [(62 : UInt8)].length = r2.drop 1 from rfl] at KM6
              have hA : innA n (d + 1) (r2.drop 1) = (match upP (· == 60) (r2.drop 1) with | none => none | some (x, y) => innC n (d + 1) x [] y) := rfl
              have hE4 : R = (match innA n (d + 1) (r2.drop 1) with | none => none | some (t, ks, r3) => (closeC nm r3).map fun r4 => (⟨d, nm, ps, t⟩ :: ks, r4)) := by
                rw [hE3, hA]
                cases upP (· == 60) (r2.drop 1) with
                | none => rfl
                | some xy => rfl
              clear hE3 hA h6
              have KI := hid (fun w' (h' : XrAt w' b (r2.drop 1) v5) (ho' : OwnN w' B v5 (cs ++ [⟨⟨d, nm, ps, []⟩, .slice po ps.length pc⟩])) (hB' : B ≤ w'.heap.size) => HI.out b (d + 1) (r2.drop 1) v5 _ B w' h' ho' hbB hB' (by omega) (by rw [List.length_append, List.length_cons, List.length_nil]; omega) (by omega))
              rw [show ((d + 1 : Nat) : Int) = (d : Int) + 1 by omega] at KI
              have hil : ∀ t ks r3, innA n (d + 1) (r2.drop 1) = some (t, ks, r3) → r3.length ≤ r2.length := fun t ks r3 h => by
                unfold innA at h
                cases hu2 : upP (· == 60) (r2.drop 1) with
                | none => rw [hu2] at h; cases h
                | some xy =>
                  obtain ⟨x, y⟩ := xy
                  rw [hu2] at h
                  obtain ⟨_, _, _, _, hh⟩ := up_head hu2
                  have := innC_len _ _ _ _ _ _ _ _ h
                  omega
              have HIL := hid hil
              clear hil
              generalize innA n (d + 1) (r2.drop 1) = IA at hE4 KI HIL
              generalize r2.drop 1 = r3' at KM6 KI hl3
              cases IA with
              | none =>
                have HE2 : Hid (R = none) := hE4
                clear hE4
                simp only [InP] at KI
                go_wp2_with fail
                refine (KT.out).mono ?_
                rintro e w6 ⟨rfl, hr6, hf6⟩
                go_wp2_with fail
                refine (KM6.out w6 hr6).mono ?_
                rintro e w7 ⟨rfl, hr7, hf7⟩
                have hown7 := (HO5.out.fr hf6 HR5.out).fr hf7 hr6
                have hB7 : B ≤ w7.heap.size := Nat.le_trans hB5 (hf6.trans hf7).size
                go_wp2_with fail
                refine (KI.out w7 hr7 hown7 hB7).mono ?_
                rintro e w8 ⟨rfl, hf8⟩
                refine ⟨rfl, ?_⟩
                rw [HE2.out]
                exact ⟨rfl, (HF5.out.trans (FrX.of (hf6.trans hf7))).trans hf8⟩
              | some tkr =>
                obtain ⟨t, ks, r3⟩ := tkr
                simp only [InP] at KI
                simp only at hE4
                have hr3l := HIL.out t ks r3 rfl
                have HE4 := hid hE4
                clear hE4 HIL
                go_wp2_with fail
                refine (KT.out).mono ?_
                rintro e w6 ⟨rfl, hr6, hf6⟩
                go_wp2_with fail
                refine (KM6.out w6 hr6).mono ?_
                rintro e w7 ⟨rfl, hr7, hf7⟩
                have hown7 := (HO5.out.fr hf6 HR5.out).fr hf7 hr6
                have hB7 : B ≤ w7.heap.size := Nat.le_trans hB5 (hf6.trans hf7).size
                have hfx7 := HF5.out.trans (FrX.of (hf6.trans hf7))
                go_wp2_with fail
                refine (KI.out w7 hr7 hown7 hB7).mono ?_
                rintro e w8 ⟨v8, k8, rfl, hk8, hown8, hr8, hf8⟩
                have hfx8 := hfx7.trans hf8
                obtain ⟨g, cap, N8, fz8, hv8, hN8, hat8⟩ := own_text hown8
                subst hv8
                have hgb : g ≠ b := fun e => row_apart hr8 hown8.1 (by decide) (by rw [e]; rfl)
                obtain ⟨c0, c1, f0, f1⟩ := RowIs.rc2 hr8
                have hlt8 : (cs.length : Int) < (N8 : Int) := by omega
                have hown9 := own_text_set hown8 t
                have hr9 : XrAt (w8.setCell ⟨g, cs.length * 4 + 3, none⟩ (.string ⟨t.toArray⟩)) b r3 (.slice (some ⟨g, 0, none⟩) N8 cap) := by
                  unfold XrAt RowIs
                  rw [heap_setCell_other _ _ _ _ (Ne.symm hgb)]; exact hr8
                have hfx9 : FrX b (.slice vo cs.length vc) w (.slice (some ⟨g, 0, none⟩) N8 cap) (w8.setCell ⟨g, cs.length * 4 + 3, none⟩ (.string ⟨t.toArray⟩)) := hfx8.set rfl
                have HO9 := hid hown9
                have HR9 := hid hr9
                have HF9 := hid hfx9
                have HK8 := hid hk8
                clear hown8 hfx8 hf8 hown7 hfx7 hr6 hf6 hr7 hf7 KT KM6 KI HO5 HR5 HF5 hr9 hfx9 hown9 hk8 hN8
                have hCl : closeC nm r3 = if preX [60, 47] r3 = false then none else if preX nm (r3.drop 2) = false then none else if preX [62] (((r3.drop 2).drop nm.length).dropWhile xblk) = false then none else some ((((r3.drop 2).drop nm.length).dropWhile xblk).drop 1) := rfl
                cases k1 : preX [60, 47] r3 with
                | false =>
                  have HE2 : Hid (R = none) := show _ = _ by rw [HE4.out, hCl, if_pos k1]; rfl
                  have KB := hid (fun w' (h' : XrAt w' b r3 (.slice (some ⟨g, 0, none⟩) N8 cap)) => must_bad b r3 [60, 47] _ w' h' (by omega) (by decide) k1)
                  clear HE4 hCl k1
                  go_wp2_with fail
                  generalize w8.setCell _ _ = w9 at HO9 HR9 HF9 ⊢
                  refine (KB.out _ HR9.out).mono ?_
                  rintro e w10 ⟨rfl, hf10⟩
                  refine ⟨rfl, ?_⟩
                  rw [HE2.out]
                  exact ⟨rfl, (HF9.out.trans (FrX.of hf10)).none⟩
                | true =>
                  rw [if_neg (by rw [k1]; simp)] at hCl
                  have KB := hid (fun w' (h' : XrAt w' b r3 (.slice (some ⟨g, 0, none⟩) N8 cap)) => must_ok b r3 [60, 47] _ w' h' (by omega) (by decide) k1)
                  rw [show r3.drop [(60 : UInt8), 47].length = r3.drop 2 from rfl] at KB
                  have hl4 : (r3.drop 2).length ≤ r3.length := by rw [List.length_drop]; omega
                  generalize r3.drop 2 = r4 at hCl KB hl4
                  clear k1
                  cases k2 : preX nm r4 with
                  | false =>
                    have HE2 : Hid (R = none) := show _ = _ by rw [HE4.out, hCl, if_pos k2]; rfl
                    have KB2 := hid (fun w' (h' : XrAt w' b r4 (.slice (some ⟨g, 0, none⟩) N8 cap)) => must_bad b r4 nm _ w' h' (by omega) (by omega) k2)
                    clear HE4 hCl k2
                    go_wp2_with fail
                    generalize w8.setCell _ _ = w9 at HO9 HR9 HF9 ⊢
                    refine (KB.out _ HR9.out).mono ?_
                    rintro e w10 ⟨rfl, hr10, hf10⟩
                    go_wp2_with fail
                    refine (KB2.out _ hr10).mono ?_
                    rintro e w11 ⟨rfl, hf11⟩
                    refine ⟨rfl, ?_⟩
                    rw [HE2.out]
                    exact ⟨rfl, (HF9.out.trans (FrX.of (hf10.trans hf11))).none⟩
                  | true =>
                    rw [if_neg (by rw [k2]; simp)] at hCl
                    have KB2 := hid (fun w' (h' : XrAt w' b r4 (.slice (some ⟨g, 0, none⟩) N8 cap)) => must_ok b r4 nm _ w' h' (by omega) (by omega) k2)
                    have hl5 : (r4.drop nm.length).length ≤ r4.length := by rw [List.length_drop]; omega
                    generalize r4.drop nm.length = r5 at hCl KB2 hl5
                    clear k2
                    have KB3 := hid (fun w' (h' : XrAt w' b r5 (.slice (some ⟨g, 0, none⟩) N8 cap)) => skip_any b r5 _ w' h' (by omega))
                    have hl6 := dw_len xblk r5
                    generalize r5.dropWhile xblk = r6 at hCl KB3 hl6
                    cases k3 : preX [62] r6 with
                    | false =>
                      have HE2 : Hid (R = none) := show _ = _ by rw [HE4.out, hCl, if_pos k3]; rfl
                      have KB4 := hid (fun w' (h' : XrAt w' b r6 (.slice (some ⟨g, 0, none⟩) N8 cap)) => must_bad b r6 [62] _ w' h' (by omega) (by decide) k3)
                      clear HE4 hCl k3
                      go_wp2_with fail
                      generalize w8.setCell _ _ = w9 at HO9 HR9 HF9 ⊢
                      refine (KB.out _ HR9.out).mono ?_
                      rintro e w10 ⟨rfl, hr10, hf10⟩
                      go_wp2_with fail
                      refine (KB2.out _ hr10).mono ?_
                      rintro e w11 ⟨rfl, hr11, hf11⟩
                      go_wp2_with fail
                      refine (KB3.out _ hr11).mono ?_
                      rintro e w12 ⟨rfl, hr12, hf12⟩
                      go_wp2_with fail
                      refine (KB4.out _ hr12).mono ?_
                      rintro e w13 ⟨rfl, hf13⟩
                      refine ⟨rfl, ?_⟩
                      rw [HE2.out]
                      exact ⟨rfl, (HF9.out.trans (FrX.of (((hf10.trans hf11).trans hf12).trans hf13))).none⟩
                    | true =>
                      rw [if_neg (by rw [k3]; simp)] at hCl
                      have HE2 : Hid (R = some (⟨d, nm, ps, t⟩ :: ks, r6.drop 1)) := show _ = _ by rw [HE4.out, hCl]; rfl
                      have KB4 := hid (fun w' (h' : XrAt w' b r6 (.slice (some ⟨g, 0, none⟩) N8 cap)) => must_ok b r6 [62] _ w' h' (by omega) (by decide) k3)
                      rw [show r6.drop [(62 : UInt8)].length = r6.drop 1 from rfl] at KB4
                      clear HE4 hCl k3
                      go_wp2_with fail
                      generalize w8.setCell _ _ = w9 at HO9 HR9 HF9 ⊢
                      refine (KB.out _ HR9.out).mono ?_
                      rintro e w10 ⟨rfl, hr10, hf10⟩
                      go_wp2_with fail
                      refine (KB2.out _ hr10).mono ?_
                      rintro e w11 ⟨rfl, hr11, hf11⟩
                      go_wp2_with fail
                      refine (KB3.out _ hr11).mono ?_
                      rintro e w12 ⟨rfl, hr12, hf12⟩
                      go_wp2_with fail
                      refine (KB4.out _ hr12).mono ?_
                      rintro e w13 ⟨rfl, hr13, hf13⟩
                      have hown13 := (((HO9.out.fr hf10 HR9.out).fr hf11 hr10).fr hf12 hr11).fr hf13 hr12
                      go_wp2
                      first | go_end0 | refine bodyPost_ret (results_none rfl _ _ _) rfl ?_
                      rw [HE2.out]
                      exact ⟨_, setText ⟨⟨d, nm, ps, []⟩, .slice po ps.length pc⟩ t :: k8, rfl, by rw [← HK8.out]; rfl, hown13, hr13, HF9.out.trans (FrX.of (((hf10.trans hf11).trans hf12).trans hf13))⟩
theorem el_in (n : Nat) : ElS n ∧ InS n := by
  induction n using Nat.strongRecOn with
  | _ n ih =>
    refine ⟨?_, inn_step n fun m hm => (ih m hm).1⟩
    cases n with
    | zero => intro b d l v cs B w _ _ _ _ h; omega
    | succ n => exact el_step n (ih n (Nat.lt_succ_self _)).2
theorem el_any (n : Nat) : ElS n := (el_in n).1
end Go.Proofs.YtnijlmkodgdhlaaDoor
