/-
  The document's own functions of layer 4: half, Equal.
-/
import Derived.Test.YtnkghefcoolkoaaDoorBaseD
import Derived.Deep.QuietTactic
import Derived.BigQuiet
namespace Go.Proofs.YtnkghefcoolkoaaDoor
open Go.RowKit Sc
set_option linter.unusedVariables false
set_option maxRecDepth 20000
set_option linter.unusedSimpArgs false

theorem pars_at {w : World} {v : Value} {ps : List Par} (h : ParsAt w v ps) : ∃ a1 c1, v = .slice a1 ps.length c1 ∧ ∀ k (hk : k < ps.length), ∃ a, a1 = some a ∧ a.block < w.heap.size ∧ ParAt w a k ps[k] := by
  rcases h with ⟨rfl, rfl⟩ | ⟨a, cap, rfl, hc⟩
  · exact ⟨none, 0, rfl, fun k hk => by simp at hk⟩
  · exact ⟨some a, cap, rfl, fun k hk => ⟨a, rfl, hc k hk⟩⟩
theorem par_get {w : World} {a1 : Option Addr} {n c1 : Nat} {ps : List Par} (h : ∀ k (hk : k < ps.length), ∃ a, a1 = some a ∧ a.block < w.heap.size ∧ ParAt w a k ps[k]) (k : Nat) (hk : k < ps.length) {a : Addr} (ha : a1 = some a) : a.block < w.heap.size ∧ ParAt w a k ps[k] := by
  obtain ⟨a', e, r⟩ := h k hk
  rw [ha, Option.some.injEq] at e
  subst e
  exact r

set_option maxHeartbeats 4000000 in
set_option maxRecDepth 100000 in
theorem half_any (u v : Uri) (p h p' h' : Value) (w : World) (hsu : SmallU 140737488355328 u) (hsv : SmallU 140737488355328 v) (h1 : ParsAt w p u.params) (h2 : ParsAt w h u.headers) (h3 : ParsAt w p' v.params) (h4 : ParsAt w h' v.headers) :
    Calls Tryd.prog 28 #[uriV u p h, uriV v p' h'] w fun e w' => e = .returned (.bool (u.params.all (okP v.params) && u.headers.all (okH v.headers))) ∧ Below w.heap.size w w' := by
  have T0 := hid (two_new w u v p h p' h')
  have KP := hid (fun w' (hb : Below w.heap.size w w') => h3.below hb)
  have KH := hid (fun w' (hb : Below w.heap.size w w') => h4.below hb)
  obtain ⟨a1, c1, rfl, hA1⟩ := pars_at h1
  obtain ⟨a2, c2, rfl, hA2⟩ := pars_at h2
  obtain ⟨a3, c3, rfl⟩ := h3.form
  obtain ⟨a4, c4, rfl⟩ := h4.form
  clear h1 h2 h3 h4
  obtain ⟨s, us, ho, po, ps, hs⟩ := u
  obtain ⟨s', us', ho', po', ps', hs'⟩ := v
  unfold uriV
  simp only at KP KH T0 hA1 hA2 ⊢
  have HA1 := hid hA1
  have HA2 := hid hA2
  have HS1 := hid hsu.2.2.2.1.2
  have HS2 := hid hsu.2.2.2.2.2
  have hz1 : ps.length ≤ 140737488355328 := hsu.2.2.2.1.1
  have hz2 : hs.length ≤ 140737488355328 := hsu.2.2.2.2.1
  have HQ1 := hid hsv.2.2.2.1
  have HQ2 := hid hsv.2.2.2.2
  have HQ1m := hid hsv.2.2.2.1.2
  simp only at HS1 HS2 HQ1 HQ2 HQ1m
  clear hA1 hA2 hsu hsv
  obtain ⟨r, hr⟩ : ∃ r, (ps.all (okP ps') && hs.all (okH hs')) = r := ⟨_, rfl⟩
  rw [hr]
  have HR := hid hr; clear hr
  obtain ⟨n, hn⟩ : ∃ n, n = ps.length := ⟨_, rfl⟩
  obtain ⟨m, hm⟩ : ∃ m, m = hs.length := ⟨_, rfl⟩
  rw [← hn] at hz1 T0 ⊢
  rw [← hm] at hz2 T0 ⊢
  have HN := hid hn; clear hn
  have HM := hid hm; clear hm
  go_enter Tryd.func28, Tryd.ntmps28
  go_wp2
  go_loopw [5] (fun i wr => ∃ k : Nat, k ≤ n ∧ i = .int .i64 k ∧ Hid (Two w wr ⟨s, us, ho, po, ps, hs⟩ ⟨s', us', ho', po', ps', hs'⟩ (.slice a1 n c1) (.slice a2 m c2) (.slice a3 ps'.length c3) (.slice a4 hs'.length c4)) ∧ Hid ((ps.take k).all (okP ps') = true)) (fun i _ => n - (intOf i).toNat)
  case atStart => exact ⟨0, by omega, rfl, T0, rfl⟩
  case round =>
    clear T0
    obtain ⟨k, hk, rfl, T, hal⟩ := hrel
    obtain ⟨g0, g1, g2, g3, g4, g5⟩ := T.out.b1
    obtain ⟨k0, k1, k2, k3, k4, k5⟩ := T.out.b2
    simp only at g0 g1 g2 g3 g4 g5 k0 k1 k2 k3 k4 k5
    have hb := T.out.below
    by_cases hlt : k < n
    · have hkl : k < ps.length := by have := HN.out; omega
      obtain ⟨a, rfl, hab, hpa⟩ := HA1.out k hkl
      obtain ⟨c0, d1, d2⟩ := hpa.below hb hab
      have hss := HS1.out ps[k] (List.getElem_mem hkl)
      have hs1 : Hid (okP ps' ps[k] = true → (ps.take (k + 1)).all (okP ps') = true) := fun h => all_snoc hkl hal.out h
      have hs2 : Hid (okP ps' ps[k] = false → r = false) := fun h => by rw [← HR.out, all_bad hkl h]; rfl
      generalize ps[k] = q at c0 d1 d2 hss hs1 hs2
      obtain ⟨pn, pv, ph⟩ := q
      simp only at c0 d1 d2 hss
      clear hpa hal hab
      have hB := hb.size
      have k4a := (T.out.step ((Below.refl _ wr).alloc (Nat.le_refl _) (.cells #[.string ⟨pn.toArray⟩, .string ⟨pv.toArray⟩, .bool ph] 42))).b2.2.2.2.2.1
      try simp only at k4a
      cases hf : findV ps' pn with
      | none =>
        have K3 := hid (fun (w' : World) (h : Below w.heap.size w w') => place_none hf (.slice a3 ps'.length c3) w' hss.1 HQ1.out (KP.out w' h))
        cases hg : graveB pn with
        | true =>
          have HV : Hid (r = false) := hs2.out (by simp [okP, hf, hg])
          clear hf hs1 hs2
          go_wp2_with fail
          refine (K3.out _ (hb.alloc hB _)).mono ?_
          rintro e w2 ⟨rfl, hw2⟩
          obtain ⟨x0, x1, x2⟩ := (boxP_new _ ⟨pn, pv, ph⟩ _).below hw2 (alloc_lt _ _)
          simp only at x0 x1 x2
          have hb2 := box_below hb hB hw2
          clear hw2 k4a c0 d1 d2 g0 g1 g2 g3 g4 g5 k0 k1 k2 k3 k4 k5 K3 T
          go_wp2_with fail
          refine (grave_any pn _ hss.1).mono ?_
          rintro e w3 ⟨rfl, hw3⟩
          have hb3 := hb2.trans (hw3.mono hb2.size)
          clear x0 x1 x2 hw3
          rw [hg]
          go_wp2
          go_ret
          exact ⟨ret_bool HV.out.symm, hb3⟩
        | false =>
          have hgo : Hid ((ps.take (k + 1)).all (okP ps') = true) := hs1.out (by simp [okP, hf, hg])
          clear hf hs1 hs2
          go_wp2_with fail
          refine (K3.out _ (hb.alloc hB _)).mono ?_
          rintro e w2 ⟨rfl, hw2⟩
          obtain ⟨x0, x1, x2⟩ := (boxP_new _ ⟨pn, pv, ph⟩ _).below hw2 (alloc_lt _ _)
          simp only at x0 x1 x2
          replace T := hid ((T.out.step ((Below.refl _ _).alloc (Nat.le_refl _) _)).step hw2)
          clear hw2 k4a c0 d1 d2 g0 g1 g2 g3 g4 g5 k0 k1 k2 k3 k4 k5 K3
          go_wp2_with fail
          refine (grave_any pn _ hss.1).mono ?_
          rintro e w3 ⟨rfl, hw3⟩
          replace T := hid (T.out.step hw3)
          clear x0 x1 x2 hw3
          rw [hg]
          have hd : decide ((0 : Int) ≤ -1) = false := by decide
          go_wp2
          go_quiet (fail)
          go_wp2
          go_roundw
          case rel => exact ⟨k + 1, by omega, by go_num, hid (T.out.step (below_drewN _ _)), hgo⟩
          case measure => simp [intOf]; omega
      | some q =>
        obtain ⟨qn, qv, qh⟩ := q
        have hqs := HQ1m.out _ (find_mem hf).1
        simp only at hqs
        have K3 := hid (fun (w' : World) (h : Below w.heap.size w w') => place_some hf (.slice a3 ps'.length c3) w' hss.1 HQ1.out (KP.out w' h))
        have hokv : Hid (okP ps' ⟨pn, pv, ph⟩ = (qh == ph && sameB qv pv)) := show _ = _ by simp only [okP, hf]
        clear hf
        cases hh : (qh == ph) with
        | false =>
          have HV : Hid (r = false) := hs2.out (by rw [hokv.out, hh]; rfl)
          have hh2 : (qh != ph) = true := by simpa using hh
          clear hs1 hs2 hokv
          go_wp2_with fail
          refine (K3.out _ (hb.alloc hB _)).mono ?_
          rintro e w2 ⟨⟨kq, aq, cq, rfl, hkq, hvq, habq, hpaq⟩, hw2⟩
          simp only [Value.slice.injEq, true_and] at hvq
          obtain ⟨rfl, rfl⟩ := hvq
          obtain ⟨y0, y1, y2⟩ := hpaq.below hw2 habq
          have hx := (boxP_new _ ⟨pn, pv, ph⟩ _).below hw2 (alloc_lt _ _)
          obtain ⟨x0, x1, x2⟩ := hx
          simp only at x0 x1 x2 y0 y1 y2
          replace T := hid ((T.out.step ((Below.refl _ _).alloc (Nat.le_refl _) _)).step hw2)
          clear hw2 k4a c0 d1 d2 g0 g1 g2 g3 g4 g5 k0 k1 k2 k3 k4 k5 K3 hpaq habq hb hB
          obtain ⟨g0, g1, g2, g3, g4, g5⟩ := T.out.b1
          obtain ⟨k0, k1, k2, k3, k4, k5⟩ := T.out.b2
          simp only at g0 g1 g2 g3 g4 g5 k0 k1 k2 k3 k4 k5
          have hd : decide ((0 : Int) ≤ (kq : Int)) = true := by simp
          go_wp2
          go_quiet (fail)
          go_wp2
          go_ret
          exact ⟨ret_bool HV.out.symm, (T.out.step (below_drewN _ _)).below⟩
        | true =>
          obtain rfl : ph = qh := by have := hh; simp at this; exact this.symm
          clear hh
          cases hsb : sameB qv pv with
          | true =>
            have hgo : Hid ((ps.take (k + 1)).all (okP ps') = true) := hs1.out (by rw [hokv.out, hsb]; simp)
            clear hs1 hs2 hokv
            go_wp2_with fail
            refine (K3.out _ (hb.alloc hB _)).mono ?_
            rintro e w2 ⟨⟨kq, aq, cq, rfl, hkq, hvq, habq, hpaq⟩, hw2⟩
            simp only [Value.slice.injEq, true_and] at hvq
            obtain ⟨rfl, rfl⟩ := hvq
            obtain ⟨y0, y1, y2⟩ := hpaq.below hw2 habq
            have hx := (boxP_new _ ⟨pn, pv, ph⟩ _).below hw2 (alloc_lt _ _)
            obtain ⟨x0, x1, x2⟩ := hx
            simp only at x0 x1 x2 y0 y1 y2
            replace T := hid ((T.out.step ((Below.refl _ _).alloc (Nat.le_refl _) _)).step hw2).drew
            clear hw2 k4a c0 d1 d2 g0 g1 g2 g3 g4 g5 k0 k1 k2 k3 k4 k5 K3 hpaq habq hb hB
            obtain ⟨g0, g1, g2, g3, g4, g5⟩ := T.out.b1
            obtain ⟨k0, k1, k2, k3, k4, k5⟩ := T.out.b2
            simp only at g0 g1 g2 g3 g4 g5 k0 k1 k2 k3 k4 k5
            have x0d : w2.drew.cell? _ = _ := x0
            have x1d : w2.drew.cell? _ = _ := x1
            have x2d : w2.drew.cell? _ = _ := x2
            have y0d : w2.drew.cell? _ = _ := y0
            have y1d : w2.drew.cell? _ = _ := y1
            have y2d : w2.drew.cell? _ = _ := y2
            have hd : decide ((0 : Int) ≤ (kq : Int)) = true := by simp
            go_wp2
            go_region_law (go_simp; go_at_call 42; refine (refsame_list _ _ _ hqs.2 hss.2).mono ?_; rintro e w3 ⟨rfl, hw3⟩; rw [hsb]; replace T := hid (T.out.step hw3); clear hw3)
            all_goals (
              go_wp2
              go_roundw
              case rel => exact ⟨k + 1, by omega, by go_num, T, hgo⟩
              case measure => simp [intOf]; omega)
          | false =>
            have HV : Hid (r = false) := hs2.out (by rw [hokv.out, hsb]; simp)
            clear hs1 hs2 hokv
            go_wp2_with fail
            refine (K3.out _ (hb.alloc hB _)).mono ?_
            rintro e w2 ⟨⟨kq, aq, cq, rfl, hkq, hvq, habq, hpaq⟩, hw2⟩
            simp only [Value.slice.injEq, true_and] at hvq
            obtain ⟨rfl, rfl⟩ := hvq
            obtain ⟨y0, y1, y2⟩ := hpaq.below hw2 habq
            have hx := (boxP_new _ ⟨pn, pv, ph⟩ _).below hw2 (alloc_lt _ _)
            obtain ⟨x0, x1, x2⟩ := hx
            simp only at x0 x1 x2 y0 y1 y2
            replace T := hid ((T.out.step ((Below.refl _ _).alloc (Nat.le_refl _) _)).step hw2).drew
            clear hw2 k4a c0 d1 d2 g0 g1 g2 g3 g4 g5 k0 k1 k2 k3 k4 k5 K3 hpaq habq hb hB
            obtain ⟨g0, g1, g2, g3, g4, g5⟩ := T.out.b1
            obtain ⟨k0, k1, k2, k3, k4, k5⟩ := T.out.b2
            simp only at g0 g1 g2 g3 g4 g5 k0 k1 k2 k3 k4 k5
            have x0d : w2.drew.cell? _ = _ := x0
            have x1d : w2.drew.cell? _ = _ := x1
            have x2d : w2.drew.cell? _ = _ := x2
            have y0d : w2.drew.cell? _ = _ := y0
            have y1d : w2.drew.cell? _ = _ := y1
            have y2d : w2.drew.cell? _ = _ := y2
            have hd : decide ((0 : Int) ≤ (kq : Int)) = true := by simp
            go_wp2
            go_region_law (go_simp; go_at_call 42; refine (refsame_list _ _ _ hqs.2 hss.2).mono ?_; rintro e w3 ⟨rfl, hw3⟩; rw [hsb]; replace T := hid (T.out.step hw3); clear hw3)
            all_goals (
              go_wp2
              go_ret
              exact ⟨ret_bool HV.out.symm, T.out.below⟩)
    · have hall : Hid (ps.all (okP ps') = true) := show _ = _ by
        have := hal.out
        rwa [List.take_of_length_le (by have := HN.out; omega)] at this
      have HR2 : Hid (hs.all (okH hs') = r) := show _ = _ by have := HR.out; rwa [hall.out, Bool.true_and] at this
      clear hal hall HR
      go_wp2
      clear g0 g1 g2 g3 g4 g5 k0 k1 k2 k3 k4 k5
      go_loopw [8] (fun i wr => ∃ k : Nat, k ≤ m ∧ i = .int .i64 k ∧ Hid (Two w wr ⟨s, us, ho, po, ps, hs⟩ ⟨s', us', ho', po', ps', hs'⟩ (.slice a1 n c1) (.slice a2 m c2) (.slice a3 ps'.length c3) (.slice a4 hs'.length c4)) ∧ Hid ((hs.take k).all (okH hs') = true)) (fun i _ => m - (intOf i).toNat)
      case atStart => exact ⟨0, by omega, rfl, T, rfl⟩
      case round =>
        clear T hb
        obtain ⟨j, hj, rfl, T, hal⟩ := hrel
        obtain ⟨g0, g1, g2, g3, g4, g5⟩ := T.out.b1
        obtain ⟨k0, k1, k2, k3, k4, k5⟩ := T.out.b2
        simp only at g0 g1 g2 g3 g4 g5 k0 k1 k2 k3 k4 k5
        have hb := T.out.below
        by_cases hjt : j < m
        · have hkl : j < hs.length := by have := HM.out; omega
          obtain ⟨a, rfl, hab, hpa⟩ := HA2.out j hkl
          have hss := HS2.out hs[j] (List.getElem_mem hkl)
          have hs1 : Hid (okH hs' hs[j] = true → (hs.take (j + 1)).all (okH hs') = true) := fun h => all_snoc hkl hal.out h
          have hs2 : Hid (okH hs' hs[j] = false → r = false) := fun h => by rw [← HR2.out, all_bad hkl h]
          generalize hs[j] = q at hpa hss hs1 hs2
          obtain ⟨pn, pv, ph⟩ := q
          obtain ⟨c0, d1, d2⟩ := hpa.below hb hab
          have HP := hid hpa
          simp only at c0 d1 d2 hss
          clear hpa hal
          have hB := hb.size
          cases hf : findV hs' pn with
          | none =>
            have HV : Hid (r = false) := hs2.out (by simp [okH, hf])
            have K3 := hid (fun (w' : World) (h : Below w.heap.size w w') => place_none hf (.slice a4 hs'.length c4) w' hss.1 HQ2.out (KH.out w' h))
            clear hf hs1 hs2
            replace T := hid T.out.drew
            replace hb := hb.drew
            have c0d : World.cell? (World.drew _) _ = _ := c0
            have g4d := T.out.b1.2.2.2.2.1
            have g5d := T.out.b1.2.2.2.2.2
            have k5d := T.out.b2.2.2.2.2.2
            try simp only at g4d g5d k5d
            go_wp2
            go_region_law (go_simp; go_at_call 24; refine (K3.out _ hb).mono ?_; rintro e w2 ⟨rfl, hw2⟩; replace T := hid (T.out.step hw2); clear hw2)
            all_goals (
              have g5e := T.out.b1.2.2.2.2.2
              have k5e := T.out.b2.2.2.2.2.2
              try simp only at g5e k5e
              have hd : decide ((-1 : Int) < 0) = true := by decide
              go_simp
              go_wp2
              go_quiet (fail)
              go_wp2
              go_ret
              exact ⟨ret_bool HV.out.symm, (T.out.step (below_drewN _ _)).below⟩)
          | some q =>
            obtain ⟨qn, qv, qh⟩ := q
            have K3 := hid (fun (w' : World) (h : Below w.heap.size w w') => place_some hf (.slice a4 hs'.length c4) w' hss.1 HQ2.out (KH.out w' h))
            have hokv : Hid (okH hs' ⟨pn, pv, ph⟩ = (qv == pv)) := show _ = _ by simp only [okH, hf]
            clear hf
            replace T := hid T.out.drew
            replace hb := hb.drew
            have c0d : World.cell? (World.drew _) _ = _ := c0
            have g4d := T.out.b1.2.2.2.2.1
            have g5d := T.out.b1.2.2.2.2.2
            have k5d := T.out.b2.2.2.2.2.2
            try simp only at g4d g5d k5d
            by_cases hqv : qv = pv
            · subst hqv
              have hgo : Hid ((hs.take (j + 1)).all (okH hs') = true) := hs1.out (by rw [hokv.out]; simp)
              clear hs1 hs2 hokv
              go_wp2
              go_region_law (go_simp; go_at_call 24; refine (K3.out _ hb).mono ?_; rintro e w2 ⟨⟨kq, aq, cq, rfl, hkq, hvq, habq, hpaq⟩, hw2⟩; simp only [Value.slice.injEq, true_and] at hvq; obtain ⟨rfl, rfl⟩ := hvq; replace T := hid (T.out.step hw2); have hpq := hid (hpaq.below hw2 habq); clear hw2 hpaq)
              all_goals (
                obtain ⟨y0, y1, y2⟩ := hpq.out
                obtain ⟨z0, z1, z2⟩ := HP.out.below T.out.below hab
                have g5e := T.out.b1.2.2.2.2.2
                have k5e := T.out.b2.2.2.2.2.2
                try simp only at g5e k5e y1 z1
                have hd : decide ((kq : Int) < 0) = false := by simp
                go_simp
                go_wp2
                go_quiet (fail)
                go_wp2
                go_roundw
                case rel => exact ⟨j + 1, by omega, by go_num, hid (T.out.step (below_drewN _ _)), hgo⟩
                case measure => simp [intOf]; omega)
            · have HV : Hid (r = false) := hs2.out (by rw [hokv.out]; simpa using hqv)
              have hqv2 : (qv == pv) = false := by simpa using hqv
              clear hs1 hs2 hokv
              go_wp2
              go_region_law (go_simp; go_at_call 24; refine (K3.out _ hb).mono ?_; rintro e w2 ⟨⟨kq, aq, cq, rfl, hkq, hvq, habq, hpaq⟩, hw2⟩; simp only [Value.slice.injEq, true_and] at hvq; obtain ⟨rfl, rfl⟩ := hvq; replace T := hid (T.out.step hw2); have hpq := hid (hpaq.below hw2 habq); clear hw2 hpaq)
              all_goals (
                obtain ⟨y0, y1, y2⟩ := hpq.out
                obtain ⟨z0, z1, z2⟩ := HP.out.below T.out.below hab
                have g5e := T.out.b1.2.2.2.2.2
                have k5e := T.out.b2.2.2.2.2.2
                try simp only at g5e k5e y1 z1
                have hd : decide ((kq : Int) < 0) = false := by simp
                go_simp
                go_wp2
                go_quiet (fail)
                go_wp2
                go_ret
                exact ⟨ret_bool HV.out.symm, (T.out.step (below_drewN _ _)).below⟩)
        · have hall : Hid (r = true) := show _ = _ by
            have := hal.out
            rw [List.take_of_length_le (by have := HM.out; omega)] at this
            rw [← HR2.out, this]
          clear hal HR2
          go_wp2
          go_ret
          exact ⟨ret_bool hall.out.symm, hb⟩

end Go.Proofs.YtnkghefcoolkoaaDoor
