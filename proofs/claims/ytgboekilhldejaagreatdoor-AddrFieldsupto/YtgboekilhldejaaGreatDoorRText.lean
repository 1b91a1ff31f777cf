/-
  The contract of the document's own Text.
-/
import Derived.Test.YtgboekilhldejaaGreatDoorAText
namespace Go.Proofs.YtgboekilhldejaaGreatDoor
open Go.RowKit Go.Sort Sc
set_option linter.unusedVariables false
set_option maxRecDepth 20000

set_option maxHeartbeats 1000000 in
set_option maxRecDepth 100000 in
theorem rtext_row (a : Addr) (cap : Nat) (ps : List Par) (w : World) (h16 : ps.length ≤ 16) (hcap : ps.length ≤ cap) (hsm : SmallP 1048576 ps) (hc : ∀ j (hj : j < ps.length), a.block < w.heap.size ∧ ParAt w a j ps[j]) :
    Calls Tryz.prog 11 #[.slice (some a) ps.length cap] w fun e w' => e = .returned (.tuple #[.string ⟨(textV ps).1.toArray⟩, .int .i64 (textV ps).2]) ∧ Below w.heap.size w w' := by
  have HC := hid hc; clear hc
  have HS := hid hsm
  have HSL : Hid (SmallP 140737488355328 ps) := ⟨by omega, fun p hp => by have := hsm.2 p hp; omega⟩
  have hbad : Hid (mayGo [] ps = false → textV ps = ([], 34)) := fun h => text_bad h16 h
  have hgood : Hid (mayGo [] ps = true → textV ps = (parsA ps, 0)) := fun h => text_good h16 h
  obtain ⟨n, hn⟩ : ∃ n, n = ps.length := ⟨_, rfl⟩
  rw [← hn] at h16 hcap
  rw [show Value.slice (some a) ps.length cap = .slice (some a) n cap by rw [hn]]
  have HN := hid hn; clear hn
  clear hsm
  go_enter Tryz.func11, Tryz.ntmps11
  go_wp2
  go_loopw [4, 5] (fun x i wr => ∃ (k : Nat) (t : List UInt8), k ≤ n ∧ i = .int .i64 k ∧ x = .string ⟨t.toArray⟩ ∧ t.length ≤ 200 * k ∧ Hid (t = parsA (ps.take k)) ∧ Hid (mayGo [] (ps.take k) = true) ∧ Below w.heap.size w wr) (fun _ i _ => n - (intOf i).toNat)
  case atStart => exact ⟨0, [], by omega, rfl, rfl, by simp, hid rfl, hid rfl, Below.refl _ _⟩
  case round =>
    obtain ⟨k, t, hkn, rfl, rfl, htl, htt, hgo, hb⟩ := hrel
    by_cases hlt : k < n
    · have hkl : k < ps.length := by have := HN.out; omega
      obtain ⟨hab, hpa⟩ := HC.out k hkl
      have HCELL := hid (fun (w' : World) (hb' : Below w.heap.size w w') => hpa.below hb' hab)
      obtain ⟨c0, c1, c2⟩ := hpa.below hb hab
      have hss := HS.out.2 ps[k] (List.getElem_mem hkl)
      have KM := hid (fun (c : Nat) (w' : World) (hb' : Below w.heap.size w w') => refmay_any ps[k] (.slice (some a) k c) (ps.take k) w' (by omega) hss.2 (small_take HSL.out k) (parsAt_take (Nat.le_of_lt hkl) (fun j hj => ⟨Nat.lt_of_lt_of_le (HC.out j hj).1 hb'.size, (HC.out j hj).2.below hb' (HC.out j hj).1⟩)))
      have hB := hb.size
      have hno := hid (@mayGo_bad ps k hkl)
      have hstep := hid (@mayGo_step ps k hkl)
      have hpars := hid (@parsA_step ps k hkl)
      have hpt := hid (text_at hkl)
      have hfac := hid (@may_facts (ps.take k) ps[k])
      unfold ParAt at HCELL
      generalize ps[k] = p at c0 c1 c2 hss KM hno hstep hpars hpt hfac HCELL
      obtain ⟨pn, pv, ph⟩ := p
      simp only at c0 c1 c2 hss HCELL
      unfold parV at KM
      simp only at KM
      clear hpa
      have h200 : t.length ≤ 3200 := by omega
      cases hmay : mayB (ps.take k) ⟨pn, pv, ph⟩ with
      | false =>
        have hv : Hid (textV ps = ([], 34)) := hbad.out (hno.out hmay)
        rw [hmay] at KM
        clear hno hstep hpars hpt hfac hgo htt hmay
        go_wp2
        replace c0 := cell_regrown c0
        replace c1 := cell_regrown c1
        replace c2 := cell_regrown c2
        have c := hid (fun (d : Nat) (os : Array Obj) => Calls.regrown_of (KM.out cap (grow (redrawn wr d) os) (below_re5 hb d os)))
        clear KM
        refine wp_region_quiet_below followsMixed5 (by kernel_rfl) ?_
        repeat (go_big_quiet_step (with_reducible exact c.out _ _))
        refine wpQuiet_nil ?_
        intro _ hw'
        obtain ⟨⟨dq, osq⟩, hw''⟩ := hw'
        subst hw''
        clear c c0 c1 c2
        have hb1 := below_re5 hb dq osq
        go_wp2
        go_ret2
        exact ⟨ret_text (x := []) hv.out, hb1⟩
      | true =>
        obtain ⟨m1, _, m3, m4, _⟩ := hfac.out hmay
        obtain ⟨_, t2, _⟩ := tok_facts m1
        simp only at m3 m4 t2
        have KW := hid (fun w' => refword_any pv w' (by omega))
        have KQ := hid (fun w' => refquote_list pv w' (by omega))
        have hqv := hid (valT_quote m4)
        have hgo2 : Hid (mayGo [] (ps.take (k + 1)) = true) := show _ = _ by rw [hstep.out, hgo.out, hmay]; rfl
        rw [hmay] at KM
        have hvl := valT_len pv
        have hpt' := hid (hpt.out ph rfl)
        simp only at hpt'
        clear hno hstep hfac hgo hmay m1 m4 hpt
        go_wp2
        replace c0 := cell_regrown c0
        replace c1 := cell_regrown c1
        replace c2 := cell_regrown c2
        have c := hid (fun (d : Nat) (os : Array Obj) => Calls.regrown_of (KM.out cap (grow (redrawn wr d) os) (below_re5 hb d os)))
        clear KM
        refine wp_region_quiet_below followsMixed5 (by kernel_rfl) ?_
        repeat (go_big_quiet_step (with_reducible exact c.out _ _))
        refine wpQuiet_nil ?_
        intro _ hw'
        obtain ⟨⟨dq, osq⟩, hw''⟩ := hw'
        subst hw''
        clear c c0 c1 c2
        have hb1 := below_re5 hb dq osq
        obtain ⟨c0, c1, c2⟩ := HCELL.out _ hb1
        clear hb
        cases ph with
        | false =>
          have htx : Hid ((t ++ [59]) ++ pn = parsA (ps.take (k + 1))) := show _ = _ by rw [hpars.out, hpt'.out, htt.out]; simp
          clear hpars hpt' htt KW KQ hqv
          go_wp2
          go_roundw
          case rel => exact ⟨k + 1, (t ++ [59]) ++ pn, by omega, by go_num, by rw [← ByteArray.mk_append_mk, ← ByteArray.mk_append_mk], by simp; omega, htx, hgo2, hb1⟩
          case measure => simp [intOf]; omega
        | true =>
          cases hwb : wordB pv with
          | true =>
            rw [hwb] at KW hqv
            have htx : Hid ((((t ++ [59]) ++ pn) ++ [61]) ++ pv = parsA (ps.take (k + 1))) := show _ = _ by rw [hpars.out, hpt'.out, htt.out, hqv.out]; simp
            clear hpars hpt' htt KQ hqv hwb
            go_wp2_with fail
            refine (KW.out _).mono ?_
            rintro e w2 ⟨rfl, hw2⟩
            have hb2 := hb1.trans (hw2.mono hb1.size)
            clear c0 c1 c2 hw2 hb1 KW
            obtain ⟨c0, c1, c2⟩ := HCELL.out _ hb2
            go_wp2
            go_roundw
            case rel => exact ⟨k + 1, (((t ++ [59]) ++ pn) ++ [61]) ++ pv, by omega, by go_num, by rw [← ByteArray.mk_append_mk, ← ByteArray.mk_append_mk, ← ByteArray.mk_append_mk, ← ByteArray.mk_append_mk], by simp; omega, htx, hgo2, hb2⟩
            case measure => simp [intOf]; omega
          | false =>
            rw [hwb] at KW hqv
            have htx : Hid ((((t ++ [59]) ++ pn) ++ [61]) ++ (quoteV pv).1 = parsA (ps.take (k + 1))) := show _ = _ by rw [hpars.out, hpt'.out, htt.out, hqv.out]; simp
            clear hpars hpt' htt hwb
            have hql : Hid ((quoteV pv).1.length ≤ 2 * pv.length + 2) := by have h := hvl; rw [hqv.out, if_neg (by simp)] at h; exact h
            generalize quoteV pv = qv at KQ htx hql
            obtain ⟨qt, qn⟩ := qv
            simp only at KQ htx hql
            have hql2 := hql.out
            clear hql hqv
            go_wp2_with fail
            refine (KW.out _).mono ?_
            rintro e w2 ⟨rfl, hw2⟩
            have hb2 := hb1.trans (hw2.mono hb1.size)
            clear c0 c1 c2 hw2 hb1 KW
            obtain ⟨c0, c1, c2⟩ := HCELL.out _ hb2
            go_wp2_with fail
            refine (KQ.out _).mono ?_
            rintro e w3 ⟨rfl, hw3⟩
            have hb3 := hb2.trans (hw3.mono hb2.size)
            clear hw3 hb2 KQ
            go_wp2
            go_roundw
            case rel => exact ⟨k + 1, (((t ++ [59]) ++ pn) ++ [61]) ++ qt, by omega, by go_num, by rw [← ByteArray.mk_append_mk, ← ByteArray.mk_append_mk, ← ByteArray.mk_append_mk, ← ByteArray.mk_append_mk], by simp; omega, htx, hgo2, hb3⟩
            case measure => simp [intOf]; omega
    · have hv : Hid (textV ps = (t, 0)) := show _ = _ by
        have h := hgo.out
        have h2 := htt.out
        have e := HN.out
        rw [List.take_of_length_le (by omega)] at h h2
        rw [hgood.out h, h2]
      clear htt hgo
      go_wp2
      go_ret2
      exact ⟨ret_text hv.out, hb⟩
theorem rtext_long (a : Option Addr) (cap : Nat) (ps : List Par) (w : World) (h16 : ¬ ps.length ≤ 16) :
    Calls Tryz.prog 11 #[.slice a ps.length cap] w fun e w' => e = .returned (.tuple #[.string ⟨(textV ps).1.toArray⟩, .int .i64 (textV ps).2]) ∧ Below w.heap.size w w' := by
  have hv : Hid (textV ps = ([], 4)) := text_many (by omega)
  have h16' : (16 : Int) < (ps.length : Int) := by omega
  go_enter Tryz.func11, Tryz.ntmps11
  go_wp2
  go_ret2
  exact ⟨ret_text (x := []) hv.out, Below.refl _ _⟩
theorem rtext_nil (a : Option Addr) (cap : Nat) (w : World) :
    Calls Tryz.prog 11 #[.slice a 0 cap] w fun e w' => e = .returned (.tuple #[.string ⟨#[]⟩, .int .i64 0]) ∧ Below w.heap.size w w' := by
  go_enter Tryz.func11, Tryz.ntmps11
  go_wp2
  go_loop [4, 5] (fun x i => i = .int .i64 0 ∧ x = .string ⟨#[]⟩) (fun _ i => 0)
  case atStart => exact ⟨rfl, rfl⟩
  case round =>
    obtain ⟨rfl, rfl⟩ := hrel
    go_wp2
    go_ret2
    exact ⟨rfl, Below.refl _ _⟩
theorem rtext_any (v : Value) (ps : List Par) (w : World) (hsm : SmallP 1048576 ps) (h : ParsAt w v ps) (hcap : CapOk v) :
    Calls Tryz.prog 11 #[v] w fun e w' => e = .returned (.tuple #[.string ⟨(textV ps).1.toArray⟩, .int .i64 (textV ps).2]) ∧ Below w.heap.size w w' := by
  by_cases h16 : ps.length ≤ 16
  · rcases h with ⟨rfl, rfl⟩ | ⟨a, cap, rfl, hc⟩
    · exact rtext_nil none 0 w
    · exact rtext_row a cap ps w h16 hcap hsm hc
  · obtain ⟨a, cap, rfl⟩ := h.form
    exact rtext_long a cap ps w h16

end Go.Proofs.YtgboekilhldejaaGreatDoor
