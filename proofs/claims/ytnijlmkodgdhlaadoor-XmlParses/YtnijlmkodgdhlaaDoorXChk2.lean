/-
  Contracts: package xml's attrsMayBe and placed.
-/
import Derived.Test.YtnijlmkodgdhlaaDoorXChk
namespace Go.Proofs.YtnijlmkodgdhlaaDoor
open Go.RowKit Sc
set_option linter.unusedVariables false
set_option maxRecDepth 20000
set_option linter.unusedSimpArgs false

set_option maxHeartbeats 4000000 in
set_option maxRecDepth 100000 in
theorem xattrs_any (v : Value) (ps : List Par) (w : World) (hsm : SmallP 140737488355328 ps) (hv : ParsAt w v ps) :
    Calls Tryd.prog 28 #[v] w fun e w' => e = .returned (.bool (attrsOk ps)) ∧ Below w.heap.size w w' := by
  have HV := hid hv
  obtain ⟨ao, cap, rfl, hc⟩ := hv.open
  have HC := hid hc
  have HS := hid hsm.2
  have hz := hsm.1
  clear hc hv hsm
  by_cases h16 : 16 < ps.length
  · have hR : Hid (attrsOk ps = false) := show _ = _ by unfold attrsOk; rw [decide_eq_false (by omega)]; rfl
    generalize attrsOk ps = R at hR ⊢
    obtain ⟨n, hn⟩ : ∃ n, n = ps.length := ⟨_, rfl⟩
    rw [← hn] at h16 hz ⊢
    have r16 : (16 : Int) < (n : Int) := by omega
    clear HC HS hn HV
    go_enter Tryd.func28, Tryd.ntmps28
    go_wp2
    go_ret
    exact ⟨ret_bool hR.out.symm, Below.refl _ _⟩
  have hl : ps.length ≤ 16 := by omega
  have HB := hid (fun j (hj : j < ps.length) => attrs_bad hl hj)
  have HT := hid (fun j m (hj : j < ps.length) (hm : m < j) => attrs_twice hl hj hm)
  have HE : Hid (((ps.take ps.length).all attrOk && distinctX (ps.take ps.length)) = true → attrsOk ps = true) := fun h => by rw [attrsOk_is ps hl]; rw [List.take_length] at h; exact h
  have HN := hid (fun j (hj : j < ps.length) => @attrs_snoc ps j hj)
  generalize attrsOk ps = R at HB HT HE ⊢
  obtain ⟨n, hn⟩ : ∃ n, n = ps.length := ⟨_, rfl⟩
  have KF := hid (fun nm w' (h' : ParsAt w' (.slice ao ps.length cap) ps) => xfind_any (.slice ao ps.length cap) ps nm w' (by omega) h')
  rw [← hn] at hl hz HE h16 HV KF ⊢
  have r16 : ¬ (16 : Int) < (n : Int) := by omega
  have HL := hid hn
  clear hn
  go_enter Tryd.func28, Tryd.ntmps28
  go_wp2
  go_loopw [10] (fun i wr => ∃ (j : Nat), j ≤ n ∧ i = .int .i64 j ∧ Below w.heap.size w wr ∧ Hid (((ps.take j).all attrOk && distinctX (ps.take j)) = true)) (fun i _ => n - (intOf i).toNat)
  case atStart => exact ⟨0, Nat.zero_le _, rfl, Below.refl _ _, show _ = _ from rfl⟩
  case round =>
    obtain ⟨j, hjn, rfl, hb, ha⟩ := hrel
    by_cases hlt : j < n
    · have hjl : j < ps.length := by have := HL.out; omega
      obtain ⟨ad, hao, hab, c0, c1, c2⟩ := HC.out j hjl
      subst hao
      obtain ⟨s1, s2⟩ := HS.out ps[j] (List.getElem_mem hjl)
      have a0 := cell_below hb (by rw [add_block]; exact hab) c0
      have a1 := cell_below hb (by simp only [add_block]; exact hab) c1
      have a2 := cell_below hb (by simp only [add_block]; exact hab) c2
      have KN := hid (fun w' => xname_list ps[j].name w' s1)
      have KS := hid (fun w' => xsigns_list ps[j].value w' s2)
      have HB1 := hid (HB.out j hjl)
      have HO := hid (find_own hjl 0 (Nat.zero_le _))
      have HT1 := hid (fun m hm => HT.out j m hjl hm)
      have HN1 := hid (HN.out j hjl ha.out)
      have hok : attrOk ps[j] = (nameX ps[j].name && (ps[j].has && signsX ps[j].value)) := rfl
      have q6 : (j : Int) < (n : Int) := by omega
      have hrow := rc_row3 wr (.string ⟨ps[j].name.toArray⟩) (.string ⟨ps[j].value.toArray⟩) (.bool ps[j].has) 45
      have hbn : Below w.heap.size w (wr.alloc (.cells #[.string ⟨ps[j].name.toArray⟩, .string ⟨ps[j].value.toArray⟩, .bool ps[j].has] 45)) := hb.alloc hb.size _
      have hltn := alloc_lt wr (.cells #[.string ⟨ps[j].name.toArray⟩, .string ⟨ps[j].value.toArray⟩, .bool ps[j].has] 45)
      have KFj := hid (KF.out ps[j].name)
      clear HB HT HN s1 s2 ha c0 c1 c2
      generalize hP : ps[j] = P at a0 a1 a2 KN KS HB1 HT1 HN1 hok hrow hbn hltn HO KFj
      obtain ⟨pn, pv, ph⟩ := P
      simp only at a0 a1 a2 KN KS HT1 HN1 hok hrow hbn hltn HO KFj
      rw [List.drop_zero] at HO
      cases hnm : nameX pn with
      | false =>
        rw [hnm] at KN
        have hR := hid (HB1.out (by rw [hok, hnm]; rfl))
        clear hok HB1 HT1 HN1 hP hnm HC HS HO
        go_wp2_with (go_at_call 15; refine (KN.out _).mono ?_; rintro e w' ⟨rfl, rfl⟩)
        go_ret
        exact ⟨ret_bool hR.out.symm, hbn⟩
      | true =>
        rw [hnm] at KN
        by_cases hf : findX pn ps 0 = (j : Int)
        · have hdis := HO.out.1 hf
          rw [hf] at KFj
          have HD : Hid ((ps.take j).all (fun q => !(q.name == pn)) = true) := show _ = _ by
            rw [List.all_eq_true]
            intro q hq
            obtain ⟨m, hm, rfl⟩ := List.mem_take_iff_getElem.1 hq
            have := hdis m (by omega) (Nat.zero_le _)
            rw [Bool.not_eq_true', beq_eq_false_iff_ne]; exact this
          have q7 : ((j : Int) == (j : Int)) = true := by simp
          have q7n : ((j : Int) != (j : Int)) = false := by simp
          cases ph with
          | false =>
            have hR := hid (HB1.out (by rw [hok, hnm]; rfl))
            clear hok HB1 HT1 HN1 hP hnm HC HS HO hf hdis
            go_wp2_with (go_at_call 15; refine (KN.out _).mono ?_; rintro e w' ⟨rfl, rfl⟩)
            generalize World.alloc _ _ = W0 at hrow hbn hltn ⊢
            refine (KFj.out _ (HV.out.below (by simpa using hbn))).mono ?_
            rintro e w2 ⟨rfl, hw2⟩
            obtain ⟨d0, d1, d2, _, _, _⟩ := (hrow.below hw2 hltn).rc3
            go_wp2
            go_ret
            exact ⟨ret_bool hR.out.symm, hbn.trans (hw2.mono hbn.size)⟩
          | true =>
            cases hsg : signsX pv with
            | false =>
              rw [hsg] at KS
              have hR := hid (HB1.out (by rw [hok, hnm, hsg]; rfl))
              clear hok HB1 HT1 HN1 hP hnm HC HS HO hf hdis hsg
              go_wp2_with (go_at_call 15; refine (KN.out _).mono ?_; rintro e w' ⟨rfl, rfl⟩)
              generalize World.alloc _ _ = W0 at hrow hbn hltn ⊢
              refine (KFj.out _ (HV.out.below (by simpa using hbn))).mono ?_
              rintro e w2 ⟨rfl, hw2⟩
              obtain ⟨d0, d1, d2, _, _, _⟩ := (hrow.below hw2 hltn).rc3
              go_wp2_with (go_at_call 48; refine (KS.out _).mono ?_; rintro e w' ⟨rfl, hw'⟩; rw [hw']; clear hw' w')
              go_ret
              exact ⟨ret_bool hR.out.symm, hbn.trans (hw2.mono hbn.size)⟩
            | true =>
              rw [hsg] at KS
              have hN := hid (HN1.out (by rw [hok, hnm, hsg]; rfl) HD.out)
              clear hok HB1 HT1 HN1 hP hnm HC HS HO hf hdis hsg
              go_wp2_with (go_at_call 15; refine (KN.out _).mono ?_; rintro e w' ⟨rfl, rfl⟩)
              generalize World.alloc _ _ = W0 at hrow hbn hltn ⊢
              refine (KFj.out _ (HV.out.below (by simpa using hbn))).mono ?_
              rintro e w2 ⟨rfl, hw2⟩
              obtain ⟨d0, d1, d2, _, _, _⟩ := (hrow.below hw2 hltn).rc3
              go_wp2_with (go_at_call 48; refine (KS.out _).mono ?_; rintro e w' ⟨rfl, hw'⟩; rw [hw']; clear hw' w')
              go_roundw
              case rel => exact ⟨j + 1, by omega, by go_num, hbn.trans (hw2.mono hbn.size), hN⟩
              case measure => simp [intOf]; omega
        · have hR : Hid (R = false) := by
            have hx : ¬ ∀ m (hm : m < j), 0 ≤ m → (ps[m]'(by omega)).name ≠ pn := fun hh => hf (HO.out.2 hh)
            have hy : ∃ m, ∃ hm : m < j, (ps[m]'(by omega)).name = pn := Classical.byContradiction fun hh => hx fun m hm _ e => hh ⟨m, hm, e⟩
            obtain ⟨m, hm, he⟩ := hy
            exact HT1.out m hm (by rw [beq_iff_eq]; exact he)
          generalize findX pn ps 0 = F at KFj hf
          have q7 : (F == (j : Int)) = false := by rw [beq_eq_false_iff_ne]; exact hf
          have q7n : (F != (j : Int)) = true := by rw [bne, q7]; rfl
          clear hok HB1 HT1 HN1 hP hnm HC HS HO hf
          go_wp2_with (go_at_call 15; refine (KN.out _).mono ?_; rintro e w' ⟨rfl, rfl⟩)
          generalize World.alloc _ _ = W0 at hrow hbn hltn ⊢
          refine (KFj.out _ (HV.out.below (by simpa using hbn))).mono ?_
          rintro e w2 ⟨rfl, hw2⟩
          go_wp2
          go_ret
          exact ⟨ret_bool hR.out.symm, hbn.trans (hw2.mono hbn.size)⟩
    · have hE : Hid (R = true) := HE.out (by
        have := ha.out
        have e : j = n := by omega
        rw [e] at this
        exact this)
      clear ha
      go_wp2
      go_ret
      exact ⟨ret_bool hE.out.symm, hb⟩
/-- May an element stand behind another one? -/
def placedB (x y : Nd) : Bool := !(decide (x.deep < y.deep) && !x.text.isEmpty) && (decide (1 ≤ y.deep) && (decide (y.deep ≤ x.deep + 1) && decide (y.deep < 8)))
set_option maxHeartbeats 2000000 in
set_option maxRecDepth 100000 in
theorem xplaced_first (ad : Addr) (n cap : Nat) (c : NdC) (w : World) (h0 : 0 < n) (hc : NdAt w ad 0 c) :
    Calls Tryd.prog 27 #[.slice (some ad) n cap, .int .i64 0] w fun e w' => e = .returned (.bool (c.nd.deep == 0)) ∧ Below w.heap.size w w' := by
  have c0 := hc.c0
  rw [Nat.zero_mul] at c0
  have ez : ad.add 0 = ad := by cases ad; unfold Addr.add; split <;> simp_all
  have c1 := c0
  rw [ez] at c1
  have q : (0 : Int) < (n : Int) := by omega
  go_enter Tryd.func27, Tryd.ntmps27
  go_wp2
  go_ret
  exact ⟨rfl, Below.refl _ _⟩
set_option maxHeartbeats 4000000 in
set_option maxRecDepth 100000 in
theorem xplaced_next (ad : Addr) (n cap i : Nat) (x y : NdC) (w : World) (hn : n ≤ 1000000) (hi : i + 1 < n) (hx : NdAt w ad i x) (hy : NdAt w ad (i + 1) y) (hxf : ∃ po pn pc, x.a = .slice po pn pc) (hd : x.nd.deep < 8) (hd0 : -9223372036854775808 ≤ x.nd.deep) :
    Calls Tryd.prog 27 #[.slice (some ad) n cap, .int .i64 ((i + 1 : Nat) : Int)] w fun e w' => e = .returned (.bool (placedB x.nd y.nd)) ∧ Below w.heap.size w w' := by
  obtain ⟨c0, c1, c2, c3⟩ := hx
  obtain ⟨d0, d1, d2, d3⟩ := hy
  obtain ⟨⟨xd, xn, xps, xt⟩, xa⟩ := x
  obtain ⟨⟨yd, yn, yps, yt⟩, ya⟩ := y
  simp only at c0 c1 c2 c3 d0 d1 d2 d3 hxf hd hd0 ⊢
  obtain ⟨po, pn, pc, rfl⟩ := hxf
  have hP : placedB ⟨xd, xn, xps, xt⟩ ⟨yd, yn, yps, yt⟩ = (!(decide (xd < yd) && !xt.isEmpty) && (decide (1 ≤ yd) && (decide (yd ≤ xd + 1) && decide (yd < 8)))) := rfl
  generalize placedB ⟨xd, xn, xps, xt⟩ ⟨yd, yn, yps, yt⟩ = R at hP ⊢
  have q : ((i + 1 : Nat) : Int) < (n : Int) := by omega
  have qz : (((i + 1 : Nat) : Int) == 0) = false := by rw [beq_eq_false_iff_ne]; omega
  have hw1 : IntKind.i64.wrap (((i + 1 : Nat) : Int) - 1) = (i : Int) := by rw [IntKind.wrap_i64]; omega
  have q2 : (i : Int) < (n : Int) := by omega
  have hw2 : IntKind.i64.wrap (xd + 1) = xd + 1 := by rw [IntKind.wrap_i64]; omega
  have hb : Below w.heap.size w (w.alloc (.cells #[.int .i64 xd, .string ⟨xn.toArray⟩, .slice po pn pc, .string ⟨xt.toArray⟩] 48)) := (Below.refl _ w).alloc (Nat.le_refl _) _
  generalize hI : ((i + 1 : Nat) : Int) = I at q qz hw1 ⊢
  have hIn : I.toNat = i + 1 := by omega
  have hI0 : 0 ≤ I := by omega
  clear hI
  have fin : ∀ (b1 b2 b3 : Bool), decide (1 ≤ yd) = b1 → decide (yd ≤ xd + 1) = b2 → decide (yd < 8) = b3 → R = (!(decide (xd < yd) && !xt.isEmpty) && (b1 && (b2 && b3))) := fun b1 b2 b3 e1 e2 e3 => by rw [hP, e1, e2, e3]
  have HF := hid fin
  clear hP fin
  by_cases hA : xd < yd
  · have hAd : decide (xd < yd) = true := decide_eq_true hA
    cases hte : xt.isEmpty with
    | false =>
      have HR : Hid (R = false) := show _ = _ by rw [HF.out _ _ _ rfl rfl rfl, hAd, hte]; rfl
      clear HF
      go_enter Tryd.func27, Tryd.ntmps27
      go_wp2
      go_ret
      exact ⟨ret_bool HR.out.symm, hb⟩
    | true =>
      have HF2 : Hid (R = (decide (1 ≤ yd) && (decide (yd ≤ xd + 1) && decide (yd < 8)))) := show _ = _ by rw [HF.out _ _ _ rfl rfl rfl, hAd, hte]; rfl
      clear HF
      by_cases h1 : 1 ≤ yd
      · by_cases h2 : yd ≤ xd + 1
        · by_cases h3 : yd < 8
          · have HR : Hid (R = true) := show _ = _ by rw [HF2.out, decide_eq_true h1, decide_eq_true h2, decide_eq_true h3]; rfl
            clear HF2
            go_enter Tryd.func27, Tryd.ntmps27
            go_wp2
            go_ret
            exact ⟨ret_bool (by first | (rw [HR.out]; done) | (rw [HR.out]; simp [*]; done) | (rw [HR.out]; simp [*]; omega)), hb⟩
          · have HR : Hid (R = false) := show _ = _ by rw [HF2.out, decide_eq_false h3]; simp
            clear HF2
            go_enter Tryd.func27, Tryd.ntmps27
            go_wp2
            go_ret
            exact ⟨ret_bool (by first | (rw [HR.out]; done) | (rw [HR.out]; simp [*]; done) | (rw [HR.out]; simp [*]; omega)), hb⟩
        · have HR : Hid (R = false) := show _ = _ by rw [HF2.out, decide_eq_false h2]; simp
          clear HF2
          go_enter Tryd.func27, Tryd.ntmps27
          go_wp2
          go_ret
          exact ⟨ret_bool (by first | (rw [HR.out]; done) | (rw [HR.out]; simp [*]; done) | (rw [HR.out]; simp [*]; omega)), hb⟩
      · have HR : Hid (R = false) := show _ = _ by rw [HF2.out, decide_eq_false h1]; simp
        clear HF2
        go_enter Tryd.func27, Tryd.ntmps27
        go_wp2
        go_ret
        exact ⟨ret_bool (by first | (rw [HR.out]; done) | (rw [HR.out]; simp [*]; done) | (rw [HR.out]; simp [*]; omega)), hb⟩
  · have hAd : decide (xd < yd) = false := decide_eq_false hA
    have HF2 : Hid (R = (decide (1 ≤ yd) && (decide (yd ≤ xd + 1) && decide (yd < 8)))) := show _ = _ by rw [HF.out _ _ _ rfl rfl rfl, hAd]; rfl
    clear HF
    by_cases h1 : 1 ≤ yd
    · have h2 : yd ≤ xd + 1 := by omega
      have h3 : yd < 8 := by omega
      have HR : Hid (R = true) := show _ = _ by rw [HF2.out, decide_eq_true h1, decide_eq_true h2, decide_eq_true h3]; rfl
      clear HF2
      go_enter Tryd.func27, Tryd.ntmps27
      go_wp2
      go_ret
      exact ⟨ret_bool (by first | (rw [HR.out]; done) | (rw [HR.out]; simp [*]; done) | (rw [HR.out]; simp [*]; omega)), hb⟩
    · have HR : Hid (R = false) := show _ = _ by rw [HF2.out, decide_eq_false h1]; simp
      clear HF2
      go_enter Tryd.func27, Tryd.ntmps27
      go_wp2
      go_ret
      exact ⟨ret_bool (by first | (rw [HR.out]; done) | (rw [HR.out]; simp [*]; done) | (rw [HR.out]; simp [*]; omega)), hb⟩
end Go.Proofs.YtnijlmkodgdhlaaDoor
