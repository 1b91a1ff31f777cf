/-
  Base texts, one behind another: RX7, RX8.
-/
import Derived.Test.YtnijlmkodgdhlaaDoorYQ
import Derived.Test.YtnijlmkodgdhlaaDoorYL

/-
  The document's own layer 13: attributes that may be.
-/
namespace Go.Proofs.YtnijlmkodgdhlaaDoor
open Go.RowKit Sc
set_option linter.unusedVariables false
set_option maxRecDepth 20000
set_option linter.unusedSimpArgs false

theorem distinct_snoc (p : Par) : ∀ l : List Par, distinctX (l ++ [p]) = (distinctX l && l.all (fun q => !(q.name == p.name)))
  | [] => rfl
  | x :: l => by
    rw [List.cons_append, distinctX, distinct_snoc p l, distinctX, List.all_cons, List.all_append]
    have e : (p.name == x.name) = (x.name == p.name) := by rw [Bool.eq_iff_iff]; simp; exact eq_comm
    simp only [List.all_cons, List.all_nil, Bool.and_true, e]
    generalize (l.all fun q => !(q.name == x.name)) = a
    generalize (l.all fun q => !(q.name == p.name)) = b
    generalize distinctX l = c
    generalize (x.name == p.name) = d
    cases a <;> cases b <;> cases c <;> cases d <;> rfl
theorem distinct_front : ∀ a b : List Par, distinctX (a ++ b) = true → distinctX a = true
  | [], b, _ => rfl
  | x :: a, b, h => by
    rw [List.cons_append, distinctX, List.all_append, Bool.and_eq_true, Bool.and_eq_true] at h
    rw [distinctX, h.1.1, distinct_front a b h.2]; rfl
def attrOk (p : Par) : Bool := nameX p.name && (p.has && signsX p.value)
theorem attrsOk_is (l : List Par) (h : l.length ≤ 16) : attrsOk l = (l.all attrOk && distinctX l) := by
  unfold attrsOk; rw [decide_eq_true h]; rfl
theorem attrs_snoc {l : List Par} {j : Nat} (hj : j < l.length) (ha : ((l.take j).all attrOk && distinctX (l.take j)) = true) (h1 : attrOk l[j] = true) (h2 : (l.take j).all (fun q => !(q.name == l[j].name)) = true) : ((l.take (j + 1)).all attrOk && distinctX (l.take (j + 1))) = true := by
  rw [Bool.and_eq_true] at ha
  rw [List.take_succ_eq_append_getElem hj, distinct_snoc, List.all_append, ha.1, ha.2, h2]
  simp [h1]
theorem attrs_bad {l : List Par} {j : Nat} (hl : l.length ≤ 16) (hj : j < l.length) (h1 : attrOk l[j] = false) : attrsOk l = false := by
  rw [attrsOk_is l hl]
  have : l.all attrOk = false := by rw [List.all_eq_false]; exact ⟨l[j], List.getElem_mem hj, by simp [h1]⟩
  rw [this]; rfl
theorem attrs_twice {l : List Par} {j m : Nat} (hl : l.length ≤ 16) (hj : j < l.length) (hm : m < j) (h1 : (l[m].name == l[j].name) = true) : attrsOk l = false := by
  rw [attrsOk_is l hl]
  have : distinctX l = false := by
    cases hd : distinctX l with
    | false => rfl
    | true =>
      have e := List.take_append_drop (j + 1) l
      rw [← e] at hd
      have h3 := distinct_front _ _ hd
      rw [List.take_succ_eq_append_getElem hj, distinct_snoc, Bool.and_eq_true, List.all_eq_true] at h3
      have h4 := h3.2 l[m] (by rw [List.mem_take_iff_getElem]; exact ⟨m, by omega, rfl⟩)
      rw [h1] at h4; cases h4
  rw [this]; simp
theorem name_list (l : List UInt8) (w : World) (h : l.length ≤ 140737488355328) :
    Calls Tryd.prog 16 #[.string ⟨l.toArray⟩] w fun e w' => e = .returned (.bool (nameX l)) ∧ w' = w := rname_any ⟨l.toArray⟩ w (by rw [size_list]; exact h)
theorem signs_list (l : List UInt8) (w : World) (h : l.length ≤ 140737488355328) :
    Calls Tryd.prog 20 #[.string ⟨l.toArray⟩] w fun e w' => e = .returned (.bool (signsX l)) ∧ w' = w := rsigns_any ⟨l.toArray⟩ w (by rw [size_list]; exact h)
theorem ParsAt.open {w : World} {v : Value} {ps : List Par} (h : ParsAt w v ps) : ∃ ao cap, v = .slice ao ps.length cap ∧ ∀ k (hk : k < ps.length), ∃ a, ao = some a ∧ a.block < w.heap.size ∧ ParAt w a k ps[k] := by
  rcases h with ⟨rfl, rfl⟩ | ⟨a, cap, rfl, hc⟩
  · exact ⟨none, 0, rfl, fun k hk => by simp at hk⟩
  · exact ⟨some a, cap, rfl, fun k hk => ⟨a, rfl, (hc k hk).1, (hc k hk).2⟩⟩

set_option maxHeartbeats 4000000 in
set_option maxRecDepth 100000 in
theorem rattrs_any (v : Value) (ps : List Par) (w : World) (hsm : SmallP 140737488355328 ps) (hv : ParsAt w v ps) :
    Calls Tryd.prog 30 #[v] w fun e w' => e = .returned (.bool (attrsOk ps)) ∧ ∃ q, w' = w.drewN q := by
  obtain ⟨ao, cap, rfl, hc⟩ := hv.open
  have HC := hid hc
  have HS := hid hsm.2
  have hz := hsm.1
  clear hc hv hsm
  by_cases h16 : 16 < ps.length
  · have hR : Hid (attrsOk ps = false) := show _ = _ by unfold attrsOk; rw [decide_eq_false (by omega)]; rfl
    generalize attrsOk ps = R at hR ⊢
    obtain ⟨n, hn⟩ : ∃ n, n = ps.length := ⟨_, rfl⟩
    rw [← hn] at h16 hz ⊢
    clear HC HS hn
    go_enter Tryd.func30, Tryd.ntmps30
    go_wp2
    go_ret
    exact ⟨ret_bool hR.out.symm, 0, rfl⟩
  have hl : ps.length ≤ 16 := by omega
  have HB := hid (fun j (hj : j < ps.length) => attrs_bad hl hj)
  have HT := hid (fun j m (hj : j < ps.length) (hm : m < j) => attrs_twice hl hj hm)
  have HE : Hid (((ps.take ps.length).all attrOk && distinctX (ps.take ps.length)) = true → attrsOk ps = true) := fun h => by rw [attrsOk_is ps hl]; rw [List.take_length] at h; exact h
  have HN := hid (fun j (hj : j < ps.length) => @attrs_snoc ps j hj)
  generalize attrsOk ps = R at HB HT HE ⊢
  obtain ⟨n, hn⟩ : ∃ n, n = ps.length := ⟨_, rfl⟩
  rw [← hn] at hl hz HE h16 ⊢
  have HL := hid hn
  clear hn
  go_enter Tryd.func30, Tryd.ntmps30
  go_wp2
  go_loopw [3] (fun i wr => ∃ (j q : Nat), j ≤ n ∧ i = .int .i64 j ∧ wr = w.drewN q ∧ Hid (((ps.take j).all attrOk && distinctX (ps.take j)) = true)) (fun i _ => n - (intOf i).toNat)
  case atStart => exact ⟨0, 0, Nat.zero_le _, rfl, rfl, show _ = _ from rfl⟩
  case round =>
    obtain ⟨j, q, hjn, rfl, rfl, ha⟩ := hrel
    by_cases hlt : j < n
    · have hjl : j < ps.length := by have := HL.out; omega
      obtain ⟨ad, hao, hab, c0, c1, c2⟩ := HC.out j hjl
      subst hao
      obtain ⟨s1, s2⟩ := HS.out ps[j] (List.getElem_mem hjl)
      have KN := hid (fun w' => name_list ps[j].name w' s1)
      have KS := hid (fun w' => signs_list ps[j].value w' s2)
      have HB1 := hid (HB.out j hjl)
      have HT1 := hid (fun m hm => HT.out j m hjl hm)
      have HN1 := hid (HN.out j hjl ha.out)
      have hok : attrOk ps[j] = (nameX ps[j].name && (ps[j].has && signsX ps[j].value)) := rfl
      have q6 : (j : Int) < (n : Int) := by omega
      clear HB HT HN HE s1 s2 ha
      generalize hP : ps[j] = P at c0 c1 c2 KN KS HB1 HT1 HN1 hok
      obtain ⟨pn, pv, ph⟩ := P
      simp only at c0 c1 c2 KN KS HT1 HN1 hok
      cases hnm : nameX pn with
      | false =>
        rw [hnm] at KN
        have hR := hid (HB1.out (by rw [hok, hnm]; rfl))
        clear hok HB1 HT1 HN1 hP hnm HC HS
        go_wp2_with (go_at_call 16; refine (KN.out _).mono ?_; rintro e w' ⟨rfl, rfl⟩)
        go_ret
        exact ⟨ret_bool hR.out.symm, q, rfl⟩
      | true =>
        rw [hnm] at KN
        cases ph with
        | false =>
          have hR := hid (HB1.out (by rw [hok]; simp))
          clear hok HB1 HT1 HN1 hP hnm HC HS
          go_wp2_with (go_at_call 16; refine (KN.out _).mono ?_; rintro e w' ⟨rfl, rfl⟩)
          go_ret
          exact ⟨ret_bool hR.out.symm, q, rfl⟩
        | true =>
          cases hsg : signsX pv with
          | false =>
            rw [hsg] at KS
            have hR := hid (HB1.out (by rw [hok, hsg]; simp))
            clear hok HB1 HT1 HN1 hP hnm hsg HC HS
            go_wp2_with first | (go_at_call 16; refine (KN.out _).mono ?_; rintro e w' ⟨rfl, rfl⟩) | (go_at_call 20; refine (KS.out _).mono ?_; rintro e w' ⟨rfl, rfl⟩)
            go_ret
            exact ⟨ret_bool hR.out.symm, q, rfl⟩
          | true =>
            rw [hsg] at KS
            have HN2 := hid (HN1.out (by rw [hok, hnm, hsg]; rfl))
            clear hok HB1 HN1 hnm hsg
            go_wp2_with first | (go_at_call 16; refine (KN.out _).mono ?_; rintro e w' ⟨rfl, rfl⟩) | (go_at_call 20; refine (KS.out _).mono ?_; rintro e w' ⟨rfl, rfl⟩)
            clear KN KS
            go_loopw [4] (fun i wr => ∃ (m q : Nat), m ≤ j ∧ i = .int .i64 m ∧ wr = w.drewN q ∧ Hid ((ps.take m).all (fun q => !(q.name == pn)) = true)) (fun i _ => j - (intOf i).toNat)
            case atStart => exact ⟨0, q, Nat.zero_le _, rfl, rfl, show _ = _ from rfl⟩
            case round =>
              obtain ⟨m, q2, hmj, rfl, rfl, hall⟩ := hrel
              by_cases hml : m < j
              · have hmn : m < ps.length := by omega
                obtain ⟨ad2, hao2, hab2, d0, d1, d2⟩ := HC.out m hmn
                have ead : ad2 = ad := (Option.some.inj hao2).symm
                subst ead
                have HT2 := hid (HT1.out m hml)
                have hsn : Hid ((ps[m].name == pn) = false → (ps.take (m + 1)).all (fun q => !(q.name == pn)) = true) := fun h => by rw [List.take_succ_eq_append_getElem hmn, List.all_append, hall.out]; simp [h]
                have q7 : (m : Int) < (j : Int) := by omega
                have q8 : (m : Int) < (n : Int) := by omega
                clear HT1 HN2 hall HC HS hao2
                generalize ps[m] = M at d0 d1 d2 HT2 hsn
                obtain ⟨mn, mv, mh⟩ := M
                simp only at d0 d1 d2 HT2 hsn
                cases hcmp : (mn == pn) with
                | true =>
                  have hR := hid (HT2.out hcmp)
                  clear HT2 hsn hP
                  go_wp2
                  go_quiet (fail)
                  go_wp2
                  go_ret
                  exact ⟨ret_bool hR.out.symm, q2 + nq, by first | rfl | simp⟩
                | false =>
                  have hall2 := hid (hsn.out hcmp)
                  clear HT2 hsn hP
                  go_wp2
                  go_quiet (fail)
                  go_wp2
                  go_roundw
                  case rel => exact ⟨m + 1, q2 + nq, by omega, by go_num, rfl, hall2⟩
                  case measure => simp [intOf]; omega
              · have hmj2 : m = j := by omega
                subst hmj2
                have ha2 := hid (HN2.out (by have := hall.out; simpa [hP] using this))
                clear HT1 HN2 hall HC HS hP
                go_wp2
                go_roundw
                case rel => exact ⟨m + 1, q2, by omega, by go_num, rfl, ha2⟩
                case measure => simp [intOf]; omega
    · have hR := hid (HE.out (by have h := ha.out; rw [show j = n by omega] at h; exact h))
      clear HB HT HN HE ha HC HS
      go_wp2
      go_ret
      exact ⟨ret_bool hR.out.symm, q, rfl⟩
end Go.Proofs.YtnijlmkodgdhlaaDoor

/-
  The document's own layer 13: Same.
-/
namespace Go.Proofs.YtnijlmkodgdhlaaDoor
open Go.RowKit Sc
set_option linter.unusedVariables false
set_option maxRecDepth 20000
set_option linter.unusedSimpArgs false

theorem cellD {w W : World} {q : Nat} {a : Addr} {v : Value} (hW : W = w.drewN q) (h : w.cell? a = some v) : W.cell? a = some v := by subst hW; exact h
theorem nds_ne {cs ds : List NdC} {k : Nat} (h1 : k < cs.length) (h2 : k < ds.length) (h : cs[k].nd ≠ ds[k].nd) : ndsL cs ≠ ndsL ds := fun e => by
  apply h
  have := congrArg (fun l => l[k]?) e
  simpa [ndsL, h1, h2] using this
theorem nds_eq {cs ds : List NdC} (hl : cs.length = ds.length) (h : ∀ k (h1 : k < cs.length) (h2 : k < ds.length), cs[k].nd = ds[k].nd) : ndsL cs = ndsL ds := by
  apply List.ext_getElem
  · simp [ndsL, hl]
  · intro k h1 h2
    simp only [ndsL, List.getElem_map]
    exact h k (by simpa [ndsL] using h1) (by simpa [ndsL] using h2)

set_option maxHeartbeats 4000000 in
set_option maxRecDepth 100000 in
theorem rsame13_any (v u : Value) (cs ds : List NdC) (w : World) (hz : cs.length ≤ 140737488355328) (hz2 : ds.length ≤ 140737488355328) (hp : ∀ c ∈ cs, c.nd.attrs.length ≤ 140737488355328) (hv : NdsAt w v cs) (hu : NdsAt w u ds) :
    Calls Tryd.prog 19 #[v, u] w fun e w' => e = .returned (.bool (decide (ndsL cs = ndsL ds))) ∧ ∃ q, w' = w.drewN q := by
  obtain ⟨ao, cap, rfl, hc⟩ := hv
  obtain ⟨bo, cap2, rfl, hd⟩ := hu
  have HC := hid hc
  have HD := hid hd
  have HP := hid hp
  clear hc hd hp
  by_cases hlen : cs.length = ds.length
  · have HNE := hid (fun k h1 h2 => @nds_ne cs ds k h1 h2)
    have HEQ := hid (@nds_eq cs ds hlen)
    have hne : ((cs.length : Int) != (ds.length : Int)) = false := by rw [bne, hlen]; simp
    generalize hR : decide (ndsL cs = ndsL ds) = R
    have HF : Hid (ndsL cs ≠ ndsL ds → R = false) := fun h => by rw [← hR]; exact decide_eq_false h
    have HT : Hid (ndsL cs = ndsL ds → R = true) := fun h => by rw [← hR]; exact decide_eq_true h
    clear hR
    obtain ⟨n, hn⟩ : ∃ n, n = cs.length := ⟨_, rfl⟩
    obtain ⟨n2, hn2⟩ : ∃ n, n = ds.length := ⟨_, rfl⟩
    rw [← hn] at hne hz ⊢
    rw [← hn2] at hne hz2 ⊢
    have HL := hid (And.intro hn hn2)
    have e12 : (n2 : Int) = (n : Int) := by omega
    clear hlen hn hn2
    go_enter Tryd.func19, Tryd.ntmps19
    go_wp2
    go_loopw [5] (fun i wr => ∃ (j q : Nat), j ≤ n ∧ i = .int .i64 j ∧ wr = w.drewN q ∧ Hid (∀ k (h1 : k < cs.length) (h2 : k < ds.length), k < j → cs[k].nd = ds[k].nd)) (fun i _ => n - (intOf i).toNat)
    case atStart => exact ⟨0, 0, Nat.zero_le _, rfl, rfl, fun k _ _ h => absurd h (by omega)⟩
    case round =>
      obtain ⟨j, q, hjn, rfl, rfl, ha⟩ := hrel
      by_cases hlt : j < n
      · have hj1 : j < cs.length := by have := HL.out.1; omega
        have hj2 : j < ds.length := by have := HL.out.2; omega
        obtain ⟨ad, hao, hab, ⟨c0, c1, c2, c3⟩, pa⟩ := HC.out j hj1
        obtain ⟨bd, hbo, hbb, ⟨d0, d1, d2, d3⟩, pb⟩ := HD.out j hj2
        subst hao hbo
        have hpl := HP.out _ (List.getElem_mem hj1)
        have KL := hid (fun W (hW : Below w.heap.size w W) => lists_any cs[j].a ds[j].a cs[j].nd.attrs ds[j].nd.attrs W hpl (pa.below hW) (pb.below hW))
        have HNE1 := hid (HNE.out j hj1 hj2)
        have HA : Hid (cs[j].nd = ds[j].nd → ∀ k (h1 : k < cs.length) (h2 : k < ds.length), k < j + 1 → cs[k].nd = ds[k].nd) := fun he k h1 h2 hk => by
          by_cases hkj : k < j
          · exact ha.out k h1 h2 hkj
          · have : k = j := by omega
            subst this; exact he
        have q6 : (j : Int) < (n : Int) := by omega
        have q7 : (j : Int) < (n2 : Int) := by omega
        obtain ⟨W, hW⟩ : ∃ W, W = w.drewN q := ⟨_, rfl⟩
        replace c0 := cellD hW c0
        replace c1 := cellD hW c1
        replace c2 := cellD hW c2
        replace c3 := cellD hW c3
        replace d0 := cellD hW d0
        replace d1 := cellD hW d1
        replace d2 := cellD hW d2
        replace d3 := cellD hW d3
        have hBW : Hid (∀ m, Below w.heap.size w (W.drewN m)) := fun m => by rw [hW]; exact ⟨rfl, rfl, rfl, Nat.le_refl _, fun _ _ => rfl⟩
        have hEW : Hid (∀ m, ∃ q', W.drewN m = w.drewN q') := fun m => ⟨q + m, by rw [hW, World.drewN_drewN]⟩
        rw [← hW]
        clear hW
        clear HC HD HP HNE HEQ HT ha pa pb hpl
        generalize cs[j] = c at c0 c1 c2 c3 KL HNE1 HA
        generalize ds[j] = d at d0 d1 d2 d3 KL HNE1 HA
        obtain ⟨⟨cd, cn, ca, ct⟩, cv⟩ := c
        obtain ⟨⟨dd, dn, da, dt⟩, dv⟩ := d
        simp only at c0 c1 c2 c3 d0 d1 d2 d3 KL HNE1 HA
        have hdec : (Nd.mk cd cn ca ct = Nd.mk dd dn da dt) ↔ (cd = dd ∧ cn = dn ∧ ca = da ∧ ct = dt) := by simp
        by_cases e1 : cd = dd
        · have r1 : (cd != dd) = false := by simp [e1]
          by_cases e2 : cn = dn
          · have r2 : (cn == dn) = true := by simp [e2]
            have r2n : (cn != dn) = false := by simp [e2]
            by_cases e3 : ct = dt
            · have r3 : (ct == dt) = true := by simp [e3]
              have r3n : (ct != dt) = false := by simp [e3]
              by_cases e4 : ca = da
              · have HA2 := hid (HA.out (hdec.2 ⟨e1, e2, e4, e3⟩))
                have KL2 : Hid (∀ m, Calls Tryd.prog 41 #[cv, dv] (W.drewN m) fun e w' => e = .returned (.bool true) ∧ ∃ m', w' = (W.drewN m).drewN m') := fun m => by have := KL.out _ (hBW.out m); rw [decide_eq_true e4] at this; exact this
                clear KL HA HNE1 hdec HF e1 e2 e3 e4
                go_wp2
                go_quiet (first | (go_at_call 41; exact Calls.quiet_of (KL2.out _)))
                go_wp2
                go_roundw
                case rel => obtain ⟨q', hq'⟩ := hEW.out nq; exact ⟨j + 1, q', by omega, by go_num, hq', HA2⟩
                case measure => simp [intOf]; omega
              · have hR := hid (HF.out (HNE1.out fun e => e4 (hdec.1 e).2.2.1))
                have KL2 : Hid (∀ m, Calls Tryd.prog 41 #[cv, dv] (W.drewN m) fun e w' => e = .returned (.bool false) ∧ ∃ m', w' = (W.drewN m).drewN m') := fun m => by have := KL.out _ (hBW.out m); rw [decide_eq_false e4] at this; exact this
                clear KL HA HNE1 hdec HF e1 e2 e3 e4
                go_wp2
                go_quiet (first | (go_at_call 41; exact Calls.quiet_of (KL2.out _)))
                go_wp2
                go_ret
                exact ⟨ret_bool hR.out.symm, hEW.out _⟩
            · have r3 : (ct == dt) = false := by simp [e3]
              have r3n : (ct != dt) = true := by simp [e3]
              have hR := hid (HF.out (HNE1.out fun e => e3 (hdec.1 e).2.2.2))
              clear KL HA HNE1 hdec HF e1 e2 e3
              go_wp2
              go_quiet (fail)
              go_wp2
              go_ret
              exact ⟨ret_bool hR.out.symm, hEW.out _⟩
          · have r2 : (cn == dn) = false := by simp [e2]
            have r2n : (cn != dn) = true := by simp [e2]
            have hR := hid (HF.out (HNE1.out fun e => e2 (hdec.1 e).2.1))
            clear KL HA HNE1 hdec HF e1 e2
            go_wp2
            go_quiet (fail)
            go_wp2
            go_ret
            exact ⟨ret_bool hR.out.symm, hEW.out _⟩
        · have r1 : (cd != dd) = true := by simp [e1]
          have hR := hid (HF.out (HNE1.out fun e => e1 (hdec.1 e).1))
          clear KL HA HNE1 hdec HF e1
          go_wp2
          go_quiet (fail)
          go_wp2
          go_ret
          exact ⟨ret_bool hR.out.symm, hEW.out _⟩
      · have hR := hid (HT.out (HEQ.out fun k h1 h2 => ha.out k h1 h2 (by have := HL.out.1; omega)))
        clear HC HD HP HNE HEQ HT HF ha
        go_wp2
        go_ret
        exact ⟨ret_bool hR.out.symm, q, rfl⟩
  · have hR : Hid (decide (ndsL cs = ndsL ds) = false) := show _ = _ from decide_eq_false fun e => hlen (by have := congrArg List.length e; simpa [ndsL] using this)
    have hne : ((cs.length : Int) != (ds.length : Int)) = true := by simp; omega
    generalize decide (ndsL cs = ndsL ds) = R at hR ⊢
    obtain ⟨n, hn⟩ : ∃ n, n = cs.length := ⟨_, rfl⟩
    obtain ⟨n2, hn2⟩ : ∃ n, n = ds.length := ⟨_, rfl⟩
    rw [← hn] at hne hz ⊢
    rw [← hn2] at hne hz2 ⊢
    clear HC HD HP hlen hn hn2
    go_enter Tryd.func19, Tryd.ntmps19
    go_wp2
    go_ret
    exact ⟨ret_bool hR.out.symm, 0, rfl⟩
end Go.Proofs.YtnijlmkodgdhlaaDoor
