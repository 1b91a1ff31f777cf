/-
  Base texts, one behind another: XChk3, XCatch.
-/
import Derived.Test.YtnijlmkodgdhlaaDoorXChk2
import Derived.Test.YtnijlmkodgdhlaaDoorXElem
import Derived.Defers
import Derived.Recover
import Derived.Laws.Pointers

/-
  Contracts: package xml's Check.
-/
namespace Go.Proofs.YtnijlmkodgdhlaaDoor
open Go.RowKit Sc
set_option linter.unusedVariables false
set_option maxRecDepth 20000
set_option linter.unusedSimpArgs false

/-- What a round of Check asks of the element at place m. -/
def okK (cs : List NdC) (m : Nat) (h : m < cs.length) : Prop := (m = 0 → cs[m].nd.deep = 0) ∧ (∀ h2 : 0 < m, placedB (cs[m - 1]'(by omega)).nd cs[m].nd = true) ∧ nodeOk cs[m].nd = true
theorem placedB_iff (x y : Nd) : placedB x y = true ↔ (x.deep < y.deep → x.text = []) ∧ 1 ≤ y.deep ∧ y.deep ≤ x.deep + 1 ∧ y.deep < 8 := by
  unfold placedB
  simp only [Bool.and_eq_true, Bool.not_eq_true', Bool.and_eq_false_iff, decide_eq_true_eq, decide_eq_false_iff_not, Bool.not_eq_false', List.isEmpty_iff]
  constructor
  · rintro ⟨h1, h2, h3, h4⟩
    exact ⟨fun h => h1.resolve_left (fun k => k h), h2, h3, h4⟩
  · rintro ⟨h1, h2, h3, h4⟩
    refine ⟨?_, h2, h3, h4⟩
    by_cases h : x.deep < y.deep
    · exact .inr (h1 h)
    · exact .inl h
theorem okK_all {cs : List NdC} (hp : 0 < cs.length) (h200 : cs.length ≤ 200) (h : ∀ m (hm : m < cs.length), okK cs m hm) : checkX (ndsL cs) = 0 := by
  refine chk_ok hp h200 ((h 0 hp).1 rfl) fun i hi => ?_
  refine ⟨fun h0 => ?_, (h i hi).2.2, fun h2 hd => ?_⟩
  · have := (placedB_iff _ _).1 ((h i hi).2.1 h0)
    exact ⟨this.2.1, this.2.2.1⟩
  · have := (placedB_iff _ _).1 ((h (i + 1) h2).2.1 (by omega))
    simp only [Nat.add_sub_cancel] at this
    exact this.1 hd
theorem okK_node {cs : List NdC} {m : Nat} (hm : m < cs.length) (h : nodeOk cs[m].nd = false) : checkX (ndsL cs) = 130 := chk_bad hm fun hk => by
  rw [hk.2.1] at h; cases h
theorem okK_place {cs : List NdC} {m : Nat} (hm : m + 1 < cs.length) (h : placedB cs[m].nd cs[m + 1].nd = false) : checkX (ndsL cs) = 130 := by
  by_cases h1 : 1 ≤ cs[m + 1].nd.deep ∧ cs[m + 1].nd.deep ≤ cs[m].nd.deep + 1
  · by_cases h2 : cs[m + 1].nd.deep < 8
    · refine chk_bad (i := m) (by omega) fun hk => ?_
      have : placedB cs[m].nd cs[m + 1].nd = true := (placedB_iff _ _).2 ⟨fun hd => hk.2.2 hm hd, h1.1, h1.2, h2⟩
      rw [this] at h; cases h
    · exact chk_bad hm fun hk => h2 (node_facts hk.2.1).1
  · exact chk_bad hm fun hk => h1 (hk.1 (by omega))
set_option maxHeartbeats 4000000 in
set_option maxRecDepth 100000 in
theorem xcheck_any (v : Value) (cs : List NdC) (w : World) (hz : cs.length ≤ 140737488355328) (hsm : ∀ c ∈ cs, SmallN 140737488355328 c.nd) (hv : NdsAt w v cs) :
    Calls Tryd.prog 13 #[v] w fun e w' => e = .returned (.int .i64 (checkX (ndsL cs))) ∧ Below w.heap.size w w' := by
  obtain ⟨ao, cap, rfl, hc⟩ := hv
  have HC := hid hc
  have HS := hid hsm
  clear hc hsm
  by_cases h0 : cs.length < 1 ∨ 200 < cs.length
  · have hR := hid (chk_size h0)
    generalize checkX (ndsL cs) = R at hR ⊢
    obtain ⟨n, hn⟩ : ∃ n, n = cs.length := ⟨_, rfl⟩
    rw [← hn] at h0 hz ⊢
    clear HC HS hn
    by_cases h1 : n < 1
    · have r1 : ((n : Int) == 0) = true := by rw [beq_iff_eq]; omega
      go_enter Tryd.func13, Tryd.ntmps13
      go_wp2
      go_ret
      exact ⟨ret_int hR.out.symm, Below.refl _ _⟩
    · have r1 : ((n : Int) == 0) = false := by rw [beq_eq_false_iff_ne]; omega
      have r2 : (200 : Int) < (n : Int) := by omega
      go_enter Tryd.func13, Tryd.ntmps13
      go_wp2
      go_ret
      exact ⟨ret_int hR.out.symm, Below.refl _ _⟩
  have hp : 0 < cs.length := by omega
  have h200 : cs.length ≤ 200 := by omega
  obtain ⟨ad, hao, hab, _, _⟩ := HC.out 0 hp
  subst hao
  have HA := hid (@okK_all cs hp h200)
  have HN := hid (fun m (hm : m < cs.length) => @okK_node cs m hm)
  have HP := hid (fun m (hm : m + 1 < cs.length) => @okK_place cs m hm)
  have HH := hid (@chk_head cs hp)
  generalize checkX (ndsL cs) = R at HA HN HP HH ⊢
  obtain ⟨n, hn⟩ : ∃ n, n = cs.length := ⟨_, rfl⟩
  rw [← hn] at h200 hz ⊢
  have HL := hid hn
  have r1 : ((n : Int) == 0) = false := by rw [beq_eq_false_iff_ne]; omega
  have r2 : ¬ (200 : Int) < (n : Int) := by omega
  clear h0 hn
  go_enter Tryd.func13, Tryd.ntmps13
  go_wp2
  go_loopw [15] (fun i wr => ∃ (j : Nat), j ≤ n ∧ i = .int .i64 j ∧ Below w.heap.size w wr ∧ Hid (∀ m (hm : m < cs.length), m < j → okK cs m hm)) (fun i _ => n - (intOf i).toNat)
  case atStart => exact ⟨0, Nat.zero_le _, rfl, Below.refl _ _, fun m _ hm => by omega⟩
  case round =>
    obtain ⟨j, hjn, rfl, hb, ha⟩ := hrel
    by_cases hlt : j < n
    · have hj1 : j < cs.length := by have := HL.out; omega
      obtain ⟨ad2, hao, hab2, cN, pa⟩ := HC.out j hj1
      have ead : ad2 = ad := (Option.some.inj hao).symm
      subst ead
      obtain ⟨s1, s2, s3, s4⟩ := HS.out cs[j] (List.getElem_mem hj1)
      have cN' := cN.below hb hab2
      have q6 : (j : Int) < (n : Int) := by omega
      obtain ⟨po, pc, hpf⟩ := pa.form
      have hrow := rc_row4 wr (.int .i64 cs[j].nd.deep) (.string ⟨cs[j].nd.name.toArray⟩) cs[j].a (.string ⟨cs[j].nd.text.toArray⟩) 48
      have hbn : Below w.heap.size w (wr.alloc (.cells #[.int .i64 cs[j].nd.deep, .string ⟨cs[j].nd.name.toArray⟩, cs[j].a, .string ⟨cs[j].nd.text.toArray⟩] 48)) := hb.alloc hb.size _
      have hltn := alloc_lt wr (.cells #[.int .i64 cs[j].nd.deep, .string ⟨cs[j].nd.name.toArray⟩, cs[j].a, .string ⟨cs[j].nd.text.toArray⟩] 48)
      have hpl : ∃ pb : Bool, (pb = false → R = 130) ∧ (pb = true → (j = 0 → cs[j].nd.deep = 0) ∧ (∀ h2 : 0 < j, placedB (cs[j - 1]'(by omega)).nd cs[j].nd = true) ∧ cs[j].nd.deep < 8) ∧ ∀ w', Below w.heap.size w w' → Calls Tryd.prog 27 #[.slice (some ad2) n cap, .int .i64 (j : Int)] w' fun e w'' => e = .returned (.bool pb) ∧ Below w'.heap.size w' w'' := by
        by_cases hj0 : j = 0
        · subst hj0
          refine ⟨cs[0].nd.deep == 0, fun h => HH.out (by simpa using h), fun h => ⟨fun _ => by simpa using h, fun h2 => absurd h2 (by omega), ?_⟩, fun w' hw' => xplaced_first ad2 n cap cs[0] w' (by omega) (cN.below hw' hab2)⟩
          have : cs[0].nd.deep = 0 := by simpa using h
          omega
        · obtain ⟨i, rfl⟩ : ∃ i, j = i + 1 := ⟨j - 1, by omega⟩
          obtain ⟨ad3, hao3, hab3, cP, pP⟩ := HC.out i (by omega)
          have ead3 : ad3 = ad2 := (Option.some.inj hao3).symm
          subst ead3
          have hk := ha.out i (by omega) (by omega)
          obtain ⟨_, _, _, t4⟩ := HS.out cs[i] (List.getElem_mem _)
          obtain ⟨qo, qc, hqf⟩ := pP.form
          refine ⟨placedB cs[i].nd cs[i + 1].nd, fun h => HP.out i hj1 h, fun h => ⟨fun h2 => by omega, fun _ => h, ((placedB_iff _ _).1 h).2.2.2⟩, fun w' hw' => xplaced_next ad3 n cap i cs[i] cs[i + 1] w' (by omega) (by have := HL.out; omega) (cP.below hw' hab2) (cN.below hw' hab2) ⟨qo, _, qc, hqf⟩ (node_facts hk.2.2).1 (i64_of t4).1⟩
      obtain ⟨pb, hpb1, hpb2, KP'⟩ := hpl
      have KP := hid KP'
      have HP1 := hid hpb1
      have HNj := hid (HN.out j hj1)
      have HAj : Hid (pb = true → nodeOk cs[j].nd = true → ∀ m (hm : m < cs.length), m < j + 1 → okK cs m hm) := fun h1 h2 m hm hmj => by
        by_cases hq : m < j
        · exact ha.out m hm hq
        · have : m = j := by omega
          subst this
          exact ⟨(hpb2 h1).1, (hpb2 h1).2.1, h2⟩
      have HD8 : Hid (pb = true → cs[j].nd.deep < 8) := fun h => (hpb2 h).2.2
      have KN := hid (fun w' => xname_list cs[j].nd.name w' s1)
      have KT := hid (fun w' => xtext_any cs[j].nd.text w' s2)
      have KA := hid (fun w' (h' : ParsAt w' cs[j].a cs[j].nd.attrs) => xattrs_any cs[j].a cs[j].nd.attrs w' s3 h')
      have HPA := hid pa
      have hok : nodeOk cs[j].nd = (decide (cs[j].nd.deep < 8) && (nameX cs[j].nd.name && (attrsOk cs[j].nd.attrs && (signsX cs[j].nd.text && xtrim cs[j].nd.text == cs[j].nd.text)))) := rfl
      clear hpb1 hpb2 KP' HN HP HC HS s1 s2 s3 s4 ha pa cN HH
      generalize cs[j] = c at hrow hbn hltn HNj HAj KN KT KA HPA hok cN' HD8 hpf
      obtain ⟨⟨cd, cn, ca, ct⟩, cv⟩ := c
      simp only at hrow hbn hltn HNj HAj KN KT KA HPA hok HD8 hpf
      subst hpf
      obtain ⟨c0, c1, c2, c3⟩ := cN'
      simp only at c0 c1 c2 c3
      generalize (signsX ct && xtrim ct == ct) = tb at KT hok
      cases pb with
      | false =>
        have hR := hid (HP1.out rfl)
        clear hok HNj HAj HD8
        go_wp2_with fail
        clear c0 c1 c2 c3
        generalize World.alloc _ _ = W0 at hrow hbn hltn ⊢
        refine (KP.out _ hbn).mono ?_
        rintro e w2 ⟨rfl, hw2⟩
        go_wp2
        go_ret
        exact ⟨ret_int hR.out.symm, hbn.trans (hw2.mono hbn.size)⟩
      | true =>
        rw [decide_eq_true (HD8.out rfl), Bool.true_and] at hok
        have HA2 := hid (HAj.out rfl)
        cases hnm : nameX cn with
        | false =>
          have hR := hid (HNj.out (by rw [hok, hnm]; rfl))
          rw [hnm] at KN
          clear hok HNj HAj HD8 HA2 hnm HP1
          go_wp2_with fail
          clear c0 c1 c2 c3
          generalize World.alloc _ _ = W0 at hrow hbn hltn ⊢
          refine (KP.out _ hbn).mono ?_
          rintro e w2 ⟨rfl, hw2⟩
          obtain ⟨d0, d1, d2, d3, _, _, _, _⟩ := (hrow.below hw2 hltn).rc4
          go_wp2_with fail
          refine (KN.out _).mono ?_
          rintro e w2 ⟨rfl, rfl⟩
          go_wp2
          go_ret
          exact ⟨ret_int hR.out.symm, hbn.trans (hw2.mono hbn.size)⟩
        | true =>
          rw [hnm, Bool.true_and] at hok
          rw [hnm] at KN
          clear hnm
          cases hat : attrsOk ca with
          | false =>
            have hR := hid (HNj.out (by rw [hok, hat]; rfl))
            rw [hat] at KA
            clear hok HNj HAj HD8 HA2 hat HP1
            go_wp2_with fail
            clear c0 c1 c2 c3
            generalize World.alloc _ _ = W0 at hrow hbn hltn ⊢
            refine (KP.out _ hbn).mono ?_
            rintro e w2 ⟨rfl, hw2⟩
            obtain ⟨d0, d1, d2, d3, _, _, _, _⟩ := (hrow.below hw2 hltn).rc4
            have hb2 := hbn.trans (hw2.mono hbn.size)
            go_wp2_with fail
            refine (KN.out _).mono ?_
            rintro e w2 ⟨rfl, rfl⟩
            go_wp2_with fail
            refine (KA.out _ (HPA.out.below hb2)).mono ?_
            rintro e w3 ⟨rfl, hw3⟩
            go_wp2
            go_ret
            exact ⟨ret_int hR.out.symm, hb2.trans (hw3.mono hb2.size)⟩
          | true =>
            rw [hat, Bool.true_and] at hok
            rw [hat] at KA
            clear hat
            cases tb with
            | false =>
              have hR := hid (HNj.out hok)
              clear hok HNj HAj HD8 HA2 HP1
              go_wp2_with fail
              clear c0 c1 c2 c3
              generalize World.alloc _ _ = W0 at hrow hbn hltn ⊢
              refine (KP.out _ hbn).mono ?_
              rintro e w2 ⟨rfl, hw2⟩
              have hrow2 := hrow.below hw2 hltn
              obtain ⟨d0, d1, d2, d3, _, _, _, _⟩ := hrow2.rc4
              have hb2 := hbn.trans (hw2.mono hbn.size)
              go_wp2_with fail
              refine (KN.out _).mono ?_
              rintro e w2 ⟨rfl, rfl⟩
              go_wp2_with fail
              refine (KA.out _ (HPA.out.below hb2)).mono ?_
              rintro e w3 ⟨rfl, hw3⟩
              obtain ⟨g0, g1, g2, g3, _, _, _, _⟩ := (hrow2.below hw3 (Nat.lt_of_lt_of_le hltn hw2.size)).rc4
              have hb3 := hb2.trans (hw3.mono hb2.size)
              go_wp2_with fail
              refine (KT.out _).mono ?_
              rintro e w4 ⟨rfl, hw4⟩
              go_wp2
              go_ret
              exact ⟨ret_int hR.out.symm, hb3.trans (hw4.mono hb3.size)⟩
            | true =>
              have hN := hid (HA2.out hok)
              clear hok HNj HAj HD8 HA2 HP1
              go_wp2_with fail
              clear c0 c1 c2 c3
              generalize World.alloc _ _ = W0 at hrow hbn hltn ⊢
              refine (KP.out _ hbn).mono ?_
              rintro e w2 ⟨rfl, hw2⟩
              have hrow2 := hrow.below hw2 hltn
              obtain ⟨d0, d1, d2, d3, _, _, _, _⟩ := hrow2.rc4
              have hb2 := hbn.trans (hw2.mono hbn.size)
              go_wp2_with fail
              refine (KN.out _).mono ?_
              rintro e w2 ⟨rfl, rfl⟩
              go_wp2_with fail
              refine (KA.out _ (HPA.out.below hb2)).mono ?_
              rintro e w3 ⟨rfl, hw3⟩
              obtain ⟨g0, g1, g2, g3, _, _, _, _⟩ := (hrow2.below hw3 (Nat.lt_of_lt_of_le hltn hw2.size)).rc4
              have hb3 := hb2.trans (hw3.mono hb2.size)
              go_wp2_with fail
              refine (KT.out _).mono ?_
              rintro e w4 ⟨rfl, hw4⟩
              go_wp2
              go_roundw
              case rel => exact ⟨j + 1, by omega, by go_num, hb3.trans (hw4.mono hb3.size), hN⟩
              case measure => simp [intOf]; omega
    · have hE : Hid (R = 0) := HA.out fun m hm => ha.out m hm (by have := HL.out; omega)
      clear ha
      go_wp2
      go_ret
      exact ⟨ret_int hE.out.symm, hb⟩
end Go.Proofs.YtnijlmkodgdhlaaDoor

/-
  Contracts: package xml's attempt: what it does where the reader gives up.
-/
namespace Go.Proofs.YtnijlmkodgdhlaaDoor
open Go.RowKit Sc
set_option linter.unusedVariables false
set_option maxRecDepth 20000
set_option linter.unusedSimpArgs false

theorem catch_idle (p q : Addr) (w : World) :
    CallsD Tryd.prog 52 #[.pointer (some p), .pointer (some q)] .returning w fun e u' w' => e = .returned (.tuple #[]) ∧ u' = .returning ∧ w' = w := by
  have hnil : ∀ w : World, (binOp BinOp.eql 20 .nilIface .nilIface).run Tryd.prog w = .ok (.bool true) w := fun _ => by kernel_rfl
  refine callsD_of_wpS Tryd.func52 rfl fun c₀ cs hu => ?_
  apply wpS_seq
  apply wpS_region
  simp [wpOpsS, go_sem, recoverD, hu, Tryd.ntmps52, Exit.thenS]
  refine wpS_of_wp ?_
  go_wp2
  cases c₀
  simp_all [bodyPostS, results, Tryd.results52, Exit.thenS]
theorem catch_panic (p q : Addr) (vp vq : Value) (older : List PanicEntry) (w : World) (hp : w.cell? p = some vp) (fp : w.frozen? p = false) (hq : (w.setCell p (.slice none 0 0)).cell? q = some vq) (fq : (w.setCell p (.slice none 0 0)).frozen? q = false) :
    CallsD Tryd.prog 52 #[.pointer (some p), .pointer (some q)] (.panicking ({ v := .iface 25 (.int .i64 130), recovered := false } :: older)) w fun e u' w' => e = .returned (.tuple #[]) ∧ u' = .panicking ({ v := .iface 25 (.int .i64 130), recovered := true } :: older) ∧ w' = (w.setCell p (.slice none 0 0)).setCell q (.int .i64 130) := by
  have hnil : ∀ w : World, (binOp BinOp.eql 20 (.iface 25 (.int .i64 130)) .nilIface).run Tryd.prog w = .ok (.bool false) w := fun _ => by kernel_rfl
  have hta : ∀ w : World, (Instr.typeAssert (.iface 25 (.int .i64 130)) 20 25 true).run Tryd.prog w = .ok (.tuple #[.int .i64 130, .bool true]) w := fun _ => by kernel_rfl
  refine callsD_of_wpS Tryd.func52 rfl fun c₀ cs hu => ?_
  apply wpS_seq
  apply wpS_region
  simp [wpOpsS, go_sem, recoverD, hu, Tryd.ntmps52, Exit.thenS]
  refine wpS_of_wp ?_
  go_wp2
  cases c₀
  simp_all [bodyPostS, results, Tryd.results52, Exit.thenS]
end Go.Proofs.YtnijlmkodgdhlaaDoor
