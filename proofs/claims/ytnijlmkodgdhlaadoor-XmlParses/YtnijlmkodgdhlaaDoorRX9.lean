/-
  The document's own layer 13: Check.
-/
import Derived.Test.YtnijlmkodgdhlaaDoorYR
import Derived.Test.YtnijlmkodgdhlaaDoorYK
namespace Go.Proofs.YtnijlmkodgdhlaaDoor
open Go.RowKit Sc
set_option linter.unusedVariables false
set_option maxRecDepth 20000
set_option linter.unusedSimpArgs false

/-- The element at place i may stand there. -/
def okN (l : List Nd) (i : Nat) (h : i < l.length) : Prop :=
  (0 < i → 1 ≤ l[i].deep ∧ l[i].deep ≤ (l[i - 1]'(by omega)).deep + 1) ∧ nodeOk l[i] = true ∧ (∀ h2 : i + 1 < l.length, l[i].deep < l[i + 1].deep → l[i].text = [])
theorem steps_iff : ∀ l : List Nd, stepsX l = true ↔ ∀ i (h : i < l.length), okN l i h
  | [] => by simp [stepsX]
  | [x] => by
    constructor
    · intro h i hi
      have : i = 0 := by simp at hi; exact hi
      subst this
      exact ⟨fun hp => absurd hp (by omega), h, fun h2 => absurd h2 (by simp)⟩
    · intro h
      exact (h 0 (by simp)).2.1
  | x :: y :: r => by
    have hnx : nextOk x y = true ↔ (1 ≤ y.deep ∧ y.deep ≤ x.deep + 1) ∧ (x.deep < y.deep → x.text = []) := by
      unfold nextOk
      rw [Bool.and_eq_true, decide_eq_true_iff, Bool.or_eq_true, Bool.not_eq_true', decide_eq_false_iff_not, List.isEmpty_iff]
      constructor
      · rintro ⟨h1, h2⟩
        exact ⟨h1, fun h => h2.resolve_left (fun h3 => h3 h)⟩
      · rintro ⟨h1, h2⟩
        refine ⟨h1, ?_⟩
        by_cases h : x.deep < y.deep
        · exact .inr (h2 h)
        · exact .inl h
    rw [stepsX, Bool.and_eq_true, Bool.and_eq_true, steps_iff (y :: r), hnx]
    constructor
    · rintro ⟨h1, h2, h3⟩ i hi
      match i, hi with
      | 0, hi => exact ⟨fun hp => absurd hp (by omega), h1, fun _ hd => h2.2 hd⟩
      | 1, hi => exact ⟨fun _ => h2.1, (h3 0 (by simp)).2.1, fun h4 hd => (h3 0 (by simp)).2.2 (by simpa using h4) hd⟩
      | j + 2, hi =>
        have h := h3 (j + 1) (by simpa using hi)
        exact ⟨fun _ => h.1 (by omega), h.2.1, fun h4 hd => h.2.2 (by simp only [List.length_cons] at h4 ⊢; omega) hd⟩
    · intro h
      have h0 := h 0 (by simp)
      have h1 := h 1 (by simp)
      refine ⟨h0.2.1, ⟨h1.1 (by omega), fun hd => h0.2.2 (by simp) hd⟩, fun i hi => ?_⟩
      have hh := h (i + 1) (by simpa using hi)
      refine ⟨fun hp => ?_, hh.2.1, fun h4 hd => hh.2.2 (by simpa using h4) hd⟩
      obtain ⟨j, rfl⟩ : ∃ j, i = j + 1 := ⟨i - 1, by omega⟩
      exact hh.1 (by omega)
def okC (cs : List NdC) (i : Nat) (h : i < cs.length) : Prop :=
  (0 < i → 1 ≤ cs[i].nd.deep ∧ cs[i].nd.deep ≤ (cs[i - 1]'(by omega)).nd.deep + 1) ∧ nodeOk cs[i].nd = true ∧ (∀ h2 : i + 1 < cs.length, cs[i].nd.deep < cs[i + 1].nd.deep → cs[i].nd.text = [])
theorem okC_iff (cs : List NdC) (i : Nat) (h : i < cs.length) : okC cs i h ↔ okN (ndsL cs) i (by rw [ndsL_len]; exact h) := by
  unfold okC okN
  simp [ndsL]
theorem chk_bad {cs : List NdC} {i : Nat} (h : i < cs.length) (hb : ¬ okC cs i h) : checkX (ndsL cs) = 130 := by
  unfold checkX
  rw [if_pos]
  refine .inr (.inr (.inr ?_))
  cases hs : stepsX (ndsL cs) with
  | false => rfl
  | true => exact absurd ((okC_iff cs i h).2 ((steps_iff _).1 hs i _)) hb
theorem chk_head {cs : List NdC} (h : 0 < cs.length) (hb : cs[0].nd.deep ≠ 0) : checkX (ndsL cs) = 130 := by
  unfold checkX
  rw [if_pos]
  refine .inr (.inr (.inl ?_))
  rw [List.head?_eq_getElem?]
  simpa [ndsL, h] using hb
theorem chk_ok {cs : List NdC} (h : 0 < cs.length) (h2 : cs.length ≤ 200) (h0 : cs[0].nd.deep = 0) (ha : ∀ i (hi : i < cs.length), okC cs i hi) : checkX (ndsL cs) = 0 := by
  unfold checkX
  rw [if_neg]
  have e := ndsL_len cs
  have hs : stepsX (ndsL cs) = true := (steps_iff _).2 fun i hi => (okC_iff cs i (by rw [← e]; exact hi)).1 (ha i _)
  rintro (h3 | h3 | h3 | h3)
  · omega
  · omega
  · apply h3
    rw [List.head?_eq_getElem?]
    simpa [ndsL, h] using h0
  · rw [hs] at h3; cases h3
theorem chk_size {cs : List NdC} (h : cs.length < 1 ∨ 200 < cs.length) : checkX (ndsL cs) = 130 := by
  unfold checkX
  rw [if_pos]
  rw [ndsL_len]
  rcases h with h | h
  · exact .inl h
  · exact .inr (.inl h)
theorem trimX_list (l : List UInt8) (w : World) (h : l.length ≤ 140737488355328) :
    Calls Tryd.prog 21 #[.string ⟨l.toArray⟩] w fun e w' => e = .returned (.string ⟨(xtrim l).toArray⟩) ∧ w' = w := rtrimX_any ⟨l.toArray⟩ w (by rw [size_list]; exact h)
theorem box4 (wr : World) (v0 v1 v2 v3 : Value) (t : TypeId) : RowC4 (wr.alloc (.cells #[v0, v1, v2, v3] t)) wr.heap.size v0 v1 v2 v3 := (rc_row4 wr v0 v1 v2 v3 t).rc4

set_option maxHeartbeats 16000000 in
set_option maxRecDepth 100000 in
theorem rcheck13_any (v : Value) (cs : List NdC) (w : World) (hz : cs.length ≤ 140737488355328) (hsm : ∀ c ∈ cs, SmallN 140737488355328 c.nd) (hv : NdsAt w v cs) :
    Calls Tryd.prog 14 #[v] w fun e w' => e = .returned (.int .i64 (checkX (ndsL cs))) ∧ Below w.heap.size w w' := by
  obtain ⟨ao, cap, rfl, hc⟩ := hv
  have HC := hid hc
  have HS := hid hsm
  clear hc hsm
  by_cases h0 : cs.length < 1 ∨ 200 < cs.length
  · have hR := hid (chk_size h0)
    generalize checkX (ndsL cs) = R at hR ⊢
    obtain ⟨n, hn⟩ : ∃ n, n = cs.length := ⟨_, rfl⟩
    rw [← hn] at h0 hz ⊢
    clear HC HS hn
    by_cases h1 : n < 1
    · have r1 : (n : Int) < 1 := by omega
      have r1d : decide ((n : Int) < 1) = true := decide_eq_true r1
      go_enter Tryd.func14, Tryd.ntmps14
      go_wp2
      go_ret
      exact ⟨ret_int hR.out.symm, Below.refl _ _⟩
    · have r1 : ¬ (n : Int) < 1 := by omega
      have r1d : decide ((n : Int) < 1) = false := decide_eq_false r1
      have r2 : (200 : Int) < (n : Int) := by omega
      go_enter Tryd.func14, Tryd.ntmps14
      go_wp2
      go_ret
      exact ⟨ret_int hR.out.symm, Below.refl _ _⟩
  have hp : 0 < cs.length := by omega
  have h200 : cs.length ≤ 200 := by omega
  obtain ⟨ad, hao, hab, ⟨z0, z1, z2, z3⟩, pz⟩ := HC.out 0 hp
  subst hao
  have HB := hid (fun i (h : i < cs.length) => @chk_bad cs i h)
  have HH := hid (@chk_head cs hp)
  have HO := hid (@chk_ok cs hp h200)
  generalize checkX (ndsL cs) = R at HB HH HO ⊢
  obtain ⟨n, hn⟩ : ∃ n, n = cs.length := ⟨_, rfl⟩
  rw [← hn] at h200 hz ⊢
  have HL := hid hn
  have r1 : ¬ (n : Int) < 1 := by omega
  have r1d : decide ((n : Int) < 1) = false := decide_eq_false r1
  have r2 : ¬ (200 : Int) < (n : Int) := by omega
  have r2d : decide ((200 : Int) < (n : Int)) = false := decide_eq_false r2
  have r3 : (0 : Int) < (n : Int) := by omega
  clear hn h0 z1 z2 z3 pz
  by_cases hdn : cs[0].nd.deep ≠ 0
  · have hR := hid (HH.out hdn)
    have r4 : (cs[0].nd.deep == 0) = false := by simpa using hdn
    have r4n : (cs[0].nd.deep != 0) = true := by simpa using hdn
    generalize cs[0].nd.deep = d0 at z0 r4 r4n
    have z0' : w.cell? ad = some (.int .i64 d0) := by simpa [Addr.add] using z0
    clear HC HS HB HH HO hdn
    go_enter Tryd.func14, Tryd.ntmps14
    go_wp2
    go_ret
    exact ⟨ret_int hR.out.symm, Below.refl _ _⟩
  have hd0 : cs[0].nd.deep = 0 := Classical.not_not.1 hdn
  rw [hd0] at z0
  have HO2 := hid (HO.out hd0)
  have z0' : w.cell? ad = some (.int .i64 0) := by simpa [Addr.add] using z0
  clear HO HH
  go_enter Tryd.func14, Tryd.ntmps14
  go_wp2
  clear z0 z0'
  go_loopw [3] (fun i wr => ∃ (j : Nat), j ≤ n ∧ i = .int .i64 j ∧ Below w.heap.size w wr ∧ Hid (∀ k (h : k < cs.length), k < j → okC cs k h)) (fun i _ => n - (intOf i).toNat)
  case atStart => exact ⟨0, Nat.zero_le _, rfl, Below.refl _ _, fun k _ h => absurd h (by omega)⟩
  case round =>
    obtain ⟨j, hjn, rfl, hb, ha⟩ := hrel
    by_cases hlt : j < n
    · have hj1 : j < cs.length := by have := HL.out; omega
      obtain ⟨ad2, hao, hab2, c0, pa⟩ := HC.out j hj1
      have ead : ad2 = ad := (Option.some.inj hao).symm
      subst ead
      obtain ⟨s1, s2, s3, s4⟩ := HS.out cs[j] (List.getElem_mem hj1)
      have c0 := c0.below hb hab2
      have HBad := hid (HB.out j hj1)
      have hok : okC cs j hj1 = ((0 < j → 1 ≤ cs[j].nd.deep ∧ cs[j].nd.deep ≤ (cs[j - 1]'(by omega)).nd.deep + 1) ∧ nodeOk cs[j].nd = true ∧ (∀ h2 : j + 1 < cs.length, cs[j].nd.deep < cs[j + 1].nd.deep → cs[j].nd.text = [])) := rfl
      have HOk1 : Hid ((0 < j → 1 ≤ cs[j].nd.deep ∧ cs[j].nd.deep ≤ (cs[j - 1]'(by omega)).nd.deep + 1) → nodeOk cs[j].nd = true → (∀ h2 : j + 1 < cs.length, cs[j].nd.deep < cs[j + 1].nd.deep → cs[j].nd.text = []) → ∀ k (h : k < cs.length), k < j + 1 → okC cs k h) := fun a1 a2 a3 k h hk => by
        by_cases hkj : k < j
        · exact ha.out k h hkj
        · have : k = j := by omega
          subst this; exact ⟨a1, a2, a3⟩
      rw [hok] at HBad
      obtain ⟨W0, hW0⟩ : ∃ W0, W0 = wr.alloc (.cells #[.int .i64 cs[j].nd.deep, .string ⟨cs[j].nd.name.toArray⟩, cs[j].a, .string ⟨cs[j].nd.text.toArray⟩] 48) := ⟨_, rfl⟩
      have hWb : Below w.heap.size w W0 := by rw [hW0]; exact hb.alloc hb.size _
      have hWr : Below wr.heap.size wr W0 := by rw [hW0]; exact (Below.refl _ wr).alloc (Nat.le_refl _) _
      have BX : RowC4 W0 wr.heap.size (.int .i64 cs[j].nd.deep) (.string ⟨cs[j].nd.name.toArray⟩) cs[j].a (.string ⟨cs[j].nd.text.toArray⟩) := by rw [hW0]; exact box4 _ _ _ _ _ _
      have hBW : Hid (∀ m, Below w.heap.size w (W0.drewN m)) := fun m => hWb.trans (belowD _ _ _)
      have HX : Hid (∀ h : j + 1 < n, ∃ xd, W0.cell? (ad2.add ((j + 1) * 4)) = some (.int .i64 xd) ∧ xd = (cs[j + 1]'(by have := HL.out; omega)).nd.deep) := fun h => by
        obtain ⟨ad3, hao3, hab3, c3, _⟩ := HC.out (j + 1) (by have := HL.out; omega)
        have : ad3 = ad2 := (Option.some.inj hao3).symm
        subst this
        exact ⟨_, (c3.below hWb hab2).c0, rfl⟩
      have HP : Hid ((h : 0 < j) → ∃ pd, W0.cell? (ad2.add ((j - 1) * 4)) = some (.int .i64 pd) ∧ pd = (cs[j - 1]'(by omega)).nd.deep ∧ 0 ≤ pd ∧ pd < 8) := fun h => by
        obtain ⟨ad3, hao3, hab3, c3, _⟩ := HC.out (j - 1) (by omega)
        have : ad3 = ad2 := (Option.some.inj hao3).symm
        subst this
        have hk := ha.out (j - 1) (by omega) (by omega)
        refine ⟨_, (c3.below hWb hab2).c0, rfl, ?_, ?_⟩
        · by_cases h1 : 0 < j - 1
          · have := (hk.1 h1).1; omega
          · have e : j - 1 = 0 := by omega
            have : (cs[j - 1]'(by omega)).nd.deep = 0 := by simp only [e]; exact hd0
            omega
        · exact (node_facts hk.2.1).1
      have KN := hid (fun w' => name_list cs[j].nd.name w' s1)
      have KS := hid (fun w' => signs_list cs[j].nd.text w' s2)
      have KT := hid (fun w' => trimX_list cs[j].nd.text w' s2)
      have KA := hid (fun m => rattrs_any cs[j].a cs[j].nd.attrs (W0.drewN m) s3 (pa.below (hBW.out m)))
      have s5 := i64_of s4
      have hform := pa.form
      clear HC HS HB HO2 ha s1 s2 s3 s4 hok pa hWb hWr
      generalize cs[j] = c at c0 HBad HOk1 hW0 BX KN KS KT KA s5 hform
      obtain ⟨⟨cd, cn, ca, ct⟩, cv⟩ := c
      simp only at c0 HBad HOk1 hW0 BX KN KS KT KA s5 hform
      obtain ⟨pao, pcap, rfl⟩ := hform
      obtain ⟨c0, c1, c2, c3⟩ := c0
      simp only at c0 c1 c2 c3
      have q6 : (j : Int) < (n : Int) := by omega
      go_wp2
      clear c0 c1 c2 c3
      rw [← hW0]
      obtain ⟨b0, b1, b2, b3, _, _, _, _⟩ := BX
      clear hW0
      have hj2 : ((j : Int) + 1).toNat = j + 1 := by omega
      by_cases hj0 : 0 < j
      · obtain ⟨pd, p0, hpd', hp1, hp2⟩ := HP.out hj0
        have hpd := hid hpd'
        clear hpd'
        have t0 : (0 : Int) < (j : Int) := by omega
        have t0d : decide ((0 : Int) < (j : Int)) = true := decide_eq_true t0
        have t5 : ((j - 1 : Nat) : Int) < (n : Int) := by omega
        have hwj : IntKind.i64.wrap ((j : Int) - 1) = ((j - 1 : Nat) : Int) := by rw [IntKind.wrap_i64]; omega
        have hwp : IntKind.i64.wrap (pd + 1) = pd + 1 := by rw [IntKind.wrap_i64]; omega
        by_cases ht1 : cd < 1
        · have t1 : decide (cd < 1) = true := decide_eq_true ht1
          have hR := hid (HBad.out fun e => absurd (e.1 hj0).1 (by omega))
          clear HBad HOk1 HX
          go_quiet (first | (go_at_call 16; exact Calls.quiet_of_same (KN.out _)) | (go_at_call 30; exact Calls.quiet_of (KA.out _)) | (go_at_call 20; exact Calls.quiet_of_same (KS.out _)) | (go_at_call 21; exact Calls.quiet_of_same (KT.out _)))
          go_wp2
          go_ret
          exact ⟨ret_int hR.out.symm, by first | exact hBW.out _ | (rw [World.drewN_drewN]; exact hBW.out _)⟩
        have t1 : decide (cd < 1) = false := decide_eq_false ht1
        by_cases ht2 : pd + 1 < cd
        · have t2 : decide (pd + 1 < cd) = true := decide_eq_true ht2
          have hR := hid (HBad.out fun e => absurd (e.1 hj0).2 (by rw [← hpd.out]; omega))
          clear HBad HOk1 HX
          go_quiet (first | (go_at_call 16; exact Calls.quiet_of_same (KN.out _)) | (go_at_call 30; exact Calls.quiet_of (KA.out _)) | (go_at_call 20; exact Calls.quiet_of_same (KS.out _)) | (go_at_call 21; exact Calls.quiet_of_same (KT.out _)))
          go_wp2
          go_ret
          exact ⟨ret_int hR.out.symm, by first | exact hBW.out _ | (rw [World.drewN_drewN]; exact hBW.out _)⟩
        have t2 : decide (pd + 1 < cd) = false := decide_eq_false ht2
        by_cases h8 : 8 ≤ cd
        · have r8 : (8 : Int) ≤ cd := h8
          have r8d : decide ((8 : Int) ≤ cd) = true := decide_eq_true h8
          have hR := hid (HBad.out fun e => by have e2 := e.2.1; unfold nodeOk at e2; simp only at e2; simp at e2; omega)
          clear HBad HOk1 HX
          go_quiet (first | (go_at_call 16; exact Calls.quiet_of_same (KN.out _)) | (go_at_call 30; exact Calls.quiet_of (KA.out _)) | (go_at_call 20; exact Calls.quiet_of_same (KS.out _)) | (go_at_call 21; exact Calls.quiet_of_same (KT.out _)))
          go_wp2
          go_ret
          exact ⟨ret_int hR.out.symm, by first | exact hBW.out _ | (rw [World.drewN_drewN]; exact hBW.out _)⟩
        have r8 : ¬ (8 : Int) ≤ cd := h8
        have r8d : decide ((8 : Int) ≤ cd) = false := decide_eq_false h8
        cases hnm : nameX cn with
        | false =>
          rw [hnm] at KN
          have hR := hid (HBad.out fun e => by have e2 := e.2.1; unfold nodeOk at e2; simp only at e2; rw [hnm] at e2; simp at e2)
          clear HBad HOk1 HX
          go_quiet (first | (go_at_call 16; exact Calls.quiet_of_same (KN.out _)) | (go_at_call 30; exact Calls.quiet_of (KA.out _)) | (go_at_call 20; exact Calls.quiet_of_same (KS.out _)) | (go_at_call 21; exact Calls.quiet_of_same (KT.out _)))
          go_wp2
          go_ret
          exact ⟨ret_int hR.out.symm, by first | exact hBW.out _ | (rw [World.drewN_drewN]; exact hBW.out _)⟩
        | true =>
          rw [hnm] at KN
          cases hat : attrsOk ca with
          | false =>
            rw [hat] at KA
            have hR := hid (HBad.out fun e => by have e2 := e.2.1; unfold nodeOk at e2; simp only at e2; rw [hat] at e2; simp at e2)
            clear HBad HOk1 HX
            go_quiet (first | (go_at_call 16; exact Calls.quiet_of_same (KN.out _)) | (go_at_call 30; exact Calls.quiet_of (KA.out _)) | (go_at_call 20; exact Calls.quiet_of_same (KS.out _)) | (go_at_call 21; exact Calls.quiet_of_same (KT.out _)))
            go_wp2
            go_ret
            exact ⟨ret_int hR.out.symm, by first | exact hBW.out _ | (rw [World.drewN_drewN]; exact hBW.out _)⟩
          | true =>
            rw [hat] at KA
            cases hsg : signsX ct with
            | false =>
              rw [hsg] at KS
              have hR := hid (HBad.out fun e => by have e2 := e.2.1; unfold nodeOk at e2; simp only at e2; rw [hsg] at e2; simp at e2)
              clear HBad HOk1 HX
              go_quiet (first | (go_at_call 16; exact Calls.quiet_of_same (KN.out _)) | (go_at_call 30; exact Calls.quiet_of (KA.out _)) | (go_at_call 20; exact Calls.quiet_of_same (KS.out _)) | (go_at_call 21; exact Calls.quiet_of_same (KT.out _)))
              go_wp2
              go_ret
              exact ⟨ret_int hR.out.symm, by first | exact hBW.out _ | (rw [World.drewN_drewN]; exact hBW.out _)⟩
            | true =>
              rw [hsg] at KS
              by_cases htr : xtrim ct = ct
              · have r9 : (xtrim ct == ct) = true := by simp [htr]
                have r9n : (xtrim ct != ct) = false := by simp [htr]
                have HOk2 := hid (HOk1.out (fun _ => ⟨by omega, by rw [← hpd.out]; omega⟩) (by unfold nodeOk; simp only; rw [hnm, hat, hsg, decide_eq_true (by omega : cd < 8)]; simpa using htr))
                by_cases hn1 : j + 1 < n
                · obtain ⟨xd, x0, hxd'⟩ := HX.out hn1
                  have hxd := hid hxd'
                  clear hxd'
                  have q9 : (j : Int) + 1 < (n : Int) := by omega
                  have q9d : decide ((j : Int) + 1 < (n : Int)) = true := decide_eq_true q9
                  by_cases hgt : cd < xd
                  · have r5 : decide (cd < xd) = true := decide_eq_true hgt
                    by_cases hem : ct = []
                    · subst hem
                      have hall := hid (HOk2.out fun _ _ => rfl)
                      clear HBad HOk1 HOk2 HX
                      go_quiet (first | (go_at_call 16; exact Calls.quiet_of_same (KN.out _)) | (go_at_call 30; exact Calls.quiet_of (KA.out _)) | (go_at_call 20; exact Calls.quiet_of_same (KS.out _)) | (go_at_call 21; exact Calls.quiet_of_same (KT.out _)))
                      go_wp2
                      go_quiet (fail)
                      go_wp2
                      go_roundw
                      case rel => exact ⟨j + 1, by omega, by go_num, by first | exact hBW.out _ | (rw [World.drewN_drewN]; exact hBW.out _), hall⟩
                      case measure => simp [intOf]; omega
                    · have r6 : (ct == ([] : List UInt8)) = false := by simpa using hem
                      have r6n : (ct != ([] : List UInt8)) = true := by simpa using hem
                      have r6e : ct.isEmpty = false := by cases ct with | nil => exact absurd rfl hem | cons a b => rfl
                      have hR := hid (HBad.out fun e => hem (e.2.2 (by have := HL.out; omega) (by rw [← hxd.out]; exact hgt)))
                      clear HBad HOk1 HOk2 HX hxd
                      go_quiet (first | (go_at_call 16; exact Calls.quiet_of_same (KN.out _)) | (go_at_call 30; exact Calls.quiet_of (KA.out _)) | (go_at_call 20; exact Calls.quiet_of_same (KS.out _)) | (go_at_call 21; exact Calls.quiet_of_same (KT.out _)))
                      go_wp2
                      go_quiet (fail)
                      go_wp2
                      go_ret
                      exact ⟨ret_int hR.out.symm, by first | exact hBW.out _ | (rw [World.drewN_drewN]; exact hBW.out _)⟩
                  · have r5 : decide (cd < xd) = false := decide_eq_false hgt
                    have hall := hid (HOk2.out fun h2 hlt => absurd hlt (by rw [← hxd.out]; exact hgt))
                    clear HBad HOk1 HOk2 HX hxd
                    go_quiet (first | (go_at_call 16; exact Calls.quiet_of_same (KN.out _)) | (go_at_call 30; exact Calls.quiet_of (KA.out _)) | (go_at_call 20; exact Calls.quiet_of_same (KS.out _)) | (go_at_call 21; exact Calls.quiet_of_same (KT.out _)))
                    go_wp2
                    go_quiet (fail)
                    go_wp2
                    go_roundw
                    case rel => exact ⟨j + 1, by omega, by go_num, by first | exact hBW.out _ | (rw [World.drewN_drewN]; exact hBW.out _), hall⟩
                    case measure => simp [intOf]; omega
                · have q9 : ¬ (j : Int) + 1 < (n : Int) := by omega
                  have q9d : decide ((j : Int) + 1 < (n : Int)) = false := decide_eq_false q9
                  have hall := hid (HOk2.out fun h2 => absurd h2 (by have := HL.out; omega))
                  clear HBad HOk1 HOk2 HX
                  go_quiet (first | (go_at_call 16; exact Calls.quiet_of_same (KN.out _)) | (go_at_call 30; exact Calls.quiet_of (KA.out _)) | (go_at_call 20; exact Calls.quiet_of_same (KS.out _)) | (go_at_call 21; exact Calls.quiet_of_same (KT.out _)))
                  go_wp2
                  go_quiet (fail)
                  go_wp2
                  go_roundw
                  case rel => exact ⟨j + 1, by omega, by go_num, by first | exact hBW.out _ | (rw [World.drewN_drewN]; exact hBW.out _), hall⟩
                  case measure => simp [intOf]; omega
              · have r9 : (xtrim ct == ct) = false := by simp [htr]
                have r9n : (xtrim ct != ct) = true := by simp [htr]
                have hR := hid (HBad.out fun e => by have e2 := e.2.1; unfold nodeOk at e2; simp only at e2; rw [hnm, hat, hsg] at e2; simp at e2; exact htr e2.2)
                clear HBad HOk1 HX
                go_quiet (first | (go_at_call 16; exact Calls.quiet_of_same (KN.out _)) | (go_at_call 30; exact Calls.quiet_of (KA.out _)) | (go_at_call 20; exact Calls.quiet_of_same (KS.out _)) | (go_at_call 21; exact Calls.quiet_of_same (KT.out _)))
                go_wp2
                go_ret
                exact ⟨ret_int hR.out.symm, by first | exact hBW.out _ | (rw [World.drewN_drewN]; exact hBW.out _)⟩
      · have t0 : ¬ (0 : Int) < (j : Int) := by omega
        have t0d : decide ((0 : Int) < (j : Int)) = false := decide_eq_false t0
        by_cases h8 : 8 ≤ cd
        · have r8 : (8 : Int) ≤ cd := h8
          have r8d : decide ((8 : Int) ≤ cd) = true := decide_eq_true h8
          have hR := hid (HBad.out fun e => by have e2 := e.2.1; unfold nodeOk at e2; simp only at e2; simp at e2; omega)
          clear HBad HOk1 HX
          go_quiet (first | (go_at_call 16; exact Calls.quiet_of_same (KN.out _)) | (go_at_call 30; exact Calls.quiet_of (KA.out _)) | (go_at_call 20; exact Calls.quiet_of_same (KS.out _)) | (go_at_call 21; exact Calls.quiet_of_same (KT.out _)))
          go_wp2
          go_ret
          exact ⟨ret_int hR.out.symm, by first | exact hBW.out _ | (rw [World.drewN_drewN]; exact hBW.out _)⟩
        have r8 : ¬ (8 : Int) ≤ cd := h8
        have r8d : decide ((8 : Int) ≤ cd) = false := decide_eq_false h8
        cases hnm : nameX cn with
        | false =>
          rw [hnm] at KN
          have hR := hid (HBad.out fun e => by have e2 := e.2.1; unfold nodeOk at e2; simp only at e2; rw [hnm] at e2; simp at e2)
          clear HBad HOk1 HX
          go_quiet (first | (go_at_call 16; exact Calls.quiet_of_same (KN.out _)) | (go_at_call 30; exact Calls.quiet_of (KA.out _)) | (go_at_call 20; exact Calls.quiet_of_same (KS.out _)) | (go_at_call 21; exact Calls.quiet_of_same (KT.out _)))
          go_wp2
          go_ret
          exact ⟨ret_int hR.out.symm, by first | exact hBW.out _ | (rw [World.drewN_drewN]; exact hBW.out _)⟩
        | true =>
          rw [hnm] at KN
          cases hat : attrsOk ca with
          | false =>
            rw [hat] at KA
            have hR := hid (HBad.out fun e => by have e2 := e.2.1; unfold nodeOk at e2; simp only at e2; rw [hat] at e2; simp at e2)
            clear HBad HOk1 HX
            go_quiet (first | (go_at_call 16; exact Calls.quiet_of_same (KN.out _)) | (go_at_call 30; exact Calls.quiet_of (KA.out _)) | (go_at_call 20; exact Calls.quiet_of_same (KS.out _)) | (go_at_call 21; exact Calls.quiet_of_same (KT.out _)))
            go_wp2
            go_ret
            exact ⟨ret_int hR.out.symm, by first | exact hBW.out _ | (rw [World.drewN_drewN]; exact hBW.out _)⟩
          | true =>
            rw [hat] at KA
            cases hsg : signsX ct with
            | false =>
              rw [hsg] at KS
              have hR := hid (HBad.out fun e => by have e2 := e.2.1; unfold nodeOk at e2; simp only at e2; rw [hsg] at e2; simp at e2)
              clear HBad HOk1 HX
              go_quiet (first | (go_at_call 16; exact Calls.quiet_of_same (KN.out _)) | (go_at_call 30; exact Calls.quiet_of (KA.out _)) | (go_at_call 20; exact Calls.quiet_of_same (KS.out _)) | (go_at_call 21; exact Calls.quiet_of_same (KT.out _)))
              go_wp2
              go_ret
              exact ⟨ret_int hR.out.symm, by first | exact hBW.out _ | (rw [World.drewN_drewN]; exact hBW.out _)⟩
            | true =>
              rw [hsg] at KS
              by_cases htr : xtrim ct = ct
              · have r9 : (xtrim ct == ct) = true := by simp [htr]
                have r9n : (xtrim ct != ct) = false := by simp [htr]
                have HOk2 := hid (HOk1.out (fun h => absurd h hj0) (by unfold nodeOk; simp only; rw [hnm, hat, hsg, decide_eq_true (by omega : cd < 8)]; simpa using htr))
                by_cases hn1 : j + 1 < n
                · obtain ⟨xd, x0, hxd'⟩ := HX.out hn1
                  have hxd := hid hxd'
                  clear hxd'
                  have q9 : (j : Int) + 1 < (n : Int) := by omega
                  have q9d : decide ((j : Int) + 1 < (n : Int)) = true := decide_eq_true q9
                  by_cases hgt : cd < xd
                  · have r5 : decide (cd < xd) = true := decide_eq_true hgt
                    by_cases hem : ct = []
                    · subst hem
                      have hall := hid (HOk2.out fun _ _ => rfl)
                      clear HBad HOk1 HOk2 HX
                      go_quiet (first | (go_at_call 16; exact Calls.quiet_of_same (KN.out _)) | (go_at_call 30; exact Calls.quiet_of (KA.out _)) | (go_at_call 20; exact Calls.quiet_of_same (KS.out _)) | (go_at_call 21; exact Calls.quiet_of_same (KT.out _)))
                      go_wp2
                      go_quiet (fail)
                      go_wp2
                      go_roundw
                      case rel => exact ⟨j + 1, by omega, by go_num, by first | exact hBW.out _ | (rw [World.drewN_drewN]; exact hBW.out _), hall⟩
                      case measure => simp [intOf]; omega
                    · have r6 : (ct == ([] : List UInt8)) = false := by simpa using hem
                      have r6n : (ct != ([] : List UInt8)) = true := by simpa using hem
                      have r6e : ct.isEmpty = false := by cases ct with | nil => exact absurd rfl hem | cons a b => rfl
                      have hR := hid (HBad.out fun e => hem (e.2.2 (by have := HL.out; omega) (by rw [← hxd.out]; exact hgt)))
                      clear HBad HOk1 HOk2 HX hxd
                      go_quiet (first | (go_at_call 16; exact Calls.quiet_of_same (KN.out _)) | (go_at_call 30; exact Calls.quiet_of (KA.out _)) | (go_at_call 20; exact Calls.quiet_of_same (KS.out _)) | (go_at_call 21; exact Calls.quiet_of_same (KT.out _)))
                      go_wp2
                      go_quiet (fail)
                      go_wp2
                      go_ret
                      exact ⟨ret_int hR.out.symm, by first | exact hBW.out _ | (rw [World.drewN_drewN]; exact hBW.out _)⟩
                  · have r5 : decide (cd < xd) = false := decide_eq_false hgt
                    have hall := hid (HOk2.out fun h2 hlt => absurd hlt (by rw [← hxd.out]; exact hgt))
                    clear HBad HOk1 HOk2 HX hxd
                    go_quiet (first | (go_at_call 16; exact Calls.quiet_of_same (KN.out _)) | (go_at_call 30; exact Calls.quiet_of (KA.out _)) | (go_at_call 20; exact Calls.quiet_of_same (KS.out _)) | (go_at_call 21; exact Calls.quiet_of_same (KT.out _)))
                    go_wp2
                    go_quiet (fail)
                    go_wp2
                    go_roundw
                    case rel => exact ⟨j + 1, by omega, by go_num, by first | exact hBW.out _ | (rw [World.drewN_drewN]; exact hBW.out _), hall⟩
                    case measure => simp [intOf]; omega
                · have q9 : ¬ (j : Int) + 1 < (n : Int) := by omega
                  have q9d : decide ((j : Int) + 1 < (n : Int)) = false := decide_eq_false q9
                  have hall := hid (HOk2.out fun h2 => absurd h2 (by have := HL.out; omega))
                  clear HBad HOk1 HOk2 HX
                  go_quiet (first | (go_at_call 16; exact Calls.quiet_of_same (KN.out _)) | (go_at_call 30; exact Calls.quiet_of (KA.out _)) | (go_at_call 20; exact Calls.quiet_of_same (KS.out _)) | (go_at_call 21; exact Calls.quiet_of_same (KT.out _)))
                  go_wp2
                  go_quiet (fail)
                  go_wp2
                  go_roundw
                  case rel => exact ⟨j + 1, by omega, by go_num, by first | exact hBW.out _ | (rw [World.drewN_drewN]; exact hBW.out _), hall⟩
                  case measure => simp [intOf]; omega
              · have r9 : (xtrim ct == ct) = false := by simp [htr]
                have r9n : (xtrim ct != ct) = true := by simp [htr]
                have hR := hid (HBad.out fun e => by have e2 := e.2.1; unfold nodeOk at e2; simp only at e2; rw [hnm, hat, hsg] at e2; simp at e2; exact htr e2.2)
                clear HBad HOk1 HX
                go_quiet (first | (go_at_call 16; exact Calls.quiet_of_same (KN.out _)) | (go_at_call 30; exact Calls.quiet_of (KA.out _)) | (go_at_call 20; exact Calls.quiet_of_same (KS.out _)) | (go_at_call 21; exact Calls.quiet_of_same (KT.out _)))
                go_wp2
                go_ret
                exact ⟨ret_int hR.out.symm, by first | exact hBW.out _ | (rw [World.drewN_drewN]; exact hBW.out _)⟩
    · have hR := hid (HO2.out fun i hi => ha.out i hi (by have := HL.out; omega))
      clear HC HS HB HO2 ha
      go_wp2
      go_ret
      exact ⟨ret_int hR.out.symm, hb⟩
end Go.Proofs.YtnijlmkodgdhlaaDoor
