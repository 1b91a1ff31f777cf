/-
  Contracts: package xml's document, attempt, Parse.
-/
import Derived.Test.YtnijlmkodgdhlaaDoorXElem
import Derived.Test.YtnijlmkodgdhlaaDoorYP
import Derived.Test.YtnijlmkodgdhlaaDoorYS
namespace Go.Proofs.YtnijlmkodgdhlaaDoor
open Go.RowKit Sc
set_option linter.unusedVariables false
set_option maxRecDepth 20000
set_option linter.unusedSimpArgs false

/-- What stands behind a prolog. -/
def headC (s : List UInt8) : Option (List UInt8) :=
  if preX [60, 63, 120, 109, 108] s = true then (match upP (· == 63) (s.drop 5) with
    | none => none
    | some (_, r) => if preX [63, 62] r = false then none else some (r.drop 2)) else some s
/-- The elements behind it. -/
def bodyC (s : List UInt8) : Option (List Nd) := match elemC (s.length + 1) 0 (s.dropWhile xblk) with
  | none => none
  | some (l, r) => if (r.dropWhile xblk).isEmpty = false then none else if checkX l = 0 then some l else none
def docC (s : List UInt8) : Option (List Nd) := match headC s with
  | none => none
  | some r => bodyC r
theorem headC_len {s r : List UInt8} (h : headC s = some r) : r.length ≤ s.length := by
  unfold headC at h
  split at h
  · split at h
    · cases h
    · next x y hu =>
      obtain ⟨c, q, hq, _, hl⟩ := up_head hu
      split at h
      · cases h
      · simp only [Option.some.injEq] at h
        rw [← h]
        simp at *
        omega
  · simp only [Option.some.injEq] at h
    rw [← h]; exact Nat.le_refl _
/-- The elements that a reader tells. -/
def DocP (o : Option (List Nd)) (b B : Nat) (v : Value) (w : World) (e : Ending) (w' : World) : Prop := match o with
  | none => e = gaveUp ∧ FrX b v w (.slice none 0 0) w'
  | some ns => ∃ v' cs', e = .returned v' ∧ ndsL cs' = ns ∧ OwnN w' B v' cs' ∧ FrX b v w v' w'
/-- What follows behind the prolog, from any slots. -/
def DocB (b B : Nat) : Prop := True
set_option maxHeartbeats 4000000 in
set_option maxRecDepth 100000 in
theorem doc_any (b B : Nat) (l : List UInt8) (w : World) (hrd : XrAt w b l (.slice none 0 0)) (hbB : b < B) (hB : B ≤ w.heap.size) (hl : l.length ≤ 4096) :
    Calls Tryd.prog 36 #[.pointer (some ⟨b, 0, none⟩)] w fun e w' => DocP (docC l) b B (.slice none 0 0) w e w' := by
  have KT := hid (took_any b l [60, 63, 120, 109, 108] (.slice none 0 0) w hrd (by omega) (by decide))
  have hD : docC l = (match headC l with | none => none | some r => bodyC r) := rfl
  have hH : headC l = if preX [60, 63, 120, 109, 108] l = true then (match upP (· == 63) (l.drop 5) with | none => none | some (_, r) => if preX [63, 62] r = false then none else some (r.drop 2)) else some l := rfl
  generalize docC l = R at hD ⊢
  cases h0 : preX [60, 63, 120, 109, 108] l with
  | true =>
    rw [if_pos h0] at hH
    rw [h0, show tookL [60, 63, 120, 109, 108] l = l.drop 5 by unfold tookL; rw [if_pos h0]; rfl] at KT
    have hl5 : (l.drop 5).length ≤ l.length := by rw [List.length_drop]; omega
    generalize l.drop 5 = l1 at hH KT hl5
    clear h0 hrd
    cases hu : upP (· == 63) l1 with
    | none =>
      rw [hu] at hH
      simp only at hH
      rw [hH] at hD
      have HD : Hid (R = none) := hD
      have HU := hid hu
      clear hD hH hu
      go_enter Tryd.func36, Tryd.ntmps36
      go_wp2_with fail
      refine (KT.out).mono ?_
      rintro e w1 ⟨rfl, hr1, hf1⟩
      go_wp2_with fail
      refine (upTo_bad (· == 63) ⟨#[63]⟩ b l1 _ w1 hr1 (by omega) (fun w' => xany_ask l1 w') HU.out).mono ?_
      rintro e w2 ⟨rfl, hf2⟩
      refine ⟨rfl, ?_⟩
      rw [HD.out]
      exact ⟨rfl, (FrX.of (hf1.trans hf2)).none⟩
    | some xy =>
      obtain ⟨x, y⟩ := xy
      rw [hu] at hH
      simp only at hH
      obtain ⟨_, _, _, _, hlq⟩ := up_head hu
      have HU := hid hu
      clear hu
      cases h1 : preX [63, 62] y with
      | false =>
        rw [if_pos h1] at hH
        rw [hH] at hD
        have HD : Hid (R = none) := hD
        have H1 := hid h1
        clear hD hH h1
        go_enter Tryd.func36, Tryd.ntmps36
        go_wp2_with fail
        refine (KT.out).mono ?_
        rintro e w1 ⟨rfl, hr1, hf1⟩
        go_wp2_with fail
        refine (upTo_ok (· == 63) ⟨#[63]⟩ b l1 _ w1 hr1 (by omega) (fun w' => xany_ask l1 w') x y HU.out).mono ?_
        rintro e w2 ⟨rfl, hr2, hf2⟩
        go_wp2_with fail
        refine (must_bad b y [63, 62] _ w2 hr2 (by omega) (by decide) H1.out).mono ?_
        rintro e w3 ⟨rfl, hf3⟩
        refine ⟨rfl, ?_⟩
        rw [HD.out]
        exact ⟨rfl, (FrX.of ((hf1.trans hf2).trans hf3)).none⟩
      | true =>
        rw [if_neg (by rw [h1]; simp)] at hH
        rw [hH] at hD
        simp only at hD
        have H1 := hid h1
        have hl6 : (y.drop 2).length ≤ 4096 := by rw [List.length_drop]; omega
        have KM := hid (fun w' (h' : XrAt w' b y (.slice none 0 0)) => must_ok b y [63, 62] _ w' h' (by omega) (by decide) H1.out)
        rw [show y.drop [(63 : UInt8), 62].length = y.drop 2 from rfl] at KM
        generalize y.drop 2 = s at hD KM hl6
        clear hH h1
        have KS := hid (fun w' (h' : XrAt w' b s (.slice none 0 0)) => skip_any b s _ w' h' (by omega))
        have hdl := dw_len xblk s
        have hB0 : bodyC s = (match elemC (s.length + 1) 0 (s.dropWhile xblk) with | none => none | some (l, r) => if (r.dropWhile xblk).isEmpty = false then none else if checkX l = 0 then some l else none) := rfl
        rw [hB0] at hD
        clear hB0
        generalize decide ((s.dropWhile xblk).length < s.length) = bb at KS
        generalize s.dropWhile xblk = s1 at KS hD hdl
        have KE := hid (fun w' (h' : XrAt w' b s1 (.slice none 0 0)) (hB' : B ≤ w'.heap.size) => el_any (s.length + 1) b 0 s1 (.slice none 0 0) [] B w' h' (OwnN.nil _ _) hbB hB' (by omega) (by simp; omega) (by omega))
        rw [show ((0 : Nat) : Int) = 0 from rfl] at KE
        cases he : elemC (s.length + 1) 0 s1 with
        | none =>
          rw [he] at hD KE
          simp only [ElP] at KE
          have HD : Hid (R = none) := hD
          clear hD he
          go_enter Tryd.func36, Tryd.ntmps36
          go_wp2_with fail
          refine (KT.out).mono ?_
          rintro e w1 ⟨rfl, hr1, hf1⟩
          go_wp2_with fail
          refine (upTo_ok (· == 63) ⟨#[63]⟩ b l1 _ w1 hr1 (by omega) (fun w' => xany_ask l1 w') x y HU.out).mono ?_
          rintro e w2 ⟨rfl, hr2, hf2⟩
          go_wp2_with fail
          refine (KM.out w2 hr2).mono ?_
          rintro e w3 ⟨rfl, hr3, hf3⟩
          have hf0 := (hf1.trans hf2).trans hf3
          go_wp2_with fail
          refine (KS.out w3 hr3).mono ?_
          rintro e w4 ⟨rfl, hr4, hf4⟩
          go_wp2_with fail
          refine (KE.out w4 hr4 (Nat.le_trans hB (hf0.trans hf4).size)).mono ?_
          rintro e w5 ⟨rfl, hf5⟩
          refine ⟨rfl, ?_⟩
          rw [HD.out]
          exact ⟨rfl, (FrX.of (hf0.trans hf4)).trans hf5⟩
        | some lr =>
          obtain ⟨ns, r⟩ := lr
          have hsm := elemC_small 100000 _ _ _ _ _ (by omega) he
          have hel := elemC_len _ _ _ _ _ he
          have hec := elemC_cnt _ _ _ _ _ he
          rw [he] at hD KE
          simp only [ElP] at KE
          simp only at hD
          clear he
          have HSM := hid hsm
          clear hsm
          have KS2 := hid (fun v' w' (h' : XrAt w' b r v') => skip_any b r v' w' h' (by omega))
          generalize decide ((r.dropWhile xblk).length < r.length) = bb2 at KS2
          generalize r.dropWhile xblk = r1 at KS2 hD
          have KC := hid (fun v' (cs' : List NdC) w' (hk : ndsL cs' = ns) (h' : OwnN w' B v' cs') => xcheck_any v' cs' w' (by have := congrArg List.length hk; rw [ndsL_len] at this; omega) (fun c hc => (HSM.out c.nd (by rw [← hk]; exact List.mem_map.2 ⟨c, hc, rfl⟩)).small (by omega)) h'.ndsAt)
          cases hr : r1.isEmpty with
          | false =>
            rw [if_pos hr] at hD
            have HD : Hid (R = none) := hD
            clear hD
            go_enter Tryd.func36, Tryd.ntmps36
            go_wp2_with fail
            refine (KT.out).mono ?_
            rintro e w1 ⟨rfl, hr1, hf1⟩
            go_wp2_with fail
            refine (upTo_ok (· == 63) ⟨#[63]⟩ b l1 _ w1 hr1 (by omega) (fun w' => xany_ask l1 w') x y HU.out).mono ?_
            rintro e w2 ⟨rfl, hr2, hf2⟩
            go_wp2_with fail
            refine (KM.out w2 hr2).mono ?_
            rintro e w3 ⟨rfl, hr3, hf3⟩
            have hf0 := (hf1.trans hf2).trans hf3
            go_wp2_with fail
            refine (KS.out w3 hr3).mono ?_
            rintro e w4 ⟨rfl, hr4, hf4⟩
            go_wp2_with fail
            refine (KE.out w4 hr4 (Nat.le_trans hB (hf0.trans hf4).size)).mono ?_
            rintro e w5 ⟨v5, cs5, rfl, hk5, hown5, hr5, hf5⟩
            rw [List.nil_append] at hown5
            go_wp2_with fail
            refine (KS2.out v5 w5 hr5).mono ?_
            rintro e w6 ⟨rfl, hr6, hf6⟩
            obtain ⟨c0, c1, f0, f1⟩ := RowIs.rc2 hr6
            go_wp2_with fail
            refine (giveUp_any _).mono ?_
            rintro e w7 ⟨rfl, rfl⟩
            refine ⟨rfl, ?_⟩
            rw [HD.out]
            exact ⟨rfl, (((FrX.of (hf0.trans hf4)).trans hf5).trans (FrX.of hf6)).none⟩
          | true =>
            rw [if_neg (by rw [hr]; simp)] at hD
            by_cases hck : checkX ns = 0
            · rw [if_pos hck] at hD
              have HD : Hid (R = some ns) := hD
              have HCK := hid hck
              clear hD hck
              go_enter Tryd.func36, Tryd.ntmps36
              go_wp2_with fail
              refine (KT.out).mono ?_
              rintro e w1 ⟨rfl, hr1, hf1⟩
              go_wp2_with fail
              refine (upTo_ok (· == 63) ⟨#[63]⟩ b l1 _ w1 hr1 (by omega) (fun w' => xany_ask l1 w') x y HU.out).mono ?_
              rintro e w2 ⟨rfl, hr2, hf2⟩
              go_wp2_with fail
              refine (KM.out w2 hr2).mono ?_
              rintro e w3 ⟨rfl, hr3, hf3⟩
              have hf0 := (hf1.trans hf2).trans hf3
              go_wp2_with fail
              refine (KS.out w3 hr3).mono ?_
              rintro e w4 ⟨rfl, hr4, hf4⟩
              go_wp2_with fail
              refine (KE.out w4 hr4 (Nat.le_trans hB (hf0.trans hf4).size)).mono ?_
              rintro e w5 ⟨v5, cs5, rfl, hk5, hown5, hr5, hf5⟩
              rw [List.nil_append] at hown5
              go_wp2_with fail
              refine (KS2.out v5 w5 hr5).mono ?_
              rintro e w6 ⟨rfl, hr6, hf6⟩
              obtain ⟨c0, c1, f0, f1⟩ := RowIs.rc2 hr6
              have hown6 := hown5.fr hf6 hr5
              have HK := hid hk5
              go_wp2_with fail
              refine (KC.out v5 cs5 w6 HK.out hown6).mono ?_
              rintro e w7 ⟨rfl, hw7⟩
              rw [HK.out, HCK.out]
              have hr7 := hr6.below hw7
              obtain ⟨d0, d1, g0, g1⟩ := RowIs.rc2 hr7
              go_wp2
              go_ret
              rw [HD.out]
              exact ⟨v5, cs5, rfl, HK.out, hown6.below hw7, (((FrX.of (hf0.trans hf4)).trans hf5).trans (FrX.of hf6)).trans (FrX.of (FrR.below hw7))⟩
            · rw [if_neg hck] at hD
              have HD : Hid (R = none) := hD
              have HCK : Hid ((checkX ns == 0) = false) := show _ = _ by rw [beq_eq_false_iff_ne]; exact hck
              clear hD hck
              go_enter Tryd.func36, Tryd.ntmps36
              go_wp2_with fail
              refine (KT.out).mono ?_
              rintro e w1 ⟨rfl, hr1, hf1⟩
              go_wp2_with fail
              refine (upTo_ok (· == 63) ⟨#[63]⟩ b l1 _ w1 hr1 (by omega) (fun w' => xany_ask l1 w') x y HU.out).mono ?_
              rintro e w2 ⟨rfl, hr2, hf2⟩
              go_wp2_with fail
              refine (KM.out w2 hr2).mono ?_
              rintro e w3 ⟨rfl, hr3, hf3⟩
              have hf0 := (hf1.trans hf2).trans hf3
              go_wp2_with fail
              refine (KS.out w3 hr3).mono ?_
              rintro e w4 ⟨rfl, hr4, hf4⟩
              go_wp2_with fail
              refine (KE.out w4 hr4 (Nat.le_trans hB (hf0.trans hf4).size)).mono ?_
              rintro e w5 ⟨v5, cs5, rfl, hk5, hown5, hr5, hf5⟩
              rw [List.nil_append] at hown5
              go_wp2_with fail
              refine (KS2.out v5 w5 hr5).mono ?_
              rintro e w6 ⟨rfl, hr6, hf6⟩
              obtain ⟨c0, c1, f0, f1⟩ := RowIs.rc2 hr6
              have hown6 := hown5.fr hf6 hr5
              have HK := hid hk5
              go_wp2_with fail
              refine (KC.out v5 cs5 w6 HK.out hown6).mono ?_
              rintro e w7 ⟨rfl, hw7⟩
              rw [HK.out]
              have q1 := HCK.out
              have q2 : (checkX ns != 0) = true := by rw [bne, q1]; rfl
              generalize checkX ns = ck at q1 q2 ⊢
              go_wp2_with fail
              refine (giveUp_any _).mono ?_
              rintro e w8 ⟨rfl, rfl⟩
              refine ⟨rfl, ?_⟩
              rw [HD.out]
              exact ⟨rfl, ((((FrX.of (hf0.trans hf4)).trans hf5).trans (FrX.of hf6)).trans (FrX.of (FrR.below hw7))).none⟩
  | false =>
    rw [if_neg (by rw [h0]; simp)] at hH
    rw [h0, show tookL [60, 63, 120, 109, 108] l = l by unfold tookL; rw [if_neg (by rw [h0]; simp)]] at KT
    rw [hH] at hD
    simp only at hD
    have hl6 := hl
    clear h0 hrd hH
    generalize l = s at hD KT hl6
    have KS := hid (fun w' (h' : XrAt w' b s (.slice none 0 0)) => skip_any b s _ w' h' (by omega))
    have hdl := dw_len xblk s
    have hB0 : bodyC s = (match elemC (s.length + 1) 0 (s.dropWhile xblk) with | none => none | some (l, r) => if (r.dropWhile xblk).isEmpty = false then none else if checkX l = 0 then some l else none) := rfl
    rw [hB0] at hD
    clear hB0
    generalize decide ((s.dropWhile xblk).length < s.length) = bb at KS
    generalize s.dropWhile xblk = s1 at KS hD hdl
    have KE := hid (fun w' (h' : XrAt w' b s1 (.slice none 0 0)) (hB' : B ≤ w'.heap.size) => el_any (s.length + 1) b 0 s1 (.slice none 0 0) [] B w' h' (OwnN.nil _ _) hbB hB' (by omega) (by simp; omega) (by omega))
    rw [show ((0 : Nat) : Int) = 0 from rfl] at KE
    cases he : elemC (s.length + 1) 0 s1 with
    | none =>
      rw [he] at hD KE
      simp only [ElP] at KE
      have HD : Hid (R = none) := hD
      clear hD he
      go_enter Tryd.func36, Tryd.ntmps36
      go_wp2_with fail
      refine (KT.out).mono ?_
      rintro e w3 ⟨rfl, hr3, hf0⟩
      go_wp2_with fail
      refine (KS.out w3 hr3).mono ?_
      rintro e w4 ⟨rfl, hr4, hf4⟩
      go_wp2_with fail
      refine (KE.out w4 hr4 (Nat.le_trans hB (hf0.trans hf4).size)).mono ?_
      rintro e w5 ⟨rfl, hf5⟩
      refine ⟨rfl, ?_⟩
      rw [HD.out]
      exact ⟨rfl, (FrX.of (hf0.trans hf4)).trans hf5⟩
    | some lr =>
      obtain ⟨ns, r⟩ := lr
      have hsm := elemC_small 100000 _ _ _ _ _ (by omega) he
      have hel := elemC_len _ _ _ _ _ he
      have hec := elemC_cnt _ _ _ _ _ he
      rw [he] at hD KE
      simp only [ElP] at KE
      simp only at hD
      clear he
      have HSM := hid hsm
      clear hsm
      have KS2 := hid (fun v' w' (h' : XrAt w' b r v') => skip_any b r v' w' h' (by omega))
      generalize decide ((r.dropWhile xblk).length < r.length) = bb2 at KS2
      generalize r.dropWhile xblk = r1 at KS2 hD
      have KC := hid (fun v' (cs' : List NdC) w' (hk : ndsL cs' = ns) (h' : OwnN w' B v' cs') => xcheck_any v' cs' w' (by have := congrArg List.length hk; rw [ndsL_len] at this; omega) (fun c hc => (HSM.out c.nd (by rw [← hk]; exact List.mem_map.2 ⟨c, hc, rfl⟩)).small (by omega)) h'.ndsAt)
      cases hr : r1.isEmpty with
      | false =>
        rw [if_pos hr] at hD
        have HD : Hid (R = none) := hD
        clear hD
        go_enter Tryd.func36, Tryd.ntmps36
        go_wp2_with fail
        refine (KT.out).mono ?_
        rintro e w3 ⟨rfl, hr3, hf0⟩
        go_wp2_with fail
        refine (KS.out w3 hr3).mono ?_
        rintro e w4 ⟨rfl, hr4, hf4⟩
        go_wp2_with fail
        refine (KE.out w4 hr4 (Nat.le_trans hB (hf0.trans hf4).size)).mono ?_
        rintro e w5 ⟨v5, cs5, rfl, hk5, hown5, hr5, hf5⟩
        rw [List.nil_append] at hown5
        go_wp2_with fail
        refine (KS2.out v5 w5 hr5).mono ?_
        rintro e w6 ⟨rfl, hr6, hf6⟩
        obtain ⟨c0, c1, f0, f1⟩ := RowIs.rc2 hr6
        go_wp2_with fail
        refine (giveUp_any _).mono ?_
        rintro e w7 ⟨rfl, rfl⟩
        refine ⟨rfl, ?_⟩
        rw [HD.out]
        exact ⟨rfl, (((FrX.of (hf0.trans hf4)).trans hf5).trans (FrX.of hf6)).none⟩
      | true =>
        rw [if_neg (by rw [hr]; simp)] at hD
        by_cases hck : checkX ns = 0
        · rw [if_pos hck] at hD
          have HD : Hid (R = some ns) := hD
          have HCK := hid hck
          clear hD hck
          go_enter Tryd.func36, Tryd.ntmps36
          go_wp2_with fail
          refine (KT.out).mono ?_
          rintro e w3 ⟨rfl, hr3, hf0⟩
          go_wp2_with fail
          refine (KS.out w3 hr3).mono ?_
          rintro e w4 ⟨rfl, hr4, hf4⟩
          go_wp2_with fail
          refine (KE.out w4 hr4 (Nat.le_trans hB (hf0.trans hf4).size)).mono ?_
          rintro e w5 ⟨v5, cs5, rfl, hk5, hown5, hr5, hf5⟩
          rw [List.nil_append] at hown5
          go_wp2_with fail
          refine (KS2.out v5 w5 hr5).mono ?_
          rintro e w6 ⟨rfl, hr6, hf6⟩
          obtain ⟨c0, c1, f0, f1⟩ := RowIs.rc2 hr6
          have hown6 := hown5.fr hf6 hr5
          have HK := hid hk5
          go_wp2_with fail
          refine (KC.out v5 cs5 w6 HK.out hown6).mono ?_
          rintro e w7 ⟨rfl, hw7⟩
          rw [HK.out, HCK.out]
          have hr7 := hr6.below hw7
          obtain ⟨d0, d1, g0, g1⟩ := RowIs.rc2 hr7
          go_wp2
          go_ret
          rw [HD.out]
          exact ⟨v5, cs5, rfl, HK.out, hown6.below hw7, (((FrX.of (hf0.trans hf4)).trans hf5).trans (FrX.of hf6)).trans (FrX.of (FrR.below hw7))⟩
        · rw [if_neg hck] at hD
          have HD : Hid (R = none) := hD
          have HCK : Hid ((checkX ns == 0) = false) := show _ = _ by rw [beq_eq_false_iff_ne]; exact hck
          clear hD hck
          go_enter Tryd.func36, Tryd.ntmps36
          go_wp2_with fail
          refine (KT.out).mono ?_
          rintro e w3 ⟨rfl, hr3, hf0⟩
          go_wp2_with fail
          refine (KS.out w3 hr3).mono ?_
          rintro e w4 ⟨rfl, hr4, hf4⟩
          go_wp2_with fail
          refine (KE.out w4 hr4 (Nat.le_trans hB (hf0.trans hf4).size)).mono ?_
          rintro e w5 ⟨v5, cs5, rfl, hk5, hown5, hr5, hf5⟩
          rw [List.nil_append] at hown5
          go_wp2_with fail
          refine (KS2.out v5 w5 hr5).mono ?_
          rintro e w6 ⟨rfl, hr6, hf6⟩
          obtain ⟨c0, c1, f0, f1⟩ := RowIs.rc2 hr6
          have hown6 := hown5.fr hf6 hr5
          have HK := hid hk5
          go_wp2_with fail
          refine (KC.out v5 cs5 w6 HK.out hown6).mono ?_
          rintro e w7 ⟨rfl, hw7⟩
          rw [HK.out]
          have q1 := HCK.out
          have q2 : (checkX ns != 0) = true := by rw [bne, q1]; rfl
          generalize checkX ns = ck at q1 q2 ⊢
          go_wp2_with fail
          refine (giveUp_any _).mono ?_
          rintro e w8 ⟨rfl, rfl⟩
          refine ⟨rfl, ?_⟩
          rw [HD.out]
          exact ⟨rfl, ((((FrX.of (hf0.trans hf4)).trans hf5).trans (FrX.of hf6)).trans (FrX.of (FrR.below hw7))).none⟩
end Go.Proofs.YtnijlmkodgdhlaaDoor
