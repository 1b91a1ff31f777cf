/-
  The walk of the law AddrMany.
-/
import Derived.Test.YtgboekilhldejabDoorAAll
import Derived.Test.YtgboekilhldejabDoorGlue
namespace Go.Proofs.YtgboekilhldejabDoor.addrMany
open Go.RowKit Sc
set_option linter.unusedVariables false
set_option maxRecDepth 20000

theorem comma_cons (t : List UInt8) : ∀ {ts : List (List UInt8)}, ts ≠ [] → commaT (t :: ts) = t ++ [44, 32] ++ commaT ts
  | [], h => absurd rfl h
  | x :: ts, _ => by rw [commaT]; simp
theorem comma_snoc : ∀ (ts : List (List UInt8)) (x : List UInt8), commaT (ts ++ [x]) = if ts = [] then x else commaT ts ++ [44, 32] ++ x
  | [], x => by simp [commaT]
  | [t], x => by simp [commaT]
  | t :: u :: ts, x => by
    have h := comma_snoc (u :: ts) x
    rw [if_neg (by simp)] at h
    rw [List.cons_append, comma_cons t (by simp), h, comma_cons t (by simp)]
    simp
theorem glue_comma (ps : List (List UInt8)) : ∀ k, k ≤ ps.length → glueK [44, 32] ps k = commaT (ps.take k)
  | 0, _ => by simp [glueK, commaT]
  | k + 1, h => by
    have ih := glue_comma ps k (by omega)
    rw [List.take_succ_eq_append_getElem (by omega), comma_snoc]
    by_cases h0 : k = 0
    · subst h0; rw [glue_first _ _ (by omega)]; simp
    · rw [glue_next _ _ (by omega) (by omega), ih, if_neg (by intro e; have := congrArg List.length e; rw [List.length_take] at this; simp only [List.length_nil] at this; omega)]
theorem comma_len (N : Nat) : ∀ (ts : List (List UInt8)), (∀ t ∈ ts, t.length ≤ N) → (commaT ts).length ≤ ts.length * (N + 2)
  | [], _ => by simp [commaT]
  | [t], h => by have := h t (by simp); simp [commaT]; omega
  | t :: u :: ts, h => by
    have h1 := h t (by simp)
    have h2 := comma_len N (u :: ts) (fun x hx => h x (by simp at hx ⊢; exact Or.inr hx))
    rw [comma_cons t (by simp)]
    simp only [List.length_append, List.length_cons, List.length_nil] at h2 ⊢
    rw [Nat.succ_mul]
    omega
theorem strs_snoc (ws : List (List UInt8)) (x : List UInt8) : strs (ws ++ [x]) = strs ws ++ [.string ⟨x.toArray⟩] := by simp [strs]
theorem glue_list (B1 : Nat) (v1 : Value) (ps : List (List UInt8)) (w : World) (h1 : Own w B1 9 v1 (strs ps)) (hne : ps ≠ []) (hl : ps.length ≤ 16) (hj : (commaT ps).length ≤ 1048576) :
    Calls Tryd.prog 7 #[v1, .string ⟨#[44, 32]⟩] w fun e w' => e = .returned (.string ⟨(commaT ps).toArray⟩) ∧ Below w.heap.size w w' := by
  have e : glueK (⟨#[44, 32]⟩ : ByteArray).data.toList ps ps.length = commaT ps := by
    have := glue_comma ps ps.length (Nat.le_refl _)
    rw [List.take_length] at this
    exact this
  have k := glue_any B1 v1 ps ⟨#[44, 32]⟩ w h1 hne (by omega) (by rw [e]; omega)
  rw [e] at k
  exact k

set_option maxHeartbeats 2000000 in
set_option maxRecDepth 100000 in
theorem law_walk (w : World) (v0 : Value) (k0 : AddrsIn 140737488351232 w v0) :
    Calls Tryd.prog 3 #[v0] w fun e w' => e = .returned (.bool true) ∧ Below w.heap.size w w' := by
  obtain ⟨i0, hi, hz0, hz1, hz2⟩ := info_parts info9
  obtain ⟨cs, hat, hlen, hsm0⟩ := k0
  have HSM : Hid (∀ c ∈ cs, SmallA 140737488355328 c.a) := fun c hc => (hsm0 c hc).le (by omega)
  obtain ⟨n, hn⟩ : ∃ n, n = cs.length := ⟨_, rfl⟩
  have HE := hid (fun k (hk : k < cs.length) => hat.eight k hk)
  have HAT := hid hat
  obtain ⟨a1, c1, e1⟩ := hat.form
  rw [← hn] at e1 hlen
  have HN := hid hn
  clear hat hn hsm0
  subst e1
  by_cases hn1 : n < 1
  case pos =>
    have hn1' : (n : Int) < 1 := by omega
    go_enter Tryd.func3, Tryd.ntmps3
    go_wp2_with (go_at_call 4; refine (awake5_any _).mono ?_; rintro e w9 ⟨rfl, hw9⟩)
    go_ret
    exact ⟨rfl, hw9⟩
  have hn1' : ¬ ((n : Int) < 1) := by omega
  by_cases hn2 : n ≤ 16
  case neg =>
    have hn2' : (16 : Int) < n := by omega
    go_enter Tryd.func3, Tryd.ntmps3
    go_wp2_with (go_at_call 4; refine (awake5_any _).mono ?_; rintro e w9 ⟨rfl, hw9⟩)
    go_ret
    exact ⟨rfl, hw9⟩
  have hn2' : ¬ ((16 : Int) < n) := by omega
  go_enter Tryd.func3, Tryd.ntmps3
  go_wp2
  go_loopw [3, 4] (fun x i wr => ∃ (k : Nat) (ts : List (List UInt8)), k ≤ n ∧ i = .int .i64 k ∧ Hid (ts.length = k) ∧ Hid (ts = ((cs.take k).map AdrC.a).map textA) ∧ Hid (∀ c ∈ cs.take k, checkA c.a = 0) ∧ Hid (Own wr w.heap.size 9 x (strs ts)) ∧ Below w.heap.size w wr ∧ w.heap.size ≤ wr.heap.size) (fun _ i _ => n - (intOf i).toNat)
  case atStart => exact ⟨0, [], by omega, rfl, hid rfl, hid (by simp), hid (by simp), Own.nil _ _ _, Below.refl _ _, Nat.le_refl _⟩
  case round =>
    obtain ⟨k, ts, hkn, rfl, htk, hts, hck, hown, hb, hB⟩ := hrel
    by_cases hlt : k < n
    · have hkl : k < cs.length := by have := HN.out; omega
      obtain ⟨ad, cap, e1, hab, hei⟩ := HE.out k hkl
      simp only [Value.slice.injEq] at e1
      obtain ⟨rfl, hcut, rfl⟩ := e1
      clear hcut
      have htake : cs.take (k + 1) = cs.take k ++ [cs[k]] := List.take_succ_eq_append_getElem hkl
      have hss := HSM.out _ (List.getElem_mem hkl)
      have hatk := HAT.out.2 _ (List.getElem_mem hkl)
      have KP := hid (fun w' (hb' : Below w.heap.size w w') => aprint_any cs[k] w' hss (hatk.below hb'))
      have HTAKE := hid htake
      have hei2 := hei.below hb hab
      clear hei hss htake
      generalize cs[k] = c at KP hei2 hatk HTAKE
      obtain ⟨x, p, h, q⟩ := c
      obtain ⟨b1, j1, r1⟩ := hatk.1.form
      obtain ⟨b2, j2, r2⟩ := hatk.2.1.form
      obtain ⟨b3, j3, r3⟩ := hatk.2.2.1.form
      simp only at r1 r2 r3
      subst r1 r2 r3
      clear hatk
      obtain ⟨xa, xc, hxe⟩ := hown.out.form
      rw [strs_length] at hxe
      subst hxe
      by_cases hok : checkA x = 0
      · have hpr : printA x = (textA x, 0) := by rw [printA, if_pos hok]
        simp only at KP
        rw [hpr] at KP
        have hts2 : Hid (ts ++ [textA x] = ((cs.take (k + 1)).map AdrC.a).map textA) := show _ = _ by rw [HTAKE.out, hts.out]; simp
        have hck2 : Hid (∀ c ∈ cs.take (k + 1), checkA c.a = 0) := fun c hc => by
          rw [HTAKE.out] at hc
          rcases List.mem_append.1 hc with hc | hc
          · exact hck.out c hc
          · simp at hc; subst hc; exact hok
        generalize textA x = tx at KP hts2
        clear hpr hok hts hck HTAKE
        obtain ⟨d, ⟨us, uu, uh, up, upp, uhh⟩, ps⟩ := x
        obtain ⟨x0, x1, x2, x3, x4, x5, x6, x7⟩ := hei2
        unfold adrV at KP
        simp only at KP x0 x1 x2 x3 x4 x5 x6 x7
        by_cases l1 : ps.length ≤ 100
        case neg =>
          have l1' : (100 : Int) < (ps.length : Int) := by omega
          clear KP
          go_wp2_with (go_at_call 4; refine (awake5_any _).mono ?_; rintro e w9 ⟨rfl, hw9⟩)
          go_ret
          exact ⟨rfl, hb.trans (hw9.mono hB)⟩
        have l1' : ¬ ((100 : Int) < (ps.length : Int)) := by omega
        by_cases l2 : upp.length ≤ 100
        case neg =>
          have l2' : (100 : Int) < (upp.length : Int) := by omega
          clear KP
          go_wp2_with (go_at_call 4; refine (awake5_any _).mono ?_; rintro e w9 ⟨rfl, hw9⟩)
          go_ret
          exact ⟨rfl, hb.trans (hw9.mono hB)⟩
        have l2' : ¬ ((100 : Int) < (upp.length : Int)) := by omega
        by_cases l3 : uhh.length ≤ 100
        case neg =>
          have l3' : (100 : Int) < (uhh.length : Int) := by omega
          clear KP
          go_wp2_with (go_at_call 4; refine (awake5_any _).mono ?_; rintro e w9 ⟨rfl, hw9⟩)
          go_ret
          exact ⟨rfl, hb.trans (hw9.mono hB)⟩
        have l3' : ¬ ((100 : Int) < (uhh.length : Int)) := by omega
        go_wp2_with fail
        refine (KP.out _ hb).mono ?_
        rintro e w2 ⟨rfl, hw2⟩
        have hown2 := hown.out.below hw2
        have hb2 := hb.trans (hw2.mono hB)
        have hB2 := hb2.size
        clear KP x0 x1 x2 x3 x4 x5 x6 x7 hown hb hw2
        go_wp2_with (at_builtin; refine wp_app _ rfl (.tmp 63) (.tmp 65) 24 rfl w.heap.size 9 i0 (.string .empty) 16 Tryd.underlying24 hi hz0 hz1 hz2 rfl _ _ rfl (hown2.alloc _) ⟨_, 0, none⟩ 1 1 [.string ⟨tx.toArray⟩] rfl rfl (by exact one_new _ _ _) (by intro u hu; simp at hu; subst hu; rfl) (by have := htk.out; rw [strs_length]; unfold maxLen; omega) (by have := htk.out; rw [strs_length]; omega) w (hb2.alloc hB2 _) (by simp; omega) ?_; intro v5 w5 hown5 hb5 hB5)
        rw [← strs_snoc] at hown5
        have HO5 := hid hown5
        clear hown5 hown2
        go_wp2
        go_roundw
        case rel => exact ⟨k + 1, ts ++ [tx], by omega, by go_num, hid (by have := htk.out; simp; omega), hts2, hck2, HO5, hb5, hB5⟩
        case measure => simp [intOf]; omega
      · have hpr : printA x = ([], checkA x) := by rw [printA, if_neg hok]
        simp only at KP
        rw [hpr] at KP
        have hne : (checkA x != 0) = true := by simpa using hok
        generalize checkA x = cv at KP hne
        clear hpr hok hts hck HTAKE
        obtain ⟨d, ⟨us, uu, uh, up, upp, uhh⟩, ps⟩ := x
        obtain ⟨x0, x1, x2, x3, x4, x5, x6, x7⟩ := hei2
        unfold adrV at KP
        simp only at KP x0 x1 x2 x3 x4 x5 x6 x7
        by_cases l1 : ps.length ≤ 100
        case neg =>
          have l1' : (100 : Int) < (ps.length : Int) := by omega
          clear KP
          go_wp2_with (go_at_call 4; refine (awake5_any _).mono ?_; rintro e w9 ⟨rfl, hw9⟩)
          go_ret
          exact ⟨rfl, hb.trans (hw9.mono hB)⟩
        have l1' : ¬ ((100 : Int) < (ps.length : Int)) := by omega
        by_cases l2 : upp.length ≤ 100
        case neg =>
          have l2' : (100 : Int) < (upp.length : Int) := by omega
          clear KP
          go_wp2_with (go_at_call 4; refine (awake5_any _).mono ?_; rintro e w9 ⟨rfl, hw9⟩)
          go_ret
          exact ⟨rfl, hb.trans (hw9.mono hB)⟩
        have l2' : ¬ ((100 : Int) < (upp.length : Int)) := by omega
        by_cases l3 : uhh.length ≤ 100
        case neg =>
          have l3' : (100 : Int) < (uhh.length : Int) := by omega
          clear KP
          go_wp2_with (go_at_call 4; refine (awake5_any _).mono ?_; rintro e w9 ⟨rfl, hw9⟩)
          go_ret
          exact ⟨rfl, hb.trans (hw9.mono hB)⟩
        have l3' : ¬ ((100 : Int) < (uhh.length : Int)) := by omega
        go_wp2_with fail
        refine (KP.out _ hb).mono ?_
        rintro e w2 ⟨rfl, hw2⟩
        have hb2 := hb.trans (hw2.mono hB)
        clear KP x0 x1 x2 x3 x4 x5 x6 x7 hown hb hw2
        go_wp2_with (go_at_call 4; refine (awake5_any _).mono ?_; rintro e w9 ⟨rfl, hw9⟩)
        go_ret
        exact ⟨rfl, hb2.trans (hw9.mono hb2.size)⟩
    · have hke : k = n := by omega
      have htk' := htk.out
      have hcs : cs.take k = cs := List.take_of_length_le (by have := HN.out; omega)
      have hts2 : ts = (cs.map AdrC.a).map textA := by rw [hts.out, hcs]
      have hck2 : ∀ c ∈ cs, checkA c.a = 0 := by have := hck.out; rw [hcs] at this; exact this
      have hal : (cs.map AdrC.a).length = n := by rw [List.length_map]; exact HN.out.symm
      have hmany := many_back (al := cs.map AdrC.a) (by intro e; rw [e] at hal; simp at hal; omega) (by omega) (fun a ha => by simp at ha; obtain ⟨c, hc, rfl⟩ := ha; exact hck2 c hc)
      rw [← hts2] at hmany
      have htl := comma_len 18000 ts (fun t ht => by rw [hts2] at ht; simp at ht; obtain ⟨c, hc, rfl⟩ := ht; exact textA_small (hck2 c hc))
      have htl2 : (commaT ts).length ≤ 1048576 := by
        have : ts.length * (18000 + 2) ≤ 16 * (18000 + 2) := Nat.mul_le_mul_right _ (by omega)
        omega
      have hne : ts ≠ [] := by intro e; rw [e] at htk'; simp at htk'; omega
      have KG := hid (fun v w' (h : Own w' w.heap.size 9 v (strs ts)) => glue_list w.heap.size v ts w' h hne (by omega) htl2)
      have KL := hid (fun w' => alist_any (commaT ts) w' htl2)
      rw [hmany] at KL
      unfold ListRes at KL
      simp only at KL
      generalize commaT ts = gt at KG KL
      obtain ⟨xa, xc, hxe⟩ := hown.out.form
      rw [strs_length] at hxe
      subst hxe
      clear hts hck hts2 hck2 hcs hal hmany htl htl2 hne htk' hke
      go_wp2_with fail
      refine (KG.out _ _ hown.out).mono ?_
      rintro e w2 ⟨rfl, hw2⟩
      have hb2 := hb.trans (hw2.mono hB)
      clear hown KG hw2 hb
      go_wp2_with fail
      refine (KL.out _).mono ?_
      rintro e w3 ⟨⟨v3, cs3, rfl, hm3, ho3⟩, hw3⟩
      obtain ⟨ya, yc, hye⟩ := ho3.form
      subst hye
      have P3 := hid ho3.adrsAt
      have hb3 := hb2.trans (hw3.mono hb2.size)
      have HM := hid hm3.symm
      have hcl : cs.length ≤ 1048576 := by have := HN.out; omega
      clear KL ho3 hw3 hb2 hm3
      go_wp2_with fail
      refine (aall_any _ _ cs cs3 _ hcl HSM.out HM.out (HAT.out.below hb3) P3.out).mono ?_
      rintro e w4 ⟨rfl, hw4⟩
      have hb4 := hb3.trans (hw4.mono hb3.size)
      clear P3 HM hb3 hw4
      go_wp2_with (go_at_call 4; refine (awake5_any _).mono ?_; rintro e w9 ⟨rfl, hw9⟩)
      go_ret
      exact ⟨rfl, hb4.trans (hw9.mono hb4.size)⟩

end Go.Proofs.YtgboekilhldejabDoor.addrMany
