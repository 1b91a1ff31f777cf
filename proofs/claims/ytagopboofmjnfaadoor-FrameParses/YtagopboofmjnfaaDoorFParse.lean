/-
  The contract of package frame's Parse.
-/
import Derived.Test.YtagopboofmjnfaaDoorFStart
import Derived.Test.YtagopboofmjnfaaDoorFHeaders
namespace Go.Proofs.YtagopboofmjnfaaDoor
open Go.RowKit Go.Sort Sc
set_option linter.unusedVariables false
set_option maxRecDepth 20000

/-- What Parse hands back. -/
def MsgRes (R : Ms × Int) (w w' : World) (e : Ending) : Prop := ∃ h, e = .returned (.tuple #[msgV R.1 h, .int .i64 R.2]) ∧ OwnH w' w.heap.size h R.1.headers
theorem pres_bad {R : Ms × Int} {n : Int} {w w' : World} (h : R = (noM, n)) : MsgRes R w w' (.returned (.tuple #[.agg #[.string ⟨#[]⟩, .string ⟨#[]⟩, .int .i64 0, .string ⟨#[]⟩, .slice none 0 0, .string ⟨#[]⟩], .int .i64 n])) := by
  subst h
  exact ⟨.slice none 0 0, rfl, OwnH.nil _ _⟩
theorem pres_ok {R : Ms × Int} {me ta re bo : List UInt8} {st : Int} {hs : List Hdr} {v : Value} {w w' : World} (h : R = (⟨me, ta, st, re, hs, bo⟩, 0)) (ho : OwnH w' w.heap.size v hs) :
    MsgRes R w w' (.returned (.tuple #[.agg #[.string ⟨me.toArray⟩, .string ⟨ta.toArray⟩, .int .i64 st, .string ⟨re.toArray⟩, v, .string ⟨bo.toArray⟩], .int .i64 0])) := by
  subst h
  exact ⟨v, rfl, ho⟩
theorem rowB_new (w : World) (me ta re bo : List UInt8) (st : Int) : RowIs (w.alloc (.cells #[.string ⟨me.toArray⟩, .string ⟨ta.toArray⟩, .int .i64 st, .string ⟨re.toArray⟩, .slice none 0 0, .string ⟨bo.toArray⟩] 24)) w.heap.size 24 [.string ⟨me.toArray⟩, .string ⟨ta.toArray⟩, .int .i64 st, .string ⟨re.toArray⟩, .slice none 0 0, .string ⟨bo.toArray⟩] := by
  unfold RowIs; rw [heap_alloc_new]
theorem RowIs.alloc2 {w : World} {g : Nat} {e : TypeId} {l : List Value} (h : RowIs w g e l) (o : Obj) : RowIs (w.alloc o) g e l :=
  h.below ((Below.refl _ w).alloc (Nat.le_refl _) o) (Array.getElem?_eq_some_iff.1 h).1
theorem OwnH.setB {w : World} {B : Nat} {v : Value} {hs : List Hdr} (h : OwnH w B v hs) {b : Nat} (hb : b < B) (j : Nat) (u : Value) : OwnH (w.setCell ⟨b, j, none⟩ u) B v hs := ownsRow_setCell_below h hb _
theorem OwnH.store {w : World} {B : Nat} {v : Value} {hs : List Hdr} (h : OwnH w B v hs) {b : Nat} (hb : b < B) (v0 v1 v2 v3 v4 v5 : Value) :
    OwnH ((((((w.setCell ⟨b, 0, none⟩ v0).setCell ⟨b, 1, none⟩ v1).setCell ⟨b, 2, none⟩ v2).setCell ⟨b, 3, none⟩ v3).setCell ⟨b, 4, none⟩ v4).setCell ⟨b, 5, none⟩ v5) B v hs :=
  (((((h.setB hb 0 v0).setB hb 1 v1).setB hb 2 v2).setB hb 3 v3).setB hb 4 v4).setB hb 5 v5
theorem startC_hs (s : List UInt8) : (startC s).1.headers = [] ∧ (startC s).1.body = [] := by
  unfold startC
  split
  · exact ⟨rfl, rfl⟩
  · split
    · exact ⟨rfl, rfl⟩
    · split <;> exact ⟨rfl, rfl⟩
theorem headersC_num : ∀ (ts : List (List UInt8)) (l : List Hdr) (n : Int), -1 ≤ n → n ≤ 4096 → -1 ≤ (headersC l n ts).2.1 ∧ (headersC l n ts).2.1 ≤ 4096
  | [], l, n, h0, h1 => ⟨h0, h1⟩
  | t :: ts, l, n, h0, h1 => by
    rw [headersC]
    split
    · simp
    · split
      · split
        · simp
        · rename_i h2
          simp only [not_or, Decidable.not_not] at h2
          have := numV_nonneg (by decide) h2.1
          exact headersC_num ts l _ (by omega) this.2
      · split
        · simp
        · exact headersC_num ts _ n h0 h1
theorem txts_tail {w : World} {g : Nat} {p0 : List UInt8} {ps : List (List UInt8)} (hc : ∀ j (hj : j < (p0 :: ps).length), w.cell? ⟨g, j, none⟩ = some (.string ⟨((p0 :: ps)[j]).toArray⟩)) (hg : g < w.heap.size) : TxtsIn w (some ⟨g, 1, none⟩) ps := fun j hj => by
  refine ⟨_, rfl, hg, ?_⟩
  have h := hc (j + 1) (by simpa using hj)
  rw [add_at, Nat.add_comm 1 j, h]
  simp

set_option maxHeartbeats 4000000 in
set_option maxRecDepth 100000 in
theorem fparse_any (s : List UInt8) (w : World) (hmax : MaxAt w) (hs47 : s.length ≤ 140737488355328) :
    Calls Tryd.prog 17 #[.string ⟨s.toArray⟩] w fun e w' => MsgRes (parseM s) w w' e ∧ Below w.heap.size w w' := by
  have hz := size_list s
  obtain ⟨R, hRR⟩ : ∃ R, R = parseM s := ⟨_, rfl⟩
  rw [← hRR]
  have hr0 := rowM_new w
  have hb0 : Below w.heap.size w (w.alloc (.cells #[.string ⟨#[]⟩, .string ⟨#[]⟩, .int .i64 0, .string ⟨#[]⟩, .slice none 0 0, .string ⟨#[]⟩] 24)) := (Below.refl _ w).alloc (Nat.le_refl _) _
  have hlt0 := alloc_lt w (.cells #[.string ⟨#[]⟩, .string ⟨#[]⟩, .int .i64 0, .string ⟨#[]⟩, .slice none 0 0, .string ⟨#[]⟩] 24)
  by_cases h4 : 4096 < s.length
  · have h4' : (4096 : Int) < (s.length : Int) := by omega
    have HR : Hid (R = (noM, 2)) := show _ = _ by rw [hRR]; exact parse_long h4
    clear hRR hlt0
    go_enter Tryd.func17, Tryd.ntmps17
    go_wp2
    try simp only [Exit.inBlock, Exit.then]
    have hr7 := hr0
    have hb7 := hb0
    generalize World.alloc _ _ = w7 at hr7 hb7 ⊢
    obtain ⟨d0, d1, d2, d3, d4, d5, _, _, _, _, _, _⟩ := hr7.six
    refine bodyPost_ret (v := .tuple #[.agg #[.string ⟨#[]⟩, .string ⟨#[]⟩, .int .i64 0, .string ⟨#[]⟩, .slice none 0 0, .string ⟨#[]⟩], .int .i64 2]) (by simp [results, Tryd.results17, go_sem, d0, d1, d2, d3, d4, d5]; try rfl) rfl ?_
    exact ⟨pres_bad HR.out, hb7⟩
  have h4' : ¬ ((4096 : Int) < (s.length : Int)) := by omega
  have hcl := cut4_len s
  obtain ⟨a, b, en, hcut⟩ : ∃ a b en, Lib.cut s crlf4 = (a, b, en) := ⟨_, _, _, rfl⟩
  have KC := hid (fun w' (hb : Below w.heap.size w w') => cut4_of hcut w' (hmax.below hb) (by omega))
  have KP := hid (fun w' => prefix2_of s w')
  have hend := @parse_end s h4
  have hlines := @parse_lines s a b h4
  have hlne := @lines_ne s a b
  rw [hcut] at hcl hend hlines hlne
  simp only at hcl hend hlines hlne
  rw [← hRR] at hend hlines
  have KS := hid (fun w' (hb : Below w.heap.size w w') => split2_of a w' (hmax.below hb) (by omega))
  clear hcut hRR hmax
  obtain ⟨pf, hpf⟩ : ∃ pf, pf = List.isPrefixOf crlf s := ⟨_, rfl⟩
  rw [← hpf] at KP hend hlines hlne
  clear hpf
  have HEND := hid hend
  have HLINES := hid hlines
  have HLNE := hid hlne
  clear hend hlines hlne
  obtain ⟨s1, s2⟩ := split2_len a
  obtain ⟨q1, q2, q3⟩ := lines_len a
  have hsum := sumL_is (Lib.split a crlf)
  have KU := hid (fun (ad : Addr) w' (h1 : TxtsAt w' ad (Lib.split a crlf)) h2 => unfold_any (Lib.split a crlf) ad w' h1 h2 (by omega) (by omega))
  have hlv : linesV a = (Lib.split a crlf).foldl pushL [] := rfl
  rw [← hlv] at KU
  clear hlv hsum
  go_enter Tryd.func17, Tryd.ntmps17
  go_wp2_with fail
  refine (KC.out _ hb0).mono ?_
  rintro e w1 ⟨rfl, hw1⟩
  have hr1 := hr0.below hw1 hlt0
  have hb1 := hb0.trans (hw1.mono hb0.size)
  have hlt1 := Nat.lt_of_lt_of_le hlt0 hw1.size
  clear hr0 hb0 hlt0 hw1 KC
  cases en with
  | false =>
    have HR := hid (HEND.out (Or.inl rfl))
    clear HEND HLINES HLNE KS KU KP
    obtain ⟨y0, y1, y2, y3, y4, y5, f0, f1, f2, f3, f4, f5⟩ := hr1.six
    go_wp2
    have hr7 := row_store hr1 (.string ⟨#[]⟩) (.string ⟨#[]⟩) (.int .i64 0) (.string ⟨#[]⟩) (.slice none 0 0) (.string ⟨#[]⟩)
    have hb7 := store_below hb1 w.heap.size (Nat.le_refl _) (.string ⟨#[]⟩) (.string ⟨#[]⟩) (.int .i64 0) (.string ⟨#[]⟩) (.slice none 0 0) (.string ⟨#[]⟩)
    generalize World.setCell _ _ _ = w7 at hr7 hb7 ⊢
    obtain ⟨d0, d1, d2, d3, d4, d5, _, _, _, _, _, _⟩ := hr7.six
    try simp only [Exit.inBlock, Exit.then]
    refine bodyPost_ret (v := .tuple #[.agg #[.string ⟨#[]⟩, .string ⟨#[]⟩, .int .i64 0, .string ⟨#[]⟩, .slice none 0 0, .string ⟨#[]⟩], .int .i64 63]) (by simp [results, Tryd.results17, go_sem, d0, d1, d2, d3, d4, d5]; try rfl) rfl ?_
    exact ⟨pres_bad HR.out, hb7⟩
  | true =>
    cases pf with
    | true =>
      have HR := hid (HEND.out (Or.inr rfl))
      clear HEND HLINES HLNE KS KU
      obtain ⟨y0, y1, y2, y3, y4, y5, f0, f1, f2, f3, f4, f5⟩ := hr1.six
      go_wp2_with (go_at_call 40; refine (KP.out _).mono ?_; rintro e w' ⟨rfl, hw⟩; rw [hw])
      have hr7 := row_store hr1 (.string ⟨#[]⟩) (.string ⟨#[]⟩) (.int .i64 0) (.string ⟨#[]⟩) (.slice none 0 0) (.string ⟨#[]⟩)
      have hb7 := store_below hb1 w.heap.size (Nat.le_refl _) (.string ⟨#[]⟩) (.string ⟨#[]⟩) (.int .i64 0) (.string ⟨#[]⟩) (.slice none 0 0) (.string ⟨#[]⟩)
      generalize World.setCell _ _ _ = w7 at hr7 hb7 ⊢
      obtain ⟨d0, d1, d2, d3, d4, d5, _, _, _, _, _, _⟩ := hr7.six
      try simp only [Exit.inBlock, Exit.then]
      refine bodyPost_ret (v := .tuple #[.agg #[.string ⟨#[]⟩, .string ⟨#[]⟩, .int .i64 0, .string ⟨#[]⟩, .slice none 0 0, .string ⟨#[]⟩], .int .i64 63]) (by simp [results, Tryd.results17, go_sem, d0, d1, d2, d3, d4, d5]; try rfl) rfl ?_
      exact ⟨pres_bad HR.out, hb7⟩
    | false =>
      have hR := HLINES.out rfl rfl
      have hne := HLNE.out rfl rfl
      clear HEND HLINES HLNE
      generalize Lib.split a crlf = ps at KS KU hne s1 s2
      have HNE := hid hne
      clear hne
      obtain ⟨l0, ls, hls⟩ : ∃ l0 ls, linesV a = l0 :: ls := by
        cases h : linesV a with
        | nil => rw [h] at q2; simp at q2
        | cons x xs => exact ⟨x, xs, rfl⟩
      rw [hls] at KU hR q1 q3
      have hl0 := q3 l0 (by simp)
      have hsth := startC_hs l0
      have hnum := headersC_num ls [] (-1) (by omega) (by omega)
      have hhl := headers_len ls [] (-1) (by simp)
      replace hR : R = if (startC l0).2 = false then (noM, 60) else endC b (startC l0).1 (headersC [] (-1) ls) := hR
      simp only [List.length_cons] at q1
      have KST := hid (fun w' => fstartC_any l0 w' (by omega))
      have KHD := hid (fun (ao : Option Addr) (c : Nat) w' (h : TxtsIn w' ao ls) => fheaders_any ls ao c w' h (by omega) (fun t ht => by have := q3 t (by simp [ht]); omega))
      generalize startC l0 = sc at hR KST hsth
      obtain ⟨m, sb⟩ := sc
      generalize headersC [] (-1) ls = hc at hR KHD hnum hhl
      obtain ⟨hs, n, er⟩ := hc
      simp only at hR KST hsth hnum hhl
      obtain ⟨me, ta, st, re, hs0, bo0⟩ := m
      simp only at hsth
      obtain ⟨rfl, rfl⟩ := hsth
      unfold msgV at KST
      simp only at KST
      have HR0 := hid hR
      clear hR hls q2 q3 s1 s2
      go_wp2_with (first
        | (go_at_call 40; refine (KP.out _).mono ?_; rintro e w' ⟨rfl, hw⟩; rw [hw])
        | fail)
      refine (KS.out _ hb1).mono ?_
      rintro e w2 ⟨ad, rfl, hat, hw2⟩
      have hr2 := hr1.below hw2 hlt1
      have hb2 := hb1.trans (hw2.mono hb1.size)
      have hlt2 := Nat.lt_of_lt_of_le hlt1 hw2.size
      have HU := hid (KU.out ad w2 hat HNE.out)
      clear hr1 hb1 hlt1 hw2 hat KS KU HNE KP
      go_wp2_with fail
      refine HU.out.mono ?_
      rintro e w3 ⟨v3, rfl, hown3, hw3⟩
      have hr3 := hr2.below hw3 hlt2
      have hb3 := hb2.trans (hw3.mono hb2.size)
      have hlt3 := Nat.lt_of_lt_of_le hlt2 hw3.size
      obtain ⟨g, c, hve, hpc, hg, hBg, hcl3⟩ := own_cells hown3 (by simp)
      subst hve
      simp only [List.length_cons] at hpc
      have c0 := hcl3 0 (by simp)
      simp only [List.getElem_cons_zero] at c0
      have HTL := hid (txts_tail hcl3 hg)
      clear hr2 hb2 hlt2 hw3 hown3 HU hcl3
      simp only [List.length_cons]
      go_wp2_with fail
      refine (KST.out _).mono ?_
      rintro e w5 ⟨rfl, hw5⟩
      have hr5 := hr3.below hw5 hlt3
      have hb5 := hb3.trans (hw5.mono hb3.size)
      have hlt5 := Nat.lt_of_lt_of_le hlt3 hw5.size
      have HTL5 := hid (HTL.out.below hw5)
      clear hr3 hb3 hlt3 hw5 HTL c0 KST
      cases sb with
      | false =>
        have HR : Hid (R = (noM, 60)) := show _ = _ by rw [HR0.out, if_pos rfl]
        clear HR0 KHD HTL5
        obtain ⟨y0, y1, y2, y3, y4, y5, f0, f1, f2, f3, f4, f5⟩ := hr5.six
        go_wp2
        have hr7 := (row_store hr5 (.string ⟨#[]⟩) (.string ⟨#[]⟩) (.int .i64 0) (.string ⟨#[]⟩) (.slice none 0 0) (.string ⟨#[]⟩)).alloc2 (.cells #[.string ⟨me.toArray⟩, .string ⟨ta.toArray⟩, .int .i64 st, .string ⟨re.toArray⟩, .slice none 0 0, .string ⟨#[]⟩] 24)
        have hb6z := store_below hb5 w.heap.size (Nat.le_refl _) (.string ⟨#[]⟩) (.string ⟨#[]⟩) (.int .i64 0) (.string ⟨#[]⟩) (.slice none 0 0) (.string ⟨#[]⟩)
        have hb7 := hb6z.alloc hb6z.size (.cells #[.string ⟨me.toArray⟩, .string ⟨ta.toArray⟩, .int .i64 st, .string ⟨re.toArray⟩, .slice none 0 0, .string ⟨#[]⟩] 24)
        clear hb6z
        generalize World.alloc _ _ = w7 at hr7 hb7 ⊢
        obtain ⟨d0, d1, d2, d3, d4, d5, _, _, _, _, _, _⟩ := hr7.six
        try simp only [Exit.inBlock, Exit.then]
        refine bodyPost_ret (v := .tuple #[.agg #[.string ⟨#[]⟩, .string ⟨#[]⟩, .int .i64 0, .string ⟨#[]⟩, .slice none 0 0, .string ⟨#[]⟩], .int .i64 60]) (by simp [results, Tryd.results17, go_sem, d0, d1, d2, d3, d4, d5]; try rfl) rfl ?_
        exact ⟨pres_bad HR.out, hb7⟩
      | true =>
        rw [if_neg (by simp)] at HR0
        have hm5 := rowB_new w5 me ta re [] st
        have hA := (Below.refl _ w5).alloc (Nat.le_refl _) (.cells #[.string ⟨me.toArray⟩, .string ⟨ta.toArray⟩, .int .i64 st, .string ⟨re.toArray⟩, .slice none 0 0, .string ⟨#[]⟩] 24)
        have hltA := alloc_lt w5 (.cells #[.string ⟨me.toArray⟩, .string ⟨ta.toArray⟩, .int .i64 st, .string ⟨re.toArray⟩, .slice none 0 0, .string ⟨#[]⟩] 24)
        have hrA := hr5.below hA hlt5
        have hbA := hb5.trans (hA.mono hb5.size)
        have HTLA := hid (HTL5.out.below hA)
        have hszA : (w5.alloc (.cells #[.string ⟨me.toArray⟩, .string ⟨ta.toArray⟩, .int .i64 st, .string ⟨re.toArray⟩, .slice none 0 0, .string ⟨#[]⟩] 24)).heap.size = w5.heap.size + 1 := by simp
        have HKA : Hid (∃ (ao : Option Addr) (c' : Nat), ((c = 1 ∧ ao = some ⟨g, 0, none⟩ ∧ c' = 0) ∨ (¬ 1 = c ∧ ao = some ⟨g, 1, none⟩ ∧ c' = c - 1)) ∧
            Calls Tryd.prog 44 #[.slice ao ls.length c'] (w5.alloc (.cells #[.string ⟨me.toArray⟩, .string ⟨ta.toArray⟩, .int .i64 st, .string ⟨re.toArray⟩, .slice none 0 0, .string ⟨#[]⟩] 24)) fun e w' =>
              (∃ v, e = .returned (.tuple #[v, .int .i64 n, .int .i64 er]) ∧ OwnH w' (w5.heap.size + 1) v hs) ∧ Below (w5.heap.size + 1) (w5.alloc (.cells #[.string ⟨me.toArray⟩, .string ⟨ta.toArray⟩, .int .i64 st, .string ⟨re.toArray⟩, .slice none 0 0, .string ⟨#[]⟩] 24)) w') := by
          by_cases hc1 : c = 1
          · refine ⟨some ⟨g, 0, none⟩, 0, Or.inl ⟨hc1, rfl, rfl⟩, ?_⟩
            have hl0 : ls = [] := List.eq_nil_of_length_eq_zero (by omega)
            have := KHD.out (some ⟨g, 0, none⟩) 0 (w5.alloc (.cells #[.string ⟨me.toArray⟩, .string ⟨ta.toArray⟩, .int .i64 st, .string ⟨re.toArray⟩, .slice none 0 0, .string ⟨#[]⟩] 24)) (fun j hj => by rw [hl0] at hj; simp at hj)
            unfold HdrsRes at this
            rw [hszA] at this
            exact this
          · refine ⟨some ⟨g, 1, none⟩, c - 1, Or.inr ⟨fun h => hc1 h.symm, rfl, rfl⟩, ?_⟩
            have := KHD.out (some ⟨g, 1, none⟩) (c - 1) (w5.alloc (.cells #[.string ⟨me.toArray⟩, .string ⟨ta.toArray⟩, .int .i64 st, .string ⟨re.toArray⟩, .slice none 0 0, .string ⟨#[]⟩] 24)) HTLA.out
            unfold HdrsRes at this
            rw [hszA] at this
            exact this
        obtain ⟨ao, c', hcc, hKH⟩ := HKA.out
        have KH := hid hKH
        clear hKH HKA KHD HTL5 HTLA hszA hA hr5 hb5
        have key2 : ∀ w6, Below (w5.heap.size + 1) (w5.alloc (.cells #[.string ⟨me.toArray⟩, .string ⟨ta.toArray⟩, .int .i64 st, .string ⟨re.toArray⟩, .slice none 0 0, .string ⟨#[]⟩] 24)) w6 →
            RowIs w6 w5.heap.size 24 [.string ⟨me.toArray⟩, .string ⟨ta.toArray⟩, .int .i64 st, .string ⟨re.toArray⟩, .slice none 0 0, .string ⟨#[]⟩] ∧ RowIs w6 w.heap.size 24 zeroM ∧ Below w.heap.size w w6 ∧ w5.heap.size < w6.heap.size := fun w6 hw6 => by
          refine ⟨hm5.below hw6 (Nat.lt_succ_self _), hrA.below hw6 (by omega), hbA.trans (hw6.mono (by omega)), ?_⟩
          have := hw6.size
          simp at this; omega
        have KEY2 := hid key2
        clear key2 hm5 hrA hbA hltA
        rcases hcc with ⟨rfl, rfl, rfl⟩ | ⟨hc1, rfl, rfl⟩
        · obtain rfl : ls = [] := List.eq_nil_of_length_eq_zero (by omega)
          simp only [List.length_nil] at KH
          go_wp2_with fail
          refine KH.out.mono ?_
          rintro e w6 ⟨⟨v6, rfl, hown6⟩, hw6⟩
          obtain ⟨hm6, hr6, hb6, hlt6⟩ := KEY2.out w6 hw6
          obtain ⟨xa, xc, hxe⟩ := hown6.form
          subst hxe
          have HO6 := hid hown6
          clear hown6 hw6 KEY2 KH
          by_cases her : er = 0
          case neg =>
            have her2 : (er != 0) = true := by simpa using her
            have HR : Hid (R = (noM, er)) := show _ = _ by rw [HR0.out, endC, if_pos her]
            clear HR0 HO6
            obtain ⟨y0, y1, y2, y3, y4, y5, f0, f1, f2, f3, f4, f5⟩ := hr6.six
            go_wp2
            have hr7 := row_store hr6 (.string ⟨#[]⟩) (.string ⟨#[]⟩) (.int .i64 0) (.string ⟨#[]⟩) (.slice none 0 0) (.string ⟨#[]⟩)
            have hb7 := store_below hb6 w.heap.size (Nat.le_refl _) (.string ⟨#[]⟩) (.string ⟨#[]⟩) (.int .i64 0) (.string ⟨#[]⟩) (.slice none 0 0) (.string ⟨#[]⟩)
            generalize World.setCell _ _ _ = w7 at hr7 hb7 ⊢
            obtain ⟨d0, d1, d2, d3, d4, d5, _, _, _, _, _, _⟩ := hr7.six
            try simp only [Exit.inBlock, Exit.then]
            refine bodyPost_ret (v := .tuple #[.agg #[.string ⟨#[]⟩, .string ⟨#[]⟩, .int .i64 0, .string ⟨#[]⟩, .slice none 0 0, .string ⟨#[]⟩], .int .i64 er]) (by simp [results, Tryd.results17, go_sem, d0, d1, d2, d3, d4, d5]; try rfl) rfl ?_
            exact ⟨pres_bad HR.out, hb7⟩
          subst her
          by_cases hn : n < 0
          · obtain ⟨z, hzz⟩ : ∃ z, z = b.length := ⟨_, rfl⟩
            have hzb : (⟨b.toArray⟩ : ByteArray).size = z := by rw [hzz]; exact size_list b
            have hsv : sizeV b n = (b.length : Int) := by unfold sizeV; rw [if_pos hn]
            have HR : Hid (R = (⟨me, ta, st, re, hs, b.take z⟩, 0)) := show _ = _ by
              rw [HR0.out, endC, if_neg (by simp)]; simp only [hsv]; rw [if_neg (by omega), hzz]; simp
            have hzl : z ≤ 4096 := by omega
            have hzn : ¬ ((z : Int) < (z : Int)) := by omega
            clear HR0 hzz hsv
            have KB := hid (fun w' => clone_list (b.take z) w' (by rw [List.length_take]; omega))
            have hext : (⟨b.toArray⟩ : ByteArray).extract 0 z = ⟨(b.take z).toArray⟩ := by rw [ext_list]; simp
            have hm6s := hm6.set 4 (.slice xa hs.length xc)
            simp only [List.set_cons_succ, List.set_cons_zero] at hm6s
            have hS := (Below.refl w5.heap.size w6).setCell (p := ⟨w5.heap.size, 4, none⟩) (Nat.le_refl _) (.slice xa hs.length xc)
            have hr6s := hr6.below hS hlt5
            have hb6s := hb6.setCell (p := ⟨w5.heap.size, 4, none⟩) (Nat.le_of_lt hlt5) (.slice xa hs.length xc)
            have hlt6s : w5.heap.size < (w6.setCell ⟨w5.heap.size, 4, none⟩ (.slice xa hs.length xc)).heap.size := by simpa [World.setCell] using hlt6
            have HO6s := hid (OwnH.setB HO6.out (b := w5.heap.size) (Nat.lt_succ_self _) 4 (.slice xa hs.length xc))
            obtain ⟨p0, p1, p2, p3, p4, p5, g0, g1, g2, g3, g4, g5⟩ := hm6.six
            clear hm6 hr6 hb6 hlt6 HO6 hS
            go_wp2_with fail
            (try rw [hext])
            refine (KB.out _).mono ?_
            rintro e w8 ⟨rfl, hw8⟩
            have hm8 := hm6s.below hw8 hlt6s
            have hr8 := hr6s.below hw8 (Nat.lt_trans hlt5 hlt6s)
            have hb8 := hb6s.trans (hw8.mono hb6s.size)
            have HO8 := hid (HO6s.out.below hw8)
            clear hm6s hr6s hb6s hlt6s HO6s hw8 KB hext p0 p1 p2 p3 p4 p5 g0 g1 g2 g3 g4 g5
            obtain ⟨p0, p1, p2, p3, p4, p5, g0, g1, g2, g3, g4, g5⟩ := hm8.six
            obtain ⟨y0, y1, y2, y3, y4, y5, f0, f1, f2, f3, f4, f5⟩ := hr8.six
            have hne : ¬ (w5.heap.size = w.heap.size) := by omega
            have hne2 : ¬ (w.heap.size = w5.heap.size) := by omega
            have hS := (Below.refl w5.heap.size w8).setCell (p := ⟨w5.heap.size, 5, none⟩) (Nat.le_refl _) (.string ⟨(b.take z).toArray⟩)
            have hr9 := hr8.below hS hlt5
            have hb9 := hb8.setCell (p := ⟨w5.heap.size, 5, none⟩) (Nat.le_of_lt hlt5) (.string ⟨(b.take z).toArray⟩)
            have HO9 := OwnH.setB HO8.out (b := w5.heap.size) (Nat.lt_succ_self _) 5 (.string ⟨(b.take z).toArray⟩)
            have hr7 := row_store hr9 (.string ⟨me.toArray⟩) (.string ⟨ta.toArray⟩) (.int .i64 st) (.string ⟨re.toArray⟩) (.slice xa hs.length xc) (.string ⟨(b.take z).toArray⟩)
            have hb7 := store_below hb9 w.heap.size (Nat.le_refl _) (.string ⟨me.toArray⟩) (.string ⟨ta.toArray⟩) (.int .i64 st) (.string ⟨re.toArray⟩) (.slice xa hs.length xc) (.string ⟨(b.take z).toArray⟩)
            have HO7 := OwnH.store HO9 (b := w.heap.size) (by omega) (.string ⟨me.toArray⟩) (.string ⟨ta.toArray⟩) (.int .i64 st) (.string ⟨re.toArray⟩) (.slice xa hs.length xc) (.string ⟨(b.take z).toArray⟩)
            clear hm8 hr8 hb8 HO8 hS hr9 hb9 HO9
            go_wp2
            generalize World.setCell _ _ _ = w7 at hr7 hb7 HO7 ⊢
            obtain ⟨d0, d1, d2, d3, d4, d5, _, _, _, _, _, _⟩ := hr7.six
            try simp only [Exit.inBlock, Exit.then]
            refine bodyPost_ret (v := .tuple #[.agg #[.string ⟨me.toArray⟩, .string ⟨ta.toArray⟩, .int .i64 st, .string ⟨re.toArray⟩, .slice xa hs.length xc, .string ⟨(b.take z).toArray⟩], .int .i64 0]) (by simp [results, Tryd.results17, go_sem, d0, d1, d2, d3, d4, d5]; try rfl) rfl ?_
            exact ⟨pres_ok HR.out (OwnH.mono HO7 (by omega)), hb7⟩
          · obtain ⟨z, rfl⟩ := Int.eq_ofNat_of_zero_le (by omega : 0 ≤ n)
            have hzb : (⟨b.toArray⟩ : ByteArray).size = b.length := size_list b
            have hsv : sizeV b (z : Int) = (z : Int) := by unfold sizeV; rw [if_neg (by omega)]
            by_cases hbz : b.length < z
            · have hbz2 : (b.length : Int) < (z : Int) := by omega
              have HR : Hid (R = (noM, 62)) := show _ = _ by rw [HR0.out, endC, if_neg (by simp)]; simp only [hsv]; rw [if_pos (by omega)]
              clear HR0 HO6
              obtain ⟨y0, y1, y2, y3, y4, y5, f0, f1, f2, f3, f4, f5⟩ := hr6.six
              go_wp2
              have hr7 := row_store hr6 (.string ⟨#[]⟩) (.string ⟨#[]⟩) (.int .i64 0) (.string ⟨#[]⟩) (.slice none 0 0) (.string ⟨#[]⟩)
              have hb7 := store_below hb6 w.heap.size (Nat.le_refl _) (.string ⟨#[]⟩) (.string ⟨#[]⟩) (.int .i64 0) (.string ⟨#[]⟩) (.slice none 0 0) (.string ⟨#[]⟩)
              generalize World.setCell _ _ _ = w7 at hr7 hb7 ⊢
              obtain ⟨d0, d1, d2, d3, d4, d5, _, _, _, _, _, _⟩ := hr7.six
              try simp only [Exit.inBlock, Exit.then]
              refine bodyPost_ret (v := .tuple #[.agg #[.string ⟨#[]⟩, .string ⟨#[]⟩, .int .i64 0, .string ⟨#[]⟩, .slice none 0 0, .string ⟨#[]⟩], .int .i64 62]) (by simp [results, Tryd.results17, go_sem, d0, d1, d2, d3, d4, d5]; try rfl) rfl ?_
              exact ⟨pres_bad HR.out, hb7⟩
            · have hbz2 : ¬ ((b.length : Int) < (z : Int)) := by omega
              have HR : Hid (R = (⟨me, ta, st, re, hs, b.take z⟩, 0)) := show _ = _ by
                rw [HR0.out, endC, if_neg (by simp)]; simp only [hsv]; rw [if_neg (by omega)]; simp
              have hzl : z ≤ 4096 := by omega
              clear HR0
              have KB := hid (fun w' => clone_list (b.take z) w' (by rw [List.length_take]; omega))
              have hext : (⟨b.toArray⟩ : ByteArray).extract 0 z = ⟨(b.take z).toArray⟩ := by rw [ext_list]; simp
              have hm6s := hm6.set 4 (.slice xa hs.length xc)
              simp only [List.set_cons_succ, List.set_cons_zero] at hm6s
              have hS := (Below.refl w5.heap.size w6).setCell (p := ⟨w5.heap.size, 4, none⟩) (Nat.le_refl _) (.slice xa hs.length xc)
              have hr6s := hr6.below hS hlt5
              have hb6s := hb6.setCell (p := ⟨w5.heap.size, 4, none⟩) (Nat.le_of_lt hlt5) (.slice xa hs.length xc)
              have hlt6s : w5.heap.size < (w6.setCell ⟨w5.heap.size, 4, none⟩ (.slice xa hs.length xc)).heap.size := by simpa [World.setCell] using hlt6
              have HO6s := hid (OwnH.setB HO6.out (b := w5.heap.size) (Nat.lt_succ_self _) 4 (.slice xa hs.length xc))
              obtain ⟨p0, p1, p2, p3, p4, p5, g0, g1, g2, g3, g4, g5⟩ := hm6.six
              clear hm6 hr6 hb6 hlt6 HO6 hS
              go_wp2_with fail
              (try rw [hext])
              refine (KB.out _).mono ?_
              rintro e w8 ⟨rfl, hw8⟩
              have hm8 := hm6s.below hw8 hlt6s
              have hr8 := hr6s.below hw8 (Nat.lt_trans hlt5 hlt6s)
              have hb8 := hb6s.trans (hw8.mono hb6s.size)
              have HO8 := hid (HO6s.out.below hw8)
              clear hm6s hr6s hb6s hlt6s HO6s hw8 KB hext p0 p1 p2 p3 p4 p5 g0 g1 g2 g3 g4 g5
              obtain ⟨p0, p1, p2, p3, p4, p5, g0, g1, g2, g3, g4, g5⟩ := hm8.six
              obtain ⟨y0, y1, y2, y3, y4, y5, f0, f1, f2, f3, f4, f5⟩ := hr8.six
              have hne : ¬ (w5.heap.size = w.heap.size) := by omega
              have hne2 : ¬ (w.heap.size = w5.heap.size) := by omega
              have hS := (Below.refl w5.heap.size w8).setCell (p := ⟨w5.heap.size, 5, none⟩) (Nat.le_refl _) (.string ⟨(b.take z).toArray⟩)
              have hr9 := hr8.below hS hlt5
              have hb9 := hb8.setCell (p := ⟨w5.heap.size, 5, none⟩) (Nat.le_of_lt hlt5) (.string ⟨(b.take z).toArray⟩)
              have HO9 := OwnH.setB HO8.out (b := w5.heap.size) (Nat.lt_succ_self _) 5 (.string ⟨(b.take z).toArray⟩)
              have hr7 := row_store hr9 (.string ⟨me.toArray⟩) (.string ⟨ta.toArray⟩) (.int .i64 st) (.string ⟨re.toArray⟩) (.slice xa hs.length xc) (.string ⟨(b.take z).toArray⟩)
              have hb7 := store_below hb9 w.heap.size (Nat.le_refl _) (.string ⟨me.toArray⟩) (.string ⟨ta.toArray⟩) (.int .i64 st) (.string ⟨re.toArray⟩) (.slice xa hs.length xc) (.string ⟨(b.take z).toArray⟩)
              have HO7 := OwnH.store HO9 (b := w.heap.size) (by omega) (.string ⟨me.toArray⟩) (.string ⟨ta.toArray⟩) (.int .i64 st) (.string ⟨re.toArray⟩) (.slice xa hs.length xc) (.string ⟨(b.take z).toArray⟩)
              clear hm8 hr8 hb8 HO8 hS hr9 hb9 HO9
              go_wp2
              generalize World.setCell _ _ _ = w7 at hr7 hb7 HO7 ⊢
              obtain ⟨d0, d1, d2, d3, d4, d5, _, _, _, _, _, _⟩ := hr7.six
              try simp only [Exit.inBlock, Exit.then]
              refine bodyPost_ret (v := .tuple #[.agg #[.string ⟨me.toArray⟩, .string ⟨ta.toArray⟩, .int .i64 st, .string ⟨re.toArray⟩, .slice xa hs.length xc, .string ⟨(b.take z).toArray⟩], .int .i64 0]) (by simp [results, Tryd.results17, go_sem, d0, d1, d2, d3, d4, d5]; try rfl) rfl ?_
              exact ⟨pres_ok HR.out (OwnH.mono HO7 (by omega)), hb7⟩
        · have hc2 : ¬ ((1 : Int) = (c : Int)) := by omega
          go_wp2_with fail
          refine KH.out.mono ?_
          rintro e w6 ⟨⟨v6, rfl, hown6⟩, hw6⟩
          obtain ⟨hm6, hr6, hb6, hlt6⟩ := KEY2.out w6 hw6
          obtain ⟨xa, xc, hxe⟩ := hown6.form
          subst hxe
          have HO6 := hid hown6
          clear hown6 hw6 KEY2 KH
          by_cases her : er = 0
          case neg =>
            have her2 : (er != 0) = true := by simpa using her
            have HR : Hid (R = (noM, er)) := show _ = _ by rw [HR0.out, endC, if_pos her]
            clear HR0 HO6
            obtain ⟨y0, y1, y2, y3, y4, y5, f0, f1, f2, f3, f4, f5⟩ := hr6.six
            go_wp2
            have hr7 := row_store hr6 (.string ⟨#[]⟩) (.string ⟨#[]⟩) (.int .i64 0) (.string ⟨#[]⟩) (.slice none 0 0) (.string ⟨#[]⟩)
            have hb7 := store_below hb6 w.heap.size (Nat.le_refl _) (.string ⟨#[]⟩) (.string ⟨#[]⟩) (.int .i64 0) (.string ⟨#[]⟩) (.slice none 0 0) (.string ⟨#[]⟩)
            generalize World.setCell _ _ _ = w7 at hr7 hb7 ⊢
            obtain ⟨d0, d1, d2, d3, d4, d5, _, _, _, _, _, _⟩ := hr7.six
            try simp only [Exit.inBlock, Exit.then]
            refine bodyPost_ret (v := .tuple #[.agg #[.string ⟨#[]⟩, .string ⟨#[]⟩, .int .i64 0, .string ⟨#[]⟩, .slice none 0 0, .string ⟨#[]⟩], .int .i64 er]) (by simp [results, Tryd.results17, go_sem, d0, d1, d2, d3, d4, d5]; try rfl) rfl ?_
            exact ⟨pres_bad HR.out, hb7⟩
          subst her
          by_cases hn : n < 0
          · obtain ⟨z, hzz⟩ : ∃ z, z = b.length := ⟨_, rfl⟩
            have hzb : (⟨b.toArray⟩ : ByteArray).size = z := by rw [hzz]; exact size_list b
            have hsv : sizeV b n = (b.length : Int) := by unfold sizeV; rw [if_pos hn]
            have HR : Hid (R = (⟨me, ta, st, re, hs, b.take z⟩, 0)) := show _ = _ by
              rw [HR0.out, endC, if_neg (by simp)]; simp only [hsv]; rw [if_neg (by omega), hzz]; simp
            have hzl : z ≤ 4096 := by omega
            have hzn : ¬ ((z : Int) < (z : Int)) := by omega
            clear HR0 hzz hsv
            have KB := hid (fun w' => clone_list (b.take z) w' (by rw [List.length_take]; omega))
            have hext : (⟨b.toArray⟩ : ByteArray).extract 0 z = ⟨(b.take z).toArray⟩ := by rw [ext_list]; simp
            have hm6s := hm6.set 4 (.slice xa hs.length xc)
            simp only [List.set_cons_succ, List.set_cons_zero] at hm6s
            have hS := (Below.refl w5.heap.size w6).setCell (p := ⟨w5.heap.size, 4, none⟩) (Nat.le_refl _) (.slice xa hs.length xc)
            have hr6s := hr6.below hS hlt5
            have hb6s := hb6.setCell (p := ⟨w5.heap.size, 4, none⟩) (Nat.le_of_lt hlt5) (.slice xa hs.length xc)
            have hlt6s : w5.heap.size < (w6.setCell ⟨w5.heap.size, 4, none⟩ (.slice xa hs.length xc)).heap.size := by simpa [World.setCell] using hlt6
            have HO6s := hid (OwnH.setB HO6.out (b := w5.heap.size) (Nat.lt_succ_self _) 4 (.slice xa hs.length xc))
            obtain ⟨p0, p1, p2, p3, p4, p5, g0, g1, g2, g3, g4, g5⟩ := hm6.six
            clear hm6 hr6 hb6 hlt6 HO6 hS
            go_wp2_with fail
            (try rw [hext])
            refine (KB.out _).mono ?_
            rintro e w8 ⟨rfl, hw8⟩
            have hm8 := hm6s.below hw8 hlt6s
            have hr8 := hr6s.below hw8 (Nat.lt_trans hlt5 hlt6s)
            have hb8 := hb6s.trans (hw8.mono hb6s.size)
            have HO8 := hid (HO6s.out.below hw8)
            clear hm6s hr6s hb6s hlt6s HO6s hw8 KB hext p0 p1 p2 p3 p4 p5 g0 g1 g2 g3 g4 g5
            obtain ⟨p0, p1, p2, p3, p4, p5, g0, g1, g2, g3, g4, g5⟩ := hm8.six
            obtain ⟨y0, y1, y2, y3, y4, y5, f0, f1, f2, f3, f4, f5⟩ := hr8.six
            have hne : ¬ (w5.heap.size = w.heap.size) := by omega
            have hne2 : ¬ (w.heap.size = w5.heap.size) := by omega
            have hS := (Below.refl w5.heap.size w8).setCell (p := ⟨w5.heap.size, 5, none⟩) (Nat.le_refl _) (.string ⟨(b.take z).toArray⟩)
            have hr9 := hr8.below hS hlt5
            have hb9 := hb8.setCell (p := ⟨w5.heap.size, 5, none⟩) (Nat.le_of_lt hlt5) (.string ⟨(b.take z).toArray⟩)
            have HO9 := OwnH.setB HO8.out (b := w5.heap.size) (Nat.lt_succ_self _) 5 (.string ⟨(b.take z).toArray⟩)
            have hr7 := row_store hr9 (.string ⟨me.toArray⟩) (.string ⟨ta.toArray⟩) (.int .i64 st) (.string ⟨re.toArray⟩) (.slice xa hs.length xc) (.string ⟨(b.take z).toArray⟩)
            have hb7 := store_below hb9 w.heap.size (Nat.le_refl _) (.string ⟨me.toArray⟩) (.string ⟨ta.toArray⟩) (.int .i64 st) (.string ⟨re.toArray⟩) (.slice xa hs.length xc) (.string ⟨(b.take z).toArray⟩)
            have HO7 := OwnH.store HO9 (b := w.heap.size) (by omega) (.string ⟨me.toArray⟩) (.string ⟨ta.toArray⟩) (.int .i64 st) (.string ⟨re.toArray⟩) (.slice xa hs.length xc) (.string ⟨(b.take z).toArray⟩)
            clear hm8 hr8 hb8 HO8 hS hr9 hb9 HO9
            go_wp2
            generalize World.setCell _ _ _ = w7 at hr7 hb7 HO7 ⊢
            obtain ⟨d0, d1, d2, d3, d4, d5, _, _, _, _, _, _⟩ := hr7.six
            try simp only [Exit.inBlock, Exit.then]
            refine bodyPost_ret (v := .tuple #[.agg #[.string ⟨me.toArray⟩, .string ⟨ta.toArray⟩, .int .i64 st, .string ⟨re.toArray⟩, .slice xa hs.length xc, .string ⟨(b.take z).toArray⟩], .int .i64 0]) (by simp [results, Tryd.results17, go_sem, d0, d1, d2, d3, d4, d5]; try rfl) rfl ?_
            exact ⟨pres_ok HR.out (OwnH.mono HO7 (by omega)), hb7⟩
          · obtain ⟨z, rfl⟩ := Int.eq_ofNat_of_zero_le (by omega : 0 ≤ n)
            have hzb : (⟨b.toArray⟩ : ByteArray).size = b.length := size_list b
            have hsv : sizeV b (z : Int) = (z : Int) := by unfold sizeV; rw [if_neg (by omega)]
            by_cases hbz : b.length < z
            · have hbz2 : (b.length : Int) < (z : Int) := by omega
              have HR : Hid (R = (noM, 62)) := show _ = _ by rw [HR0.out, endC, if_neg (by simp)]; simp only [hsv]; rw [if_pos (by omega)]
              clear HR0 HO6
              obtain ⟨y0, y1, y2, y3, y4, y5, f0, f1, f2, f3, f4, f5⟩ := hr6.six
              go_wp2
              have hr7 := row_store hr6 (.string ⟨#[]⟩) (.string ⟨#[]⟩) (.int .i64 0) (.string ⟨#[]⟩) (.slice none 0 0) (.string ⟨#[]⟩)
              have hb7 := store_below hb6 w.heap.size (Nat.le_refl _) (.string ⟨#[]⟩) (.string ⟨#[]⟩) (.int .i64 0) (.string ⟨#[]⟩) (.slice none 0 0) (.string ⟨#[]⟩)
              generalize World.setCell _ _ _ = w7 at hr7 hb7 ⊢
              obtain ⟨d0, d1, d2, d3, d4, d5, _, _, _, _, _, _⟩ := hr7.six
              try simp only [Exit.inBlock, Exit.then]
              refine bodyPost_ret (v := .tuple #[.agg #[.string ⟨#[]⟩, .string ⟨#[]⟩, .int .i64 0, .string ⟨#[]⟩, .slice none 0 0, .string ⟨#[]⟩], .int .i64 62]) (by simp [results, Tryd.results17, go_sem, d0, d1, d2, d3, d4, d5]; try rfl) rfl ?_
              exact ⟨pres_bad HR.out, hb7⟩
            · have hbz2 : ¬ ((b.length : Int) < (z : Int)) := by omega
              have HR : Hid (R = (⟨me, ta, st, re, hs, b.take z⟩, 0)) := show _ = _ by
                rw [HR0.out, endC, if_neg (by simp)]; simp only [hsv]; rw [if_neg (by omega)]; simp
              have hzl : z ≤ 4096 := by omega
              clear HR0
              have KB := hid (fun w' => clone_list (b.take z) w' (by rw [List.length_take]; omega))
              have hext : (⟨b.toArray⟩ : ByteArray).extract 0 z = ⟨(b.take z).toArray⟩ := by rw [ext_list]; simp
              have hm6s := hm6.set 4 (.slice xa hs.length xc)
              simp only [List.set_cons_succ, List.set_cons_zero] at hm6s
              have hS := (Below.refl w5.heap.size w6).setCell (p := ⟨w5.heap.size, 4, none⟩) (Nat.le_refl _) (.slice xa hs.length xc)
              have hr6s := hr6.below hS hlt5
              have hb6s := hb6.setCell (p := ⟨w5.heap.size, 4, none⟩) (Nat.le_of_lt hlt5) (.slice xa hs.length xc)
              have hlt6s : w5.heap.size < (w6.setCell ⟨w5.heap.size, 4, none⟩ (.slice xa hs.length xc)).heap.size := by simpa [World.setCell] using hlt6
              have HO6s := hid (OwnH.setB HO6.out (b := w5.heap.size) (Nat.lt_succ_self _) 4 (.slice xa hs.length xc))
              obtain ⟨p0, p1, p2, p3, p4, p5, g0, g1, g2, g3, g4, g5⟩ := hm6.six
              clear hm6 hr6 hb6 hlt6 HO6 hS
              go_wp2_with fail
              (try rw [hext])
              refine (KB.out _).mono ?_
              rintro e w8 ⟨rfl, hw8⟩
              have hm8 := hm6s.below hw8 hlt6s
              have hr8 := hr6s.below hw8 (Nat.lt_trans hlt5 hlt6s)
              have hb8 := hb6s.trans (hw8.mono hb6s.size)
              have HO8 := hid (HO6s.out.below hw8)
              clear hm6s hr6s hb6s hlt6s HO6s hw8 KB hext p0 p1 p2 p3 p4 p5 g0 g1 g2 g3 g4 g5
              obtain ⟨p0, p1, p2, p3, p4, p5, g0, g1, g2, g3, g4, g5⟩ := hm8.six
              obtain ⟨y0, y1, y2, y3, y4, y5, f0, f1, f2, f3, f4, f5⟩ := hr8.six
              have hne : ¬ (w5.heap.size = w.heap.size) := by omega
              have hne2 : ¬ (w.heap.size = w5.heap.size) := by omega
              have hS := (Below.refl w5.heap.size w8).setCell (p := ⟨w5.heap.size, 5, none⟩) (Nat.le_refl _) (.string ⟨(b.take z).toArray⟩)
              have hr9 := hr8.below hS hlt5
              have hb9 := hb8.setCell (p := ⟨w5.heap.size, 5, none⟩) (Nat.le_of_lt hlt5) (.string ⟨(b.take z).toArray⟩)
              have HO9 := OwnH.setB HO8.out (b := w5.heap.size) (Nat.lt_succ_self _) 5 (.string ⟨(b.take z).toArray⟩)
              have hr7 := row_store hr9 (.string ⟨me.toArray⟩) (.string ⟨ta.toArray⟩) (.int .i64 st) (.string ⟨re.toArray⟩) (.slice xa hs.length xc) (.string ⟨(b.take z).toArray⟩)
              have hb7 := store_below hb9 w.heap.size (Nat.le_refl _) (.string ⟨me.toArray⟩) (.string ⟨ta.toArray⟩) (.int .i64 st) (.string ⟨re.toArray⟩) (.slice xa hs.length xc) (.string ⟨(b.take z).toArray⟩)
              have HO7 := OwnH.store HO9 (b := w.heap.size) (by omega) (.string ⟨me.toArray⟩) (.string ⟨ta.toArray⟩) (.int .i64 st) (.string ⟨re.toArray⟩) (.slice xa hs.length xc) (.string ⟨(b.take z).toArray⟩)
              clear hm8 hr8 hb8 HO8 hS hr9 hb9 HO9
              go_wp2
              generalize World.setCell _ _ _ = w7 at hr7 hb7 HO7 ⊢
              obtain ⟨d0, d1, d2, d3, d4, d5, _, _, _, _, _, _⟩ := hr7.six
              try simp only [Exit.inBlock, Exit.then]
              refine bodyPost_ret (v := .tuple #[.agg #[.string ⟨me.toArray⟩, .string ⟨ta.toArray⟩, .int .i64 st, .string ⟨re.toArray⟩, .slice xa hs.length xc, .string ⟨(b.take z).toArray⟩], .int .i64 0]) (by simp [results, Tryd.results17, go_sem, d0, d1, d2, d3, d4, d5]; try rfl) rfl ?_
              exact ⟨pres_ok HR.out (OwnH.mono HO7 (by omega)), hb7⟩

end Go.Proofs.YtagopboofmjnfaaDoor
