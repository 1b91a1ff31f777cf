/-
  The contract of the document's own State.
-/
import Derived.Test.YtjbfdbccidhdfaaDoorHRef2
import Derived.Test.YtjbfdbccidhdfaaDoorFN
namespace Go.Proofs.YtjbfdbccidhdfaaDoor
open Go.RowKit Go.Sort Sc
set_option linter.unusedVariables false
set_option maxRecDepth 20000

theorem RowIs.far {w : World} {g b : Nat} {e : TypeId} {l : List Value} (h : RowIs w g e l) (hne : g ≠ b) (j : Nat) (v : Value) : RowIs (w.setCell ⟨b, j, none⟩ v) g e l := by
  unfold RowIs at h ⊢
  rw [Below.heap_setCell _ _ _ _ hne]; exact h
theorem hrow3_at (w : World) (v0 v1 v2 : Value) (t : TypeId) : RowIs (w.alloc (.cells #[v0, v1, v2] t)) w.heap.size t [v0, v1, v2] := by
  unfold RowIs; rw [heap_alloc_new]
theorem hval_len {ps : List Par} {B : Nat} (h : SmallP B ps) (nm : List UInt8) : (valV ps nm).1.length ≤ B := by
  unfold valV
  cases hf : findV ps nm with
  | none => simp
  | some p => exact (h.2 p (List.mem_of_find?_eq_some hf)).2
theorem ev_ok_small {v : Ev} (h : evB v = true) : SmallE 4096 v := by
  obtain ⟨h1, h2, h3⟩ := ev_facts h
  refine ⟨by have := (tok_facts h1).2.1; omega, by omega, ?_⟩
  intro p hp
  have : ∀ (ps b : List Par), mayGo b ps = true → ∀ p ∈ ps, p.name.length ≤ 4096 ∧ p.value.length ≤ 4096 := by
    intro ps
    induction ps with
    | nil => intro b _ p hp; simp at hp
    | cons q ps ih =>
      intro b h p hp
      rw [mayGo, Bool.and_eq_true] at h
      rcases List.mem_cons.1 hp with rfl | hp
      · obtain ⟨m1, _, m3, _, _⟩ := may_facts h.1
        obtain ⟨_, t2, _⟩ := tok_facts m1
        omega
      · exact ih _ h.2 p hp
  exact this _ _ h3 p hp
theorem event_small {s : List UInt8} {v : Ev} (h : eventV s = (v, 0)) : SmallE 4096 v := ev_ok_small (event_checked h)
set_option maxHeartbeats 2000000 in
set_option maxRecDepth 100000 in
theorem rstate_any (s : List UInt8) (w : World) (hs : s.length ≤ 1048576) :
    Calls Tryd.prog 26 #[.string ⟨s.toArray⟩] w fun e w' => e = .returned (.tuple #[sttV (stateV s).1, .int .i64 (stateV s).2]) ∧ Below w.heap.size w w' := by
  have HV := hid (stateV_val s)
  have KE := hid (fun w' => revent_any s w' hs)
  generalize stateV s = R at HV ⊢
  obtain ⟨ev, en, hev⟩ : ∃ ev en, eventV s = (ev, en) := ⟨_, _, rfl⟩
  rw [hev] at HV KE
  have hr0 := hrow3_at w (.string ⟨#[]⟩) (.int .i64 0) (.string ⟨#[]⟩) 50
  have hb0 : Below w.heap.size w (w.alloc (.cells #[.string ⟨#[]⟩, .int .i64 0, .string ⟨#[]⟩] 50)) := (Below.refl _ w).alloc (Nat.le_refl _) _
  have hlt0 := alloc_lt w (.cells #[.string ⟨#[]⟩, .int .i64 0, .string ⟨#[]⟩] 50)
  unfold EvRes evV at KE
  simp only at KE HV
  by_cases hen : en = 0
  case neg =>
    have HR : Hid (R = (noS, 82)) := show _ = _ by rw [HV.out, if_pos hen]
    have hne : (en != 0) = true := by simpa using hen
    clear HV hev
    obtain ⟨nm, ps⟩ := ev
    simp only at KE
    go_enter Tryd.func26, Tryd.ntmps26
    go_wp2_with fail
    refine (KE.out _).mono ?_
    rintro e w1 ⟨⟨q, rfl, ho⟩, hw1⟩
    obtain ⟨a3, k3, hqe⟩ := ho.parsAt.form
    subst hqe
    have hr1 := hr0.below hw1 hlt0
    have hb1 := hb0.trans (hw1.mono hb0.size)
    have hlt1 := Nat.lt_of_lt_of_le hlt0 hw1.size
    clear hr0 hb0 hlt0 hw1 KE ho
    have hr2 := hr1.below ((Below.refl _ w1).alloc (Nat.le_refl _) (.cells #[.string ⟨nm.toArray⟩, .slice a3 ps.length k3] 40)) hlt1
    have hb2 := hb1.alloc hb1.size (.cells #[.string ⟨nm.toArray⟩, .slice a3 ps.length k3] 40)
    have hsz : w.heap.size < (((w1.setCell ⟨w.heap.size, 0, none⟩ (.string ⟨#[]⟩)).setCell ⟨w.heap.size, 1, none⟩ (.int .i64 0)).setCell ⟨w.heap.size, 2, none⟩ (.string ⟨#[]⟩)).heap.size := by simpa [World.setCell] using hlt1
    have hrS := row_store3 hr1 (.string ⟨#[]⟩) (.int .i64 0) (.string ⟨#[]⟩)
    have hbS := store_below3 hb1 w.heap.size (Nat.le_refl _) (.string ⟨#[]⟩) (.int .i64 0) (.string ⟨#[]⟩)
    have hrT := hrS.below ((Below.refl _ _).alloc (Nat.le_refl _) (.cells #[.string ⟨nm.toArray⟩, .slice a3 ps.length k3] 40)) hsz
    have hbT := hbS.alloc hbS.size (.cells #[.string ⟨nm.toArray⟩, .slice a3 ps.length k3] 40)
    have HA := hid (And.intro hrT hbT)
    obtain ⟨y0, y1, y2, f0, f1, f2⟩ := hr1.three
    clear hrS hbS hrT hbT hsz hr2 hb2
    go_wp2
    generalize World.alloc _ _ = wA at HA ⊢
    obtain ⟨hrA, hbA⟩ := HA.out
    obtain ⟨d0, d1, d2, _, _, _⟩ := hrA.three
    try simp only [Exit.inBlock, Exit.then]
    refine bodyPost_ret (v := .tuple #[.agg #[.string ⟨#[]⟩, .int .i64 0, .string ⟨#[]⟩], .int .i64 82]) (by simp [results, Tryd.results26, go_sem, d0, d1, d2]; try rfl) rfl ?_
    exact ⟨by rw [HR.out]; rfl, hbA⟩
  subst hen
  rw [if_neg (by simp)] at HV
  have hse := (event_small hev).le (show 4096 ≤ 140737488355328 by omega)
  clear hev
  obtain ⟨nm, ps⟩ := ev
  simp only at KE HV hse
  have hnl := hse.1
  simp only at hnl
  have hl1 := hval_len hse.2 reasonK
  have hl2 := hval_len hse.2 expiresK
  have KR := hid (fun q w' (h : ParsAt w' q ps) => refvalue_any q ps reasonK w' (by decide) hse.2 h)
  have KX := hid (fun q w' (h : ParsAt w' q ps) => refvalue_any q ps expiresK w' (by decide) hse.2 h)
  have KL := hid (fun w' => reflower_l nm w' hnl)
  generalize valV ps reasonK = rv at HV KR hl1
  generalize valV ps expiresK = xv at HV KX hl2
  obtain ⟨rt, rb⟩ := rv
  obtain ⟨xt, xb⟩ := xv
  simp only at HV KR KX hl1 hl2
  unfold reasonK at KR
  unfold expiresK at KX
  have KK := hid (fun w' => reftoken_list rt w' hl1)
  have KT := hid (fun w' => rtime_any xt w' hl2)
  generalize timeV xt = tv at HV KT
  obtain ⟨tn, te⟩ := tv
  simp only at HV KT
  generalize lowL nm = ln at HV KL
  clear hse
  go_enter Tryd.func26, Tryd.ntmps26
  go_wp2_with fail
  refine (KE.out _).mono ?_
  rintro e w1 ⟨⟨q, rfl, ho⟩, hw1⟩
  obtain ⟨a3, k3, hqe⟩ := ho.parsAt.form
  subst hqe
  have hr1 := hr0.below hw1 hlt0
  have hb1 := hb0.trans (hw1.mono hb0.size)
  have hlt1 := Nat.lt_of_lt_of_le hlt0 hw1.size
  have hA := (Below.refl _ w1).alloc (Nat.le_refl _) (objE ⟨nm, ps⟩ (.slice a3 ps.length k3))
  have hltA := alloc_lt w1 (objE ⟨nm, ps⟩ (.slice a3 ps.length k3))
  have HBE := hid (boxE_new w1 ⟨nm, ps⟩ (.slice a3 ps.length k3))
  have HPA := hid (ho.parsAt.below hA)
  have hrW := hr1.below hA hlt1
  have hbW := hb1.trans (hA.mono hb1.size)
  have hltW := Nat.lt_of_lt_of_le hlt1 hA.size
  clear hr0 hb0 hlt0 hw1 KE ho hr1 hb1 hA
  unfold objE at HBE hltA hrW hbW hltW HPA
  simp only at HBE hltA hrW hbW hltW HPA
  obtain ⟨x0, x1⟩ := HBE.out
  simp only at x0 x1
  go_wp2_with fail
  refine (KR.out _ _ HPA.out).mono ?_
  rintro e w2 ⟨rfl, hw2⟩
  have hr2 := hrW.below hw2 hltW
  have hb2 := hbW.trans (hw2.mono hbW.size)
  have hlt2 := Nat.lt_of_lt_of_le hltW hw2.size
  have HB2 := hid (BoxE.below HBE.out hw2 hltA)
  have HP2 := hid (HPA.out.below hw2)
  have hl2b : w1.heap.size < w2.heap.size := Nat.lt_of_lt_of_le hltA hw2.size
  clear hrW hbW hltW hw2 HBE HPA hltA x0 x1 KR hlt1
  obtain ⟨x0, x1⟩ := HB2.out
  simp only at x0 x1
  by_cases hre : rt ≠ [] ∧ tokenB rt = false
  case pos =>
    have b1 : (rt != []) = true := bne_iff_ne.2 hre.1
    have b2 : rt.isEmpty = false := by cases rt with | nil => exact absurd rfl hre.1 | cons a b => rfl
    have HRE := hid hre
    rw [hre.2] at KK
    clear hre
    have HR : Hid (R = (noS, 82)) := show _ = _ by rw [HV.out, if_pos HRE.out]
    have hrA := row_store3 hr2 (.string ⟨#[]⟩) (.int .i64 0) (.string ⟨#[]⟩)
    have hbA := store_below3 hb2 w.heap.size (Nat.le_refl _) (.string ⟨#[]⟩) (.int .i64 0) (.string ⟨#[]⟩)
    have HA := hid (And.intro hrA hbA)
    obtain ⟨y0, y1, y2, f0, f1, f2⟩ := hr2.three
    clear hrA hbA HV
    go_wp2_with (go_at_call 40; refine (KK.out _).mono ?_; rintro e wx ⟨rfl, hwx⟩; rw [hwx])
    generalize World.setCell _ _ _ = wA at HA ⊢
    obtain ⟨hrA, hbA⟩ := HA.out
    obtain ⟨d0, d1, d2, _, _, _⟩ := hrA.three
    try simp only [Exit.inBlock, Exit.then]
    refine bodyPost_ret (v := .tuple #[.agg #[.string ⟨#[]⟩, .int .i64 0, .string ⟨#[]⟩], .int .i64 82]) (by simp [results, Tryd.results26, go_sem, d0, d1, d2]; try rfl) rfl ?_
    exact ⟨by rw [HR.out]; rfl, hbA⟩

  rw [if_neg hre] at HV
  have rest : ∀ (Q : Prop), (rt = [] → Q) → (rt ≠ [] → tokenB rt = true → Q) → Q := fun Q h1 h2 => by
    by_cases hq : rt = []
    · exact h1 hq
    · cases ht : tokenB rt with
      | false => exact absurd ⟨hq, ht⟩ hre
      | true => exact h2 hq ht
  have HREST := hid rest
  clear hre rest
  by_cases hq : rt = []
  · have b1 : (rt != []) = false := by rw [hq]; rfl
    have b2 : rt.isEmpty = true := by rw [hq]; rfl
    clear hq HREST KK
    go_wp2_with fail
    refine (KL.out _).mono ?_
    rintro e w3 ⟨rfl, hw3⟩
    have hr3 := hr2.below hw3 hlt2
    have hb3 := hb2.trans (hw3.mono hb2.size)
    have hlt3 := Nat.lt_of_lt_of_le hlt2 hw3.size
    have HB3 := hid (BoxE.below HB2.out hw3 hl2b)
    have HP3 := hid (HP2.out.below hw3)
    have hl3b : w1.heap.size < w3.heap.size := Nat.lt_of_lt_of_le hl2b hw3.size
    clear hr2 hb2 hlt2 hw3 HB2 HP2 hl2b x0 x1 KL
    have hA := (Below.refl _ w3).alloc (Nat.le_refl _) (.cells #[.string ⟨ln.toArray⟩, .int .i64 (-1), .string ⟨rt.toArray⟩] 50)
    have hltA := alloc_lt w3 (.cells #[.string ⟨ln.toArray⟩, .int .i64 (-1), .string ⟨rt.toArray⟩] 50)
    have hrO := hrow3_at w3 (.string ⟨ln.toArray⟩) (.int .i64 (-1)) (.string ⟨rt.toArray⟩) 50
    have hr4 := hr3.below hA hlt3
    have hb4 := hb3.trans (hA.mono hb3.size)
    have HB4 := hid (BoxE.below HB3.out hA hl3b)
    have HP4 := hid (HP3.out.below hA)
    have hlt4 := Nat.lt_trans hlt3 hltA
    clear hb3 HB3 HP3 hA hr3
    obtain ⟨x0, x1⟩ := HB4.out
    simp only at x0 x1
    go_wp2_with fail
    refine (KX.out _ _ HP4.out).mono ?_
    rintro e w5 ⟨rfl, hw5⟩
    have hrX := hr4.below hw5 hlt4
    have hbX := hb4.trans (hw5.mono hb4.size)
    have hrB := hrO.below hw5 hltA
    have hlt5 := Nat.lt_of_lt_of_le hlt4 hw5.size
    have hltB := Nat.lt_of_lt_of_le hltA hw5.size
    clear hr4 hb4 hrO hw5 HB4 HP4 x0 x1 KX hlt4 hltA
    cases xb with
    | false =>
      rw [if_pos rfl] at HV
      have HR : Hid (R = (⟨ln, (-1), rt⟩, 0)) := show _ = _ by exact HV.out
      have hrA := row_store3 hrX (.string ⟨ln.toArray⟩) (.int .i64 (-1)) (.string ⟨rt.toArray⟩)
      have hbA := store_below3 hbX w.heap.size (Nat.le_refl _) (.string ⟨ln.toArray⟩) (.int .i64 (-1)) (.string ⟨rt.toArray⟩)
      have HA := hid (And.intro hrA hbA)
      obtain ⟨y0, y1, y2, f0, f1, f2⟩ := hrX.three
      obtain ⟨z0, z1, z2, g0, g1, g2⟩ := hrB.three
      clear hrA hbA HV
      go_wp2
      generalize World.setCell _ _ _ = wA at HA ⊢
      obtain ⟨hrA, hbA⟩ := HA.out
      obtain ⟨d0, d1, d2, _, _, _⟩ := hrA.three
      try simp only [Exit.inBlock, Exit.then]
      refine bodyPost_ret (v := .tuple #[.agg #[.string ⟨ln.toArray⟩, .int .i64 (-1), .string ⟨rt.toArray⟩], .int .i64 0]) (by simp [results, Tryd.results26, go_sem, d0, d1, d2]; try rfl) rfl ?_
      exact ⟨by rw [HR.out]; rfl, hbA⟩
    | true =>
      rw [if_neg (by simp)] at HV
      go_wp2_with fail
      refine (KT.out _).mono ?_
      rintro e w6 ⟨rfl, hw6⟩
      have hrY := hrX.below hw6 hlt5
      have hbY := hbX.trans (hw6.mono hbX.size)
      have hrC := hrB.below hw6 hltB
      clear hrX hbX hrB hw6 KT
      by_cases hte : te = 0
      · subst hte
        rw [if_neg (by simp)] at HV
        have hrX := RowIs.far hrY (show w.heap.size ≠ w3.heap.size by omega) 1 (.int .i64 tn)
        have hbX := hbY.setCell (p := ⟨w3.heap.size, 1, none⟩) (show w.heap.size ≤ w3.heap.size by omega) (.int .i64 tn)
        have hrB := hrC.set 1 (.int .i64 tn)
        simp only [List.set_cons_succ, List.set_cons_zero] at hrB
        obtain ⟨o0, o1, o2, h0, h1, h2⟩ := hrC.three
        have HR : Hid (R = (⟨ln, tn, rt⟩, 0)) := show _ = _ by exact HV.out
        have hrA := row_store3 hrX (.string ⟨ln.toArray⟩) (.int .i64 tn) (.string ⟨rt.toArray⟩)
        have hbA := store_below3 hbX w.heap.size (Nat.le_refl _) (.string ⟨ln.toArray⟩) (.int .i64 tn) (.string ⟨rt.toArray⟩)
        have HA := hid (And.intro hrA hbA)
        obtain ⟨y0, y1, y2, f0, f1, f2⟩ := hrX.three
        obtain ⟨z0, z1, z2, g0, g1, g2⟩ := hrB.three
        clear hrA hbA HV
        go_wp2
        generalize World.setCell _ _ _ = wA at HA ⊢
        obtain ⟨hrA, hbA⟩ := HA.out
        obtain ⟨d0, d1, d2, _, _, _⟩ := hrA.three
        try simp only [Exit.inBlock, Exit.then]
        refine bodyPost_ret (v := .tuple #[.agg #[.string ⟨ln.toArray⟩, .int .i64 tn, .string ⟨rt.toArray⟩], .int .i64 0]) (by simp [results, Tryd.results26, go_sem, d0, d1, d2]; try rfl) rfl ?_
        exact ⟨by rw [HR.out]; rfl, hbA⟩
      · rw [if_pos hte] at HV
        have hne : (te != 0) = true := by simpa using hte
        have HR : Hid (R = (noS, 82)) := show _ = _ by exact HV.out
        have hrA := row_store3 hrY (.string ⟨#[]⟩) (.int .i64 0) (.string ⟨#[]⟩)
        have hbA := store_below3 hbY w.heap.size (Nat.le_refl _) (.string ⟨#[]⟩) (.int .i64 0) (.string ⟨#[]⟩)
        have HA := hid (And.intro hrA hbA)
        obtain ⟨y0, y1, y2, f0, f1, f2⟩ := hrY.three
        clear hrA hbA HV
        go_wp2
        generalize World.setCell _ _ _ = wA at HA ⊢
        obtain ⟨hrA, hbA⟩ := HA.out
        obtain ⟨d0, d1, d2, _, _, _⟩ := hrA.three
        try simp only [Exit.inBlock, Exit.then]
        refine bodyPost_ret (v := .tuple #[.agg #[.string ⟨#[]⟩, .int .i64 0, .string ⟨#[]⟩], .int .i64 82]) (by simp [results, Tryd.results26, go_sem, d0, d1, d2]; try rfl) rfl ?_
        exact ⟨by rw [HR.out]; rfl, hbA⟩

  · have b1 : (rt != []) = true := bne_iff_ne.2 hq
    have b2 : rt.isEmpty = false := by cases rt with | nil => exact absurd rfl hq | cons a b => rfl
    have htk : tokenB rt = true := HREST.out _ (fun h => absurd h hq) (fun _ h => h)
    rw [htk] at KK
    clear hq HREST htk
    go_wp2_with fail
    refine (KK.out _).mono ?_
    rintro e wx ⟨rfl, hwx⟩
    rw [hwx]
    clear hwx
    go_wp2_with fail
    refine (KL.out _).mono ?_
    rintro e w3 ⟨rfl, hw3⟩
    have hr3 := hr2.below hw3 hlt2
    have hb3 := hb2.trans (hw3.mono hb2.size)
    have hlt3 := Nat.lt_of_lt_of_le hlt2 hw3.size
    have HB3 := hid (BoxE.below HB2.out hw3 hl2b)
    have HP3 := hid (HP2.out.below hw3)
    have hl3b : w1.heap.size < w3.heap.size := Nat.lt_of_lt_of_le hl2b hw3.size
    clear hr2 hb2 hlt2 hw3 HB2 HP2 hl2b x0 x1 KL
    have hA := (Below.refl _ w3).alloc (Nat.le_refl _) (.cells #[.string ⟨ln.toArray⟩, .int .i64 (-1), .string ⟨rt.toArray⟩] 50)
    have hltA := alloc_lt w3 (.cells #[.string ⟨ln.toArray⟩, .int .i64 (-1), .string ⟨rt.toArray⟩] 50)
    have hrO := hrow3_at w3 (.string ⟨ln.toArray⟩) (.int .i64 (-1)) (.string ⟨rt.toArray⟩) 50
    have hr4 := hr3.below hA hlt3
    have hb4 := hb3.trans (hA.mono hb3.size)
    have HB4 := hid (BoxE.below HB3.out hA hl3b)
    have HP4 := hid (HP3.out.below hA)
    have hlt4 := Nat.lt_trans hlt3 hltA
    clear hb3 HB3 HP3 hA hr3
    obtain ⟨x0, x1⟩ := HB4.out
    simp only at x0 x1
    go_wp2_with fail
    refine (KX.out _ _ HP4.out).mono ?_
    rintro e w5 ⟨rfl, hw5⟩
    have hrX := hr4.below hw5 hlt4
    have hbX := hb4.trans (hw5.mono hb4.size)
    have hrB := hrO.below hw5 hltA
    have hlt5 := Nat.lt_of_lt_of_le hlt4 hw5.size
    have hltB := Nat.lt_of_lt_of_le hltA hw5.size
    clear hr4 hb4 hrO hw5 HB4 HP4 x0 x1 KX hlt4 hltA
    cases xb with
    | false =>
      rw [if_pos rfl] at HV
      have HR : Hid (R = (⟨ln, (-1), rt⟩, 0)) := show _ = _ by exact HV.out
      have hrA := row_store3 hrX (.string ⟨ln.toArray⟩) (.int .i64 (-1)) (.string ⟨rt.toArray⟩)
      have hbA := store_below3 hbX w.heap.size (Nat.le_refl _) (.string ⟨ln.toArray⟩) (.int .i64 (-1)) (.string ⟨rt.toArray⟩)
      have HA := hid (And.intro hrA hbA)
      obtain ⟨y0, y1, y2, f0, f1, f2⟩ := hrX.three
      obtain ⟨z0, z1, z2, g0, g1, g2⟩ := hrB.three
      clear hrA hbA HV
      go_wp2
      generalize World.setCell _ _ _ = wA at HA ⊢
      obtain ⟨hrA, hbA⟩ := HA.out
      obtain ⟨d0, d1, d2, _, _, _⟩ := hrA.three
      try simp only [Exit.inBlock, Exit.then]
      refine bodyPost_ret (v := .tuple #[.agg #[.string ⟨ln.toArray⟩, .int .i64 (-1), .string ⟨rt.toArray⟩], .int .i64 0]) (by simp [results, Tryd.results26, go_sem, d0, d1, d2]; try rfl) rfl ?_
      exact ⟨by rw [HR.out]; rfl, hbA⟩
    | true =>
      rw [if_neg (by simp)] at HV
      go_wp2_with fail
      refine (KT.out _).mono ?_
      rintro e w6 ⟨rfl, hw6⟩
      have hrY := hrX.below hw6 hlt5
      have hbY := hbX.trans (hw6.mono hbX.size)
      have hrC := hrB.below hw6 hltB
      clear hrX hbX hrB hw6 KT
      by_cases hte : te = 0
      · subst hte
        rw [if_neg (by simp)] at HV
        have hrX := RowIs.far hrY (show w.heap.size ≠ w3.heap.size by omega) 1 (.int .i64 tn)
        have hbX := hbY.setCell (p := ⟨w3.heap.size, 1, none⟩) (show w.heap.size ≤ w3.heap.size by omega) (.int .i64 tn)
        have hrB := hrC.set 1 (.int .i64 tn)
        simp only [List.set_cons_succ, List.set_cons_zero] at hrB
        obtain ⟨o0, o1, o2, h0, h1, h2⟩ := hrC.three
        have HR : Hid (R = (⟨ln, tn, rt⟩, 0)) := show _ = _ by exact HV.out
        have hrA := row_store3 hrX (.string ⟨ln.toArray⟩) (.int .i64 tn) (.string ⟨rt.toArray⟩)
        have hbA := store_below3 hbX w.heap.size (Nat.le_refl _) (.string ⟨ln.toArray⟩) (.int .i64 tn) (.string ⟨rt.toArray⟩)
        have HA := hid (And.intro hrA hbA)
        obtain ⟨y0, y1, y2, f0, f1, f2⟩ := hrX.three
        obtain ⟨z0, z1, z2, g0, g1, g2⟩ := hrB.three
        clear hrA hbA HV
        go_wp2
        generalize World.setCell _ _ _ = wA at HA ⊢
        obtain ⟨hrA, hbA⟩ := HA.out
        obtain ⟨d0, d1, d2, _, _, _⟩ := hrA.three
        try simp only [Exit.inBlock, Exit.then]
        refine bodyPost_ret (v := .tuple #[.agg #[.string ⟨ln.toArray⟩, .int .i64 tn, .string ⟨rt.toArray⟩], .int .i64 0]) (by simp [results, Tryd.results26, go_sem, d0, d1, d2]; try rfl) rfl ?_
        exact ⟨by rw [HR.out]; rfl, hbA⟩
      · rw [if_pos hte] at HV
        have hne : (te != 0) = true := by simpa using hte
        have HR : Hid (R = (noS, 82)) := show _ = _ by exact HV.out
        have hrA := row_store3 hrY (.string ⟨#[]⟩) (.int .i64 0) (.string ⟨#[]⟩)
        have hbA := store_below3 hbY w.heap.size (Nat.le_refl _) (.string ⟨#[]⟩) (.int .i64 0) (.string ⟨#[]⟩)
        have HA := hid (And.intro hrA hbA)
        obtain ⟨y0, y1, y2, f0, f1, f2⟩ := hrY.three
        clear hrA hbA HV
        go_wp2
        generalize World.setCell _ _ _ = wA at HA ⊢
        obtain ⟨hrA, hbA⟩ := HA.out
        obtain ⟨d0, d1, d2, _, _, _⟩ := hrA.three
        try simp only [Exit.inBlock, Exit.then]
        refine bodyPost_ret (v := .tuple #[.agg #[.string ⟨#[]⟩, .int .i64 0, .string ⟨#[]⟩], .int .i64 82]) (by simp [results, Tryd.results26, go_sem, d0, d1, d2]; try rfl) rfl ?_
        exact ⟨by rw [HR.out]; rfl, hbA⟩


end Go.Proofs.YtjbfdbccidhdfaaDoor
