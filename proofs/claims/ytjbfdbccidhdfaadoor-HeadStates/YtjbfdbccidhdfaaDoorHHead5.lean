/-
  The contract of package head's State.
-/
import Derived.Test.YtjbfdbccidhdfaaDoorHHead2
import Derived.Test.YtjbfdbccidhdfaaDoorHHead4
import Derived.Test.YtjbfdbccidhdfaaDoorHRef6
namespace Go.Proofs.YtjbfdbccidhdfaaDoor
open Go.RowKit Go.Sort Sc
set_option linter.unusedVariables false
set_option maxRecDepth 20000
set_option linter.unusedSimpArgs false

theorem stateV_land (s : List UInt8) : stateV s = if (eventV s).2 ≠ 0 then (noS, 82)
  else if (lastV (eventV s).1.params).2 ≠ 0 ∨ mgB (valV (eventV s).1.params reasonK).1 = false then (noS, 82)
  else (⟨lowL (eventV s).1.name, (lastV (eventV s).1.params).1, (valV (eventV s).1.params reasonK).1⟩, 0) := by
  rw [stateV_val]
  unfold lastV mgB
  generalize (eventV s).1.params = ps
  generalize (valV ps reasonK).1 = rt
  generalize valV ps expiresK = xv
  obtain ⟨xt, xb⟩ := xv
  generalize timeV xt = tv
  obtain ⟨tn, te⟩ := tv
  by_cases h1 : (eventV s).2 ≠ 0
  · rw [if_pos h1, if_pos h1]
  · rw [if_neg h1, if_neg h1]
    cases rt with
    | nil => cases xb <;> by_cases h2 : te = 0 <;> simp [h2]
    | cons a b => cases tokenB (a :: b) <;> cases xb <;> by_cases h2 : te = 0 <;> simp [h2]

set_option maxHeartbeats 2000000 in
set_option maxRecDepth 100000 in
theorem hstate_any (s : List UInt8) (w : World) (hs : s.length ≤ 1048576) :
    Calls Tryd.prog 25 #[.string ⟨s.toArray⟩] w fun e w' => e = .returned (.tuple #[sttV (stateV s).1, .int .i64 (stateV s).2]) ∧ Below w.heap.size w w' := by
  have HV := hid (stateV_land s)
  have KE := hid (fun w' => hevent_any s w' hs)
  generalize stateV s = R at HV ⊢
  obtain ⟨ev, en, hev⟩ : ∃ ev en, eventV s = (ev, en) := ⟨_, _, rfl⟩
  rw [hev] at HV KE
  have hr0 := hrow3_at w (.string ⟨#[]⟩) (.int .i64 0) (.string ⟨#[]⟩) 50
  have hb0 : Below w.heap.size w (w.alloc (.cells #[.string ⟨#[]⟩, .int .i64 0, .string ⟨#[]⟩] 50)) := (Below.refl _ w).alloc (Nat.le_refl _) _
  have hlt0 := alloc_lt w (.cells #[.string ⟨#[]⟩, .int .i64 0, .string ⟨#[]⟩] 50)
  unfold EvRes evV at KE
  simp only at KE HV
  by_cases hen : en = 0
  case neg =>
    have HR : Hid (R = (noS, 82)) := show _ = _ by rw [HV.out, if_pos hen]
    have hne : (en != 0) = true := by simpa using hen
    clear HV hev
    obtain ⟨nm, ps⟩ := ev
    simp only at KE
    go_enter Tryd.func25, Tryd.ntmps25
    go_wp2_with fail
    refine (KE.out _).mono ?_
    rintro e w1 ⟨⟨q, rfl, ho⟩, hw1⟩
    obtain ⟨a3, k3, hqe⟩ := ho.parsAt.form
    subst hqe
    have hr1 := hr0.below hw1 hlt0
    have hb1 := hb0.trans (hw1.mono hb0.size)
    have hlt1 := Nat.lt_of_lt_of_le hlt0 hw1.size
    clear hr0 hb0 hlt0 hw1 KE ho
    have hr2 := hr1.below ((Below.refl _ w1).alloc (Nat.le_refl _) (.cells #[.string ⟨nm.toArray⟩, .slice a3 ps.length k3] 40)) hlt1
    have hb2 := hb1.alloc hb1.size (.cells #[.string ⟨nm.toArray⟩, .slice a3 ps.length k3] 40)
    have hsz : w.heap.size < (((w1.setCell ⟨w.heap.size, 0, none⟩ (.string ⟨#[]⟩)).setCell ⟨w.heap.size, 1, none⟩ (.int .i64 0)).setCell ⟨w.heap.size, 2, none⟩ (.string ⟨#[]⟩)).heap.size := by simpa [World.setCell] using hlt1
    have hrS := row_store3 hr1 (.string ⟨#[]⟩) (.int .i64 0) (.string ⟨#[]⟩)
    have hbS := store_below3 hb1 w.heap.size (Nat.le_refl _) (.string ⟨#[]⟩) (.int .i64 0) (.string ⟨#[]⟩)
    have hrT := hrS.below ((Below.refl _ _).alloc (Nat.le_refl _) (.cells #[.string ⟨nm.toArray⟩, .slice a3 ps.length k3] 40)) hsz
    have hbT := hbS.alloc hbS.size (.cells #[.string ⟨nm.toArray⟩, .slice a3 ps.length k3] 40)
    have HA := hid (And.intro hrT hbT)
    obtain ⟨y0, y1, y2, f0, f1, f2⟩ := hr1.three
    clear hrS hbS hrT hbT hsz hr2 hb2
    go_wp2
    generalize World.alloc _ _ = wA at HA ⊢
    obtain ⟨hrA, hbA⟩ := HA.out
    obtain ⟨d0, d1, d2, _, _, _⟩ := hrA.three
    try simp only [Exit.inBlock, Exit.then]
    refine bodyPost_ret (v := .tuple #[.agg #[.string ⟨#[]⟩, .int .i64 0, .string ⟨#[]⟩], .int .i64 82]) (by simp [results, Tryd.results25, go_sem, d0, d1, d2]; try rfl) rfl ?_
    exact ⟨by rw [HR.out]; rfl, hbA⟩
  subst hen
  rw [if_neg (by simp)] at HV
  have hse := (event_small hev).le (show 4096 ≤ 140737488355328 by omega)
  clear hev
  obtain ⟨nm, ps⟩ := ev
  simp only at KE HV hse
  have hnl := hse.1
  simp only at hnl
  have hl1 := hval_len hse.2 reasonK
  have hl2 := hval_len hse.2 expiresK
  have KR := hid (fun q w' (h : ParsAt w' q ps) => value_any q ps reasonK w' (by decide) hse.2 h)
  have KX := hid (fun q w' (h : ParsAt w' q ps) => hlasting_any q ps w' hse.2 h hl2)
  have KL := hid (fun w' => lower_list nm w' (by omega))
  generalize valV ps reasonK = rv at HV KR hl1
  generalize lastV ps = xv at HV KX
  obtain ⟨rt, rb⟩ := rv
  obtain ⟨tn, te⟩ := xv
  simp only at HV KR KX hl1
  unfold reasonK at KR
  have KK := hid (fun w' => hmaygive_any rt w' hl1)
  generalize mgB rt = mg at HV KK
  generalize lowL nm = ln at HV KL
  clear hse
  go_enter Tryd.func25, Tryd.ntmps25
  go_wp2_with fail
  refine (KE.out _).mono ?_
  rintro e w1 ⟨⟨q, rfl, ho⟩, hw1⟩
  obtain ⟨a3, k3, hqe⟩ := ho.parsAt.form
  subst hqe
  have hr1 := hr0.below hw1 hlt0
  have hb1 := hb0.trans (hw1.mono hb0.size)
  have hlt1 := Nat.lt_of_lt_of_le hlt0 hw1.size
  have hA := (Below.refl _ w1).alloc (Nat.le_refl _) (objE ⟨nm, ps⟩ (.slice a3 ps.length k3))
  have hltA := alloc_lt w1 (objE ⟨nm, ps⟩ (.slice a3 ps.length k3))
  have HBE := hid (boxE_new w1 ⟨nm, ps⟩ (.slice a3 ps.length k3))
  have HPA := hid (ho.parsAt.below hA)
  have hrW := hr1.below hA hlt1
  have hbW := hb1.trans (hA.mono hb1.size)
  have hltW := Nat.lt_of_lt_of_le hlt1 hA.size
  clear hr0 hb0 hlt0 hw1 KE ho hr1 hb1 hA
  unfold objE at HBE hltA hrW hbW hltW HPA
  simp only at HBE hltA hrW hbW hltW HPA
  obtain ⟨x0, x1⟩ := HBE.out
  simp only at x0 x1
  go_wp2_with fail
  refine (KR.out _ _ HPA.out).mono ?_
  rintro e w2 ⟨rfl, hw2⟩
  have hr2 := hrW.below hw2 hltW
  have hb2 := hbW.trans (hw2.mono hbW.size)
  have hlt2 := Nat.lt_of_lt_of_le hltW hw2.size
  have HB2 := hid (BoxE.below HBE.out hw2 hltA)
  have HP2 := hid (HPA.out.below hw2)
  have hl2b : w1.heap.size < w2.heap.size := Nat.lt_of_lt_of_le hltA hw2.size
  clear hrW hbW hltW hw2 HBE HPA hltA x0 x1 KR hlt1
  obtain ⟨x0, x1⟩ := HB2.out
  simp only at x0 x1
  go_wp2_with fail
  refine (KX.out _ _ HP2.out).mono ?_
  rintro e w3 ⟨rfl, hw3⟩
  have hr3 := hr2.below hw3 hlt2
  have hb3 := hb2.trans (hw3.mono hb2.size)
  have hlt3 := Nat.lt_of_lt_of_le hlt2 hw3.size
  have HB3 := hid (BoxE.below HB2.out hw3 hl2b)
  have hl3b : w1.heap.size < w3.heap.size := Nat.lt_of_lt_of_le hl2b hw3.size
  clear hr2 hb2 hlt2 hw3 HB2 HP2 hl2b x0 x1 KX
  by_cases hte : te = 0
  case neg =>
    have HR : Hid (R = (noS, 82)) := show _ = _ by rw [HV.out, if_pos (Or.inl hte)]
    have hne : (te != 0) = true := by simpa using hte
    have hrA := row_store3 hr3 (.string ⟨#[]⟩) (.int .i64 0) (.string ⟨#[]⟩)
    have hbA := store_below3 hb3 w.heap.size (Nat.le_refl _) (.string ⟨#[]⟩) (.int .i64 0) (.string ⟨#[]⟩)
    have HA := hid (And.intro hrA hbA)
    obtain ⟨y0, y1, y2, f0, f1, f2⟩ := hr3.three
    clear hrA hbA HV
    go_wp2
    generalize World.setCell _ _ _ = wA at HA ⊢
    obtain ⟨hrA, hbA⟩ := HA.out
    obtain ⟨d0, d1, d2, _, _, _⟩ := hrA.three
    try simp only [Exit.inBlock, Exit.then]
    refine bodyPost_ret (v := .tuple #[.agg #[.string ⟨#[]⟩, .int .i64 0, .string ⟨#[]⟩], .int .i64 82]) (by simp [results, Tryd.results25, go_sem, d0, d1, d2]; try rfl) rfl ?_
    exact ⟨by rw [HR.out]; rfl, hbA⟩
  subst hte
  cases mg with
  | false =>
    have HR : Hid (R = (noS, 82)) := show _ = _ by rw [HV.out, if_pos (Or.inr rfl)]
    have hrA := row_store3 hr3 (.string ⟨#[]⟩) (.int .i64 0) (.string ⟨#[]⟩)
    have hbA := store_below3 hb3 w.heap.size (Nat.le_refl _) (.string ⟨#[]⟩) (.int .i64 0) (.string ⟨#[]⟩)
    have HA := hid (And.intro hrA hbA)
    obtain ⟨y0, y1, y2, f0, f1, f2⟩ := hr3.three
    clear hrA hbA HV
    go_wp2_with (go_at_call 54; refine (KK.out _).mono ?_; rintro e wx ⟨rfl, hwx⟩; rw [hwx])
    generalize World.setCell _ _ _ = wA at HA ⊢
    obtain ⟨hrA, hbA⟩ := HA.out
    obtain ⟨d0, d1, d2, _, _, _⟩ := hrA.three
    try simp only [Exit.inBlock, Exit.then]
    refine bodyPost_ret (v := .tuple #[.agg #[.string ⟨#[]⟩, .int .i64 0, .string ⟨#[]⟩], .int .i64 82]) (by simp [results, Tryd.results25, go_sem, d0, d1, d2]; try rfl) rfl ?_
    exact ⟨by rw [HR.out]; rfl, hbA⟩
  | true =>
    have HR : Hid (R = (⟨ln, tn, rt⟩, 0)) := show _ = _ by rw [HV.out, if_neg (by simp)]
    obtain ⟨x0, x1⟩ := HB3.out
    simp only at x0 x1
    clear HV
    go_wp2_with fail
    refine (KK.out _).mono ?_
    rintro e wx ⟨rfl, hwx⟩
    rw [hwx]
    clear hwx
    go_wp2_with fail
    refine (KL.out _).mono ?_
    rintro e w4 ⟨rfl, hw4⟩
    have hr4 := hr3.below hw4 hlt3
    have hb4 := hb3.trans (hw4.mono hb3.size)
    clear hr3 hb3 hlt3 hw4 HB3 hl3b x0 x1 KL KK
    have hrA := row_store3 hr4 (.string ⟨ln.toArray⟩) (.int .i64 tn) (.string ⟨rt.toArray⟩)
    have hbA := store_below3 hb4 w.heap.size (Nat.le_refl _) (.string ⟨ln.toArray⟩) (.int .i64 tn) (.string ⟨rt.toArray⟩)
    have HA := hid (And.intro hrA hbA)
    obtain ⟨y0, y1, y2, f0, f1, f2⟩ := hr4.three
    clear hrA hbA
    go_wp2
    generalize World.setCell _ _ _ = wA at HA ⊢
    obtain ⟨hrA, hbA⟩ := HA.out
    obtain ⟨d0, d1, d2, _, _, _⟩ := hrA.three
    try simp only [Exit.inBlock, Exit.then]
    refine bodyPost_ret (v := .tuple #[.agg #[.string ⟨ln.toArray⟩, .int .i64 tn, .string ⟨rt.toArray⟩], .int .i64 0]) (by simp [results, Tryd.results25, go_sem, d0, d1, d2]; try rfl) rfl ?_
    exact ⟨by rw [HR.out]; rfl, hbA⟩

end Go.Proofs.YtjbfdbccidhdfaaDoor
