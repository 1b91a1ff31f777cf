/-
  Contracts: package frame's statusOf, start.
-/
import Derived.Test.YtagopboofmjnfaaDoorFUnfold
namespace Go.Proofs.YtagopboofmjnfaaDoor
open Go.RowKit Go.Sort Sc
set_option linter.unusedVariables false
set_option maxRecDepth 20000

def zeroM : List Value := [.string ⟨#[]⟩, .string ⟨#[]⟩, .int .i64 0, .string ⟨#[]⟩, .slice none 0 0, .string ⟨#[]⟩]
theorem rowM_new (w : World) : RowIs (w.alloc (.cells #[.string ⟨#[]⟩, .string ⟨#[]⟩, .int .i64 0, .string ⟨#[]⟩, .slice none 0 0, .string ⟨#[]⟩] 24)) w.heap.size 24 zeroM := by
  unfold RowIs; rw [heap_alloc_new]; rfl
theorem RowIs.drew {w : World} {g : Nat} {e : TypeId} {l : List Value} (h : RowIs w g e l) : RowIs w.drew g e l := h
theorem key {w X : World} {b : Nat} {v0 v1 v2 v3 v4 v5 : Value} (hm : RowIs X b 24 [v0, v1, v2, v3, v4, v5]) (hr : RowIs X w.heap.size 24 zeroM) (hb : Below w.heap.size w X) (h1 : w.heap.size < b) (h2 : b < X.heap.size) :
    ∀ w5, Below X.drew.heap.size X.drew w5 → (Six w5 b v0 v1 v2 v3 v4 v5 ∧ Six w5 w.heap.size (.string ⟨#[]⟩) (.string ⟨#[]⟩) (.int .i64 0) (.string ⟨#[]⟩) (.slice none 0 0) (.string ⟨#[]⟩) ∧ RowIs w5 w.heap.size 24 zeroM ∧ Below w.heap.size w w5) := by
  intro w5 h5
  have hr5 := RowIs.below hr.drew h5 (Nat.lt_trans h1 h2)
  exact ⟨(RowIs.below hm.drew h5 h2).six, RowIs.six hr5, hr5, hb.drew.trans (h5.mono hb.size)⟩

set_option maxHeartbeats 400000 in
theorem fstatus_any (l : List UInt8) (w : World) (h : l.length ≤ 100000) :
    Calls Tryd.prog 70 #[.string ⟨l.toArray⟩] w fun e w' => e = .returned (.tuple #[.int .i64 (statusV l).1, .bool (statusV l).2]) ∧ w' = w := by
  have hz := size_list l
  have KN := hid (fun w' => num_list l 699 w' (by omega) (by omega) (by omega))
  by_cases h3 : l.length = 3
  · have hv : statusV l = ((numV 699 l).1, decide ((numV 699 l).2 = 0)) := by unfold statusV; rw [if_neg (by simp [h3])]
    rw [hv]
    generalize numV 699 l = r at KN
    obtain ⟨a, b⟩ := r
    simp only at KN ⊢
    have h3' : ((l.length : Int) != 3) = false := by rw [h3]; rfl
    have hb2 : (b == 0) = decide (b = 0) := rfl
    clear hv
    go_enter Tryd.func70, Tryd.ntmps70
    go_wp2_with fail
    refine (KN.out _).mono ?_
    rintro e w ⟨rfl, rfl⟩
    go_wp2
    go_ret2
    exact ⟨rfl, rfl⟩
  · have hv : statusV l = (0, false) := by unfold statusV; rw [if_pos h3]
    rw [hv]
    have h3' : ((l.length : Int) != 3) = true := by rw [bne, beq_eq_false_iff_ne.2 (by omega)]; rfl
    clear hv
    go_enter Tryd.func70, Tryd.ntmps70
    go_wp2
    go_ret2
    exact ⟨rfl, rfl⟩

theorem startC_of {s a r b c : List UInt8} {ok1 ok : Bool} (h1 : cutL 32 s = (a, r, ok1)) (h2 : cutL 32 r = (b, c, ok)) :
    startC s = if ok = false then (noM, false) else if sameB a versionK = true then (⟨[], [], (statusV b).1, c, [], []⟩, (statusV b).2 && firstB ⟨[], [], (statusV b).1, c, [], []⟩)
      else if sameB c versionK = true then (⟨a, b, 0, [], [], []⟩, firstB ⟨a, b, 0, [], [], []⟩) else (noM, false) := by
  unfold startC
  simp only [h1, h2]
theorem first_zero : firstB noM = false := by decide
theorem smallM_of {me ta re : List UInt8} {st : Int} (h1 : me.length ≤ 100000) (h2 : ta.length ≤ 100000) (h3 : re.length ≤ 100000) : SmallM 140737488355328 ⟨me, ta, st, re, [], []⟩ :=
  ⟨by show me.length ≤ _; omega, by show ta.length ≤ _; omega, by show re.length ≤ _; omega, by simp, by simp, fun p hp => by simp at hp⟩

set_option maxHeartbeats 4000000 in
set_option maxRecDepth 100000 in
theorem fstartC_any (s : List UInt8) (w : World) (hs : s.length ≤ 100000) :
    Calls Tryd.prog 43 #[.string ⟨s.toArray⟩] w fun e w' => e = .returned (.tuple #[msgV (startC s).1 (.slice none 0 0), .bool (startC s).2]) ∧ Below w.heap.size w w' := by
  have l1 := cutL_len 32 s
  obtain ⟨a, r, ok1, h1⟩ : ∃ a r ok1, cutL 32 s = (a, r, ok1) := ⟨_, _, _, rfl⟩
  have l2 := cutL_len 32 r
  obtain ⟨b, c, ok, h2⟩ : ∃ b c ok, cutL 32 r = (b, c, ok) := ⟨_, _, _, rfl⟩
  have hv := startC_of h1 h2
  rw [h1] at l1
  rw [h2] at l2
  simp only at l1 l2
  have KC1 := hid (fun w' => cutS_of h1 w' (by omega))
  have KC2 := hid (fun w' => cutS_of h2 w' (by omega))
  have KA := hid (fun w' => same_list a versionK w' (by omega) (by decide))
  have KB := hid (fun w' => same_list c versionK w' (by omega) (by decide))
  have KT := hid (fun w' => fstatus_any b w' (by omega))
  have KL := hid (fun l (hl : l.length ≤ 100000) w' => clone_list l w' (by omega))
  have KF := hid (fun (m : Ms) (hm : SmallM 140737488355328 m) w' => fstart_any m none 0 0 w' hm)
  generalize startC s = R at hv ⊢
  obtain ⟨Rm, Rb⟩ := R
  clear h1 h2
  have hr0 := rowM_new w
  have hb0 : Below w.heap.size w (w.alloc (.cells #[.string ⟨#[]⟩, .string ⟨#[]⟩, .int .i64 0, .string ⟨#[]⟩, .slice none 0 0, .string ⟨#[]⟩] 24)) := (Below.refl _ w).alloc (Nat.le_refl _) _
  have hlt0 := alloc_lt w (.cells #[.string ⟨#[]⟩, .string ⟨#[]⟩, .int .i64 0, .string ⟨#[]⟩, .slice none 0 0, .string ⟨#[]⟩] 24)
  go_enter Tryd.func43, Tryd.ntmps43
  go_wp2_with fail
  refine (KC1.out _).mono ?_
  rintro e w1 ⟨rfl, hw1⟩
  have hr1 := hr0.below hw1 hlt0
  have hb1 := hb0.trans (hw1.mono hb0.size)
  have hlt1 := Nat.lt_of_lt_of_le hlt0 hw1.size
  clear hr0 hb0 hlt0 hw1 KC1
  go_wp2_with fail
  refine (KC2.out _).mono ?_
  rintro e w2 ⟨rfl, hw2⟩
  have hr2 := hr1.below hw2 hlt1
  have hb2 := hb1.trans (hw2.mono hb1.size)
  have hlt2 := Nat.lt_of_lt_of_le hlt1 hw2.size
  clear hr1 hb1 hlt1 hw2 KC2
  cases ok with
  | false =>
    rw [if_pos rfl] at hv
    obtain ⟨rfl, rfl⟩ := Prod.mk.inj hv
    clear hv KA KB KT KL KF
    obtain ⟨y0, y1, y2, y3, y4, y5, f0, f1, f2, f3, f4, f5⟩ := hr2.six
    go_wp2
    have hr7 := row_store hr2 (.string ⟨#[]⟩) (.string ⟨#[]⟩) (.int .i64 0) (.string ⟨#[]⟩) (.slice none 0 0) (.string ⟨#[]⟩)
    have hb7 := store_below hb2 w.heap.size (Nat.le_refl _) (.string ⟨#[]⟩) (.string ⟨#[]⟩) (.int .i64 0) (.string ⟨#[]⟩) (.slice none 0 0) (.string ⟨#[]⟩)
    generalize World.setCell _ _ _ = w7 at hr7 hb7 ⊢
    obtain ⟨d0, d1, d2, d3, d4, d5, _, _, _, _, _, _⟩ := hr7.six
    try simp only [Exit.inBlock, Exit.then]
    refine bodyPost_ret (v := .tuple #[.agg #[.string ⟨#[]⟩, .string ⟨#[]⟩, .int .i64 0, .string ⟨#[]⟩, .slice none 0 0, .string ⟨#[]⟩], .bool false]) (by simp [results, Tryd.results43, go_sem, d0, d1, d2, d3, d4, d5]; try rfl) rfl ?_
    exact ⟨rfl, hb7⟩
  | true =>
    rw [if_neg (by simp)] at hv
    have hm3 := rowM_new w2
    have hA := (Below.refl _ w2).alloc (Nat.le_refl _) (.cells #[.string ⟨#[]⟩, .string ⟨#[]⟩, .int .i64 0, .string ⟨#[]⟩, .slice none 0 0, .string ⟨#[]⟩] 24)
    have hltA := alloc_lt w2 (.cells #[.string ⟨#[]⟩, .string ⟨#[]⟩, .int .i64 0, .string ⟨#[]⟩, .slice none 0 0, .string ⟨#[]⟩] 24)
    have hr3 := hr2.below hA hlt2
    have hb3 := hb2.trans (hA.mono hb2.size)
    clear hr2 hb2 hA
    cases hsa : sameB a versionK with
    | true =>
      rw [hsa] at KA
      rw [if_pos hsa] at hv
      obtain ⟨st, sb, hst⟩ : ∃ st sb, statusV b = (st, sb) := ⟨_, _, rfl⟩
      rw [hst] at hv KT
      simp only at hv KT
      obtain ⟨rfl, rfl⟩ := Prod.mk.inj hv
      have KS := hid (fun w' => KF.out ⟨[], [], st, c, [], []⟩ (smallM_of (by simp) (by simp) (by omega)) w')
      unfold msgV at KS
      simp only at KS
      clear hv KB hst hsa KF
      go_wp2_with fail
      refine (KA.out _).mono ?_
      rintro e w4 ⟨rfl, hw4⟩
      have hm4 := hm3.below hw4 hltA
      have hr4 := hr3.below hw4 (Nat.lt_trans hlt2 hltA)
      have hb4 := hb3.trans (hw4.mono hb3.size)
      have hlt4 := Nat.lt_of_lt_of_le hltA hw4.size
      clear hm3 hr3 hb3 hltA hw4 KA
      obtain ⟨p0, p1, p2, p3, p4, p5, g0, g1, g2, g3, g4, g5⟩ := hm4.six
      go_wp2_with fail
      refine (KT.out _).mono ?_
      rintro e w4 ⟨rfl, rfl⟩
      have hm5 := hm4.set 2 (.int .i64 st)
      have hbS := (Below.refl w4.heap.size w4)
      have hr5 : RowIs (w4.setCell ⟨w2.heap.size, 2, none⟩ (.int .i64 st)) w.heap.size 24 zeroM := by
        have := (Below.refl w2.heap.size w4).setCell (p := ⟨w2.heap.size, 2, none⟩) (Nat.le_refl _) (.int .i64 st)
        exact hr4.below this hlt2
      have hb5 := hb4.setCell (p := ⟨w2.heap.size, 2, none⟩) (Nat.le_of_lt hlt2) (.int .i64 st)
      have hlt5 : w2.heap.size < (w4.setCell ⟨w2.heap.size, 2, none⟩ (.int .i64 st)).heap.size := by simpa [World.setCell] using hlt4
      clear hm4 hr4 hb4 hlt4 hbS KT
      simp only [List.set_cons_succ, List.set_cons_zero, zeroM] at hm5
      go_wp2_with fail
      refine (KL.out c (by omega) _).mono ?_
      rintro e w6 ⟨rfl, hw6⟩
      have hm6 := hm5.below hw6 hlt5
      have hr6 := hr5.below hw6 (Nat.lt_trans hlt2 hlt5)
      have hb6 := hb5.trans (hw6.mono hb5.size)
      have hlt6 := Nat.lt_of_lt_of_le hlt5 hw6.size
      clear hm5 hr5 hb5 hlt5 hw6 KL g0 g1 g2 g3 g4 g5 p0 p1 p2 p3 p4 p5
      obtain ⟨p0, p1, p2, p3, p4, p5, g0, g1, g2, g3, g4, g5⟩ := hm6.six
      have hmX := hm6.set 3 (.string ⟨c.toArray⟩)
      have hrX : RowIs (w6.setCell ⟨w2.heap.size, 3, none⟩ (.string ⟨c.toArray⟩)) w.heap.size 24 zeroM := by
        have := (Below.refl w2.heap.size w6).setCell (p := ⟨w2.heap.size, 3, none⟩) (Nat.le_refl _) (.string ⟨c.toArray⟩)
        exact hr6.below this hlt2
      have hbX := hb6.setCell (p := ⟨w2.heap.size, 3, none⟩) (Nat.le_of_lt hlt2) (.string ⟨c.toArray⟩)
      have hlX2 : w2.heap.size < (w6.setCell ⟨w2.heap.size, 3, none⟩ (.string ⟨c.toArray⟩)).heap.size := by simpa [World.setCell] using hlt6
      simp only [List.set_cons_succ, List.set_cons_zero] at hmX
      have hlX1 := hlt2
      clear hm6 hr6 hb6 hlt6
      cases sb with
      | false =>
        go_wp2
        clear p0 p1 p2 p3 p4 p5 g0 g1 g2 g3 g4 g5
        generalize World.setCell _ _ _ = X at hmX hrX hbX hlX2 ⊢
        obtain ⟨p0, p1, p2, p3, p4, p5, g0, g1, g2, g3, g4, g5⟩ := hmX.six
        obtain ⟨y0, y1, y2, y3, y4, y5, f0, f1, f2, f3, f4, f5⟩ := hrX.six
        go_region
        all_goals (
          have hr7 := (row_store hrX (.string ⟨#[]⟩) (.string ⟨#[]⟩) (.int .i64 st) (.string ⟨c.toArray⟩) (.slice none 0 0) (.string ⟨#[]⟩)).drew
          have hb7 := (store_below hbX w.heap.size (Nat.le_refl _) (.string ⟨#[]⟩) (.string ⟨#[]⟩) (.int .i64 st) (.string ⟨c.toArray⟩) (.slice none 0 0) (.string ⟨#[]⟩)).drew
          generalize World.drew _ = w7 at hr7 hb7 ⊢
          obtain ⟨d0, d1, d2, d3, d4, d5, _, _, _, _, _, _⟩ := hr7.six
          go_wp2
          try simp only [Exit.inBlock, Exit.then]
          refine bodyPost_ret (v := .tuple #[.agg #[.string ⟨#[]⟩, .string ⟨#[]⟩, .int .i64 st, .string ⟨c.toArray⟩, .slice none 0 0, .string ⟨#[]⟩], .bool false]) (by simp [results, Tryd.results43, go_sem, d0, d1, d2, d3, d4, d5]; try rfl) rfl ?_
          exact ⟨rfl, hb7⟩)
      | true =>
        go_wp2
        clear p0 p1 p2 p3 p4 p5 g0 g1 g2 g3 g4 g5
        generalize World.setCell _ _ _ = X at hmX hrX hbX hlX2 ⊢
        obtain ⟨p0, p1, p2, p3, p4, p5, g0, g1, g2, g3, g4, g5⟩ := hmX.six
        obtain ⟨y0, y1, y2, y3, y4, y5, f0, f1, f2, f3, f4, f5⟩ := hrX.six
        have KR := hid (key hmX hrX hbX hlX1 hlX2)
        clear hmX hrX hbX
        go_region_with (go_at_call 30; refine (KS.out _).mono ?_; rintro e w6 ⟨rfl, hw6⟩; obtain ⟨⟨q0, q1, q2, q3, q4, q5, _, _, _, _, _, _⟩, ⟨z0, z1, z2, z3, z4, z5, k0, k1, k2, k3, k4, k5⟩, hr6, hb6⟩ := KR.out w6 hw6)
        all_goals (
          have hr7 := row_store hr6 (.string ⟨#[]⟩) (.string ⟨#[]⟩) (.int .i64 st) (.string ⟨c.toArray⟩) (.slice none 0 0) (.string ⟨#[]⟩)
          have hb7 := store_below hb6 w.heap.size (Nat.le_refl _) (.string ⟨#[]⟩) (.string ⟨#[]⟩) (.int .i64 st) (.string ⟨c.toArray⟩) (.slice none 0 0) (.string ⟨#[]⟩)
          generalize World.setCell _ _ _ = w7 at hr7 hb7 ⊢
          obtain ⟨d0, d1, d2, d3, d4, d5, _, _, _, _, _, _⟩ := hr7.six
          go_wp2
          try simp only [Exit.inBlock, Exit.then]
          refine bodyPost_ret (v := .tuple #[.agg #[.string ⟨#[]⟩, .string ⟨#[]⟩, .int .i64 st, .string ⟨c.toArray⟩, .slice none 0 0, .string ⟨#[]⟩], .bool (firstB ⟨[], [], st, c, [], []⟩)]) (by simp [results, Tryd.results43, go_sem, d0, d1, d2, d3, d4, d5]; try rfl) rfl ?_
          exact ⟨rfl, hb7⟩)
    | false =>
      rw [hsa] at KA
      rw [if_neg (by rw [hsa]; simp)] at hv
      clear hsa KT
      go_wp2_with fail
      refine (KA.out _).mono ?_
      rintro e w4 ⟨rfl, hw4⟩
      have hm4 := hm3.below hw4 hltA
      have hr4 := hr3.below hw4 (Nat.lt_trans hlt2 hltA)
      have hb4 := hb3.trans (hw4.mono hb3.size)
      have hlt4 := Nat.lt_of_lt_of_le hltA hw4.size
      clear hm3 hr3 hb3 hltA hw4 KA
      cases hsc : sameB c versionK with
      | false =>
        rw [hsc] at KB
        rw [if_neg (by rw [hsc]; simp)] at hv
        obtain ⟨rfl, rfl⟩ := Prod.mk.inj hv
        have KS := hid (fun w' => KF.out noM (smallM_of (by simp) (by simp) (by simp)) w')
        rw [first_zero] at KS
        unfold msgV noM at KS
        simp only at KS
        clear hv hsc KF KL
        go_wp2_with fail
        refine (KB.out _).mono ?_
        rintro e X ⟨rfl, hw5⟩
        have hmX := hm4.below hw5 hlt4
        have hrX := hr4.below hw5 (Nat.lt_trans hlt2 hlt4)
        have hbX := hb4.trans (hw5.mono hb4.size)
        have hlX2 := Nat.lt_of_lt_of_le hlt4 hw5.size
        have hlX1 := hlt2
        clear hm4 hr4 hb4 hlt4 hw5 KB
        unfold zeroM at hmX
        go_wp2
        obtain ⟨p0, p1, p2, p3, p4, p5, g0, g1, g2, g3, g4, g5⟩ := hmX.six
        obtain ⟨y0, y1, y2, y3, y4, y5, f0, f1, f2, f3, f4, f5⟩ := hrX.six
        have KR := hid (key hmX hrX hbX hlX1 hlX2)
        clear hmX hrX hbX
        go_region_with (go_at_call 30; refine (KS.out _).mono ?_; rintro e w6 ⟨rfl, hw6⟩; obtain ⟨⟨q0, q1, q2, q3, q4, q5, _, _, _, _, _, _⟩, ⟨z0, z1, z2, z3, z4, z5, k0, k1, k2, k3, k4, k5⟩, hr6, hb6⟩ := KR.out w6 hw6)
        all_goals (
          have hr7 := row_store hr6 (.string ⟨#[]⟩) (.string ⟨#[]⟩) (.int .i64 0) (.string ⟨#[]⟩) (.slice none 0 0) (.string ⟨#[]⟩)
          have hb7 := store_below hb6 w.heap.size (Nat.le_refl _) (.string ⟨#[]⟩) (.string ⟨#[]⟩) (.int .i64 0) (.string ⟨#[]⟩) (.slice none 0 0) (.string ⟨#[]⟩)
          generalize World.setCell _ _ _ = w7 at hr7 hb7 ⊢
          obtain ⟨d0, d1, d2, d3, d4, d5, _, _, _, _, _, _⟩ := hr7.six
          go_wp2
          try simp only [Exit.inBlock, Exit.then]
          refine bodyPost_ret (v := .tuple #[.agg #[.string ⟨#[]⟩, .string ⟨#[]⟩, .int .i64 0, .string ⟨#[]⟩, .slice none 0 0, .string ⟨#[]⟩], .bool false]) (by simp [results, Tryd.results43, go_sem, d0, d1, d2, d3, d4, d5]; try rfl) rfl ?_
          exact ⟨rfl, hb7⟩)
      | true =>
        rw [hsc] at KB
        rw [if_pos hsc] at hv
        obtain ⟨rfl, rfl⟩ := Prod.mk.inj hv
        have KS := hid (fun w' => KF.out ⟨a, b, 0, [], [], []⟩ (smallM_of (by omega) (by omega) (by simp)) w')
        unfold msgV at KS
        simp only at KS
        clear hv hsc KF
        go_wp2_with fail
        refine (KB.out _).mono ?_
        rintro e w5 ⟨rfl, hw5⟩
        have hm5 := hm4.below hw5 hlt4
        have hr5 := hr4.below hw5 (Nat.lt_trans hlt2 hlt4)
        have hb5 := hb4.trans (hw5.mono hb4.size)
        have hlt5 := Nat.lt_of_lt_of_le hlt4 hw5.size
        clear hm4 hr4 hb4 hlt4 hw5 KB
        go_wp2_with fail
        refine (KL.out a (by omega) _).mono ?_
        rintro e w6 ⟨rfl, hw6⟩
        have hm6 := hm5.below hw6 hlt5
        have hr6 := hr5.below hw6 (Nat.lt_trans hlt2 hlt5)
        have hb6 := hb5.trans (hw6.mono hb5.size)
        have hlt6 := Nat.lt_of_lt_of_le hlt5 hw6.size
        clear hm5 hr5 hb5 hlt5 hw6
        go_wp2_with fail
        refine (KL.out b (by omega) _).mono ?_
        rintro e w7 ⟨rfl, hw7⟩
        have hm7 := hm6.below hw7 hlt6
        have hr7 := hr6.below hw7 (Nat.lt_trans hlt2 hlt6)
        have hb7 := hb6.trans (hw7.mono hb6.size)
        have hlt7 := Nat.lt_of_lt_of_le hlt6 hw7.size
        clear hm6 hr6 hb6 hlt6 hw7 KL
        obtain ⟨p0, p1, p2, p3, p4, p5, g0, g1, g2, g3, g4, g5⟩ := hm7.six
        have hmX := (hm7.set 0 (.string ⟨a.toArray⟩)).set 1 (.string ⟨b.toArray⟩)
        have hrX : RowIs ((w7.setCell ⟨w2.heap.size, 0, none⟩ (.string ⟨a.toArray⟩)).setCell ⟨w2.heap.size, 1, none⟩ (.string ⟨b.toArray⟩)) w.heap.size 24 zeroM := by
          have := ((Below.refl w2.heap.size w7).setCell (p := ⟨w2.heap.size, 0, none⟩) (Nat.le_refl _) (.string ⟨a.toArray⟩)).setCell (p := ⟨w2.heap.size, 1, none⟩) (Nat.le_refl _) (.string ⟨b.toArray⟩)
          exact hr7.below this hlt2
        have hbX := (hb7.setCell (p := ⟨w2.heap.size, 0, none⟩) (Nat.le_of_lt hlt2) (.string ⟨a.toArray⟩)).setCell (p := ⟨w2.heap.size, 1, none⟩) (Nat.le_of_lt hlt2) (.string ⟨b.toArray⟩)
        have hlX2 : w2.heap.size < ((w7.setCell ⟨w2.heap.size, 0, none⟩ (.string ⟨a.toArray⟩)).setCell ⟨w2.heap.size, 1, none⟩ (.string ⟨b.toArray⟩)).heap.size := by simpa [World.setCell] using hlt7
        simp only [List.set_cons_succ, List.set_cons_zero, zeroM] at hmX
        have hlX1 := hlt2
        clear hm7 hr7 hb7 hlt7
        go_wp2
        clear p0 p1 p2 p3 p4 p5 g0 g1 g2 g3 g4 g5
        generalize World.setCell (World.setCell _ _ _) _ _ = X at hmX hrX hbX hlX2 ⊢
        obtain ⟨p0, p1, p2, p3, p4, p5, g0, g1, g2, g3, g4, g5⟩ := hmX.six
        obtain ⟨y0, y1, y2, y3, y4, y5, f0, f1, f2, f3, f4, f5⟩ := hrX.six
        have KR := hid (key hmX hrX hbX hlX1 hlX2)
        clear hmX hrX hbX
        go_region_with (go_at_call 30; refine (KS.out _).mono ?_; rintro e w6 ⟨rfl, hw6⟩; obtain ⟨⟨q0, q1, q2, q3, q4, q5, _, _, _, _, _, _⟩, ⟨z0, z1, z2, z3, z4, z5, k0, k1, k2, k3, k4, k5⟩, hr6, hb6⟩ := KR.out w6 hw6)
        all_goals (
          have hr7 := row_store hr6 (.string ⟨a.toArray⟩) (.string ⟨b.toArray⟩) (.int .i64 0) (.string ⟨#[]⟩) (.slice none 0 0) (.string ⟨#[]⟩)
          have hb7 := store_below hb6 w.heap.size (Nat.le_refl _) (.string ⟨a.toArray⟩) (.string ⟨b.toArray⟩) (.int .i64 0) (.string ⟨#[]⟩) (.slice none 0 0) (.string ⟨#[]⟩)
          generalize World.setCell _ _ _ = w7 at hr7 hb7 ⊢
          obtain ⟨d0, d1, d2, d3, d4, d5, _, _, _, _, _, _⟩ := hr7.six
          go_wp2
          try simp only [Exit.inBlock, Exit.then]
          refine bodyPost_ret (v := .tuple #[.agg #[.string ⟨a.toArray⟩, .string ⟨b.toArray⟩, .int .i64 0, .string ⟨#[]⟩, .slice none 0 0, .string ⟨#[]⟩], .bool (firstB ⟨a, b, 0, [], [], []⟩)]) (by simp [results, Tryd.results43, go_sem, d0, d1, d2, d3, d4, d5]; try rfl) rfl ?_
          exact ⟨rfl, hb7⟩)

end Go.Proofs.YtagopboofmjnfaaDoor
