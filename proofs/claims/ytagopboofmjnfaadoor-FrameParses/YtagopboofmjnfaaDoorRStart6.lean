/-
  The contract of the document's own start of layer 6.
-/
import Derived.Test.YtagopboofmjnfaaDoorFStart
import Derived.Test.YtagopboofmjnfaaDoorRFirst
namespace Go.Proofs.YtagopboofmjnfaaDoor
open Go.RowKit Go.Sort Sc
set_option linter.unusedVariables false
set_option maxRecDepth 20000

theorem rowS_new (w : World) (v0 v1 v2 v3 v4 v5 : Value) : RowIs (w.alloc (.cells #[v0, v1, v2, v3, v4, v5] 24)) w.heap.size 24 [v0, v1, v2, v3, v4, v5] := by
  unfold RowIs; rw [heap_alloc_new]
theorem cut3_lof {r a b : List UInt8} {f : Bool} {c : UInt8} (h : cutL c r = (a, b, f)) (w : World) (hs : r.length ≤ 100000) :
    Calls Tryd.prog 47 #[.string ⟨r.toArray⟩, .int .u8 c.toNat] w fun e w' => e = .returned (.tuple #[.string ⟨a.toArray⟩, .string ⟨b.toArray⟩, .bool f]) ∧ Below w.heap.size w w' := by
  have k := cut3_list r c w (by omega)
  rw [h] at k
  refine k.mono ?_
  rintro e w' ⟨rfl, q, rfl⟩
  exact ⟨rfl, below_drewN w q⟩
/-- What start hands back: whether it may be, and then what it is. -/
def StartRes (V : Option Ms) (e : Ending) : Prop := ∃ (m : Ms) (b : Bool), e = .returned (.tuple #[msgV m (.slice none 0 0), .bool b]) ∧ m.headers = [] ∧ m.body = [] ∧ ((b = true ∧ V = some m) ∨ (b = false ∧ V = none))

theorem fin_or {V : Option Ms} {nz : Int} {b c : List UInt8} (h : V = if (0 : Int) = 0 ∧ b.length = 3 ∧ firstB ⟨[], [], nz, c, [], []⟩ = true then some ⟨[], [], nz, c, [], []⟩ else none) (h3 : b.length = 3) :
    (firstB ⟨[], [], nz, c, [], []⟩ = true ∧ V = some ⟨[], [], nz, c, [], []⟩) ∨ (firstB ⟨[], [], nz, c, [], []⟩ = false ∧ V = none) := by
  cases hf : firstB ⟨[], [], nz, c, [], []⟩ with
  | true => exact Or.inl ⟨rfl, by rw [h, if_pos ⟨rfl, h3, hf⟩]⟩
  | false => exact Or.inr ⟨rfl, by rw [h, if_neg (fun k => by rw [hf] at k; exact absurd k.2.2 (by simp))]⟩

set_option maxHeartbeats 4000000 in
set_option maxRecDepth 100000 in
theorem rstart_any (s : List UInt8) (w : World) (hs : s.length ≤ 100000) :
    Calls Tryd.prog 46 #[.string ⟨s.toArray⟩] w fun e w' => StartRes (startV s) e ∧ Below w.heap.size w w' := by
  have l1 := cutL_len 32 s
  obtain ⟨a, r, ok1, h1⟩ : ∃ a r ok1, cutL 32 s = (a, r, ok1) := ⟨_, _, _, rfl⟩
  have l2 := cutL_len 32 r
  obtain ⟨b, c, ok, h2⟩ : ∃ b c ok, cutL 32 r = (b, c, ok) := ⟨_, _, _, rfl⟩
  have hmore := @cut_more 32 s
  have hv : startV s = if ok1 = false ∨ ok = false then none
      else if sameB a versionK = true then (if (numV 999 b).2 = 0 ∧ b.length = 3 ∧ firstB ⟨[], [], (numV 999 b).1, c, [], []⟩ = true then some ⟨[], [], (numV 999 b).1, c, [], []⟩ else none)
      else if a ≠ [] ∧ firstB ⟨a, b, 0, [], [], []⟩ = true ∧ sameB c versionK = true then some ⟨a, b, 0, [], [], []⟩ else none := by
    unfold startV; simp only [h1, h2]
  rw [h1] at l1 hmore
  rw [h2] at l2
  simp only at l1 l2 hmore
  rw [h2] at hmore
  simp only at hmore
  have KC1 := hid (fun w' => cut3_lof h1 w' (by omega))
  have KC2 := hid (fun w' => cut3_lof h2 w' (by omega))
  have KA := hid (fun w' => refsame_list a versionK w' (by omega) (by decide))
  have KB := hid (fun w' => refsame_list c versionK w' (by omega) (by decide))
  have KN := hid (fun w' => refnum_list b 999 w' (by omega) (by omega) (by omega))
  have KF := hid (fun (m : Ms) (hm : SmallM 140737488355328 m) w' => rfirst_any m none 0 0 w' hm)
  generalize startV s = V at hv ⊢
  clear h1 h2
  have HV := hid hv
  clear hv
  have hr0 := rowM_new w
  have hb0 : Below w.heap.size w (w.alloc (.cells #[.string ⟨#[]⟩, .string ⟨#[]⟩, .int .i64 0, .string ⟨#[]⟩, .slice none 0 0, .string ⟨#[]⟩] 24)) := (Below.refl _ w).alloc (Nat.le_refl _) _
  have hlt0 := alloc_lt w (.cells #[.string ⟨#[]⟩, .string ⟨#[]⟩, .int .i64 0, .string ⟨#[]⟩, .slice none 0 0, .string ⟨#[]⟩] 24)
  go_enter Tryd.func46, Tryd.ntmps46
  go_wp2_with fail
  refine (KC1.out _).mono ?_
  rintro e w1 ⟨rfl, hw1⟩
  have hr1 := hr0.below hw1 hlt0
  have hb1 := hb0.trans (hw1.mono hb0.size)
  have hlt1 := Nat.lt_of_lt_of_le hlt0 hw1.size
  clear hr0 hb0 hlt0 hw1 KC1
  go_wp2_with fail
  refine (KC2.out _).mono ?_
  rintro e w2 ⟨rfl, hw2⟩
  have hr2 := hr1.below hw2 hlt1
  have hb2 := hb1.trans (hw2.mono hb1.size)
  have hlt2 := Nat.lt_of_lt_of_le hlt1 hw2.size
  clear hr1 hb1 hlt1 hw2 KC2
  by_cases hoo : ok1 = false ∨ ok = false
  · rw [if_pos hoo] at HV
    clear KA KB KN KF hmore
    obtain ⟨y0, y1, y2, y3, y4, y5, f0, f1, f2, f3, f4, f5⟩ := hr2.six
    have hr7 := row_store hr2 (.string ⟨#[]⟩) (.string ⟨#[]⟩) (.int .i64 0) (.string ⟨#[]⟩) (.slice none 0 0) (.string ⟨#[]⟩)
    have hb7 := store_below hb2 w.heap.size (Nat.le_refl _) (.string ⟨#[]⟩) (.string ⟨#[]⟩) (.int .i64 0) (.string ⟨#[]⟩) (.slice none 0 0) (.string ⟨#[]⟩)
    cases ok1 <;> cases ok
    all_goals first
      | (exfalso; revert hoo; decide)
      | (go_wp2
         generalize World.setCell _ _ _ = w7 at hr7 hb7 ⊢
         obtain ⟨d0, d1, d2, d3, d4, d5, _, _, _, _, _, _⟩ := hr7.six
         try simp only [Exit.inBlock, Exit.then]
         refine bodyPost_ret (v := .tuple #[.agg #[.string ⟨#[]⟩, .string ⟨#[]⟩, .int .i64 0, .string ⟨#[]⟩, .slice none 0 0, .string ⟨#[]⟩], .bool false]) (by simp [results, Tryd.results46, go_sem, d0, d1, d2, d3, d4, d5]; try rfl) rfl ?_
         exact ⟨⟨noM, false, rfl, rfl, rfl, Or.inr ⟨rfl, HV.out⟩⟩, hb7⟩)
  rw [if_neg hoo] at HV
  simp only [not_or, Bool.not_eq_false] at hoo
  obtain ⟨rfl, rfl⟩ := hoo
  clear hmore
  cases hsa : sameB a versionK with
  | true =>
    rw [hsa] at KA
    rw [if_pos hsa] at HV
    go_wp2_with fail
    refine (KA.out _).mono ?_
    rintro e w4 ⟨rfl, hw4⟩
    have hr4 := hr2.below hw4 hlt2
    have hb4 := hb2.trans (hw4.mono hb2.size)
    have hlt4 := Nat.lt_of_lt_of_le hlt2 hw4.size
    clear hr2 hb2 hlt2 hw4 KA hsa KB
    obtain ⟨nz, ne, hnv⟩ : ∃ nz ne, numV 999 b = (nz, ne) := ⟨_, _, rfl⟩
    rw [hnv] at HV KN
    simp only at HV KN
    clear hnv
    have sb := size_list b
    have KS := hid (fun w' => KF.out ⟨[], [], nz, c, [], []⟩ (smallM_of (by simp) (by simp) (by omega)) w')
    unfold msgV at KS
    simp only at KS
    have hmX := rowS_new w4 (.string ⟨#[]⟩) (.string ⟨#[]⟩) (.int .i64 nz) (.string ⟨c.toArray⟩) (.slice none 0 0) (.string ⟨#[]⟩)
    have hA := (Below.refl _ w4).alloc (Nat.le_refl _) (.cells #[.string ⟨#[]⟩, .string ⟨#[]⟩, .int .i64 nz, .string ⟨c.toArray⟩, .slice none 0 0, .string ⟨#[]⟩] 24)
    have hrX := hr4.below hA hlt4
    have hbX := hb4.trans (hA.mono hb4.size)
    have hlX2 := alloc_lt w4 (.cells #[.string ⟨#[]⟩, .string ⟨#[]⟩, .int .i64 nz, .string ⟨c.toArray⟩, .slice none 0 0, .string ⟨#[]⟩] 24)
    have hlX1 := hlt4
    clear hr4 hb4 hA
    by_cases hne : ne = 0
    · subst hne
      by_cases h3 : b.length = 3
      · have h3' : ((b.length : Int) == 3) = true := by rw [h3]; rfl
        have HF := hid (fin_or HV.out h3)
        go_wp2_with (go_at_call 51; refine (KN.out _).mono ?_; rintro e w' ⟨rfl, hw⟩; rw [hw])
        generalize World.alloc w4 _ = X at hmX hrX hbX hlX2 ⊢
        obtain ⟨p0, p1, p2, p3, p4, p5, g0, g1, g2, g3, g4, g5⟩ := hmX.six
        obtain ⟨y0, y1, y2, y3, y4, y5, f0, f1, f2, f3, f4, f5⟩ := hrX.six
        have KR := hid (key hmX hrX hbX hlX1 hlX2)
        clear hmX hrX hbX
        go_region_with (go_at_call 32; refine (KS.out _).mono ?_; rintro e w6 ⟨rfl, hw6⟩; obtain ⟨⟨q0, q1, q2, q3, q4, q5, _, _, _, _, _, _⟩, ⟨z0, z1, z2, z3, z4, z5, k0, k1, k2, k3, k4, k5⟩, hr6, hb6⟩ := KR.out w6 hw6)
        all_goals (
          have hr7 := row_store hr6 (.string ⟨#[]⟩) (.string ⟨#[]⟩) (.int .i64 nz) (.string ⟨c.toArray⟩) (.slice none 0 0) (.string ⟨#[]⟩)
          have hb7 := store_below hb6 w.heap.size (Nat.le_refl _) (.string ⟨#[]⟩) (.string ⟨#[]⟩) (.int .i64 nz) (.string ⟨c.toArray⟩) (.slice none 0 0) (.string ⟨#[]⟩)
          generalize World.setCell _ _ _ = w7 at hr7 hb7 ⊢
          obtain ⟨d0, d1, d2, d3, d4, d5, _, _, _, _, _, _⟩ := hr7.six
          go_wp2
          try simp only [Exit.inBlock, Exit.then]
          refine bodyPost_ret (v := .tuple #[.agg #[.string ⟨#[]⟩, .string ⟨#[]⟩, .int .i64 nz, .string ⟨c.toArray⟩, .slice none 0 0, .string ⟨#[]⟩], .bool (firstB ⟨[], [], nz, c, [], []⟩)]) (by simp [results, Tryd.results46, go_sem, d0, d1, d2, d3, d4, d5]; try rfl) rfl ?_
          exact ⟨⟨⟨[], [], nz, c, [], []⟩, firstB ⟨[], [], nz, c, [], []⟩, rfl, rfl, rfl, HF.out⟩, hb7⟩)
      · have h3' : ((b.length : Int) == 3) = false := beq_eq_false_iff_ne.2 (by omega)
        have HV2 : Hid (V = none) := show _ = _ by rw [HV.out, if_neg (fun h => h3 h.2.1)]
        clear KS
        go_wp2_with (go_at_call 51; refine (KN.out _).mono ?_; rintro e w' ⟨rfl, hw⟩; rw [hw])
        generalize World.alloc w4 _ = X at hmX hrX hbX hlX2 ⊢
        obtain ⟨p0, p1, p2, p3, p4, p5, g0, g1, g2, g3, g4, g5⟩ := hmX.six
        obtain ⟨y0, y1, y2, y3, y4, y5, f0, f1, f2, f3, f4, f5⟩ := hrX.six
        go_region
        all_goals (
          have hr7 := (row_store hrX (.string ⟨#[]⟩) (.string ⟨#[]⟩) (.int .i64 nz) (.string ⟨c.toArray⟩) (.slice none 0 0) (.string ⟨#[]⟩)).drew
          have hb7 := (store_below hbX w.heap.size (Nat.le_refl _) (.string ⟨#[]⟩) (.string ⟨#[]⟩) (.int .i64 nz) (.string ⟨c.toArray⟩) (.slice none 0 0) (.string ⟨#[]⟩)).drew
          generalize World.drew _ = w7 at hr7 hb7 ⊢
          obtain ⟨d0, d1, d2, d3, d4, d5, _, _, _, _, _, _⟩ := hr7.six
          go_wp2
          try simp only [Exit.inBlock, Exit.then]
          refine bodyPost_ret (v := .tuple #[.agg #[.string ⟨#[]⟩, .string ⟨#[]⟩, .int .i64 nz, .string ⟨c.toArray⟩, .slice none 0 0, .string ⟨#[]⟩], .bool false]) (by simp [results, Tryd.results46, go_sem, d0, d1, d2, d3, d4, d5]; try rfl) rfl ?_
          exact ⟨⟨⟨[], [], nz, c, [], []⟩, false, rfl, rfl, rfl, Or.inr ⟨rfl, HV2.out⟩⟩, hb7⟩)
    · have hne2 : (ne == 0) = false := by simpa using hne
      have HV2 : Hid (V = none) := show _ = _ by rw [HV.out, if_neg (fun h => hne h.1)]
      clear KS
      go_wp2_with (go_at_call 51; refine (KN.out _).mono ?_; rintro e w' ⟨rfl, hw⟩; rw [hw])
      generalize World.alloc w4 _ = X at hmX hrX hbX hlX2 ⊢
      obtain ⟨p0, p1, p2, p3, p4, p5, g0, g1, g2, g3, g4, g5⟩ := hmX.six
      obtain ⟨y0, y1, y2, y3, y4, y5, f0, f1, f2, f3, f4, f5⟩ := hrX.six
      go_region
      all_goals (
        have hr7 := (row_store hrX (.string ⟨#[]⟩) (.string ⟨#[]⟩) (.int .i64 nz) (.string ⟨c.toArray⟩) (.slice none 0 0) (.string ⟨#[]⟩)).drew
        have hb7 := (store_below hbX w.heap.size (Nat.le_refl _) (.string ⟨#[]⟩) (.string ⟨#[]⟩) (.int .i64 nz) (.string ⟨c.toArray⟩) (.slice none 0 0) (.string ⟨#[]⟩)).drew
        generalize World.drew _ = w7 at hr7 hb7 ⊢
        obtain ⟨d0, d1, d2, d3, d4, d5, _, _, _, _, _, _⟩ := hr7.six
        go_wp2
        try simp only [Exit.inBlock, Exit.then]
        refine bodyPost_ret (v := .tuple #[.agg #[.string ⟨#[]⟩, .string ⟨#[]⟩, .int .i64 nz, .string ⟨c.toArray⟩, .slice none 0 0, .string ⟨#[]⟩], .bool false]) (by simp [results, Tryd.results46, go_sem, d0, d1, d2, d3, d4, d5]; try rfl) rfl ?_
        exact ⟨⟨⟨[], [], nz, c, [], []⟩, false, rfl, rfl, rfl, Or.inr ⟨rfl, HV2.out⟩⟩, hb7⟩)
  | false =>
    rw [hsa] at KA
    rw [if_neg (by rw [hsa]; simp)] at HV
    go_wp2_with fail
    refine (KA.out _).mono ?_
    rintro e w4 ⟨rfl, hw4⟩
    have hr4 := hr2.below hw4 hlt2
    have hb4 := hb2.trans (hw4.mono hb2.size)
    have hlt4 := Nat.lt_of_lt_of_le hlt2 hw4.size
    clear hr2 hb2 hlt2 hw4 KA hsa KN
    have KS := hid (fun w' => KF.out ⟨a, b, 0, [], [], []⟩ (smallM_of (by omega) (by omega) (by simp)) w')
    unfold msgV at KS
    simp only at KS
    have hmX := rowS_new w4 (.string ⟨a.toArray⟩) (.string ⟨b.toArray⟩) (.int .i64 0) (.string ⟨#[]⟩) (.slice none 0 0) (.string ⟨#[]⟩)
    have hA := (Below.refl _ w4).alloc (Nat.le_refl _) (.cells #[.string ⟨a.toArray⟩, .string ⟨b.toArray⟩, .int .i64 0, .string ⟨#[]⟩, .slice none 0 0, .string ⟨#[]⟩] 24)
    have hrX := hr4.below hA hlt4
    have hbX := hb4.trans (hA.mono hb4.size)
    have hlX2 := alloc_lt w4 (.cells #[.string ⟨a.toArray⟩, .string ⟨b.toArray⟩, .int .i64 0, .string ⟨#[]⟩, .slice none 0 0, .string ⟨#[]⟩] 24)
    have hlX1 := hlt4
    clear hr4 hb4 hA
    cases hae : a.isEmpty with
    | true =>
      have HV2 : Hid (V = none) := show _ = _ by rw [HV.out, if_neg (fun h => h.1 (by simpa using hae))]
      clear KS KB
      go_wp2
      generalize World.alloc w4 _ = X at hmX hrX hbX hlX2 ⊢
      obtain ⟨p0, p1, p2, p3, p4, p5, g0, g1, g2, g3, g4, g5⟩ := hmX.six
      obtain ⟨y0, y1, y2, y3, y4, y5, f0, f1, f2, f3, f4, f5⟩ := hrX.six
      go_region
      all_goals (
        have hr7 := (row_store hrX (.string ⟨a.toArray⟩) (.string ⟨b.toArray⟩) (.int .i64 0) (.string ⟨#[]⟩) (.slice none 0 0) (.string ⟨#[]⟩)).drew
        have hb7 := (store_below hbX w.heap.size (Nat.le_refl _) (.string ⟨a.toArray⟩) (.string ⟨b.toArray⟩) (.int .i64 0) (.string ⟨#[]⟩) (.slice none 0 0) (.string ⟨#[]⟩)).drew
        generalize World.drew _ = w7 at hr7 hb7 ⊢
        obtain ⟨d0, d1, d2, d3, d4, d5, _, _, _, _, _, _⟩ := hr7.six
        go_wp2
        try simp only [Exit.inBlock, Exit.then]
        refine bodyPost_ret (v := .tuple #[.agg #[.string ⟨a.toArray⟩, .string ⟨b.toArray⟩, .int .i64 0, .string ⟨#[]⟩, .slice none 0 0, .string ⟨#[]⟩], .bool false]) (by simp [results, Tryd.results46, go_sem, d0, d1, d2, d3, d4, d5]; try rfl) rfl ?_
        exact ⟨⟨⟨a, b, 0, [], [], []⟩, false, rfl, rfl, rfl, Or.inr ⟨rfl, HV2.out⟩⟩, hb7⟩)
    | false =>
      have hane : a ≠ [] := by intro e; rw [e] at hae; cases hae
      obtain ⟨ah, at', rfl⟩ := List.exists_cons_of_ne_nil hane
      cases hfb : firstB ⟨ah :: at', b, 0, [], [], []⟩ with
      | false =>
        rw [hfb] at KS
        have HV2 : Hid (V = none) := show _ = _ by rw [HV.out, if_neg (fun h => by rw [hfb] at h; exact absurd h.2.1 (by simp))]
        clear KB
        go_wp2
        generalize World.alloc w4 _ = X at hmX hrX hbX hlX2 ⊢
        obtain ⟨p0, p1, p2, p3, p4, p5, g0, g1, g2, g3, g4, g5⟩ := hmX.six
        obtain ⟨y0, y1, y2, y3, y4, y5, f0, f1, f2, f3, f4, f5⟩ := hrX.six
        have KR := hid (key hmX hrX hbX hlX1 hlX2)
        clear hmX hrX hbX
        first | (go_region_with (go_at_call 32; refine (KS.out _).mono ?_; rintro e w6 ⟨rfl, hw6⟩; obtain ⟨⟨q0, q1, q2, q3, q4, q5, _, _, _, _, _, _⟩, ⟨z0, z1, z2, z3, z4, z5, k0, k1, k2, k3, k4, k5⟩, hr6, hb6⟩ := KR.out w6 hw6)) | fail
        all_goals (
          have hr7 := row_store hr6 (.string ⟨(ah :: at').toArray⟩) (.string ⟨b.toArray⟩) (.int .i64 0) (.string ⟨#[]⟩) (.slice none 0 0) (.string ⟨#[]⟩)
          have hb7 := store_below hb6 w.heap.size (Nat.le_refl _) (.string ⟨(ah :: at').toArray⟩) (.string ⟨b.toArray⟩) (.int .i64 0) (.string ⟨#[]⟩) (.slice none 0 0) (.string ⟨#[]⟩)
          generalize World.setCell _ _ _ = w7 at hr7 hb7 ⊢
          obtain ⟨d0, d1, d2, d3, d4, d5, _, _, _, _, _, _⟩ := hr7.six
          go_wp2
          try simp only [Exit.inBlock, Exit.then]
          refine bodyPost_ret (v := .tuple #[.agg #[.string ⟨(ah :: at').toArray⟩, .string ⟨b.toArray⟩, .int .i64 0, .string ⟨#[]⟩, .slice none 0 0, .string ⟨#[]⟩], .bool false]) (by simp [results, Tryd.results46, go_sem, d0, d1, d2, d3, d4, d5]; try rfl) rfl ?_
          exact ⟨⟨⟨ah :: at', b, 0, [], [], []⟩, false, rfl, rfl, rfl, Or.inr ⟨rfl, HV2.out⟩⟩, hb7⟩)
      | true =>
        rw [hfb] at KS
        go_wp2
        generalize World.alloc w4 _ = X at hmX hrX hbX hlX2 ⊢
        obtain ⟨p0, p1, p2, p3, p4, p5, g0, g1, g2, g3, g4, g5⟩ := hmX.six
        obtain ⟨y0, y1, y2, y3, y4, y5, f0, f1, f2, f3, f4, f5⟩ := hrX.six
        have KR := hid (key hmX hrX hbX hlX1 hlX2)
        have KR2 := hid (fun (w6 : World) (hw6 : Below X.drew.heap.size X.drew w6) (w8 : World) (hw8 : Below w6.heap.size w6 w8) => key hmX hrX hbX hlX1 hlX2 w8 (hw6.trans (hw8.mono hw6.size)))
        clear hmX hrX hbX
        first | (go_region_with (first | (go_at_call 32; refine (KS.out _).mono ?_; rintro e w6 ⟨rfl, hw6⟩; obtain ⟨⟨q0, q1, q2, q3, q4, q5, _, _, _, _, _, _⟩, ⟨z0, z1, z2, z3, z4, z5, k0, k1, k2, k3, k4, k5⟩, hr6, hb6⟩ := KR.out w6 hw6) | (go_at_call 52; refine (KB.out _).mono ?_; rintro e w8 ⟨rfl, hw8⟩; obtain ⟨⟨r0, r1, r2, r3, r4, r5, _, _, _, _, _, _⟩, ⟨s0, s1, s2, s3, s4, s5, m0, m1, m2, m3, m4, m5⟩, hr8, hb8⟩ := KR2.out w6 hw6 w8 hw8))) | fail
        all_goals (
          have hr7 := row_store hr8 (.string ⟨(ah :: at').toArray⟩) (.string ⟨b.toArray⟩) (.int .i64 0) (.string ⟨#[]⟩) (.slice none 0 0) (.string ⟨#[]⟩)
          have hb7 := store_below hb8 w.heap.size (Nat.le_refl _) (.string ⟨(ah :: at').toArray⟩) (.string ⟨b.toArray⟩) (.int .i64 0) (.string ⟨#[]⟩) (.slice none 0 0) (.string ⟨#[]⟩)
          generalize World.setCell _ _ _ = w7 at hr7 hb7 ⊢
          obtain ⟨d0, d1, d2, d3, d4, d5, _, _, _, _, _, _⟩ := hr7.six
          go_wp2
          try simp only [Exit.inBlock, Exit.then]
          refine bodyPost_ret (v := .tuple #[.agg #[.string ⟨(ah :: at').toArray⟩, .string ⟨b.toArray⟩, .int .i64 0, .string ⟨#[]⟩, .slice none 0 0, .string ⟨#[]⟩], .bool (sameB c versionK)]) (by simp [results, Tryd.results46, go_sem, d0, d1, d2, d3, d4, d5]; try rfl) rfl ?_
          refine ⟨⟨⟨ah :: at', b, 0, [], [], []⟩, sameB c versionK, rfl, rfl, rfl, ?_⟩, hb7⟩
          cases hsc : sameB c versionK with
          | true => exact Or.inl ⟨rfl, by rw [HV.out, if_pos ⟨hane, hfb, hsc⟩]⟩
          | false => exact Or.inr ⟨rfl, by rw [HV.out, if_neg (fun h => by rw [hsc] at h; exact absurd h.2.2 (by simp))]⟩)

end Go.Proofs.YtagopboofmjnfaaDoor
