/-
  Contracts: package addr's mayStand; the document's own may.
-/
import Derived.Test.YtgboekilhldejaaGreatDoorAWord
namespace Go.Proofs.YtgboekilhldejaaGreatDoor
open Go.RowKit Sc
set_option linter.unusedVariables false
set_option maxRecDepth 20000

theorem may_split (ps : List Par) (nm vl : List UInt8) (hs : Bool) : mayB ps ⟨nm, vl, hs⟩ = (tokenB nm && (quotB vl && ((hs || vl.isEmpty) && (findV ps nm).isNone))) := by
  simp only [mayB, quotB]
  generalize tokenB nm = a
  generalize (findV ps nm).isNone = b
  generalize decide (vl.length ≤ 64) = c
  generalize hasBar vl = d
  generalize vl.isEmpty = e
  revert a b c d e hs; decide
theorem val_found (ps : List Par) (nm : List UInt8) : (valV ps nm).2 = !(findV ps nm).isNone := by unfold valV; cases findV ps nm <;> rfl

set_option maxHeartbeats 1000000 in
theorem mayStand_any (p : Par) (v : Value) (ps : List Par) (w : World) (hn : p.name.length ≤ 140737488355328) (hvl : p.value.length ≤ 140737488355328) (hsm : SmallP 140737488355328 ps) (h : ParsAt w v ps) :
    Calls Tryz.prog 26 #[parV p, v] w fun e w' => e = .returned (.bool (mayB ps p)) ∧ Below w.heap.size w w' := by
  obtain ⟨nm, vl, hs⟩ := p
  simp only at hn hvl
  have hm := may_split ps nm vl hs
  have hfv := val_found ps nm
  have KT := hid (fun w' => token_list nm w' hn)
  have KQ := hid (fun w' => quotable_any vl w' hvl)
  have KV := hid (fun w' (hb : Below w.heap.size w w') => value_any v ps nm w' hn hsm (h.below hb))
  generalize mayB ps ⟨nm, vl, hs⟩ = m at hm ⊢
  generalize (findV ps nm).isNone = f at hm hfv
  generalize valV ps nm = vv at KV hfv
  obtain ⟨va, vb⟩ := vv
  simp only at hfv
  subst hfv
  generalize tokenB nm = t at KT hm
  generalize quotB vl = q at KQ hm
  obtain ⟨a, cap, rfl⟩ := h.form
  clear h hsm
  have hx := boxP_new w ⟨nm, vl, hs⟩ 59
  have hb0 : Below w.heap.size w (w.alloc (.cells #[.string ⟨nm.toArray⟩, .string ⟨vl.toArray⟩, .bool hs] 59)) := (Below.refl _ w).alloc (Nat.le_refl _) _
  have hlt := alloc_lt w (.cells #[.string ⟨nm.toArray⟩, .string ⟨vl.toArray⟩, .bool hs] 59)
  unfold parV
  simp only
  cases t with
  | false =>
    have HM : Hid (m = false) := show _ = _ by rw [hm]; rfl
    clear hm KQ KV hlt
    obtain ⟨x0, x1, x2⟩ := hx
    simp only at x0 x1 x2
    go_enter Tryz.func26, Tryz.ntmps26
    go_wp2_with fail
    refine (KT.out _).mono ?_
    rintro e w1 ⟨rfl, rfl⟩
    go_wp2
    go_ret
    exact ⟨ret_bool HM.out.symm, hb0⟩
  | true =>
    cases q with
    | false =>
      have HM : Hid (m = false) := show _ = _ by rw [hm]; rfl
      clear hm KV hlt
      obtain ⟨x0, x1, x2⟩ := hx
      simp only at x0 x1 x2
      go_enter Tryz.func26, Tryz.ntmps26
      go_wp2_with fail
      refine (KT.out _).mono ?_
      rintro e w1 ⟨rfl, rfl⟩
      go_wp2_with fail
      refine (KQ.out _).mono ?_
      rintro e w2 ⟨rfl, hw2⟩
      go_wp2
      go_ret
      exact ⟨ret_bool HM.out.symm, hb0.trans (hw2.mono hb0.size)⟩
    | true =>
      have hbx : ∀ w2, Below (w.alloc (.cells #[.string ⟨nm.toArray⟩, .string ⟨vl.toArray⟩, .bool hs] 59)).heap.size (w.alloc (.cells #[.string ⟨nm.toArray⟩, .string ⟨vl.toArray⟩, .bool hs] 59)) w2 → BoxP w2 w.heap.size ⟨nm, vl, hs⟩ := fun w2 h2 => hx.below h2 hlt
      have HBX := hid hbx
      clear hbx hlt
      obtain ⟨x0, x1, x2⟩ := hx
      simp only at x0 x1 x2
      cases hs with
      | true =>
        have HM : Hid (m = f) := show _ = _ by rw [hm]; simp
        clear hm
        go_enter Tryz.func26, Tryz.ntmps26
        go_wp2_with fail
        refine (KT.out _).mono ?_
        rintro e w1 ⟨rfl, rfl⟩
        go_wp2_with fail
        refine (KQ.out _).mono ?_
        rintro e w2 ⟨rfl, hw2⟩
        have hbx := HBX.out _ hw2
        have hb2 := hb0.trans (hw2.mono hb0.size)
        clear HBX hw2 x0 x1 x2 hb0
        obtain ⟨x0, x1, x2⟩ := hbx
        simp only at x0 x1 x2
        go_wp2_with fail
        refine (KV.out _ hb2).mono ?_
        rintro e w3 ⟨rfl, hw3⟩
        go_wp2
        go_ret
        exact ⟨ret_bool (by rw [HM.out]; try simp), hb2.trans (hw3.mono hb2.size)⟩
      | false =>
        cases hie : vl.isEmpty with
        | true =>
          have HM : Hid (m = f) := show _ = _ by rw [hm, hie]; simp
          clear hm
          go_enter Tryz.func26, Tryz.ntmps26
          go_wp2_with fail
          refine (KT.out _).mono ?_
          rintro e w1 ⟨rfl, rfl⟩
          go_wp2_with fail
          refine (KQ.out _).mono ?_
          rintro e w2 ⟨rfl, hw2⟩
          have hbx := HBX.out _ hw2
          have hb2 := hb0.trans (hw2.mono hb0.size)
          clear HBX hw2 x0 x1 x2 hb0
          obtain ⟨x0, x1, x2⟩ := hbx
          simp only at x0 x1 x2
          go_wp2_with fail
          refine (KV.out _ hb2).mono ?_
          rintro e w3 ⟨rfl, hw3⟩
          go_wp2
          go_ret
          exact ⟨ret_bool (by rw [HM.out]; try simp), hb2.trans (hw3.mono hb2.size)⟩
        | false =>
          have HM : Hid (m = false) := show _ = _ by rw [hm, hie]; simp
          clear hm KV
          go_enter Tryz.func26, Tryz.ntmps26
          go_wp2_with fail
          refine (KT.out _).mono ?_
          rintro e w1 ⟨rfl, rfl⟩
          go_wp2_with fail
          refine (KQ.out _).mono ?_
          rintro e w2 ⟨rfl, hw2⟩
          have hbx := HBX.out _ hw2
          have hb2 := hb0.trans (hw2.mono hb0.size)
          clear HBX hw2 x0 x1 x2 hb0
          obtain ⟨x0, x1, x2⟩ := hbx
          simp only at x0 x1 x2
          go_wp2
          go_ret
          exact ⟨ret_bool HM.out.symm, hb2⟩

theorem may_split2 (ps : List Par) (nm vl : List UInt8) (hs : Bool) : mayB ps ⟨nm, vl, hs⟩ = (tokenB nm && ((findV ps nm).isNone && (decide (vl.length ≤ 64) && (!hasBar vl && (hs || vl.isEmpty))))) := rfl
theorem quote_num (l : List UInt8) : (quoteV l).2 = if hasBar l = true then 11 else 0 := by unfold quoteV; cases hasBar l <;> rfl
theorem place_num (ps : List Par) (nm : List UInt8) (v : Value) (w : World) (hnm : nm.length ≤ 140737488355328) (hsm : SmallP 140737488355328 ps) (h : ParsAt w v ps) :
    Calls Tryz.prog 64 #[v, .string ⟨nm.toArray⟩] w fun e w' => (∃ r : Int, e = .returned (.int .i64 r) ∧ decide (r < 0) = (findV ps nm).isNone) ∧ Below w.heap.size w w' := by
  refine (place_any v ps nm w hnm hsm h).mono ?_
  rintro e w' ⟨⟨r, rfl, ⟨rfl, h2⟩ | ⟨k, hk, rfl, h2⟩⟩, hb⟩
  · exact ⟨⟨-1, rfl, by rw [h2]; rfl⟩, hb⟩
  · exact ⟨⟨k, rfl, by rw [h2]; simp⟩, hb⟩

set_option maxHeartbeats 2000000 in
theorem refmay_any (p : Par) (v : Value) (ps : List Par) (w : World) (hn : p.name.length ≤ 140737488355328) (hvl : p.value.length ≤ 1048576) (hsm : SmallP 140737488355328 ps) (h : ParsAt w v ps) :
    Calls Tryz.prog 31 #[v, parV p] w fun e w' => e = .returned (.bool (mayB ps p)) ∧ Below w.heap.size w w' := by
  obtain ⟨nm, vl, hs⟩ := p
  simp only at hn hvl
  have hm := may_split2 ps nm vl hs
  have hq := quote_num vl
  have z := size_list vl
  have KT := hid (fun w' => reftoken_list nm w' hn)
  have KQ := hid (fun w' => refquote_list vl w' hvl)
  have KP := hid (fun w' (hb : Below w.heap.size w w') => place_num ps nm v w' hn hsm (h.below hb))
  generalize mayB ps ⟨nm, vl, hs⟩ = m at hm ⊢
  generalize (findV ps nm).isNone = f at hm KP
  generalize tokenB nm = t at KT hm
  generalize quoteV vl = qq at KQ hq
  obtain ⟨qa, qn⟩ := qq
  simp only at hq KQ
  generalize hasBar vl = bar at hm hq
  obtain ⟨a, cap, rfl⟩ := h.form
  clear h hsm
  have hx := boxP_new w ⟨nm, vl, hs⟩ 59
  have hb0 : Below w.heap.size w (w.alloc (.cells #[.string ⟨nm.toArray⟩, .string ⟨vl.toArray⟩, .bool hs] 59)) := (Below.refl _ w).alloc (Nat.le_refl _) _
  have hlt := alloc_lt w (.cells #[.string ⟨nm.toArray⟩, .string ⟨vl.toArray⟩, .bool hs] 59)
  unfold parV
  simp only
  have HB := hid hx
  obtain ⟨x0, x1, x2⟩ := hx
  simp only at x0 x1 x2
  have HM := hid hm
  have HQ := hid hq
  clear hm hq
  go_enter Tryz.func31, Tryz.ntmps31
  go_wp2_with fail
  refine (KQ.out _).mono ?_
  rintro e w1 ⟨rfl, hw1⟩
  have HB1 := hid (BoxP.below HB.out hw1 hlt)
  have hb1 := hb0.trans (hw1.mono hb0.size)
  have hlt1 : w.heap.size < w1.heap.size := Nat.lt_of_lt_of_le hlt hw1.size
  clear HB hw1 hb0 hlt x0 x1 x2 KQ
  obtain ⟨x0, x1, x2⟩ := HB1.out
  simp only at x0 x1 x2
  go_wp2_with fail
  refine (KT.out _).mono ?_
  rintro e w2 ⟨rfl, rfl⟩
  clear KT
  cases t with
  | false =>
    go_wp2
    go_ret
    exact ⟨ret_bool (by rw [HM.out]; rfl), hb1⟩
  | true =>
    go_wp2_with fail
    refine (KP.out _ hb1).mono ?_
    rintro e w3 ⟨⟨r, rfl, hr⟩, hw3⟩
    have HB3 := hid (BoxP.below HB1.out hw3 hlt1)
    have hb3 := hb1.trans (hw3.mono hb1.size)
    clear HB1 hw3 hb1 hlt1 x0 x1 x2 KP
    obtain ⟨x0, x1, x2⟩ := HB3.out
    simp only at x0 x1 x2
    cases f with
    | false =>
      have hr' : ¬ r < 0 := of_decide_eq_false hr
      go_wp2
      go_ret
      exact ⟨ret_bool (by rw [HM.out]; simp), hb3⟩
    | true =>
      have hr' : r < 0 := of_decide_eq_true hr
      clear hr
      by_cases h64 : vl.length ≤ 64
      · cases bar with
        | true =>
          obtain rfl : qn = 11 := by rw [HQ.out]; rfl
          go_wp2
          go_ret
          exact ⟨ret_bool (by rw [HM.out]; simp), hb3⟩
        | false =>
          obtain rfl : qn = 0 := by rw [HQ.out]; rfl
          cases hs with
          | true =>
            go_wp2
            go_ret
            exact ⟨ret_bool (by rw [HM.out]; simp [h64]), hb3⟩
          | false =>
            cases hie : vl.isEmpty with
            | true =>
              have HM2 : Hid (m = true) := show _ = _ by rw [HM.out, hie]; simp [h64]
              clear HM
              go_wp2
              go_ret
              exact ⟨ret_bool HM2.out.symm, hb3⟩
            | false =>
              have HM2 : Hid (m = false) := show _ = _ by rw [HM.out, hie]; simp
              clear HM
              go_wp2
              go_ret
              exact ⟨ret_bool HM2.out.symm, hb3⟩
      · have HM2 : Hid (m = false) := show _ = _ by rw [HM.out, decide_eq_false h64]; simp
        clear HM
        go_wp2
        go_ret
        exact ⟨ret_bool HM2.out.symm, hb3⟩

end Go.Proofs.YtgboekilhldejaaGreatDoor
