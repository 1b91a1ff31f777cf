/-
  Contracts: package addr's field.
-/
import Derived.Test.YtgboekilhldejaaGreatDoorAMay
import Derived.Test.YtgboekilhldejaaGreatDoorBaseM
namespace Go.Proofs.YtgboekilhldejaaGreatDoor
open Go.RowKit Sc
set_option linter.unusedVariables false
set_option maxRecDepth 20000

def fieldR (q : List UInt8) : Par × Bool :=
  if quoB (trimL (cutL 61 q).2.1) = true then (⟨trimL (cutL 61 q).1, (unquoteV (trimL (cutL 61 q).2.1)).1, (cutL 61 q).2.2⟩, (unquoteV (trimL (cutL 61 q).2.1)).2 == 0)
  else (⟨trimL (cutL 61 q).1, trimL (cutL 61 q).2.1, (cutL 61 q).2.2⟩, !(cutL 61 q).2.2 || wordB (trimL (cutL 61 q).2.1))
theorem fieldOf_R (q : List UInt8) : fieldOf q = if (fieldR q).2 = true then some (fieldR q).1 else none := by
  unfold fieldOf fieldR valueP
  generalize trimL (cutL 61 q).1 = nm
  generalize trimL (cutL 61 q).2.1 = v
  generalize (cutL 61 q).2.2 = hs
  cases quoB v with
  | true =>
    simp only [if_true]
    by_cases h : (unquoteV v).2 = 0
    · simp [h]
    · simp [h]
  | false =>
    simp only [Bool.false_eq_true, if_false]
    cases hs <;> cases wordB v <;> simp
theorem row3_any (w : World) (v0 v1 v2 : Value) (t : TypeId) : RowIs (w.alloc (.cells #[v0, v1, v2] t)) w.heap.size t [v0, v1, v2] := by
  unfold RowIs; rw [heap_alloc_new]
theorem unquote_len (l : List UInt8) : True := trivial
theorem fieldR_of {q a b : List UInt8} {hs : Bool} (h : cutL 61 q = (a, b, hs)) : fieldR q = if quoB (trimL b) = true then (⟨trimL a, (unquoteV (trimL b)).1, hs⟩, (unquoteV (trimL b)).2 == 0) else (⟨trimL a, trimL b, hs⟩, !hs || wordB (trimL b)) := by
  unfold fieldR; rw [h]
theorem ret_fieldR {q : List UInt8} {nm vl : List UInt8} {hs b : Bool} (h : fieldR q = (⟨nm, vl, hs⟩, b)) :
    Ending.returned (.tuple #[.agg #[.string ⟨nm.toArray⟩, .string ⟨vl.toArray⟩, .bool hs], .bool b]) = .returned (.tuple #[parV (fieldR q).1, .bool (fieldR q).2]) := by rw [h]; rfl

set_option maxHeartbeats 1000000 in
set_option maxRecDepth 100000 in
theorem field_any (q : List UInt8) (w : World) (hq : q.length ≤ 1048576) :
    Calls Tryz.prog 25 #[.string ⟨q.toArray⟩] w fun e w' => e = .returned (.tuple #[parV (fieldR q).1, .bool (fieldR q).2]) ∧ Below w.heap.size w w' := by
  have hcl := cutL_len 61 q
  obtain ⟨ca, cb, hs, hcut⟩ : ∃ ca cb cc, cutL 61 q = (ca, cb, cc) := ⟨_, _, _, rfl⟩
  rw [hcut] at hcl
  simp only at hcl
  have hv := fieldR_of hcut
  have hta := trimL_len ca
  have htb := trimL_len cb
  have KC := hid (fun w' => strCut_of hcut w' (by omega))
  have KA := hid (fun w' => trim_list ca w' (by omega))
  have KB := hid (fun w' => trim_list cb w' (by omega))
  clear hcut
  generalize trimL ca = nm at hv hta KA
  generalize trimL cb = vl at hv htb KB
  have hvl : vl.length ≤ 1048576 := by omega
  have KP := hid (fun w' => strPrefix_l vl w')
  have hr0 := row3_new w 59
  have hb0 : Below w.heap.size w (w.alloc (.cells #[.string ⟨#[]⟩, .string ⟨#[]⟩, .bool false] 59)) := (Below.refl _ w).alloc (Nat.le_refl _) _
  have hlt0 := alloc_lt w (.cells #[.string ⟨#[]⟩, .string ⟨#[]⟩, .bool false] 59)
  have HV := hid hv
  clear hv hta htb hcl
  go_enter Tryz.func25, Tryz.ntmps25
  go_wp2_with fail
  refine (KC.out _).mono ?_
  rintro e w1 ⟨rfl, hw1⟩
  have hr1 := hr0.below hw1 hlt0
  have hb1 := hb0.trans (hw1.mono hb0.size)
  have hlt1 := Nat.lt_of_lt_of_le hlt0 hw1.size
  clear hr0 hb0 hlt0 hw1 KC
  go_wp2_with fail
  refine (KA.out _).mono ?_
  rintro e w2 ⟨rfl, hw2⟩
  have hr2 := hr1.below hw2 hlt1
  have hb2 := hb1.trans (hw2.mono hb1.size)
  have hlt2 := Nat.lt_of_lt_of_le hlt1 hw2.size
  clear hr1 hb1 hlt1 hw2 KA
  go_wp2_with fail
  refine (KB.out _).mono ?_
  rintro e w3 ⟨rfl, hw3⟩
  have hr3 := hr2.below hw3 hlt2
  have hb3 := hb2.trans (hw3.mono hb2.size)
  have hlt3 := Nat.lt_of_lt_of_le hlt2 hw3.size
  clear hr2 hb2 hlt2 hw3 KB
  have hp4 := row3_any w3 (.string ⟨nm.toArray⟩) (.string ⟨vl.toArray⟩) (.bool hs) 59
  have hr4 := hr3.below ((Below.refl _ w3).alloc (Nat.le_refl _) (.cells #[.string ⟨nm.toArray⟩, .string ⟨vl.toArray⟩, .bool hs] 59)) hlt3
  have hb4 := hb3.alloc hb3.size (.cells #[.string ⟨nm.toArray⟩, .string ⟨vl.toArray⟩, .bool hs] 59)
  have hlt4 := alloc_lt w3 (.cells #[.string ⟨nm.toArray⟩, .string ⟨vl.toArray⟩, .bool hs] 59)
  clear hr3 hb3
  obtain ⟨p0, p1, p2, g0, g1, g2⟩ := hp4.three
  go_wp2_with fail
  refine (KP.out _).mono ?_
  rintro e w4 ⟨rfl, rfl⟩
  clear KP
  generalize World.alloc w3 _ = w4 at hp4 hr4 hb4 hlt4 p0 p1 p2 g0 g1 g2 ⊢
  generalize w3.heap.size = B at hp4 hlt3 hlt4 p0 p1 p2 g0 g1 g2 ⊢
  cases hqb : quoB vl with
  | true =>
    have KU := hid (fun w' => unquote_list vl w' (by omega))
    rw [hqb, if_pos rfl] at HV
    generalize unquoteV vl = u at KU HV
    obtain ⟨ut, un⟩ := u
    simp only at KU HV
    clear hqb
    go_wp2_with fail
    refine (KU.out _).mono ?_
    rintro e w5 ⟨rfl, hw5⟩
    have hp5 := hp4.below hw5 hlt4
    have hr5 := hr4.below hw5 (Nat.lt_trans hlt3 hlt4)
    have hb5 := hb4.trans (hw5.mono hb4.size)
    clear hp4 hr4 hb4 hw5 KU p0 p1 p2 g0 g1 g2
    have hp6 : RowIs (w5.setCell ⟨B, 1, none⟩ (.string ⟨ut.toArray⟩)) B 59 [.string ⟨nm.toArray⟩, .string ⟨ut.toArray⟩, .bool hs] := by simpa using hp5.set 1 (.string ⟨ut.toArray⟩)
    have hr6 := hr5.below (show Below B w5 (w5.setCell ⟨B, 1, none⟩ (.string ⟨ut.toArray⟩)) from (Below.refl B w5).setCell (Nat.le_refl B) _) hlt3
    have hb6 : Below w.heap.size w (w5.setCell ⟨B, 1, none⟩ (.string ⟨ut.toArray⟩)) := hb5.setCell (by exact Nat.le_of_lt hlt3) _
    obtain ⟨p0, p1, p2, g0, g1, g2⟩ := hp5.three
    obtain ⟨y0, y1, y2, f0, f1, f2⟩ := hr5.three
    go_wp2
    have hr7 := row_store3 hr6 (.string ⟨nm.toArray⟩) (.string ⟨ut.toArray⟩) (.bool hs)
    have hb7 := store_below3 hb6 w.heap.size (Nat.le_refl _) (.string ⟨nm.toArray⟩) (.string ⟨ut.toArray⟩) (.bool hs)
    generalize World.setCell _ _ _ = w7 at hr7 hb7 ⊢
    obtain ⟨d0, d1, d2, _, _, _⟩ := hr7.three
    try simp only [Exit.inBlock, Exit.then]
    refine bodyPost_ret (v := .tuple #[.agg #[.string ⟨nm.toArray⟩, .string ⟨ut.toArray⟩, .bool hs], .bool (un == 0)]) (by simp [results, Tryz.results25, go_sem, d0, d1, d2]; try rfl) rfl ?_
    exact ⟨ret_fieldR HV.out, hb7⟩
  | false =>
    rw [hqb, if_neg (by simp)] at HV
    obtain ⟨y0, y1, y2, f0, f1, f2⟩ := hr4.three
    clear hqb
    cases hs with
    | false =>
      have hv : Hid (fieldR q = (⟨nm, vl, false⟩, true)) := HV.out
      clear HV
      go_wp2
      go_region
      have hr7 := row_store3 hr4 (.string ⟨nm.toArray⟩) (.string ⟨vl.toArray⟩) (.bool false)
      have hb7 := store_below3 hb4 w.heap.size (Nat.le_refl _) (.string ⟨nm.toArray⟩) (.string ⟨vl.toArray⟩) (.bool false)
      generalize World.setCell _ _ _ = w7 at hr7 hb7 ⊢
      have hr8 : RowIs w7.drew w.heap.size 59 [.string ⟨nm.toArray⟩, .string ⟨vl.toArray⟩, .bool false] := hr7
      have hb8 : Below w.heap.size w w7.drew := hb7.drew
      generalize w7.drew = w8 at hr8 hb8 ⊢
      obtain ⟨d0, d1, d2, _, _, _⟩ := hr8.three
      go_wp2
      try simp only [Exit.inBlock, Exit.then]
      refine bodyPost_ret (v := .tuple #[.agg #[.string ⟨nm.toArray⟩, .string ⟨vl.toArray⟩, .bool false], .bool true]) (by simp [results, Tryz.results25, go_sem, d0, d1, d2]; try rfl) rfl ?_
      exact ⟨ret_fieldR hv.out, hb8⟩
    | true =>
      have KW := hid (fun w' => word_any vl w' (by omega))
      have hv : Hid (fieldR q = (⟨nm, vl, true⟩, wordB vl)) := show _ = _ by have h := HV.out; simpa using h
      generalize wordB vl = wb at KW hv
      clear HV
      go_wp2
      have KR := hid (fun w5 (h5 : Below w4.heap.size w4.drew w5) => And.intro (RowIs.three (RowIs.below (show RowIs w4.drew B 59 [.string ⟨nm.toArray⟩, .string ⟨vl.toArray⟩, .bool true] from hp4) h5 hlt4)) (And.intro (RowIs.three (RowIs.below (show RowIs w4.drew w.heap.size 59 [.string ⟨#[]⟩, .string ⟨#[]⟩, .bool false] from hr4) h5 (Nat.lt_trans hlt3 hlt4))) (And.intro (RowIs.below (show RowIs w4.drew w.heap.size 59 [.string ⟨#[]⟩, .string ⟨#[]⟩, .bool false] from hr4) h5 (Nat.lt_trans hlt3 hlt4)) (hb4.drew.trans (h5.mono hb4.size)))))
      go_region_with (go_at_call 56; refine (KW.out _).mono ?_; rintro e w5 ⟨rfl, hw5⟩; obtain ⟨⟨q0, q1, q2, _, _, _⟩, ⟨z0, z1, z2, k0, k1, k2⟩, hr5, hb5⟩ := KR.out w5 hw5)
      all_goals (
        have hr7 := row_store3 hr5 (.string ⟨nm.toArray⟩) (.string ⟨vl.toArray⟩) (.bool true)
        have hb7 := store_below3 hb5 w.heap.size (Nat.le_refl _) (.string ⟨nm.toArray⟩) (.string ⟨vl.toArray⟩) (.bool true)
        generalize World.setCell _ _ _ = w7 at hr7 hb7 ⊢
        obtain ⟨d0, d1, d2, _, _, _⟩ := hr7.three
        go_wp2
        try simp only [Exit.inBlock, Exit.then]
        refine bodyPost_ret (v := .tuple #[.agg #[.string ⟨nm.toArray⟩, .string ⟨vl.toArray⟩, .bool true], .bool wb]) (by simp [results, Tryz.results25, go_sem, d0, d1, d2]; try rfl) rfl ?_
        exact ⟨ret_fieldR hv.out, hb7⟩)

end Go.Proofs.YtgboekilhldejaaGreatDoor
