/-
  The contract of package addr's Parse.
-/
import Derived.Test.YtgboekilhldejaaGreatDoorAParseL
import Derived.Test.YtgboekilhldejaaGreatDoorAFields
import Derived.Test.YtgboekilhldejaaGreatDoorBaseM
import Derived.Test.YtgboekilhldejaaGreatDoorACheck
namespace Go.Proofs.YtgboekilhldejaaGreatDoor
open Go.RowKit Sc
set_option linter.unusedVariables false
set_option maxRecDepth 20000

structure Eight (w : World) (b : Nat) (v0 v1 v2 v3 v4 v5 v6 v7 : Value) : Prop where
  c0 : w.cell? ⟨b, 0, none⟩ = some v0
  c1 : w.cell? ⟨b, 1, none⟩ = some v1
  c2 : w.cell? ⟨b, 2, none⟩ = some v2
  c3 : w.cell? ⟨b, 3, none⟩ = some v3
  c4 : w.cell? ⟨b, 4, none⟩ = some v4
  c5 : w.cell? ⟨b, 5, none⟩ = some v5
  c6 : w.cell? ⟨b, 6, none⟩ = some v6
  c7 : w.cell? ⟨b, 7, none⟩ = some v7
  f0 : w.frozen? ⟨b, 0, none⟩ = false
  f1 : w.frozen? ⟨b, 1, none⟩ = false
  f2 : w.frozen? ⟨b, 2, none⟩ = false
  f3 : w.frozen? ⟨b, 3, none⟩ = false
  f4 : w.frozen? ⟨b, 4, none⟩ = false
  f5 : w.frozen? ⟨b, 5, none⟩ = false
  f6 : w.frozen? ⟨b, 6, none⟩ = false
  f7 : w.frozen? ⟨b, 7, none⟩ = false
theorem RowIs.eight {w : World} {b : Nat} {e : TypeId} {v0 v1 v2 v3 v4 v5 v6 v7 : Value} (h : RowIs w b e [v0, v1, v2, v3, v4, v5, v6, v7]) : Eight w b v0 v1 v2 v3 v4 v5 v6 v7 :=
  ⟨h.cell 0 (by simp), h.cell 1 (by simp), h.cell 2 (by simp), h.cell 3 (by simp), h.cell 4 (by simp), h.cell 5 (by simp), h.cell 6 (by simp), h.cell 7 (by simp), h.frozen 0, h.frozen 1, h.frozen 2, h.frozen 3, h.frozen 4, h.frozen 5, h.frozen 6, h.frozen 7⟩
def set8 (w : World) (b : Nat) (v0 v1 v2 v3 v4 v5 v6 v7 : Value) : World := (((((((w.setCell ⟨b, 0, none⟩ v0).setCell ⟨b, 1, none⟩ v1).setCell ⟨b, 2, none⟩ v2).setCell ⟨b, 3, none⟩ v3).setCell ⟨b, 4, none⟩ v4).setCell ⟨b, 5, none⟩ v5).setCell ⟨b, 6, none⟩ v6).setCell ⟨b, 7, none⟩ v7
theorem row_store8 {w : World} {b : Nat} {e : TypeId} {u0 u1 u2 u3 u4 u5 u6 u7 : Value} (h : RowIs w b e [u0, u1, u2, u3, u4, u5, u6, u7]) (v0 v1 v2 v3 v4 v5 v6 v7 : Value) :
    RowIs (set8 w b v0 v1 v2 v3 v4 v5 v6 v7) b e [v0, v1, v2, v3, v4, v5, v6, v7] := by
  have := (((((((h.set 0 v0).set 1 v1).set 2 v2).set 3 v3).set 4 v4).set 5 v5).set 6 v6).set 7 v7
  unfold set8
  simpa using this
theorem store_below8 {B : Nat} {a w : World} (h : Below B a w) (b : Nat) (hb : B ≤ b) (v0 v1 v2 v3 v4 v5 v6 v7 : Value) : Below B a (set8 w b v0 v1 v2 v3 v4 v5 v6 v7) := by
  unfold set8
  exact (((((((h.setCell hb _).setCell hb _).setCell hb _).setCell hb _).setCell hb _).setCell hb _).setCell hb _).setCell hb _
theorem OwnP.store8 {w : World} {B : Nat} {v : Value} {ps : List Par} (h : OwnP w B v ps) {b : Nat} (hb : b < B) (v0 v1 v2 v3 v4 v5 v6 v7 : Value) : OwnP (set8 w b v0 v1 v2 v3 v4 v5 v6 v7) B v ps := by
  unfold set8
  exact ownsRow_setCell_below (ownsRow_setCell_below (ownsRow_setCell_below (ownsRow_setCell_below (ownsRow_setCell_below (ownsRow_setCell_below (ownsRow_setCell_below (ownsRow_setCell_below h hb _) hb _) hb _) hb _) hb _) hb _) hb _) hb _
theorem row8_new (w : World) (t : TypeId) : RowIs (w.alloc (.cells #[.string ⟨#[]⟩, .string ⟨#[]⟩, .string ⟨#[]⟩, .string ⟨#[]⟩, .int .i64 0, .slice none 0 0, .slice none 0 0, .slice none 0 0] t)) w.heap.size t [.string ⟨#[]⟩, .string ⟨#[]⟩, .string ⟨#[]⟩, .string ⟨#[]⟩, .int .i64 0, .slice none 0 0, .slice none 0 0, .slice none 0 0] := by
  unfold RowIs; rw [heap_alloc_new]
/-- What Parse hands back. -/
def ParseRes (R : Adr × Int) (w w' : World) (e : Ending) : Prop :=
  ∃ p h q, e = .returned (.tuple #[adrV R.1 p h q, .int .i64 R.2]) ∧ OwnP w' w.heap.size p R.1.uri.params ∧ OwnP w' w.heap.size h R.1.uri.headers ∧ OwnP w' w.heap.size q R.1.params
theorem res_none {R : Adr × Int} {n : Int} {w w' : World} (h : R = (noA, n)) : ParseRes R w w' (.returned (.tuple #[.agg #[.string ⟨#[]⟩, .string ⟨#[]⟩, .string ⟨#[]⟩, .string ⟨#[]⟩, .int .i64 0, .slice none 0 0, .slice none 0 0, .slice none 0 0], .int .i64 n])) := by
  subst h
  exact ⟨.slice none 0 0, .slice none 0 0, .slice none 0 0, rfl, OwnP.nil _ _, OwnP.nil _ _, OwnP.nil _ _⟩

theorem cutR_len (t : List UInt8) : (cutR t).1.u.length ≤ t.length ∧ (cutR t).1.r.length ≤ t.length := by
  unfold cutR
  cases openV false t with
  | some k =>
    simp only
    have h := cutL_len 62 (t.drop (k + 1))
    rw [List.length_drop] at h
    unfold angR
    split <;> simp <;> omega
  | none =>
    simp only
    have h := cutL_len 59 t
    have h2 := trimL_len (cutL 59 t).1
    unfold plainR
    refine ⟨by simp only; omega, ?_⟩
    simp only
    split
    · rename_i hc
      have := cutL_dec hc
      simp; omega
    · simp
theorem partsG_mem_len (sep : Int) : ∀ (l : List UInt8) (p : Pl) (cur x : List UInt8), x ∈ partsG sep p cur l → x.length ≤ cur.length + l.length
  | [], p, cur, x, h => by rw [partsG] at h; simp at h; subst h; simp
  | b :: r, p, cur, x, h => by
    rw [partsG] at h
    split at h
    · rcases List.mem_cons.1 h with rfl | h
      · omega
      · have := partsG_mem_len sep r _ _ x h; simp at this ⊢; omega
    · have := partsG_mem_len sep r _ _ x h; simp at this ⊢; omega
theorem parts_mem_len (sep : Int) (l : List UInt8) : ∀ x ∈ partsV sep l, x.length ≤ l.length := fun x h => by have := partsG_mem_len sep l pl0 [] x h; simpa using this
theorem tail_of (d u r : List UInt8) {p0 : List UInt8} {ps : List (List UInt8)} (h : partsV 59 r = p0 :: ps) : tailV d u r = if (parseV u).2 ≠ 0 then (noA, (parseV u).2) else if allB 32 p0 = false then (noA, 50) else if (fieldsV ps).2 ≠ 0 then (noA, (fieldsV ps).2) else (⟨d, (parseV u).1, (fieldsV ps).1⟩, 0) := by
  have e1 : (partsV 59 r).headD [] = p0 := by rw [h]; rfl
  have e2 : (partsV 59 r).tail = ps := by rw [h]; rfl
  unfold tailV
  rw [e1, e2]
  have e : (trimL p0 ≠ []) ↔ (allB 32 p0 = false) := by rw [ne_eq, trim_nil]; simp
  by_cases h1 : (parseV u).2 ≠ 0
  · rw [if_pos h1, if_pos h1]
  · rw [if_neg h1, if_neg h1]
    by_cases h2 : allB 32 p0 = false
    · rw [if_pos (e.2 h2), if_pos h2]
    · rw [if_neg (fun k => h2 (e.1 k)), if_neg h2]

set_option maxHeartbeats 1000000 in
set_option maxRecDepth 100000 in
theorem aparse_any (s : List UInt8) (w : World) (hs : s.length ≤ 1048576) :
    Calls Tryz.prog 19 #[.string ⟨s.toArray⟩] w fun e w' => ParseRes (parseA s) w w' e ∧ Below w.heap.size w w' := by
  have hts := trimL_len s
  have KT := hid (fun w' => trim_list s w' (by omega))
  have KC := hid (fun w' => cut_any (trimL s) w' (by omega))
  have hv : parseA s = parseT (trimL s) := rfl
  rw [parseT_cut] at hv
  generalize parseA s = R at hv ⊢
  generalize trimL s = t at KT KC hv hts
  have hr0 := row8_new w 39
  have hb0 : Below w.heap.size w (w.alloc (.cells #[.string ⟨#[]⟩, .string ⟨#[]⟩, .string ⟨#[]⟩, .string ⟨#[]⟩, .int .i64 0, .slice none 0 0, .slice none 0 0, .slice none 0 0] 39)) := (Below.refl _ w).alloc (Nat.le_refl _) _
  have hlt0 := alloc_lt w (.cells #[.string ⟨#[]⟩, .string ⟨#[]⟩, .string ⟨#[]⟩, .string ⟨#[]⟩, .int .i64 0, .slice none 0 0, .slice none 0 0, .slice none 0 0] 39)
  have hpl : (cutR t).1.u.length ≤ 1048576 ∧ (cutR t).1.r.length ≤ 1048576 := by have := cutR_len t; omega
  generalize cutR t = P at KC hv hpl
  obtain ⟨⟨d, u, r⟩, b⟩ := P
  unfold pcsV at KC
  simp only at KC hv hpl
  have HV := hid hv
  clear hv hts
  go_enter Tryz.func19, Tryz.ntmps19
  go_wp2_with fail
  refine (KT.out _).mono ?_
  rintro e w1 ⟨rfl, hw1⟩
  have hr1 := hr0.below hw1 hlt0
  have hb1 := hb0.trans (hw1.mono hb0.size)
  have hlt1 := Nat.lt_of_lt_of_le hlt0 hw1.size
  clear hr0 hb0 hlt0 hw1 KT
  go_wp2_with fail
  refine (KC.out _).mono ?_
  rintro e w2 ⟨rfl, hw2⟩
  have hr2 := hr1.below hw2 hlt1
  have hb2 := hb1.trans (hw2.mono hb1.size)
  have hlt2 := Nat.lt_of_lt_of_le hlt1 hw2.size
  clear hr1 hb1 hlt1 hw2 KC
  obtain ⟨y0, y1, y2, y3, y4, y5, y6, y7, f0, f1, f2, f3, f4, f5, f6, f7⟩ := hr2.eight
  cases b with
  | false =>
    have HR : Hid (R = (noA, 50)) := show _ = _ by rw [HV.out]; rfl
    clear HV
    have hsz : w.heap.size < (set8 w2 w.heap.size (.string ⟨#[]⟩) (.string ⟨#[]⟩) (.string ⟨#[]⟩) (.string ⟨#[]⟩) (.int .i64 0) (.slice none 0 0) (.slice none 0 0) (.slice none 0 0)).heap.size := by unfold set8; simpa [World.setCell] using hlt2
    have hr6 := row_store8 hr2 (.string ⟨#[]⟩) (.string ⟨#[]⟩) (.string ⟨#[]⟩) (.string ⟨#[]⟩) (.int .i64 0) (.slice none 0 0) (.slice none 0 0) (.slice none 0 0)
    have hb6 := store_below8 hb2 w.heap.size (Nat.le_refl _) (.string ⟨#[]⟩) (.string ⟨#[]⟩) (.string ⟨#[]⟩) (.string ⟨#[]⟩) (.int .i64 0) (.slice none 0 0) (.slice none 0 0) (.slice none 0 0)
    have hr7 := hr6.below ((Below.refl _ _).alloc (Nat.le_refl _) (.cells #[.string ⟨d.toArray⟩, .string ⟨u.toArray⟩, .string ⟨r.toArray⟩] 75)) hsz
    have hb7 := hb6.alloc hb6.size (.cells #[.string ⟨d.toArray⟩, .string ⟨u.toArray⟩, .string ⟨r.toArray⟩] 75)
    have H7 := hid (And.intro hr7 hb7)
    clear hr6 hb6 hr7 hb7 hsz
    go_wp2
    unfold set8 at H7
    generalize World.alloc _ _ = w7 at H7 ⊢
    obtain ⟨hr7, hb7⟩ := H7.out
    obtain ⟨d0, d1, d2, d3, d4, d5, d6, d7, _, _, _, _, _, _, _, _⟩ := hr7.eight
    try simp only [Exit.inBlock, Exit.then]
    refine bodyPost_ret (v := .tuple #[.agg #[.string ⟨#[]⟩, .string ⟨#[]⟩, .string ⟨#[]⟩, .string ⟨#[]⟩, .int .i64 0, .slice none 0 0, .slice none 0 0, .slice none 0 0], .int .i64 50]) (by simp [results, Tryz.results19, go_sem, d0, d1, d2, d3, d4, d5, d6, d7]; try rfl) rfl ?_
    exact ⟨res_none HR.out, hb7⟩
  | true =>
    rw [if_pos rfl] at HV
    have hp3 := row3_any w2 (.string ⟨d.toArray⟩) (.string ⟨u.toArray⟩) (.string ⟨r.toArray⟩) 75
    have hr3 := hr2.below ((Below.refl _ w2).alloc (Nat.le_refl _) (.cells #[.string ⟨d.toArray⟩, .string ⟨u.toArray⟩, .string ⟨r.toArray⟩] 75)) hlt2
    have hb3 := hb2.alloc hb2.size (.cells #[.string ⟨d.toArray⟩, .string ⟨u.toArray⟩, .string ⟨r.toArray⟩] 75)
    have hlt3 := alloc_lt w2 (.cells #[.string ⟨d.toArray⟩, .string ⟨u.toArray⟩, .string ⟨r.toArray⟩] 75)
    obtain ⟨p0', ps0, hpt⟩ := partsG_cons 59 r pl0 []
    have hpt2 : partsV 59 r = p0' :: ps0 := hpt
    have hmem := parts_mem_len 59 r
    rw [hpt2] at hmem
    have KU := hid (fun w' => parse_any u w' hpl.1)
    have KP := hid (fun w' => parts_of hpt2 w' (by omega))
    have KA := hid (fun w' => all_l p0' 32 w' (by have := hmem p0' (by simp); omega))
    have HML : Hid (∀ l ∈ ps0, l.length ≤ 1048576) := fun l hl => by have := hmem l (by simp [hl]); omega
    have HT := hid (tail_of d u r hpt2)
    clear hpt hpt2 hmem y0 y1 y2 y3 y4 y5 y6 y7 f0 f1 f2 f3 f4 f5 f6 f7 hr2 hb2
    generalize parseV u = pu at KU HT
    obtain ⟨⟨us, uu, uh, up, upp, uhh⟩, un⟩ := pu
    unfold uriV at KU
    simp only at KU HT
    obtain ⟨p0, p1, p2, g0, g1, g2⟩ := hp3.three
    go_wp2_with fail
    refine (KU.out _).mono ?_
    rintro e w3 ⟨pv, hv, rfl, ho1, ho2, hw3⟩
    obtain ⟨a1, k1, hpe⟩ := ho1.parsAt.form
    obtain ⟨a2, k2, hhe⟩ := ho2.parsAt.form
    subst hpe hhe
    have hp4 := hp3.below hw3 hlt3
    have hr4 := hr3.below hw3 (Nat.lt_trans hlt2 hlt3)
    have hb4 := hb3.trans (hw3.mono hb3.size)
    have hlt4 : w2.heap.size < w3.heap.size := Nat.lt_of_lt_of_le hlt3 hw3.size
    have HO1 := hid (OwnP.mono ho1 (show w.heap.size + 1 ≤ _ by have := hb3.size; omega))
    have HO2 := hid (OwnP.mono ho2 (show w.heap.size + 1 ≤ _ by have := hb3.size; omega))
    clear hp3 hr3 hb3 hlt3 ho1 ho2 hw3 KU p0 p1 p2 g0 g1 g2
    by_cases hun : un = 0
    · subst hun
      have hA := (Below.refl _ w3).alloc (Nat.le_refl _) (.cells #[.string ⟨us.toArray⟩, .string ⟨uu.toArray⟩, .string ⟨uh.toArray⟩, .int .i64 up, .slice a1 upp.length k1, .slice a2 uhh.length k2] 37)
      have hltA := alloc_lt w3 (.cells #[.string ⟨us.toArray⟩, .string ⟨uu.toArray⟩, .string ⟨uh.toArray⟩, .int .i64 up, .slice a1 upp.length k1, .slice a2 uhh.length k2] 37)
      have hu5 := box_new w3 ⟨us, uu, uh, up, upp, uhh⟩ (.slice a1 upp.length k1) (.slice a2 uhh.length k2)
      have hp5 := hp4.below hA hlt4
      have hr5 := hr4.below hA (Nat.lt_trans hlt2 hlt4)
      have hb5 := hb4.alloc hb4.size (.cells #[.string ⟨us.toArray⟩, .string ⟨uu.toArray⟩, .string ⟨uh.toArray⟩, .int .i64 up, .slice a1 upp.length k1, .slice a2 uhh.length k2] 37)
      have HO1a := hid (HO1.out.below hA)
      have HO2a := hid (HO2.out.below hA)
      clear hp4 hr4 hb4 HO1 HO2 hA
      obtain ⟨p0, p1, p2, g0, g1, g2⟩ := hp5.three
      go_wp2_with fail
      refine (KP.out _).mono ?_
      rintro e w5 ⟨g, cap, rfl, hcap, hgl, hcells, hw5⟩
      have hg0 := hcells 0 (by simp)
      simp only [List.getElem_cons_zero] at hg0
      have hp6 := hp5.below hw5 (Nat.lt_trans hlt4 hltA)
      have hr6 := hr5.below hw5 (Nat.lt_trans hlt2 (Nat.lt_trans hlt4 hltA))
      have hb6 := hb5.trans (hw5.mono hb5.size)
      have HU6 := hid (BoxU.below hu5 hw5 hltA)
      have HO1b := hid (HO1a.out.below hw5)
      have HO2b := hid (HO2a.out.below hw5)
      have hlt6 : w.heap.size < w5.heap.size := Nat.lt_of_lt_of_le (Nat.lt_trans hlt2 (Nat.lt_trans hlt4 hltA)) hw5.size
      have hlt6p : w2.heap.size < w5.heap.size := Nat.lt_of_lt_of_le (Nat.lt_trans hlt4 hltA) hw5.size
      have hlt6u : w3.heap.size < w5.heap.size := Nat.lt_of_lt_of_le hltA hw5.size
      have HC := hid hcells
      clear hcells hp5 hr5 hb5 hu5 HO1a HO2a hw5 KP p0 p1 p2 g0 g1 g2
      go_wp2_with fail
      refine (KA.out _).mono ?_
      rintro e w6 ⟨rfl, rfl⟩
      clear KA
      cases hab : allB 32 p0' with
      | false =>
        have HR : Hid (R = (noA, 50)) := show _ = _ by rw [HV.out, HT.out, if_neg (by simp), if_pos hab]
        clear HV HT HC hab HU6 HO1b HO2b hg0
        obtain ⟨y0, y1, y2, y3, y4, y5, y6, y7, f0, f1, f2, f3, f4, f5, f6, f7⟩ := hr6.eight
        go_wp2
        have hr7 := row_store8 hr6 (.string ⟨#[]⟩) (.string ⟨#[]⟩) (.string ⟨#[]⟩) (.string ⟨#[]⟩) (.int .i64 0) (.slice none 0 0) (.slice none 0 0) (.slice none 0 0)
        have hb7 := store_below8 hb6 w.heap.size (Nat.le_refl _) (.string ⟨#[]⟩) (.string ⟨#[]⟩) (.string ⟨#[]⟩) (.string ⟨#[]⟩) (.int .i64 0) (.slice none 0 0) (.slice none 0 0) (.slice none 0 0)
        unfold set8 at hr7 hb7
        generalize World.setCell _ _ _ = w7 at hr7 hb7 ⊢
        obtain ⟨d0, d1, d2, d3, d4, d5, d6, d7, _, _, _, _, _, _, _, _⟩ := hr7.eight
        try simp only [Exit.inBlock, Exit.then]
        refine bodyPost_ret (v := .tuple #[.agg #[.string ⟨#[]⟩, .string ⟨#[]⟩, .string ⟨#[]⟩, .string ⟨#[]⟩, .int .i64 0, .slice none 0 0, .slice none 0 0, .slice none 0 0], .int .i64 50]) (by simp [results, Tryz.results19, go_sem, d0, d1, d2, d3, d4, d5, d6, d7]; try rfl) rfl ?_
        exact ⟨res_none HR.out, hb7⟩
      | true =>
        have HT2 : Hid (tailV d u r = if (fieldsV ps0).2 ≠ 0 then (noA, (fieldsV ps0).2) else (⟨d, ⟨us, uu, uh, up, upp, uhh⟩, (fieldsV ps0).1⟩, 0)) := show _ = _ by rw [HT.out, if_neg (by simp), if_neg (by rw [hab]; simp)]
        have HSA : Hid (StrsAt w6 (.slice (some ⟨g, 1, none⟩) ps0.length (cap - 1)) ps0) := strs_tail HC.out hgl (Below.refl _ _)
        have HSB : Hid (ps0 = [] → StrsAt w6 (.slice (some ⟨g, 0, none⟩) ps0.length 0) ps0) := fun h => by subst h; exact strs_none _ _ _
        clear HT HC hab hg0 hgl
        go_wp2_with fail
        all_goals (
          refine (afields_any _ ps0 w6 HML.out ?hstr).mono ?_
          case hstr => first | with_reducible exact HSA.out | exact HSB.out (List.eq_nil_of_length_eq_zero (by omega))
          rintro e w7 ⟨fv, fn, rfl, ⟨hfn, hfo⟩, hw7⟩
          generalize fieldsV ps0 = fr at HT2 hfn hfo
          obtain ⟨fp, fm⟩ := fr
          simp only at HT2 hfn hfo
          subst hfn
          obtain ⟨a3, k3, hfe⟩ := hfo.parsAt.form
          subst hfe
          have hp8 := hp6.below hw7 hlt6p
          have hr8 := hr6.below hw7 hlt6
          have hb8 := hb6.trans (hw7.mono hb6.size)
          have HU8 := hid (BoxU.below HU6.out hw7 hlt6u)
          have HO1c := hid (HO1b.out.below hw7)
          have HO2c := hid (HO2b.out.below hw7)
          have HO3c := hid (OwnP.mono hfo (show w.heap.size + 1 ≤ _ by omega))
          clear hfo hw7 hp6 hr6 hb6 HU6 HO1b HO2b
          obtain ⟨y0, y1, y2, y3, y4, y5, y6, y7, f0, f1, f2, f3, f4, f5, f6, f7⟩ := hr8.eight
          by_cases hfz : fn = 0
          · subst hfz
            have HR : Hid (R = (⟨d, ⟨us, uu, uh, up, upp, uhh⟩, fp⟩, 0)) := show _ = _ by rw [HV.out, HT2.out, if_neg (by simp)]
            clear HV HT2
            obtain ⟨p0, p1, p2, g0, g1, g2⟩ := hp8.three
            obtain ⟨x0, x1, x2, x3, x4, x5⟩ := HU8.out
            simp only at x0 x1 x2 x3 x4 x5
            have hr9 := row_store8 hr8 (.string ⟨d.toArray⟩) (.string ⟨us.toArray⟩) (.string ⟨uu.toArray⟩) (.string ⟨uh.toArray⟩) (.int .i64 up) (.slice a1 upp.length k1) (.slice a2 uhh.length k2) (.slice a3 fp.length k3)
            have hb9 := store_below8 hb8 w.heap.size (Nat.le_refl _) (.string ⟨d.toArray⟩) (.string ⟨us.toArray⟩) (.string ⟨uu.toArray⟩) (.string ⟨uh.toArray⟩) (.int .i64 up) (.slice a1 upp.length k1) (.slice a2 uhh.length k2) (.slice a3 fp.length k3)
            have q1 := (OwnP.store8 HO1c.out (Nat.lt_succ_self _) (.string ⟨d.toArray⟩) (.string ⟨us.toArray⟩) (.string ⟨uu.toArray⟩) (.string ⟨uh.toArray⟩) (.int .i64 up) (.slice a1 upp.length k1) (.slice a2 uhh.length k2) (.slice a3 fp.length k3)).mono (Nat.le_succ w.heap.size)
            have q2 := (OwnP.store8 HO2c.out (Nat.lt_succ_self _) (.string ⟨d.toArray⟩) (.string ⟨us.toArray⟩) (.string ⟨uu.toArray⟩) (.string ⟨uh.toArray⟩) (.int .i64 up) (.slice a1 upp.length k1) (.slice a2 uhh.length k2) (.slice a3 fp.length k3)).mono (Nat.le_succ w.heap.size)
            have q3 := (OwnP.store8 HO3c.out (Nat.lt_succ_self _) (.string ⟨d.toArray⟩) (.string ⟨us.toArray⟩) (.string ⟨uu.toArray⟩) (.string ⟨uh.toArray⟩) (.int .i64 up) (.slice a1 upp.length k1) (.slice a2 uhh.length k2) (.slice a3 fp.length k3)).mono (Nat.le_succ w.heap.size)
            have H9 := hid (And.intro hr9 (And.intro hb9 (And.intro q1 (And.intro q2 q3))))
            clear hr9 hb9 q1 q2 q3
            go_wp2
            unfold set8 at H9
            generalize World.setCell _ _ _ = w9 at H9 ⊢
            obtain ⟨hr9, hb9, q1, q2, q3⟩ := H9.out
            obtain ⟨d0, d1, d2, d3, d4, d5, d6, d7, _, _, _, _, _, _, _, _⟩ := hr9.eight
            try simp only [Exit.inBlock, Exit.then]
            refine bodyPost_ret (v := .tuple #[.agg #[.string ⟨d.toArray⟩, .string ⟨us.toArray⟩, .string ⟨uu.toArray⟩, .string ⟨uh.toArray⟩, .int .i64 up, .slice a1 upp.length k1, .slice a2 uhh.length k2, .slice a3 fp.length k3], .int .i64 0]) (by simp [results, Tryz.results19, go_sem, d0, d1, d2, d3, d4, d5, d6, d7]; try rfl) rfl ?_
            refine ⟨?_, hb9⟩
            rw [HR.out]
            exact ⟨_, _, _, rfl, q1, q2, q3⟩
          · have HR : Hid (R = (noA, fn)) := show _ = _ by rw [HV.out, HT2.out, if_pos hfz]
            have hne : (fn != 0) = true := by simpa using hfz
            clear HV HT2 HU8 HO1c HO2c HO3c hp8
            go_wp2
            have hr7 := row_store8 hr8 (.string ⟨#[]⟩) (.string ⟨#[]⟩) (.string ⟨#[]⟩) (.string ⟨#[]⟩) (.int .i64 0) (.slice none 0 0) (.slice none 0 0) (.slice none 0 0)
            have hb7 := store_below8 hb8 w.heap.size (Nat.le_refl _) (.string ⟨#[]⟩) (.string ⟨#[]⟩) (.string ⟨#[]⟩) (.string ⟨#[]⟩) (.int .i64 0) (.slice none 0 0) (.slice none 0 0) (.slice none 0 0)
            unfold set8 at hr7 hb7
            generalize World.setCell _ _ _ = w7 at hr7 hb7 ⊢
            obtain ⟨d0, d1, d2, d3, d4, d5, d6, d7, _, _, _, _, _, _, _, _⟩ := hr7.eight
            try simp only [Exit.inBlock, Exit.then]
            refine bodyPost_ret (v := .tuple #[.agg #[.string ⟨#[]⟩, .string ⟨#[]⟩, .string ⟨#[]⟩, .string ⟨#[]⟩, .int .i64 0, .slice none 0 0, .slice none 0 0, .slice none 0 0], .int .i64 fn]) (by simp [results, Tryz.results19, go_sem, d0, d1, d2, d3, d4, d5, d6, d7]; try rfl) rfl ?_
            exact ⟨res_none HR.out, hb7⟩)
    · have HR : Hid (R = (noA, un)) := show _ = _ by rw [HV.out, HT.out, if_pos hun]
      have hne : (un != 0) = true := by simpa using hun
      clear HV HT HO1 HO2 hp4
      obtain ⟨y0, y1, y2, y3, y4, y5, y6, y7, f0, f1, f2, f3, f4, f5, f6, f7⟩ := hr4.eight
      have hsz : w.heap.size < (set8 w3 w.heap.size (.string ⟨#[]⟩) (.string ⟨#[]⟩) (.string ⟨#[]⟩) (.string ⟨#[]⟩) (.int .i64 0) (.slice none 0 0) (.slice none 0 0) (.slice none 0 0)).heap.size := by unfold set8; simpa [World.setCell] using Nat.lt_trans hlt2 hlt4
      have hltw := Nat.lt_trans hlt2 hlt4
      have hr6 := row_store8 hr4 (.string ⟨#[]⟩) (.string ⟨#[]⟩) (.string ⟨#[]⟩) (.string ⟨#[]⟩) (.int .i64 0) (.slice none 0 0) (.slice none 0 0) (.slice none 0 0)
      have hb6 := store_below8 hb4 w.heap.size (Nat.le_refl _) (.string ⟨#[]⟩) (.string ⟨#[]⟩) (.string ⟨#[]⟩) (.string ⟨#[]⟩) (.int .i64 0) (.slice none 0 0) (.slice none 0 0) (.slice none 0 0)
      have hr7 := hr6.below ((Below.refl _ _).alloc (Nat.le_refl _) (.cells #[.string ⟨us.toArray⟩, .string ⟨uu.toArray⟩, .string ⟨uh.toArray⟩, .int .i64 up, .slice a1 upp.length k1, .slice a2 uhh.length k2] 37)) hsz
      have hb7 := hb6.alloc hb6.size (.cells #[.string ⟨us.toArray⟩, .string ⟨uu.toArray⟩, .string ⟨uh.toArray⟩, .int .i64 up, .slice a1 upp.length k1, .slice a2 uhh.length k2] 37)
      have H7 := hid (And.intro hr7 hb7)
      clear hr6 hb6 hr7 hb7 hsz
      go_wp2
      unfold set8 at H7
      generalize World.alloc _ _ = w7 at H7 ⊢
      obtain ⟨hr7, hb7⟩ := H7.out
      obtain ⟨d0, d1, d2, d3, d4, d5, d6, d7, _, _, _, _, _, _, _, _⟩ := hr7.eight
      try simp only [Exit.inBlock, Exit.then]
      refine bodyPost_ret (v := .tuple #[.agg #[.string ⟨#[]⟩, .string ⟨#[]⟩, .string ⟨#[]⟩, .string ⟨#[]⟩, .int .i64 0, .slice none 0 0, .slice none 0 0, .slice none 0 0], .int .i64 un]) (by simp [results, Tryz.results19, go_sem, d0, d1, d2, d3, d4, d5, d6, d7]; try rfl) rfl ?_
      exact ⟨res_none HR.out, hb7⟩

end Go.Proofs.YtgboekilhldejaaGreatDoor
