/-
  The contract of the document's own parameters.
-/
import Derived.Test.YtfdcklekjnihjaaDoorParOwn
namespace Go.Proofs.YtfdcklekjnihjaaDoor
open Go.RowKit Sc
set_option linter.unusedVariables false
set_option maxRecDepth 20000

/-- The slice v holds the texts ls. -/
def StrsAt (w : World) (v : Value) (ls : List (List UInt8)) : Prop :=
  ∃ (ao : Option Addr) (cap : Nat), v = .slice ao ls.length cap ∧ ∀ k (hk : k < ls.length), ∃ a, ao = some a ∧ a.block < w.heap.size ∧ w.cell? (a.add k) = some (.string ⟨ls[k].toArray⟩)
theorem StrsAt.below {w w' : World} {v : Value} {ls : List (List UInt8)} (h : StrsAt w v ls) (hb : Below w.heap.size w w') : StrsAt w' v ls := by
  obtain ⟨ao, cap, hv, hc⟩ := h
  refine ⟨ao, cap, hv, fun k hk => ?_⟩
  obtain ⟨a, e, ha, hcell⟩ := hc k hk
  exact ⟨a, e, Nat.lt_of_lt_of_le ha hb.size, cell_below hb (by rw [add_block]; exact ha) hcell⟩
theorem parsOf_snoc (keep : List UInt8) (ls : List (List UInt8)) (l : List UInt8) : parsOf keep (ls ++ [l]) = match parsOf keep ls, parOf keep l with | some ps, some p => some (ps ++ [p]) | _, _ => none := by
  induction ls with
  | nil =>
    rw [List.nil_append, parsOf, parsOf]
    cases parOf keep l <;> rfl
  | cons x ls ih =>
    rw [List.cons_append, parsOf, parsOf, ih]
    cases parOf keep x <;> cases parsOf keep ls <;> cases parOf keep l <;> rfl
theorem parsOf_bad {keep : List UInt8} {ls : List (List UInt8)} {k : Nat} (hk : k < ls.length) (h : parOf keep ls[k] = none) : parsOf keep ls = none := by
  induction ls generalizing k with
  | nil => simp at hk
  | cons x ls ih =>
    rw [parsOf]
    cases k with
    | zero => simp at h; rw [h]
    | succ k =>
      rw [ih (by simpa using hk) (by simpa using h)]
      cases parOf keep x <;> rfl
theorem parsOf_len {keep : List UInt8} {ls : List (List UInt8)} {ps : List Par} (h : parsOf keep ls = some ps) : ps.length = ls.length := by
  induction ls generalizing ps with
  | nil => simp [parsOf] at h; subst h; rfl
  | cons x ls ih =>
    rw [parsOf] at h
    cases hx : parOf keep x with
    | none => rw [hx] at h; simp at h
    | some p =>
      cases hl : parsOf keep ls with
      | none => rw [hx, hl] at h; simp at h
      | some qs => rw [hx, hl] at h; simp at h; subst h; simp [ih hl]
theorem written_list (s keep : List UInt8) (w : World) (hs : s.length ≤ 1048576) (hk : keep.length ≤ 64) :
    Calls Tryd.prog 49 #[.string ⟨s.toArray⟩, .string ⟨keep.toArray⟩] w fun e w' => e = .returned (.tuple #[.string ⟨(writtenV keep s).1.toArray⟩, .bool (writtenV keep s).2]) ∧ Below w.heap.size w w' :=
  written_any ⟨s.toArray⟩ ⟨keep.toArray⟩ w (by rw [size_list]; omega) (by rw [size_list]; unfold maxLen; omega)
theorem parOf_some {keep l : List UInt8} (h1 : (writtenV keep (cutL 61 l).1).2 = true) (h2 : (writtenV keep (cutL 61 l).2.1).2 = true) : parOf keep l = some ⟨(writtenV keep (cutL 61 l).1).1, (writtenV keep (cutL 61 l).2.1).1, (cutL 61 l).2.2⟩ := by
  rw [parOf, if_pos ⟨h1, h2⟩]
theorem parOf_none {keep l : List UInt8} (h : ¬ ((writtenV keep (cutL 61 l).1).2 = true ∧ (writtenV keep (cutL 61 l).2.1).2 = true)) : parOf keep l = none := by
  rw [parOf, if_neg h]
def ParsRes (keep : List UInt8) (ls : List (List UInt8)) (w w' : World) (v : Value) (b : Bool) : Prop :=
  (∃ ps, parsOf keep ls = some ps ∧ b = true ∧ OwnP w' w.heap.size v ps) ∨ (parsOf keep ls = none ∧ b = false ∧ v = .slice none 0 0)

set_option maxHeartbeats 2000000 in
set_option maxRecDepth 100000 in
theorem params_any (v : Value) (ls : List (List UInt8)) (keep : List UInt8) (w : World) (hk : keep.length ≤ 64) (hn : ls.length ≤ 1048577) (hl : ∀ l ∈ ls, l.length ≤ 1048576) (hv : StrsAt w v ls) :
    Calls Tryd.prog 50 #[v, .string ⟨keep.toArray⟩] w fun e w' => ∃ v' b, e = .returned (.tuple #[v', .bool b]) ∧ ParsRes keep ls w w' v' b ∧ Below w.heap.size w w' := by
  obtain ⟨i0, hi, hz0, hz1, hz2⟩ := info_parts infoPar
  obtain ⟨ao, cap, rfl, hc⟩ := hv
  have HC : Hid _ := hc; clear hc
  have HL : Hid _ := hl; clear hl
  obtain ⟨n, hn'⟩ : ∃ n, n = ls.length := ⟨_, rfl⟩
  rw [← hn'] at hn ⊢
  have HN : Hid _ := hn'; clear hn'
  go_enter Tryd.func50, Tryd.ntmps50
  go_wp2
  go_loopw [6, 7] (fun x i wr => ∃ (k : Nat) (ps : List Par), k ≤ n ∧ i = .int .i64 k ∧ Hid (parsOf keep (ls.take k) = some ps) ∧ ps.length = k ∧ OwnP wr w.heap.size x ps ∧ Below w.heap.size w wr ∧ w.heap.size ≤ wr.heap.size) (fun _ i _ => n - (intOf i).toNat)
  case atStart => exact ⟨0, [], by omega, rfl, rfl, rfl, OwnP.nil _ _, Below.refl _ _, Nat.le_refl _⟩
  case round =>
    obtain ⟨k, ps, hkn, rfl, hps, hpl, hown, hb, hB⟩ := hrel
    by_cases hlt : k < n
    · have hkl : k < ls.length := by have := HN.out; omega
      obtain ⟨a, hao, hab, hcell⟩ := HC.out k hkl
      have hcell2 := cell_below hb (by rw [add_block]; exact hab) hcell
      have hll := HL.out _ (List.getElem_mem hkl)
      have hcl := cutL_len 61 ls[k]
      subst hao
      clear hcell
      go_wp2_with fail
      refine (cut3_list ls[k] 61 _ (by omega)).mono ?_
      rintro e w' ⟨rfl, q, rfl⟩
      have hown1 := hown.below (below_drewN _ q)
      have hb1 := hb.trans ((below_drewN _ q).mono hB)
      go_wp2_with fail
      refine (written_list (cutL 61 ls[k]).1 keep _ (by omega) hk).mono ?_
      rintro e w3 ⟨rfl, hw3⟩
      have hown3 := hown1.below hw3
      have hb3 := hb1.trans (hw3.mono hb1.size)
      go_wp2_with fail
      refine (written_list (cutL 61 ls[k]).2.1 keep _ (by omega) hk).mono ?_
      rintro e w4 ⟨rfl, hw4⟩
      have hown4 := hown3.below hw4
      have hb4 := hb3.trans (hw4.mono hb3.size)
      have hB4 := hb4.size
      clear hown hown1 hown3 hb hb1 hb3 hw3 hw4 hB hcell2
      have hsn : parsOf keep (ls.take (k + 1)) = match parsOf keep (ls.take k), parOf keep ls[k] with | some ps, some p => some (ps ++ [p]) | _, _ => none := by
        rw [List.take_succ_eq_append_getElem hkl, parsOf_snoc]
      rw [hps.out] at hsn
      have hpbad := @parsOf_bad keep ls k hkl
      have hpsome := @parOf_some keep ls[k]
      have hpnone := @parOf_none keep ls[k]
      generalize cutL 61 ls[k] = c3 at hpsome hpnone ⊢
      obtain ⟨ca, cb, cc⟩ := c3
      simp only at hpsome hpnone ⊢
      generalize writtenV keep ca = wa at hpsome hpnone ⊢
      generalize writtenV keep cb = wb at hpsome hpnone ⊢
      obtain ⟨na, ha⟩ := wa
      obtain ⟨nb, hbb⟩ := wb
      simp only at hpsome hpnone ⊢
      have HPB : Hid _ := hpbad; clear hpbad
      have HPN : Hid _ := hpnone; clear hpnone
      have HPS : Hid _ := hpsome; clear hpsome
      have HSN : Hid _ := hsn; clear hsn
      cases ha with
      | false =>
        have hnone : Hid (parsOf keep ls = none) := HPB.out (HPN.out (by simp))
        go_wp2
        go_ret2
        first | exact ⟨.slice none 0 0, false, rfl, Or.inr ⟨hnone.out, rfl, rfl⟩, hb4⟩ | exact ⟨.slice none 0 0, Or.inl ⟨rfl, Or.inr ⟨hnone.out, rfl, rfl⟩, hb4⟩⟩
      | true =>
        cases hbb with
        | false =>
          have hnone : Hid (parsOf keep ls = none) := HPB.out (HPN.out (by simp))
          go_wp2
          go_ret2
          first | exact ⟨.slice none 0 0, false, rfl, Or.inr ⟨hnone.out, rfl, rfl⟩, hb4⟩ | exact ⟨.slice none 0 0, Or.inl ⟨rfl, Or.inr ⟨hnone.out, rfl, rfl⟩, hb4⟩⟩
        | true =>
          have hsn2 : Hid (parsOf keep (ls.take (k + 1)) = some (ps ++ [⟨na, nb, cc⟩])) := show _ = _ by rw [HSN.out, HPS.out rfl rfl]
          have hnew : ∀ (j : Nat) (u : Value), (parCells ⟨na, nb, cc⟩)[j]? = some u → (w4.alloc (.cells #[.string ⟨na.toArray⟩, .string ⟨nb.toArray⟩, .bool cc] 66)).cell? ((⟨w4.heap.size, 0, none⟩ : Addr).add j) = some u := by
            intro j u hj
            have e : (⟨w4.heap.size, 0, none⟩ : Addr).add j = ⟨w4.heap.size, j, none⟩ := by unfold Addr.add; split <;> simp_all
            rw [e]
            unfold World.cell?
            rw [heap_alloc_new]
            simpa [parCells] using hj
          have HNW : Hid _ := hnew; clear hnew HSN HPS HPN HPB
          go_wp2_with (at_builtin; refine wp_appP _ rfl (.tmp 48) (.tmp 53) 29 rfl w.heap.size i0 _ Tryd.underlying29 hi hz0 hz1 hz2 rfl _ ps rfl (hown4.alloc _) ⟨w4.heap.size, 0, none⟩ 1 ⟨na, nb, cc⟩ rfl (by exact HNW.out) (by omega) w (hb4.alloc hB4 _) (by simp; omega) ?_; intro v5 w5 hown5 hb5 hB5)
          go_wp2
          go_roundw
          case rel => exact ⟨k + 1, ps ++ [⟨na, nb, cc⟩], by omega, by go_num, hsn2, by simp; omega, hown5, hb5, hB5⟩
          case measure => simp [intOf]; omega
    · have hend : Hid (parsOf keep ls = some ps) := show _ = _ by
        have h := hps.out
        have e := HN.out
        rw [List.take_of_length_le (by omega)] at h; exact h
      clear hps
      go_wp2
      go_ret2
      first | exact ⟨_, _, rfl, Or.inl ⟨ps, hend.out, rfl, hown⟩, hb⟩ | exact ⟨_, Or.inr ⟨rfl, Or.inl ⟨ps, hend.out, rfl, hown⟩, hb⟩⟩

end Go.Proofs.YtfdcklekjnihjaaDoor
