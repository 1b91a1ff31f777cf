/-
  Contracts: Fields, of package addr and of the document.
-/
import Derived.Test.YtgboekilhldejaaGreatDoorAField
namespace Go.Proofs.YtgboekilhldejaaGreatDoor
open Go.RowKit Sc
set_option linter.unusedVariables false
set_option maxRecDepth 20000

theorem unq_len : ∀ (n : Nat) (l r : List UInt8), l.length ≤ n → unq l = some r → r.length ≤ l.length
  | 0, l, r, hl, h => by
    obtain rfl := List.eq_nil_of_length_eq_zero (Nat.le_zero.1 hl)
    simp [unq] at h; subst h; simp
  | n + 1, [], r, hl, h => by simp [unq] at h; subst h; simp
  | n + 1, [b], r, hl, h => by
    rw [unq] at h
    split at h
    · simp at h; subst h; simp
    · simp at h
  | n + 1, b :: c :: r', r, hl, h => by
    rw [unq] at h
    split at h
    · split at h
      · simp at h
      · simp only [Option.map_eq_some_iff] at h
        obtain ⟨x, hx, rfl⟩ := h
        have := unq_len n r' x (by simp at hl; omega) hx
        simp; omega
    · split at h
      · simp only [Option.map_eq_some_iff] at h
        obtain ⟨x, hx, rfl⟩ := h
        have := unq_len n (c :: r') x (by simp at hl ⊢; omega) hx
        simp at this ⊢; omega
      · simp at h
theorem unqV_len (l : List UInt8) : (unquoteV l).1.length ≤ l.length := by
  unfold unquoteV
  split
  · simp
  · split
    · rename_i x hx
      have := unq_len _ _ _ (Nat.le_refl _) hx
      have h2 : (mid l 1 (l.length - 1)).length ≤ l.length := by unfold mid; simp; omega
      simp; omega
    · simp
theorem fieldR_len {q : List UInt8} (h : q.length ≤ 1048576) : (fieldR q).1.name.length ≤ 1048576 ∧ (fieldR q).1.value.length ≤ 1048576 := by
  have hcl := cutL_len 61 q
  unfold fieldR
  have h1 := trimL_len (cutL 61 q).1
  have h2 := trimL_len (cutL 61 q).2.1
  have h3 := unqV_len (trimL (cutL 61 q).2.1)
  split <;> simp <;> omega
theorem small_snoc {ps : List Par} {p : Par} (h : SmallP 140737488355328 ps) (hl : ps.length ≤ 16) (hm : mayB ps p = true) : SmallP 140737488355328 (ps ++ [p]) := by
  obtain ⟨m1, _, m3, _, _⟩ := may_facts hm
  obtain ⟨_, t2, _⟩ := tok_facts m1
  refine ⟨by simp; omega, fun x hx => ?_⟩
  rcases List.mem_append.1 hx with hx | hx
  · exact h.2 x hx
  · obtain rfl := List.mem_singleton.1 hx
    omega
theorem fieldOf_yes {q : List UInt8} {p : Par} (h : fieldR q = (p, true)) : fieldOf q = some p := by rw [fieldOf_R, h]; rfl
theorem fieldOf_no {q : List UInt8} {p : Par} (h : fieldR q = (p, false)) : fieldOf q = none := by rw [fieldOf_R, h]; rfl
def FieldsRes (ls : List (List UInt8)) (w w' : World) (v : Value) (n : Int) : Prop := n = (fieldsV ls).2 ∧ OwnP w' w.heap.size v (fieldsV ls).1
theorem fres_bad {ls : List (List UInt8)} {w w' : World} (h : fieldsV ls = ([], 34)) : FieldsRes ls w w' (.slice none 0 0) 34 := ⟨by rw [h], by rw [h]; exact OwnP.nil _ _⟩
theorem new_par (w4 : World) (p : Par) (t : TypeId) : ∀ (j : Nat) (u : Value), (parCells p)[j]? = some u → (w4.alloc (.cells #[.string ⟨p.name.toArray⟩, .string ⟨p.value.toArray⟩, .bool p.has] t)).cell? ((⟨w4.heap.size, 0, none⟩ : Addr).add j) = some u := by
  intro j u hj
  have e : (⟨w4.heap.size, 0, none⟩ : Addr).add j = ⟨w4.heap.size, j, none⟩ := by unfold Addr.add; split <;> simp_all
  rw [e]
  unfold World.cell?
  rw [heap_alloc_new]
  simpa [parCells] using hj

set_option maxHeartbeats 400000 in
set_option maxRecDepth 100000 in
theorem afields_any (v : Value) (ls : List (List UInt8)) (w : World) (hl : ∀ l ∈ ls, l.length ≤ 1048576) (hv : StrsAt w v ls) :
    Calls Tryz.prog 8 #[v] w fun e w' => ∃ v' n, e = .returned (.tuple #[v', .int .i64 n]) ∧ FieldsRes ls w w' v' n ∧ Below w.heap.size w w' := by
  obtain ⟨i0, hi, hz0, hz1, hz2⟩ := info_parts infoPar
  obtain ⟨ao, cap, rfl, hc⟩ := hv
  have HC := hid hc; clear hc
  have HL := hid hl; clear hl
  obtain ⟨n, hn'⟩ : ∃ n, n = ls.length := ⟨_, rfl⟩
  rw [← hn']
  by_cases h16 : n ≤ 16
  · have hbad : Hid (fieldsG [] ls = none → fieldsV ls = ([], 34)) := fun h => fieldsV_bad (by omega) h
    have hgood : Hid (∀ ps, fieldsG [] ls = some ps → fieldsV ls = (ps, 0)) := fun ps h => fieldsV_ok (by omega) h
    have HN := hid hn'; clear hn'
    go_enter Tryz.func8, Tryz.ntmps8
    go_wp2
    go_loopw [4, 14] (fun x i wr => ∃ (k : Nat) (out : List Par), k ≤ n ∧ i = .int .i64 k ∧ Hid (fieldsG [] ls = fieldsG out (ls.drop k)) ∧ Hid (out.length = k) ∧ Hid (SmallP 140737488355328 out) ∧ Hid (OwnP wr w.heap.size x out) ∧ Below w.heap.size w wr ∧ w.heap.size ≤ wr.heap.size) (fun _ i _ => n - (intOf i).toNat)
    case atStart => exact ⟨0, [], by omega, rfl, rfl, hid rfl, hid ⟨by simp, by simp⟩, OwnP.nil _ _, Below.refl _ _, Nat.le_refl _⟩
    case round =>
      obtain ⟨k, out, hkn, rfl, hps, hpl, hsm, hown, hb, hB⟩ := hrel
      by_cases hlt : k < n
      · have hkl : k < ls.length := by have := HN.out; omega
        obtain ⟨a, hao, hab, hcell⟩ := HC.out k hkl
        have hcell2 := cell_below hb (by rw [add_block]; exact hab) hcell
        have hll := HL.out _ (List.getElem_mem hkl)
        subst hao
        clear hcell
        have hfl := fieldR_len hll
        have KF := hid (fun w' => field_any ls[k] w' hll)
        have hon := @fields_on ls out k
        have hno := @fields_none ls out k hkl hps.out
        have hnot := @fields_not ls out k
        have hy := @fieldOf_yes ls[k]
        have hnn := @fieldOf_no ls[k]
        generalize fieldR ls[k] = fr at KF hy hnn hfl
        obtain ⟨⟨pn, pv, ph⟩, pb⟩ := fr
        simp only at hfl
        unfold parV at KF
        simp only at KF
        cases pb with
        | false =>
          have hnone : Hid (fieldsV ls = ([], 34)) := hbad.out (hno (hnn rfl))
          clear hon hno hnot hy hnn
          go_wp2_with fail
          refine (KF.out _).mono ?_
          rintro e w1 ⟨rfl, hw1⟩
          have hb1 := (hb.trans (hw1.mono hB)).alloc (Nat.le_trans hB hw1.size) (.cells #[.string ⟨pn.toArray⟩, .string ⟨pv.toArray⟩, .bool ph] 59)
          go_wp2
          go_ret2
          exact ⟨_, _, rfl, fres_bad hnone.out, hb1⟩
        | true =>
          have KM := hid (fun (x : Value) (w' : World) (h : ParsAt w' x out) => mayStand_any ⟨pn, pv, ph⟩ x out w' (by simp only; omega) (by simp only; omega) hsm.out h)
          unfold parV at KM
          simp only at KM
          have hnm := hnot hkl hps.out (hy rfl)
          have hyes := hon hkl hps.out (hy rfl)
          have hss := @small_snoc out ⟨pn, pv, ph⟩ hsm.out (by have := hpl.out; omega)
          clear hon hno hnot hy hnn hps
          obtain ⟨xa, xc, hxe⟩ := hown.out.parsAt.form
          subst hxe
          go_wp2_with fail
          refine (KF.out _).mono ?_
          rintro e w1 ⟨rfl, hw1⟩
          have hA := (Below.refl _ w1).alloc (Nat.le_refl _) (.cells #[.string ⟨pn.toArray⟩, .string ⟨pv.toArray⟩, .bool ph] 59)
          have hbx := boxP_new w1 ⟨pn, pv, ph⟩ 59
          have hltx := alloc_lt w1 (.cells #[.string ⟨pn.toArray⟩, .string ⟨pv.toArray⟩, .bool ph] 59)
          have hown1 := hid ((hown.out.below hw1).below hA)
          have hb1 := (hb.trans (hw1.mono hB)).alloc (Nat.le_trans hB hw1.size) (.cells #[.string ⟨pn.toArray⟩, .string ⟨pv.toArray⟩, .bool ph] 59)
          have HBX := hid hbx
          obtain ⟨x0, x1, x2⟩ := hbx
          simp only at x0 x1 x2
          clear hown hw1 hA KF hb
          go_wp2_with fail
          refine (KM.out _ _ hown1.out.parsAt).mono ?_
          rintro e w2 ⟨rfl, hw2⟩
          have hown2 := hown1.out.below hw2
          have HB2 := BoxP.below HBX.out hw2 hltx
          have hb2 := hb1.trans (hw2.mono hb1.size)
          clear hown1 HBX hw2 hb1 hltx KM x0 x1 x2
          cases hmay : mayB out ⟨pn, pv, ph⟩ with
          | false =>
            have hnone : Hid (fieldsV ls = ([], 34)) := hbad.out (hnm hmay)
            clear hnm hyes hss hmay
            go_wp2
            go_ret2
            exact ⟨_, _, rfl, fres_bad hnone.out, hb2⟩
          | true =>
            have hnext := hid (hyes hmay)
            have hsm2 := hid (hss hmay)
            have hB2 := hb2.size
            clear hnm hyes hss hmay hsm
            obtain ⟨x0, x1, x2⟩ := HB2
            simp only at x0 x1 x2
            have HNW := hid (new_par w2 ⟨pn, pv, ph⟩ 59)
            go_wp2_with (at_builtin; refine wp_appP _ rfl (.tmp 31) (.tmp 33) 23 rfl w.heap.size i0 _ Tryz.underlying23 hi hz0 hz1 hz2 rfl _ out rfl (hown2.alloc _) ⟨w2.heap.size, 0, none⟩ 1 ⟨pn, pv, ph⟩ rfl (by exact HNW.out) (by have := hpl.out; omega) w (hb2.alloc hB2 _) (by simp; omega) ?_; intro v5 w5 hown5 hb5 hB5)
            have HO5 := hid hown5
            clear hown5
            go_wp2
            go_roundw
            case rel => exact ⟨k + 1, out ++ [⟨pn, pv, ph⟩], by omega, by go_num, hnext, hid (by have := hpl.out; simp; omega), hsm2, HO5, hb5, hB5⟩
            case measure => simp [intOf]; omega
      · have hend : Hid (fieldsV ls = (out, 0)) := hgood.out out (by
          have h := hps.out
          have e := HN.out
          rw [List.drop_of_length_le (by omega)] at h; exact h)
        clear hps
        go_wp2
        go_ret2
        exact ⟨_, _, rfl, ⟨by rw [hend.out], by rw [hend.out]; exact hown.out⟩, hb⟩
  · have hmany : Hid (fieldsV ls = ([], 4)) := fieldsV_many (by omega)
    have h16' : (16 : Int) < (n : Int) := by omega
    clear hn'
    go_enter Tryz.func8, Tryz.ntmps8
    go_wp2
    go_ret2
    exact ⟨_, _, rfl, ⟨by rw [hmany.out], by rw [hmany.out]; exact OwnP.nil _ _⟩, Below.refl _ _⟩

end Go.Proofs.YtgboekilhldejaaGreatDoor
