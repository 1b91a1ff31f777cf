/-
  The contract of the document's own Fields.
-/
import Derived.Test.YtgboekilhldejaaGreatDoorAFields
import Derived.Test.YtgboekilhldejaaGreatDoorBaseM
namespace Go.Proofs.YtgboekilhldejaaGreatDoor
open Go.RowKit Sc
set_option linter.unusedVariables false
set_option maxRecDepth 20000

theorem cut3_of {r a b : List UInt8} {f : Bool} {c : UInt8} (h : cutL c r = (a, b, f)) (w : World) (hs : r.length ≤ 9223372036854775807) :
    Calls Tryz.prog 27 #[.string ⟨r.toArray⟩, .int .u8 c.toNat] w fun e w' => e = .returned (.tuple #[.string ⟨a.toArray⟩, .string ⟨b.toArray⟩, .bool f]) ∧ Below w.heap.size w w' := by
  have k := cut3_list r c w hs
  rw [h] at k
  refine k.mono ?_
  rintro e w' ⟨rfl, q, rfl⟩
  exact ⟨rfl, below_drewN w q⟩
theorem head_quo (v : List UInt8) : ((⟨v.toArray⟩ : ByteArray).size = 0 ∧ quoB v = false) ∨ (∃ h : 0 < (⟨v.toArray⟩ : ByteArray).size, ((((⟨v.toArray⟩ : ByteArray)[0]'h).toNat : Int) == 34) = quoB v) := by
  cases v with
  | nil => exact Or.inl ⟨rfl, rfl⟩
  | cons b r =>
    refine Or.inr ⟨by rw [size_list]; simp, ?_⟩
    show ((b.toNat : Int) == 34) = quoB (b :: r)
    revert b
    have : ∀ b : UInt8, ((b.toNat : Int) == 34) = (some b == some 34) := by apply byte_all; decide +kernel
    exact this

set_option maxHeartbeats 1000000 in
set_option maxRecDepth 100000 in
theorem reffields_any (v : Value) (ls : List (List UInt8)) (w : World) (hl : ∀ l ∈ ls, l.length ≤ 1048576) (hv : StrsAt w v ls) :
    Calls Tryz.prog 9 #[v] w fun e w' => ∃ v' n, e = .returned (.tuple #[v', .int .i64 n]) ∧ FieldsRes ls w w' v' n ∧ Below w.heap.size w w' := by
  obtain ⟨i0, hi, hz0, hz1, hz2⟩ := info_parts infoPar
  obtain ⟨ao, cap, rfl, hc⟩ := hv
  have HC := hid hc; clear hc
  have HL := hid hl; clear hl
  obtain ⟨n, hn'⟩ : ∃ n, n = ls.length := ⟨_, rfl⟩
  rw [← hn']
  by_cases h16 : n ≤ 16
  · have hbad : Hid (fieldsG [] ls = none → fieldsV ls = ([], 34)) := fun h => fieldsV_bad (by omega) h
    have hgood : Hid (∀ ps, fieldsG [] ls = some ps → fieldsV ls = (ps, 0)) := fun ps h => fieldsV_ok (by omega) h
    have HN := hid hn'; clear hn'
    go_enter Tryz.func9, Tryz.ntmps9
    go_wp2
    go_loopw [4, 5] (fun x i wr => ∃ (k : Nat) (out : List Par), k ≤ n ∧ i = .int .i64 k ∧ Hid (fieldsG [] ls = fieldsG out (ls.drop k)) ∧ Hid (out.length = k) ∧ Hid (SmallP 140737488355328 out) ∧ Hid (OwnP wr w.heap.size x out) ∧ Below w.heap.size w wr ∧ w.heap.size ≤ wr.heap.size) (fun _ i _ => n - (intOf i).toNat)
    case atStart => exact ⟨0, [], by omega, rfl, rfl, hid rfl, hid ⟨by simp, by simp⟩, OwnP.nil _ _, Below.refl _ _, Nat.le_refl _⟩
    case round =>
      obtain ⟨k, out, hkn, rfl, hps, hpl, hsm, hown, hb, hB⟩ := hrel
      by_cases hlt : k < n
      · have hkl : k < ls.length := by have := HN.out; omega
        obtain ⟨a, hao, hab, hcell⟩ := HC.out k hkl
        have hcell2 := cell_below hb (by rw [add_block]; exact hab) hcell
        have hll := HL.out _ (List.getElem_mem hkl)
        subst hao
        clear hcell
        have hon := hid (fun p => @fields_on ls out k p hkl hps.out)
        have hno := hid (@fields_none ls out k hkl hps.out)
        have hnot := hid (fun p => @fields_not ls out k p hkl hps.out)
        have hy := @fieldOf_yes ls[k]
        have hnn := @fieldOf_no ls[k]
        have hfl := fieldR_len hll
        have hcl := cutL_len 61 ls[k]
        obtain ⟨ca, cb, hs, hcut⟩ : ∃ ca cb cc, cutL 61 ls[k] = (ca, cb, cc) := ⟨_, _, _, rfl⟩
        rw [hcut] at hcl
        simp only at hcl
        have hfv := fieldR_of hcut
        have hta := trimL_len ca
        have htb := trimL_len cb
        have KC := hid (fun w' => cut3_of hcut w' (by omega))
        have KA := hid (fun w' => reftrim_list ca w' (by omega))
        have KB := hid (fun w' => reftrim_list cb w' (by omega))
        have KU := hid (fun w' => refunquote_list (trimL cb) w' (by omega))
        have KW := hid (fun w' => refword_any (trimL cb) w' (by omega))
        have hq0 := head_quo (trimL cb)
        clear hcut hps
        generalize trimL ca = nm at hfv hta KA
        generalize trimL cb = vl at hfv htb KB KU KW hq0
        generalize hsb : (⟨vl.toArray⟩ : ByteArray) = vb at KB KU KW hq0
        have HSB := hid hsb; clear hsb
        rw [hfv] at hy hnn hfl
        obtain ⟨xa, xc, hxe⟩ := hown.out.parsAt.form
        subst hxe
        clear hfv
        go_wp2_with fail
        refine (KC.out _).mono ?_
        rintro e w1 ⟨rfl, hw1⟩
        have hown1 := hid (hown.out.below hw1)
        have hb1 := hb.trans (hw1.mono hB)
        have hB1 := hb1.size
        clear hown hw1 KC hb hB hcell2
        go_wp2_with fail
        refine (KB.out _).mono ?_
        rintro e w2 ⟨rfl, rfl⟩
        clear KB
        have hqcase : quoB vl = true → Hid (∃ h : 0 < vb.size, (((vb[0]'h).toNat : Int) == 34) = true) := fun h => by
          rcases hq0 with ⟨_, h2⟩ | ⟨h1, h2⟩
          · rw [h] at h2; cases h2
          · exact ⟨h1, by rw [h2, h]⟩
        cases hqb : quoB vl with
        | true =>
          obtain ⟨hpos, e34⟩ := (hqcase hqb).out
          rw [hqb, if_pos rfl] at hy hnn hfl
          clear hq0 hqcase hqb KW
          generalize unquoteV vl = u at KU hy hnn hfl
          obtain ⟨ut, un⟩ := u
          simp only at KU hy hnn hfl
          go_wp2_with fail
          refine (KU.out _).mono ?_
          rintro e w3 ⟨rfl, hw3⟩
          have hown3 := hid (hown1.out.below hw3)
          have hb3 := hb1.trans (hw3.mono hb1.size)
          have hB3 := hb3.size
          clear hown1 hb1 hw3 KU e34
          by_cases hun : un = 0
          · subst hun
            have KM := hid (fun (x : Value) (w' : World) (h : ParsAt w' x out) => refmay_any ⟨nm, ut, hs⟩ x out w' (by simp only; omega) (by simp only; omega) hsm.out h)
            unfold parV at KM
            simp only at KM
            have hnm := hid (hnot.out _ (hy rfl))
            have hye := hid (hon.out _ (hy rfl))
            have hss := hid (@small_snoc out ⟨nm, ut, hs⟩ hsm.out (by have := hpl.out; omega))
            clear hy hnn hno hnot hon hfl
            go_wp2_with fail
            refine (KA.out _).mono ?_
            rintro e w4 ⟨rfl, rfl⟩
            clear KA
            have hA := (Below.refl _ w4).alloc (Nat.le_refl _) (.cells #[.string ⟨nm.toArray⟩, .string ⟨ut.toArray⟩, .bool hs] 59)
            have hbx := boxP_new w4 ⟨nm, ut, hs⟩ 59
            have hltx := alloc_lt w4 (.cells #[.string ⟨nm.toArray⟩, .string ⟨ut.toArray⟩, .bool hs] 59)
            have hown4 := hid (hown3.out.below hA)
            have hb4 := hb3.alloc hB3 (.cells #[.string ⟨nm.toArray⟩, .string ⟨ut.toArray⟩, .bool hs] 59)
            have HBX := hid hbx
            obtain ⟨x0, x1, x2⟩ := hbx
            simp only at x0 x1 x2
            clear hown3 hA hb3
            go_wp2_with fail
            refine (KM.out _ _ hown4.out.parsAt).mono ?_
            rintro e w5 ⟨rfl, hw5⟩
            have hown5 := hown4.out.below hw5
            have HB5 := BoxP.below HBX.out hw5 hltx
            have hb5 := hb4.trans (hw5.mono hb4.size)
            clear hown4 HBX hw5 hb4 hltx KM x0 x1 x2
            cases hmay : mayB out ⟨nm, ut, hs⟩ with
            | false =>
              have hnone : Hid (fieldsV ls = ([], 34)) := hbad.out (hnm.out hmay)
              clear hnm hye hss hmay
              go_wp2
              go_ret2
              exact ⟨_, _, rfl, fres_bad hnone.out, hb5⟩
            | true =>
              have hnext := hid (hye.out hmay)
              have hsm2 := hid (hss.out hmay)
              have hB5 := hb5.size
              clear hnm hye hss hmay hsm
              obtain ⟨x0, x1, x2⟩ := HB5
              simp only at x0 x1 x2
              have HNW := hid (new_par w5 ⟨nm, ut, hs⟩ 59)
              go_wp2_with (at_builtin; refine wp_appP _ rfl (.tmp 64) (.tmp 66) 23 rfl w.heap.size i0 _ Tryz.underlying23 hi hz0 hz1 hz2 rfl _ out rfl (hown5.alloc _) ⟨w5.heap.size, 0, none⟩ 1 ⟨nm, ut, hs⟩ rfl (by exact HNW.out) (by have := hpl.out; omega) w (hb5.alloc hB5 _) (by simp; omega) ?_; intro v6 w6 hown6 hb6 hB6)
              have HO6 := hid hown6
              clear hown6
              go_wp2
              go_roundw
              case rel => exact ⟨k + 1, out ++ [⟨nm, ut, hs⟩], by omega, by go_num, hnext, hid (by have := hpl.out; simp; omega), hsm2, HO6, hb6, hB6⟩
              case measure => simp [intOf]; omega
          · have hne : (un != 0) = true := by simpa using hun
            have hne2 : (un == 0) = false := by simpa using hun
            have hnone : Hid (fieldsV ls = ([], 34)) := hbad.out (hno.out (hnn (by rw [hne2])))
            clear hy hnn hno hnot hon hfl
            go_wp2
            go_ret2
            exact ⟨_, _, rfl, fres_bad hnone.out, hb3⟩
        | false =>
          rw [hqb, if_neg (by simp)] at hy hnn hfl
          rcases hq0 with ⟨hz, _⟩ | ⟨hpos, e34⟩
          all_goals (
            try rw [hqb] at e34
            clear hqcase hqb KU
            cases hs with
            | false =>
              have KM := hid (fun (x : Value) (w' : World) (h : ParsAt w' x out) => refmay_any ⟨nm, vl, false⟩ x out w' (by simp only; omega) (by simp only; omega) hsm.out h)
              unfold parV at KM
              simp only at KM
              have hnm := hid (hnot.out _ (hy rfl))
              have hye := hid (hon.out _ (hy rfl))
              have hss := hid (@small_snoc out ⟨nm, vl, false⟩ hsm.out (by have := hpl.out; omega))
              clear hy hnn hno hnot hon hfl
              go_wp2_with fail
              refine (KA.out _).mono ?_
              rintro e w4 ⟨rfl, rfl⟩
              clear KA
              have hsb := HSB.out
              subst hsb
              have hA := (Below.refl _ w4).alloc (Nat.le_refl _) (.cells #[.string ⟨nm.toArray⟩, .string ⟨vl.toArray⟩, .bool false] 59)
              have hbx := boxP_new w4 ⟨nm, vl, false⟩ 59
              have hltx := alloc_lt w4 (.cells #[.string ⟨nm.toArray⟩, .string ⟨vl.toArray⟩, .bool false] 59)
              have hown4 := hid (hown1.out.below hA)
              have hb4 := hb1.alloc hB1 (.cells #[.string ⟨nm.toArray⟩, .string ⟨vl.toArray⟩, .bool false] 59)
              have HBX := hid hbx
              obtain ⟨x0, x1, x2⟩ := hbx
              simp only at x0 x1 x2
              clear hown1 hA hb1
              go_wp2_with fail
              refine (KM.out _ _ hown4.out.parsAt).mono ?_
              rintro e w5 ⟨rfl, hw5⟩
              have hown5 := hown4.out.below hw5
              have HB5 := BoxP.below HBX.out hw5 hltx
              have hb5 := hb4.trans (hw5.mono hb4.size)
              clear hown4 HBX hw5 hb4 hltx KM x0 x1 x2
              cases hmay : mayB out ⟨nm, vl, false⟩ with
              | false =>
                have hnone : Hid (fieldsV ls = ([], 34)) := hbad.out (hnm.out hmay)
                clear hnm hye hss hmay
                go_wp2
                go_ret2
                exact ⟨_, _, rfl, fres_bad hnone.out, hb5⟩
              | true =>
                have hnext := hid (hye.out hmay)
                have hsm2 := hid (hss.out hmay)
                have hB5 := hb5.size
                clear hnm hye hss hmay hsm
                obtain ⟨x0, x1, x2⟩ := HB5
                simp only at x0 x1 x2
                have HNW := hid (new_par w5 ⟨nm, vl, false⟩ 59)
                go_wp2_with (at_builtin; refine wp_appP _ rfl (.tmp 64) (.tmp 66) 23 rfl w.heap.size i0 _ Tryz.underlying23 hi hz0 hz1 hz2 rfl _ out rfl (hown5.alloc _) ⟨w5.heap.size, 0, none⟩ 1 ⟨nm, vl, false⟩ rfl (by exact HNW.out) (by have := hpl.out; omega) w (hb5.alloc hB5 _) (by simp; omega) ?_; intro v6 w6 hown6 hb6 hB6)
                have HO6 := hid hown6
                clear hown6
                go_wp2
                go_roundw
                case rel => exact ⟨k + 1, out ++ [⟨nm, vl, false⟩], by omega, by go_num, hnext, hid (by have := hpl.out; simp; omega), hsm2, HO6, hb6, hB6⟩
                case measure => simp [intOf]; omega
            | true =>
              cases hwb : wordB vl with
              | true =>
                rw [hwb] at KW hy hnn hfl
                go_wp2_with fail
                refine (KW.out _).mono ?_
                rintro e w3 ⟨rfl, hw3⟩
                have hown3 := hid (hown1.out.below hw3)
                have hb3 := hb1.trans (hw3.mono hb1.size)
                have hB3 := hb3.size
                clear hown1 hb1 hw3 KW hwb
                have KM := hid (fun (x : Value) (w' : World) (h : ParsAt w' x out) => refmay_any ⟨nm, vl, true⟩ x out w' (by simp only; omega) (by simp only; omega) hsm.out h)
                unfold parV at KM
                simp only at KM
                have hnm := hid (hnot.out _ (hy rfl))
                have hye := hid (hon.out _ (hy rfl))
                have hss := hid (@small_snoc out ⟨nm, vl, true⟩ hsm.out (by have := hpl.out; omega))
                clear hy hnn hno hnot hon hfl
                go_wp2_with fail
                refine (KA.out _).mono ?_
                rintro e w4 ⟨rfl, rfl⟩
                clear KA
                have hsb := HSB.out
                subst hsb
                have hA := (Below.refl _ w4).alloc (Nat.le_refl _) (.cells #[.string ⟨nm.toArray⟩, .string ⟨vl.toArray⟩, .bool true] 59)
                have hbx := boxP_new w4 ⟨nm, vl, true⟩ 59
                have hltx := alloc_lt w4 (.cells #[.string ⟨nm.toArray⟩, .string ⟨vl.toArray⟩, .bool true] 59)
                have hown4 := hid (hown3.out.below hA)
                have hb4 := hb3.alloc hB3 (.cells #[.string ⟨nm.toArray⟩, .string ⟨vl.toArray⟩, .bool true] 59)
                have HBX := hid hbx
                obtain ⟨x0, x1, x2⟩ := hbx
                simp only at x0 x1 x2
                clear hown3 hA hb3
                go_wp2_with fail
                refine (KM.out _ _ hown4.out.parsAt).mono ?_
                rintro e w5 ⟨rfl, hw5⟩
                have hown5 := hown4.out.below hw5
                have HB5 := BoxP.below HBX.out hw5 hltx
                have hb5 := hb4.trans (hw5.mono hb4.size)
                clear hown4 HBX hw5 hb4 hltx KM x0 x1 x2
                cases hmay : mayB out ⟨nm, vl, true⟩ with
                | false =>
                  have hnone : Hid (fieldsV ls = ([], 34)) := hbad.out (hnm.out hmay)
                  clear hnm hye hss hmay
                  go_wp2
                  go_ret2
                  exact ⟨_, _, rfl, fres_bad hnone.out, hb5⟩
                | true =>
                  have hnext := hid (hye.out hmay)
                  have hsm2 := hid (hss.out hmay)
                  have hB5 := hb5.size
                  clear hnm hye hss hmay hsm
                  obtain ⟨x0, x1, x2⟩ := HB5
                  simp only at x0 x1 x2
                  have HNW := hid (new_par w5 ⟨nm, vl, true⟩ 59)
                  go_wp2_with (at_builtin; refine wp_appP _ rfl (.tmp 64) (.tmp 66) 23 rfl w.heap.size i0 _ Tryz.underlying23 hi hz0 hz1 hz2 rfl _ out rfl (hown5.alloc _) ⟨w5.heap.size, 0, none⟩ 1 ⟨nm, vl, true⟩ rfl (by exact HNW.out) (by have := hpl.out; omega) w (hb5.alloc hB5 _) (by simp; omega) ?_; intro v6 w6 hown6 hb6 hB6)
                  have HO6 := hid hown6
                  clear hown6
                  go_wp2
                  go_roundw
                  case rel => exact ⟨k + 1, out ++ [⟨nm, vl, true⟩], by omega, by go_num, hnext, hid (by have := hpl.out; simp; omega), hsm2, HO6, hb6, hB6⟩
                  case measure => simp [intOf]; omega
              | false =>
                rw [hwb] at KW hy hnn hfl
                go_wp2_with fail
                refine (KW.out _).mono ?_
                rintro e w3 ⟨rfl, hw3⟩
                have hb3 := hb1.trans (hw3.mono hb1.size)
                clear hown1 hb1 hw3 KW hwb
                have hnone : Hid (fieldsV ls = ([], 34)) := hbad.out (hno.out (hnn rfl))
                clear hy hnn hno hnot hon hfl
                go_wp2
                go_ret2
                exact ⟨_, _, rfl, fres_bad hnone.out, hb3⟩)
      · have hend : Hid (fieldsV ls = (out, 0)) := hgood.out out (by
          have h := hps.out
          have e := HN.out
          rw [List.drop_of_length_le (by omega)] at h; exact h)
        clear hps
        go_wp2
        go_ret2
        exact ⟨_, _, rfl, ⟨by rw [hend.out], by rw [hend.out]; exact hown.out⟩, hb⟩
  · have hmany : Hid (fieldsV ls = ([], 4)) := fieldsV_many (by omega)
    have h16' : (16 : Int) < (n : Int) := by omega
    clear hn'
    go_enter Tryz.func9, Tryz.ntmps9
    go_wp2
    go_ret2
    exact ⟨_, _, rfl, ⟨by rw [hmany.out], by rw [hmany.out]; exact OwnP.nil _ _⟩, Below.refl _ _⟩

end Go.Proofs.YtgboekilhldejaaGreatDoor
