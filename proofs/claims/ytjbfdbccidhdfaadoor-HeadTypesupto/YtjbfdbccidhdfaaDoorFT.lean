/-
  Base texts, one behind another: RefFields, RText.
-/
import Derived.Test.YtjbfdbccidhdfaaDoorFR
import Derived.Test.YtjbfdbccidhdfaaDoorAText

/-
  The contract of the document's own Fields.
-/
namespace Go.Proofs.YtjbfdbccidhdfaaDoor
open Go.RowKit Sc
set_option linter.unusedVariables false
set_option maxRecDepth 20000

theorem cut3_of {r a b : List UInt8} {f : Bool} {c : UInt8} (h : cutL c r = (a, b, f)) (w : World) (hs : r.length ≤ 9223372036854775807) :
    Calls Tryd.prog 59 #[.string ⟨r.toArray⟩, .int .u8 c.toNat] w fun e w' => e = .returned (.tuple #[.string ⟨a.toArray⟩, .string ⟨b.toArray⟩, .bool f]) ∧ Below w.heap.size w w' := by
  have k := cut3_list r c w hs
  rw [h] at k
  refine k.mono ?_
  rintro e w' ⟨rfl, q, rfl⟩
  exact ⟨rfl, below_drewN w q⟩
theorem head_quo (v : List UInt8) : ((⟨v.toArray⟩ : ByteArray).size = 0 ∧ quoB v = false) ∨ (∃ h : 0 < (⟨v.toArray⟩ : ByteArray).size, ((((⟨v.toArray⟩ : ByteArray)[0]'h).toNat : Int) == 34) = quoB v) := by
  cases v with
  | nil => exact Or.inl ⟨rfl, rfl⟩
  | cons b r =>
    refine Or.inr ⟨by rw [size_list]; simp, ?_⟩
    show ((b.toNat : Int) == 34) = quoB (b :: r)
    revert b
    have : ∀ b : UInt8, ((b.toNat : Int) == 34) = (some b == some 34) := by apply byte_all; decide +kernel
    exact this

set_option maxHeartbeats 1000000 in
set_option maxRecDepth 100000 in
theorem reffields_any (v : Value) (ls : List (List UInt8)) (w : World) (hl : ∀ l ∈ ls, l.length ≤ 1048576) (hv : StrsAt w v ls) :
    Calls Tryd.prog 46 #[v] w fun e w' => ∃ v' n, e = .returned (.tuple #[v', .int .i64 n]) ∧ FieldsRes ls w w' v' n ∧ Below w.heap.size w w' := by
  obtain ⟨i0, hi, hz0, hz1, hz2⟩ := info_parts infoPar
  obtain ⟨ao, cap, rfl, hc⟩ := hv
  have HC := hid hc; clear hc
  have HL := hid hl; clear hl
  obtain ⟨n, hn'⟩ : ∃ n, n = ls.length := ⟨_, rfl⟩
  rw [← hn']
  by_cases h16 : n ≤ 16
  · have hbad : Hid (fieldsG [] ls = none → fieldsV ls = ([], 34)) := fun h => fieldsV_bad (by omega) h
    have hgood : Hid (∀ ps, fieldsG [] ls = some ps → fieldsV ls = (ps, 0)) := fun ps h => fieldsV_ok (by omega) h
    have HN := hid hn'; clear hn'
    go_enter Tryd.func46, Tryd.ntmps46
    go_wp2
    go_loopw [4, 5] (fun x i wr => ∃ (k : Nat) (out : List Par), k ≤ n ∧ i = .int .i64 k ∧ Hid (fieldsG [] ls = fieldsG out (ls.drop k)) ∧ Hid (out.length = k) ∧ Hid (SmallP 140737488355328 out) ∧ Hid (OwnP wr w.heap.size x out) ∧ Below w.heap.size w wr ∧ w.heap.size ≤ wr.heap.size) (fun _ i _ => n - (intOf i).toNat)
    case atStart => exact ⟨0, [], by omega, rfl, rfl, hid rfl, hid ⟨by simp, by simp⟩, OwnP.nil _ _, Below.refl _ _, Nat.le_refl _⟩
    case round =>
      obtain ⟨k, out, hkn, rfl, hps, hpl, hsm, hown, hb, hB⟩ := hrel
      by_cases hlt : k < n
      · have hkl : k < ls.length := by have := HN.out; omega
        obtain ⟨a, hao, hab, hcell⟩ := HC.out k hkl
        have hcell2 := cell_below hb (by rw [add_block]; exact hab) hcell
        have hll := HL.out _ (List.getElem_mem hkl)
        subst hao
        clear hcell
        have hon := hid (fun p => @fields_on ls out k p hkl hps.out)
        have hno := hid (@fields_none ls out k hkl hps.out)
        have hnot := hid (fun p => @fields_not ls out k p hkl hps.out)
        have hy := @fieldOf_yes ls[k]
        have hnn := @fieldOf_no ls[k]
        have hfl := fieldR_len hll
        have hcl := cutL_len 61 ls[k]
        obtain ⟨ca, cb, hs, hcut⟩ : ∃ ca cb cc, cutL 61 ls[k] = (ca, cb, cc) := ⟨_, _, _, rfl⟩
        rw [hcut] at hcl
        simp only at hcl
        have hfv := fieldR_of hcut
        have hta := trimL_len ca
        have htb := trimL_len cb
        have KC := hid (fun w' => cut3_of hcut w' (by omega))
        have KA := hid (fun w' => reftrim_list ca w' (by omega))
        have KB := hid (fun w' => reftrim_list cb w' (by omega))
        have KU := hid (fun w' => refunquote_list (trimL cb) w' (by omega))
        have KW := hid (fun w' => refword_any (trimL cb) w' (by omega))
        have hq0 := head_quo (trimL cb)
        clear hcut hps
        generalize trimL ca = nm at hfv hta KA
        generalize trimL cb = vl at hfv htb KB KU KW hq0
        generalize hsb : (⟨vl.toArray⟩ : ByteArray) = vb at KB KU KW hq0
        have HSB := hid hsb; clear hsb
        rw [hfv] at hy hnn hfl
        obtain ⟨xa, xc, hxe⟩ := hown.out.parsAt.form
        subst hxe
        clear hfv
        go_wp2_with fail
        refine (KC.out _).mono ?_
        rintro e w1 ⟨rfl, hw1⟩
        have hown1 := hid (hown.out.below hw1)
        have hb1 := hb.trans (hw1.mono hB)
        have hB1 := hb1.size
        clear hown hw1 KC hb hB hcell2
        go_wp2_with fail
        refine (KB.out _).mono ?_
        rintro e w2 ⟨rfl, rfl⟩
        clear KB
        have hqcase : quoB vl = true → Hid (∃ h : 0 < vb.size, (((vb[0]'h).toNat : Int) == 34) = true) := fun h => by
          rcases hq0 with ⟨_, h2⟩ | ⟨h1, h2⟩
          · rw [h] at h2; cases h2
          · exact ⟨h1, by rw [h2, h]⟩
        cases hqb : quoB vl with
        | true =>
          obtain ⟨hpos, e34⟩ := (hqcase hqb).out
          rw [hqb, if_pos rfl] at hy hnn hfl
          clear hq0 hqcase hqb KW
          generalize unquoteV vl = u at KU hy hnn hfl
          obtain ⟨ut, un⟩ := u
          simp only at KU hy hnn hfl
          go_wp2_with fail
          refine (KU.out _).mono ?_
          rintro e w3 ⟨rfl, hw3⟩
          have hown3 := hid (hown1.out.below hw3)
          have hb3 := hb1.trans (hw3.mono hb1.size)
          have hB3 := hb3.size
          clear hown1 hb1 hw3 KU e34
          by_cases hun : un = 0
          · subst hun
            have KM := hid (fun (x : Value) (w' : World) (h : ParsAt w' x out) => refmay_any ⟨nm, ut, hs⟩ x out w' (by simp only; omega) (by simp only; omega) hsm.out h)
            unfold parV at KM
            simp only at KM
            have hnm := hid (hnot.out _ (hy rfl))
            have hye := hid (hon.out _ (hy rfl))
            have hss := hid (@small_snoc out ⟨nm, ut, hs⟩ hsm.out (by have := hpl.out; omega))
            clear hy hnn hno hnot hon hfl
            go_wp2_with fail
            refine (KA.out _).mono ?_
            rintro e w4 ⟨rfl, rfl⟩
            clear KA
            have hA := (Below.refl _ w4).alloc (Nat.le_refl _) (.cells #[.string ⟨nm.toArray⟩, .string ⟨ut.toArray⟩, .bool hs] 94)
            have hbx := boxP_new w4 ⟨nm, ut, hs⟩ 94
            have hltx := alloc_lt w4 (.cells #[.string ⟨nm.toArray⟩, .string ⟨ut.toArray⟩, .bool hs] 94)
            have hown4 := hid (hown3.out.below hA)
            have hb4 := hb3.alloc hB3 (.cells #[.string ⟨nm.toArray⟩, .string ⟨ut.toArray⟩, .bool hs] 94)
            have HBX := hid hbx
            obtain ⟨x0, x1, x2⟩ := hbx
            simp only at x0 x1 x2
            clear hown3 hA hb3
            go_wp2_with fail
            refine (KM.out _ _ hown4.out.parsAt).mono ?_
            rintro e w5 ⟨rfl, hw5⟩
            have hown5 := hown4.out.below hw5
            have HB5 := BoxP.below HBX.out hw5 hltx
            have hb5 := hb4.trans (hw5.mono hb4.size)
            clear hown4 HBX hw5 hb4 hltx KM x0 x1 x2
            cases hmay : mayB out ⟨nm, ut, hs⟩ with
            | false =>
              have hnone : Hid (fieldsV ls = ([], 34)) := hbad.out (hnm.out hmay)
              clear hnm hye hss hmay
              go_wp2
              go_ret2
              exact ⟨_, _, rfl, fres_bad hnone.out, hb5⟩
            | true =>
              have hnext := hid (hye.out hmay)
              have hsm2 := hid (hss.out hmay)
              have hB5 := hb5.size
              clear hnm hye hss hmay hsm
              obtain ⟨x0, x1, x2⟩ := HB5
              simp only at x0 x1 x2
              have HNW := hid (new_par w5 ⟨nm, ut, hs⟩ 94)
              go_wp2_with (at_builtin; refine wp_appP _ rfl (.tmp 64) (.tmp 66) 38 rfl w.heap.size i0 _ Tryd.underlying38 hi hz0 hz1 hz2 rfl _ out rfl (hown5.alloc _) ⟨w5.heap.size, 0, none⟩ 1 ⟨nm, ut, hs⟩ rfl (by exact HNW.out) (by have := hpl.out; omega) w (hb5.alloc hB5 _) (by simp; omega) ?_; intro v6 w6 hown6 hb6 hB6)
              have HO6 := hid hown6
              clear hown6
              go_wp2
              go_roundw
              case rel => exact ⟨k + 1, out ++ [⟨nm, ut, hs⟩], by omega, by go_num, hnext, hid (by have := hpl.out; simp; omega), hsm2, HO6, hb6, hB6⟩
              case measure => simp [intOf]; omega
          · have hne : (un != 0) = true := by simpa using hun
            have hne2 : (un == 0) = false := by simpa using hun
            have hnone : Hid (fieldsV ls = ([], 34)) := hbad.out (hno.out (hnn (by rw [hne2])))
            clear hy hnn hno hnot hon hfl
            go_wp2
            go_ret2
            exact ⟨_, _, rfl, fres_bad hnone.out, hb3⟩
        | false =>
          rw [hqb, if_neg (by simp)] at hy hnn hfl
          rcases hq0 with ⟨hz, _⟩ | ⟨hpos, e34⟩
          all_goals (
            try rw [hqb] at e34
            clear hqcase hqb KU
            cases hs with
            | false =>
              have KM := hid (fun (x : Value) (w' : World) (h : ParsAt w' x out) => refmay_any ⟨nm, vl, false⟩ x out w' (by simp only; omega) (by simp only; omega) hsm.out h)
              unfold parV at KM
              simp only at KM
              have hnm := hid (hnot.out _ (hy rfl))
              have hye := hid (hon.out _ (hy rfl))
              have hss := hid (@small_snoc out ⟨nm, vl, false⟩ hsm.out (by have := hpl.out; omega))
              clear hy hnn hno hnot hon hfl
              go_wp2_with fail
              refine (KA.out _).mono ?_
              rintro e w4 ⟨rfl, rfl⟩
              clear KA
              have hsb := HSB.out
              subst hsb
              have hA := (Below.refl _ w4).alloc (Nat.le_refl _) (.cells #[.string ⟨nm.toArray⟩, .string ⟨vl.toArray⟩, .bool false] 94)
              have hbx := boxP_new w4 ⟨nm, vl, false⟩ 94
              have hltx := alloc_lt w4 (.cells #[.string ⟨nm.toArray⟩, .string ⟨vl.toArray⟩, .bool false] 94)
              have hown4 := hid (hown1.out.below hA)
              have hb4 := hb1.alloc hB1 (.cells #[.string ⟨nm.toArray⟩, .string ⟨vl.toArray⟩, .bool false] 94)
              have HBX := hid hbx
              obtain ⟨x0, x1, x2⟩ := hbx
              simp only at x0 x1 x2
              clear hown1 hA hb1
              go_wp2_with fail
              refine (KM.out _ _ hown4.out.parsAt).mono ?_
              rintro e w5 ⟨rfl, hw5⟩
              have hown5 := hown4.out.below hw5
              have HB5 := BoxP.below HBX.out hw5 hltx
              have hb5 := hb4.trans (hw5.mono hb4.size)
              clear hown4 HBX hw5 hb4 hltx KM x0 x1 x2
              cases hmay : mayB out ⟨nm, vl, false⟩ with
              | false =>
                have hnone : Hid (fieldsV ls = ([], 34)) := hbad.out (hnm.out hmay)
                clear hnm hye hss hmay
                go_wp2
                go_ret2
                exact ⟨_, _, rfl, fres_bad hnone.out, hb5⟩
              | true =>
                have hnext := hid (hye.out hmay)
                have hsm2 := hid (hss.out hmay)
                have hB5 := hb5.size
                clear hnm hye hss hmay hsm
                obtain ⟨x0, x1, x2⟩ := HB5
                simp only at x0 x1 x2
                have HNW := hid (new_par w5 ⟨nm, vl, false⟩ 94)
                go_wp2_with (at_builtin; refine wp_appP _ rfl (.tmp 64) (.tmp 66) 38 rfl w.heap.size i0 _ Tryd.underlying38 hi hz0 hz1 hz2 rfl _ out rfl (hown5.alloc _) ⟨w5.heap.size, 0, none⟩ 1 ⟨nm, vl, false⟩ rfl (by exact HNW.out) (by have := hpl.out; omega) w (hb5.alloc hB5 _) (by simp; omega) ?_; intro v6 w6 hown6 hb6 hB6)
                have HO6 := hid hown6
                clear hown6
                go_wp2
                go_roundw
                case rel => exact ⟨k + 1, out ++ [⟨nm, vl, false⟩], by omega, by go_num, hnext, hid (by have := hpl.out; simp; omega), hsm2, HO6, hb6, hB6⟩
                case measure => simp [intOf]; omega
            | true =>
              cases hwb : wordB vl with
              | true =>
                rw [hwb] at KW hy hnn hfl
                go_wp2_with fail
                refine (KW.out _).mono ?_
                rintro e w3 ⟨rfl, hw3⟩
                have hown3 := hid (hown1.out.below hw3)
                have hb3 := hb1.trans (hw3.mono hb1.size)
                have hB3 := hb3.size
                clear hown1 hb1 hw3 KW hwb
                have KM := hid (fun (x : Value) (w' : World) (h : ParsAt w' x out) => refmay_any ⟨nm, vl, true⟩ x out w' (by simp only; omega) (by simp only; omega) hsm.out h)
                unfold parV at KM
                simp only at KM
                have hnm := hid (hnot.out _ (hy rfl))
                have hye := hid (hon.out _ (hy rfl))
                have hss := hid (@small_snoc out ⟨nm, vl, true⟩ hsm.out (by have := hpl.out; omega))
                clear hy hnn hno hnot hon hfl
                go_wp2_with fail
                refine (KA.out _).mono ?_
                rintro e w4 ⟨rfl, rfl⟩
                clear KA
                have hsb := HSB.out
                subst hsb
                have hA := (Below.refl _ w4).alloc (Nat.le_refl _) (.cells #[.string ⟨nm.toArray⟩, .string ⟨vl.toArray⟩, .bool true] 94)
                have hbx := boxP_new w4 ⟨nm, vl, true⟩ 94
                have hltx := alloc_lt w4 (.cells #[.string ⟨nm.toArray⟩, .string ⟨vl.toArray⟩, .bool true] 94)
                have hown4 := hid (hown3.out.below hA)
                have hb4 := hb3.alloc hB3 (.cells #[.string ⟨nm.toArray⟩, .string ⟨vl.toArray⟩, .bool true] 94)
                have HBX := hid hbx
                obtain ⟨x0, x1, x2⟩ := hbx
                simp only at x0 x1 x2
                clear hown3 hA hb3
                go_wp2_with fail
                refine (KM.out _ _ hown4.out.parsAt).mono ?_
                rintro e w5 ⟨rfl, hw5⟩
                have hown5 := hown4.out.below hw5
                have HB5 := BoxP.below HBX.out hw5 hltx
                have hb5 := hb4.trans (hw5.mono hb4.size)
                clear hown4 HBX hw5 hb4 hltx KM x0 x1 x2
                cases hmay : mayB out ⟨nm, vl, true⟩ with
                | false =>
                  have hnone : Hid (fieldsV ls = ([], 34)) := hbad.out (hnm.out hmay)
                  clear hnm hye hss hmay
                  go_wp2
                  go_ret2
                  exact ⟨_, _, rfl, fres_bad hnone.out, hb5⟩
                | true =>
                  have hnext := hid (hye.out hmay)
                  have hsm2 := hid (hss.out hmay)
                  have hB5 := hb5.size
                  clear hnm hye hss hmay hsm
                  obtain ⟨x0, x1, x2⟩ := HB5
                  simp only at x0 x1 x2
                  have HNW := hid (new_par w5 ⟨nm, vl, true⟩ 94)
                  go_wp2_with (at_builtin; refine wp_appP _ rfl (.tmp 64) (.tmp 66) 38 rfl w.heap.size i0 _ Tryd.underlying38 hi hz0 hz1 hz2 rfl _ out rfl (hown5.alloc _) ⟨w5.heap.size, 0, none⟩ 1 ⟨nm, vl, true⟩ rfl (by exact HNW.out) (by have := hpl.out; omega) w (hb5.alloc hB5 _) (by simp; omega) ?_; intro v6 w6 hown6 hb6 hB6)
                  have HO6 := hid hown6
                  clear hown6
                  go_wp2
                  go_roundw
                  case rel => exact ⟨k + 1, out ++ [⟨nm, vl, true⟩], by omega, by go_num, hnext, hid (by have := hpl.out; simp; omega), hsm2, HO6, hb6, hB6⟩
                  case measure => simp [intOf]; omega
              | false =>
                rw [hwb] at KW hy hnn hfl
                go_wp2_with fail
                refine (KW.out _).mono ?_
                rintro e w3 ⟨rfl, hw3⟩
                have hb3 := hb1.trans (hw3.mono hb1.size)
                clear hown1 hb1 hw3 KW hwb
                have hnone : Hid (fieldsV ls = ([], 34)) := hbad.out (hno.out (hnn rfl))
                clear hy hnn hno hnot hon hfl
                go_wp2
                go_ret2
                exact ⟨_, _, rfl, fres_bad hnone.out, hb3⟩)
      · have hend : Hid (fieldsV ls = (out, 0)) := hgood.out out (by
          have h := hps.out
          have e := HN.out
          rw [List.drop_of_length_le (by omega)] at h; exact h)
        clear hps
        go_wp2
        go_ret2
        exact ⟨_, _, rfl, ⟨by rw [hend.out], by rw [hend.out]; exact hown.out⟩, hb⟩
  · have hmany : Hid (fieldsV ls = ([], 4)) := fieldsV_many (by omega)
    have h16' : (16 : Int) < (n : Int) := by omega
    clear hn'
    go_enter Tryd.func46, Tryd.ntmps46
    go_wp2
    go_ret2
    exact ⟨_, _, rfl, ⟨by rw [hmany.out], by rw [hmany.out]; exact OwnP.nil _ _⟩, Below.refl _ _⟩

end Go.Proofs.YtjbfdbccidhdfaaDoor

/-
  The contract of the document's own Text.
-/
namespace Go.Proofs.YtjbfdbccidhdfaaDoor
open Go.RowKit Go.Sort Sc
set_option linter.unusedVariables false
set_option maxRecDepth 20000

set_option maxHeartbeats 1000000 in
set_option maxRecDepth 100000 in
theorem rtext_row (a : Addr) (cap : Nat) (ps : List Par) (w : World) (h16 : ps.length ≤ 16) (hcap : ps.length ≤ cap) (hsm : SmallP 1048576 ps) (hc : ∀ j (hj : j < ps.length), a.block < w.heap.size ∧ ParAt w a j ps[j]) :
    Calls Tryd.prog 49 #[.slice (some a) ps.length cap] w fun e w' => e = .returned (.tuple #[.string ⟨(textV ps).1.toArray⟩, .int .i64 (textV ps).2]) ∧ Below w.heap.size w w' := by
  have HC := hid hc; clear hc
  have HS := hid hsm
  have HSL : Hid (SmallP 140737488355328 ps) := ⟨by omega, fun p hp => by have := hsm.2 p hp; omega⟩
  have hbad : Hid (mayGo [] ps = false → textV ps = ([], 34)) := fun h => text_bad h16 h
  have hgood : Hid (mayGo [] ps = true → textV ps = (parsA ps, 0)) := fun h => text_good h16 h
  obtain ⟨n, hn⟩ : ∃ n, n = ps.length := ⟨_, rfl⟩
  rw [← hn] at h16 hcap
  rw [show Value.slice (some a) ps.length cap = .slice (some a) n cap by rw [hn]]
  have HN := hid hn; clear hn
  clear hsm
  go_enter Tryd.func49, Tryd.ntmps49
  go_wp2
  go_loopw [4, 5] (fun x i wr => ∃ (k : Nat) (t : List UInt8), k ≤ n ∧ i = .int .i64 k ∧ x = .string ⟨t.toArray⟩ ∧ t.length ≤ 200 * k ∧ Hid (t = parsA (ps.take k)) ∧ Hid (mayGo [] (ps.take k) = true) ∧ Below w.heap.size w wr) (fun _ i _ => n - (intOf i).toNat)
  case atStart => exact ⟨0, [], by omega, rfl, rfl, by simp, hid rfl, hid rfl, Below.refl _ _⟩
  case round =>
    obtain ⟨k, t, hkn, rfl, rfl, htl, htt, hgo, hb⟩ := hrel
    by_cases hlt : k < n
    · have hkl : k < ps.length := by have := HN.out; omega
      obtain ⟨hab, hpa⟩ := HC.out k hkl
      have HCELL := hid (fun (w' : World) (hb' : Below w.heap.size w w') => hpa.below hb' hab)
      obtain ⟨c0, c1, c2⟩ := hpa.below hb hab
      have hss := HS.out.2 ps[k] (List.getElem_mem hkl)
      have KM := hid (fun (c : Nat) (w' : World) (hb' : Below w.heap.size w w') => refmay_any ps[k] (.slice (some a) k c) (ps.take k) w' (by omega) hss.2 (small_take HSL.out k) (parsAt_take (Nat.le_of_lt hkl) (fun j hj => ⟨Nat.lt_of_lt_of_le (HC.out j hj).1 hb'.size, (HC.out j hj).2.below hb' (HC.out j hj).1⟩)))
      have hB := hb.size
      have hno := hid (@mayGo_bad ps k hkl)
      have hstep := hid (@mayGo_step ps k hkl)
      have hpars := hid (@parsA_step ps k hkl)
      have hpt := hid (text_at hkl)
      have hfac := hid (@may_facts (ps.take k) ps[k])
      unfold ParAt at HCELL
      generalize ps[k] = p at c0 c1 c2 hss KM hno hstep hpars hpt hfac HCELL
      obtain ⟨pn, pv, ph⟩ := p
      simp only at c0 c1 c2 hss HCELL
      unfold parV at KM
      simp only at KM
      clear hpa
      have h200 : t.length ≤ 3200 := by omega
      cases hmay : mayB (ps.take k) ⟨pn, pv, ph⟩ with
      | false =>
        have hv : Hid (textV ps = ([], 34)) := hbad.out (hno.out hmay)
        rw [hmay] at KM
        clear hno hstep hpars hpt hfac hgo htt hmay
        go_wp2
        replace c0 := cell_regrown c0
        replace c1 := cell_regrown c1
        replace c2 := cell_regrown c2
        have c := hid (fun (d : Nat) (os : Array Obj) => Calls.regrown_of (KM.out cap (grow (redrawn wr d) os) (below_re5 hb d os)))
        clear KM
        refine wp_region_quiet_below followsMixed5 (by kernel_rfl) ?_
        repeat (go_big_quiet_step (with_reducible exact c.out _ _))
        refine wpQuiet_nil ?_
        intro _ hw'
        obtain ⟨⟨dq, osq⟩, hw''⟩ := hw'
        subst hw''
        clear c c0 c1 c2
        have hb1 := below_re5 hb dq osq
        go_wp2
        go_ret2
        exact ⟨ret_text (x := []) hv.out, hb1⟩
      | true =>
        obtain ⟨m1, _, m3, m4, _⟩ := hfac.out hmay
        obtain ⟨_, t2, _⟩ := tok_facts m1
        simp only at m3 m4 t2
        have KW := hid (fun w' => refword_any pv w' (by omega))
        have KQ := hid (fun w' => refquote_list pv w' (by omega))
        have hqv := hid (valT_quote m4)
        have hgo2 : Hid (mayGo [] (ps.take (k + 1)) = true) := show _ = _ by rw [hstep.out, hgo.out, hmay]; rfl
        rw [hmay] at KM
        have hvl := valT_len pv
        have hpt' := hid (hpt.out ph rfl)
        simp only at hpt'
        clear hno hstep hfac hgo hmay m1 m4 hpt
        go_wp2
        replace c0 := cell_regrown c0
        replace c1 := cell_regrown c1
        replace c2 := cell_regrown c2
        have c := hid (fun (d : Nat) (os : Array Obj) => Calls.regrown_of (KM.out cap (grow (redrawn wr d) os) (below_re5 hb d os)))
        clear KM
        refine wp_region_quiet_below followsMixed5 (by kernel_rfl) ?_
        repeat (go_big_quiet_step (with_reducible exact c.out _ _))
        refine wpQuiet_nil ?_
        intro _ hw'
        obtain ⟨⟨dq, osq⟩, hw''⟩ := hw'
        subst hw''
        clear c c0 c1 c2
        have hb1 := below_re5 hb dq osq
        obtain ⟨c0, c1, c2⟩ := HCELL.out _ hb1
        clear hb
        cases ph with
        | false =>
          have htx : Hid ((t ++ [59]) ++ pn = parsA (ps.take (k + 1))) := show _ = _ by rw [hpars.out, hpt'.out, htt.out]; simp
          clear hpars hpt' htt KW KQ hqv
          go_wp2
          go_roundw
          case rel => exact ⟨k + 1, (t ++ [59]) ++ pn, by omega, by go_num, by rw [← ByteArray.mk_append_mk, ← ByteArray.mk_append_mk], by simp; omega, htx, hgo2, hb1⟩
          case measure => simp [intOf]; omega
        | true =>
          cases hwb : wordB pv with
          | true =>
            rw [hwb] at KW hqv
            have htx : Hid ((((t ++ [59]) ++ pn) ++ [61]) ++ pv = parsA (ps.take (k + 1))) := show _ = _ by rw [hpars.out, hpt'.out, htt.out, hqv.out]; simp
            clear hpars hpt' htt KQ hqv hwb
            go_wp2_with fail
            refine (KW.out _).mono ?_
            rintro e w2 ⟨rfl, hw2⟩
            have hb2 := hb1.trans (hw2.mono hb1.size)
            clear c0 c1 c2 hw2 hb1 KW
            obtain ⟨c0, c1, c2⟩ := HCELL.out _ hb2
            go_wp2
            go_roundw
            case rel => exact ⟨k + 1, (((t ++ [59]) ++ pn) ++ [61]) ++ pv, by omega, by go_num, by rw [← ByteArray.mk_append_mk, ← ByteArray.mk_append_mk, ← ByteArray.mk_append_mk, ← ByteArray.mk_append_mk], by simp; omega, htx, hgo2, hb2⟩
            case measure => simp [intOf]; omega
          | false =>
            rw [hwb] at KW hqv
            have htx : Hid ((((t ++ [59]) ++ pn) ++ [61]) ++ (quoteV pv).1 = parsA (ps.take (k + 1))) := show _ = _ by rw [hpars.out, hpt'.out, htt.out, hqv.out]; simp
            clear hpars hpt' htt hwb
            have hql : Hid ((quoteV pv).1.length ≤ 2 * pv.length + 2) := by have h := hvl; rw [hqv.out, if_neg (by simp)] at h; exact h
            generalize quoteV pv = qv at KQ htx hql
            obtain ⟨qt, qn⟩ := qv
            simp only at KQ htx hql
            have hql2 := hql.out
            clear hql hqv
            go_wp2_with fail
            refine (KW.out _).mono ?_
            rintro e w2 ⟨rfl, hw2⟩
            have hb2 := hb1.trans (hw2.mono hb1.size)
            clear c0 c1 c2 hw2 hb1 KW
            obtain ⟨c0, c1, c2⟩ := HCELL.out _ hb2
            go_wp2_with fail
            refine (KQ.out _).mono ?_
            rintro e w3 ⟨rfl, hw3⟩
            have hb3 := hb2.trans (hw3.mono hb2.size)
            clear hw3 hb2 KQ
            go_wp2
            go_roundw
            case rel => exact ⟨k + 1, (((t ++ [59]) ++ pn) ++ [61]) ++ qt, by omega, by go_num, by rw [← ByteArray.mk_append_mk, ← ByteArray.mk_append_mk, ← ByteArray.mk_append_mk, ← ByteArray.mk_append_mk], by simp; omega, htx, hgo2, hb3⟩
            case measure => simp [intOf]; omega
    · have hv : Hid (textV ps = (t, 0)) := show _ = _ by
        have h := hgo.out
        have h2 := htt.out
        have e := HN.out
        rw [List.take_of_length_le (by omega)] at h h2
        rw [hgood.out h, h2]
      clear htt hgo
      go_wp2
      go_ret2
      exact ⟨ret_text hv.out, hb⟩
theorem rtext_long (a : Option Addr) (cap : Nat) (ps : List Par) (w : World) (h16 : ¬ ps.length ≤ 16) :
    Calls Tryd.prog 49 #[.slice a ps.length cap] w fun e w' => e = .returned (.tuple #[.string ⟨(textV ps).1.toArray⟩, .int .i64 (textV ps).2]) ∧ Below w.heap.size w w' := by
  have hv : Hid (textV ps = ([], 4)) := text_many (by omega)
  have h16' : (16 : Int) < (ps.length : Int) := by omega
  go_enter Tryd.func49, Tryd.ntmps49
  go_wp2
  go_ret2
  exact ⟨ret_text (x := []) hv.out, Below.refl _ _⟩
theorem rtext_nil (a : Option Addr) (cap : Nat) (w : World) :
    Calls Tryd.prog 49 #[.slice a 0 cap] w fun e w' => e = .returned (.tuple #[.string ⟨#[]⟩, .int .i64 0]) ∧ Below w.heap.size w w' := by
  go_enter Tryd.func49, Tryd.ntmps49
  go_wp2
  go_loop [4, 5] (fun x i => i = .int .i64 0 ∧ x = .string ⟨#[]⟩) (fun _ i => 0)
  case atStart => exact ⟨rfl, rfl⟩
  case round =>
    obtain ⟨rfl, rfl⟩ := hrel
    go_wp2
    go_ret2
    exact ⟨rfl, Below.refl _ _⟩
theorem rtext_any (v : Value) (ps : List Par) (w : World) (hsm : SmallP 1048576 ps) (h : ParsAt w v ps) (hcap : CapOk v) :
    Calls Tryd.prog 49 #[v] w fun e w' => e = .returned (.tuple #[.string ⟨(textV ps).1.toArray⟩, .int .i64 (textV ps).2]) ∧ Below w.heap.size w w' := by
  by_cases h16 : ps.length ≤ 16
  · rcases h with ⟨rfl, rfl⟩ | ⟨a, cap, rfl, hc⟩
    · exact rtext_nil none 0 w
    · exact rtext_row a cap ps w h16 hcap hsm hc
  · obtain ⟨a, cap, rfl⟩ := h.form
    exact rtext_long a cap ps w h16

end Go.Proofs.YtjbfdbccidhdfaaDoor
