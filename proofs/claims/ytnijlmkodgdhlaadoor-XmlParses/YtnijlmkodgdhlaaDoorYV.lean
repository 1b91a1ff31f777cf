/-
  Base texts, one behind another: XWrite, RX11, XPrint, XPar, XParse.
-/
import Derived.Test.YtnijlmkodgdhlaaDoorYU
import Derived.Test.YtnijlmkodgdhlaaDoorYO
import Derived.Test.YtnijlmkodgdhlaaDoorRX9
import Derived.Test.YtnijlmkodgdhlaaDoorRX10
import Derived.Test.YtnijlmkodgdhlaaDoorYS
import Derived.Test.YtnijlmkodgdhlaaDoorXDoc
import Derived.Test.YtnijlmkodgdhlaaDoorXEqB

/-
  Contracts: package xml's writeElement, over trees.
-/
namespace Go.Proofs.YtnijlmkodgdhlaaDoor
open Go.RowKit Sc
set_option linter.unusedVariables false
set_option maxRecDepth 20000
set_option linter.unusedSimpArgs false

theorem starts_len (d : Nat) : ∀ (ks : List XT) (p : Nat), (startsX d ks p).length = ks.length
  | [], p => rfl
  | k :: ks, p => by rw [startsX, List.length_cons, List.length_cons, starts_len d ks]
theorem starts_at (d : Nat) : ∀ (ks : List XT) (p j : Nat) (h : j < ks.length), (startsX d ks p)[j]'(by rw [starts_len]; exact h) = p + (flatXs d (ks.take j)).length
  | k :: ks, p, 0, h => by simp [startsX, flatXs]
  | k :: ks, p, j + 1, h => by
    have := starts_at d ks (p + (flatX d k).length) j (by simpa using h)
    simp only [startsX, List.getElem_cons_succ, List.take_succ_cons, flatXs, List.length_append]
    rw [this]; omega
theorem printX_pos (t : XT) : 1 ≤ (printX t).length := by
  obtain ⟨n, a, tx, k⟩ := t
  have := print_len n a tx k
  omega
theorem prints_nil {ks : List XT} (h : printXs ks = []) : ks = [] := by
  cases ks with
  | nil => rfl
  | cons k ks =>
    rw [printXs] at h
    have := printX_pos k
    have e := congrArg List.length h
    rw [List.length_append, List.length_nil] at e
    omega
theorem prints_snoc {ks : List XT} {j : Nat} (h : j < ks.length) : printXs (ks.take (j + 1)) = printXs (ks.take j) ++ printX ks[j] := by
  rw [List.take_succ_eq_append_getElem h, printXs_app, printXs, printXs, List.append_nil]
theorem prints_take {ks : List XT} {j : Nat} (h : j < ks.length) : (printXs (ks.take j)).length + (printX ks[j]).length ≤ (printXs ks).length := by
  have e := List.take_append_drop (j + 1) ks
  have e2 : printXs ks = printXs (ks.take (j + 1)) ++ printXs (ks.drop (j + 1)) := by rw [← printXs_app, e]
  rw [e2, prints_snoc h, List.length_append, List.length_append]; omega
theorem own_pos {w : World} {C n kc : Nat} {ka : Option Addr} {l : List Nat} (h : Own w C 3 (.slice ka n kc) (posCells l)) (j : Nat) (hj : j < l.length) : ∃ g, ka = some ⟨g, 0, none⟩ ∧ w.cell? ⟨g, j, none⟩ = some (.int .i64 ((l[j] : Nat) : Int)) := by
  have h0 := h
  rcases h.2 with ⟨hv, hn⟩ | ⟨g, cap, cur, hv, hb, hg, r⟩
  · simp [posCells] at hn
    rw [hn] at hj; simp at hj
  · simp only [Value.slice.injEq] at hv
    obtain ⟨rfl, hv2, hv3⟩ := hv
    refine ⟨g, rfl, ?_⟩
    have := World.ownsRow.cells h0 (g := g) rfl j (.int .i64 ((l[j] : Nat) : Int)) (by simp [posCells, hj])
    have e : (⟨g, 0, none⟩ : Addr).add j = ⟨g, j, none⟩ := by unfold Addr.add; split <;> simp_all
    rw [e] at this; exact this
theorem szX_in {n : List UInt8} {a : List Par} {tx : List UInt8} {ks : List XT} {j : Nat} (h : j < ks.length) : szX ks[j] + 2 ≤ szX (.mk n a tx ks) := by
  have := sz_in (n := n) (a := a) (t := tx) (ks := ks) (done := ks.take j) (k := ks[j]) (rest := ks.drop (j + 1)) (N := szX (.mk n a tx ks) - 1) (by rw [szX]; omega) (by rw [← List.drop_eq_getElem_cons h, List.take_append_drop])
  have key : ∀ (l r : List XT) (k : XT), szX k ≤ szXs (l ++ k :: r) := fun l r k => by
    induction l with
    | nil => rw [List.nil_append, szXs]; omega
    | cons x l ih => rw [List.cons_append, szXs]; omega
  have h2 := key (ks.take j) (ks.drop (j + 1)) ks[j]
  rw [← List.drop_eq_getElem_cons h, List.take_append_drop] at h2
  rw [szX]; omega
theorem szXs_len : ∀ ks : List XT, ks.length ≤ szXs ks
  | [] => Nat.zero_le _
  | k :: ks => by
    have := szXs_len ks
    obtain ⟨n, a, tx, kk⟩ := k
    rw [szXs, szX, List.length_cons]; omega
/-- What writeElement leaves. -/
def WrE (B b : Nat) (v : Value) (k : Nat) (l : List UInt8) (w : World) : Prop :=
  Calls Tryd.prog 24 #[.pointer (some ⟨b, 0, none⟩), v, .int .i64 k] w fun e w' => e = .returned (.tuple #[]) ∧ Wrote B b l w w'
section
variable (wP : World) (v : Value) (cs : List NdC) (b : Nat)
def WrS (N : Nat) : Prop := ∀ (t : XT), szX t ≤ N → ∀ (k d : Nat) (post : List Nd) (l0 : List UInt8) (w : World), (ndsL cs).drop k = flatX d t ++ post → (∀ x, post.head? = some x → x.deep ≤ (d : Int)) → Below wP.heap.size wP w → IsBld w wP.heap.size b l0 → l0.length + (printX t).length ≤ 140737488355328 → d + szX t ≤ 1000000 → WrE wP.heap.size b v k (l0 ++ printX t) w
set_option maxHeartbeats 8000000 in
set_option maxRecDepth 100000 in
theorem write_step (hv : NdsAt wP v cs) (hz : cs.length ≤ 1000000) (hsm : ∀ c ∈ cs, SmallN 140737488355328 c.nd) (hbB : wP.heap.size ≤ b) (N : Nat) (ih : WrS wP v cs b N) : WrS wP v cs b (N + 1) := by
  intro t ht k d post l0 w hdrop hpost hbw hbld hpl hd
  obtain ⟨nm, ps, tx, ks⟩ := t
  have HSI : Hid (∀ j (hj : j < ks.length), d + 1 + szX ks[j] ≤ 1000000) := fun j hj => by have := szX_in (n := nm) (a := ps) (tx := tx) hj; omega
  have hd : d ≤ 1000000 := by omega
  have hksl : ks.length ≤ 1000000 := by
    have h1 := szXs_len ks
    have h2 : szX (.mk nm ps tx ks) = szXs ks + 2 := by rw [szX]
    omega
  have hpl2 := print_len nm ps tx ks
  rw [flatX, List.cons_append] at hdrop
  obtain ⟨hk, hnd, hdrop1⟩ := drop_nd hdrop
  have hlb := bld_lt hbld
  have hBw : wP.heap.size ≤ w.heap.size := hbw.size
  have hvw := hv
  obtain ⟨ao, cap, rfl, hc⟩ := hv
  obtain ⟨ad, hao, hab, c0, pa⟩ := hc k hk
  subst hao
  obtain ⟨s1, s2, s3, s4⟩ := hsm cs[k] (List.getElem_mem hk)
  have cN := c0.below hbw hab
  rw [hnd] at pa s1 s2 s3 s4
  simp only at pa s1 s2 s3 s4
  obtain ⟨pao, pcap, hpa, hpc⟩ := pa.open
  have HPar := hid hpc
  obtain ⟨c0, c1, c2, c3⟩ := cN
  rw [hnd] at c0 c1 c3
  rw [hpa] at c2
  simp only at c0 c1 c3
  have s3z := s3.1
  have HS3 := hid s3.2
  have HI := hid ih
  have HV := hid hvw
  have HBW := hid hbw
  have KK := hid (fun w' (h' : Below wP.heap.size wP w') => xkids_any (.slice (some ad) cs.length cap) cs k w' hk hz (by rw [hnd]; simp only; omega) (by rw [hnd]; simp only; omega) (hvw.below h'))
  rw [hnd, hdrop1, kids_of d ks post (k + 1) hpost] at KK
  have HDrop : Hid (∀ j (hj : j < ks.length), (ndsL cs).drop (k + 1 + (flatXs (d + 1) (ks.take j)).length) = flatX (d + 1) ks[j] ++ (flatXs (d + 1) (ks.drop (j + 1)) ++ post)) := fun j hj => by
    have e : ks = ks.take j ++ ks[j] :: ks.drop (j + 1) := by rw [← List.drop_eq_getElem_cons hj, List.take_append_drop]
    have h1 : (ndsL cs).drop (k + 1) = flatXs (d + 1) (ks.take j) ++ (flatX (d + 1) ks[j] ++ (flatXs (d + 1) (ks.drop (j + 1)) ++ post)) := by
      rw [hdrop1]
      conv => lhs; rw [e]
      rw [flatXs_app, flatXs]; simp
    exact drop_more h1
  have HPost : Hid (∀ j, ∀ x, (flatXs (d + 1) (ks.drop (j + 1)) ++ post).head? = some x → x.deep ≤ ((d + 1 : Nat) : Int)) := fun j => post_head hpost
  have HSz : Hid (∀ j (hj : j < ks.length), szX ks[j] ≤ N) := fun j hj => sz_in ht (done := ks.take j) (rest := ks.drop (j + 1)) (by rw [← List.drop_eq_getElem_cons hj, List.take_append_drop])
  obtain ⟨n, hn⟩ : ∃ n, n = cs.length := ⟨_, rfl⟩
  rw [← hn] at HI HV KK ⊢
  have q1 : (k : Int) < (n : Int) := by omega
  have HN := hid hn
  have z1 := size_list nm
  have HC0 := hid (xcat [60] nm)
  have hs0 : ¬ 9223372036854775807 < 1 + nm.length := by omega
  have hrow := rc_row4 w (.int .i64 (d : Int)) (.string ⟨nm.toArray⟩) (.slice pao ps.length pcap) (.string ⟨tx.toArray⟩) 48
  have hbn : Below w.heap.size w (w.alloc (.cells #[.int .i64 (d : Int), .string ⟨nm.toArray⟩, .slice pao ps.length pcap, .string ⟨tx.toArray⟩] 48)) := (Below.refl _ w).alloc (Nat.le_refl _) _
  have hszn : (w.alloc (.cells #[.int .i64 (d : Int), .string ⟨nm.toArray⟩, .slice pao ps.length pcap, .string ⟨tx.toArray⟩] 48)).heap.size = w.heap.size + 1 := by simp
  have HW0 : Hid (Wrote wP.heap.size b l0 w (w.alloc (.cells #[.int .i64 (d : Int), .string ⟨nm.toArray⟩, .slice pao ps.length pcap, .string ⟨tx.toArray⟩] 48))) := Wrote.of hbld hBw hbn
  have hnb : w.heap.size ≠ b := by omega
  clear hsm hn hc hdrop hdrop1 hpost ht s4 ih hvw hpc hpa pa hnd hbw hbld
  unfold WrE
  go_enter Tryd.func24, Tryd.ntmps24
  go_wp2_with fail
  clear c0 c1 c2 c3
  generalize World.alloc _ _ = W0 at hrow hbn HW0 hszn ⊢
  try rw [HC0.out]
  refine (xbldWrite wP.heap.size b l0 ([60] ++ nm) W0 HW0.out.bld (by simp; omega) (by omega)).mono ?_
  rintro e w1 ⟨rfl, hw1⟩
  have hrow1 := hw1.row hrow hnb (by decide)
  obtain ⟨e0, e1, e2, e3, _, _, _, _⟩ := hrow1.rc4
  have HW1 := hid (HW0.out.trans hw1)
  have hB1 : wP.heap.size ≤ w1.heap.size := Nat.le_trans hBw HW1.out.bel.size
  clear hrow hbn hw1 hszn
  go_wp2
  go_loopw [24] (fun iv wr => ∃ j : Nat, j ≤ ps.length ∧ iv = .int .i64 (j : Int) ∧ Hid (Wrote wP.heap.size b (l0 ++ ([60] ++ nm ++ attrsT (ps.take j))) w wr) ∧ Hid (RowIs wr w.heap.size 48 [.int .i64 (d : Int), .string ⟨nm.toArray⟩, .slice pao ps.length pcap, .string ⟨tx.toArray⟩]) ∧ wP.heap.size ≤ wr.heap.size) (fun iv _ => ps.length - (intOf iv).toNat)
  case atStart => exact ⟨0, Nat.zero_le _, rfl, by simpa [attrsT] using HW1, hid hrow1, hB1⟩
  case round =>
    obtain ⟨j, hj, rfl, hw, hr, hB⟩ := hrel
    clear HW1 hrow1 hB1 e0 e1 e2 e3 HW0 HC0
    by_cases hlt : j < ps.length
    · obtain ⟨pad, hpo, hpb, k0, k1, k2⟩ := HPar.out j hlt
      subst hpo
      obtain ⟨t1, t2⟩ := HS3.out ps[j] (List.getElem_mem hlt)
      have hbr := HBW.out.trans hw.out.bel
      have a0 := cell_below hbr (by rw [add_block]; exact hpb) k0
      have a1 := cell_below hbr (by simp only [add_block]; exact hpb) k1
      have a2 := cell_below hbr (by simp only [add_block]; exact hpb) k2
      have q6 : (j : Int) < (ps.length : Int) := by omega
      have hat := attrsT_len hlt
      have hat2 := attrT_len ps[j]
      have hsn : Hid (attrsT (ps.take (j + 1)) = attrsT (ps.take j) ++ attrT ps[j]) := show _ = _ from attrsT_snoc hlt
      have hatd : attrT ps[j] = [32] ++ ps[j].name ++ [61, 34] ++ escX ps[j].value ++ [34] := rfl
      have hprow := rc_row3 wr (.string ⟨ps[j].name.toArray⟩) (.string ⟨ps[j].value.toArray⟩) (.bool ps[j].has) 45
      have hpbn : Below wr.heap.size wr (wr.alloc (.cells #[.string ⟨ps[j].name.toArray⟩, .string ⟨ps[j].value.toArray⟩, .bool ps[j].has] 45)) := (Below.refl _ wr).alloc (Nat.le_refl _) _
      have HWp := hid (Wrote.of hw.out.bld hB hpbn)
      have hnbp : wr.heap.size ≠ b := by have := bld_lt hw.out.bld; omega
      clear k0 k1 k2
      generalize attrT ps[j] = AT at hat hat2 hsn hatd
      generalize ps[j] = P at a0 a1 a2 t1 t2 hat2 hatd hprow hpbn HWp
      obtain ⟨pn, pv, ph⟩ := P
      simp only at a0 a1 a2 t1 t2 hat2 hatd hprow hpbn HWp
      have z2 := size_list pn
      have HC1 := hid (xcat [32] pn)
      have HC2 := hid (xcat ([32] ++ pn) [61, 34])
      have hs1 : ¬ 9223372036854775807 < 1 + pn.length := by omega
      have hs2 : ¬ 9223372036854775807 < 1 + pn.length + 2 := by omega
      have HATD := hid hatd
      clear hatd
      go_wp2_with fail
      clear a0 a1 a2
      generalize World.alloc _ _ = W2 at hprow hpbn HWp ⊢
      try rw [HC1.out]
      try rw [HC2.out]
      have hB2 : wP.heap.size ≤ W2.heap.size := Nat.le_trans hB hpbn.size
      refine (xbldWrite wP.heap.size b _ ([32] ++ pn ++ [61, 34]) W2 HWp.out.bld (by simp; omega) hB2).mono ?_
      rintro e w3 ⟨rfl, hw3⟩
      have hprow3 := hw3.row hprow hnbp (by decide)
      obtain ⟨g0, g1, g2, _, _, _⟩ := hprow3.rc3
      have hB3 : wP.heap.size ≤ w3.heap.size := Nat.le_trans hB2 hw3.bel.size
      go_wp2_with fail
      refine (writeText_list wP.heap.size b _ pv w3 hw3.bld (by simp; omega) t2 hB3).mono ?_
      rintro e w4 ⟨rfl, hw4⟩
      have hB4 : wP.heap.size ≤ w4.heap.size := Nat.le_trans hB3 hw4.bel.size
      go_wp2_with fail
      refine (xbldWrite wP.heap.size b _ [34] w4 hw4.bld (by simp; omega) hB4).mono ?_
      rintro e w5 ⟨rfl, hw5⟩
      have hwA := ((HWp.out.trans hw3).trans hw4).trans hw5
      have hrowA := hwA.row hr.out hnb (by decide)
      have hwF := hw.out.trans hwA
      rw [show l0 ++ ([60] ++ nm ++ attrsT (ps.take j)) ++ ([32] ++ pn ++ [61, 34]) ++ escX pv ++ [34] = l0 ++ ([60] ++ nm ++ attrsT (ps.take (j + 1))) by rw [hsn.out, HATD.out]; simp] at hwF
      have hBF : wP.heap.size ≤ w5.heap.size := Nat.le_trans hB4 hw5.bel.size
      go_wp2
      go_roundw
      case rel => exact ⟨j + 1, by omega, by go_num, hid hwF, hid hrowA, hBF⟩
      case measure => simp [intOf]; omega
    · have hjl : j = ps.length := by omega
      subst hjl
      rw [List.take_length] at hw
      have q6 : ¬ ((ps.length : Int) < (ps.length : Int)) := by omega
      obtain ⟨e0, e1, e2, e3, _, _, _, _⟩ := hr.out.rc4
      have hbr := HBW.out.trans hw.out.bel
      have hbldr := hw.out.bld
      clear HPar HS3
      go_wp2_with fail
      refine (KK.out wr hbr).mono ?_
      rintro e w3 ⟨kv, rfl, hown, hw3⟩
      have hw3' := Wrote.of hw.out.bld hB hw3
      have hr3 := hw3'.row hr.out hnb (by decide)
      obtain ⟨g0, g1, g2, g3, _, _, _, _⟩ := hr3.rc4
      have hwB := hw.out.trans hw3'
      have hB3 : wP.heap.size ≤ w3.heap.size := Nat.le_trans hB hw3.size
      obtain ⟨ka, kc, hkv⟩ := hown.form
      have hkl : (posCells (startsX (d + 1) ks (k + 1))).length = ks.length := by simp [posCells, starts_len]
      rw [hkl] at hkv
      subst hkv
      have HKL := hid hkl
      have HWB := hid hwB
      have HR3 := hid hr3
      have HOWN := hid hown
      clear e0 e1 e2 e3 hw hr hw3 hw3' hwB hr3 hown hkl KK
      have hfr : (l0 ++ ([60] ++ nm ++ attrsT ps)).length = l0.length + 1 + nm.length + (attrsT ps).length := by simp; omega
      have hkb : (Value.slice ka ks.length kc).ownBlock ≠ some b := fun e => by
        have := World.ownsRow.lt HOWN.out b e
        have := bld_lt hbldr
        omega
      obtain ⟨C0, hC0⟩ : ∃ C0, wr.heap.size = C0 := ⟨_, rfl⟩
      rw [hC0] at HOWN
      by_cases hem : tx = [] ∧ ks = []
      · obtain ⟨rfl, rfl⟩ := hem
        have HP : Hid (printX (.mk nm ps [] []) = [60] ++ nm ++ attrsT ps ++ [47, 62]) := show _ = _ from print_nil rfl
        have q7 : (([] : List UInt8)).isEmpty = true := rfl
        have q8 : (((0 : Nat) : Int) == 0) = true := rfl
        have hpx : (printX (.mk nm ps [] [])).length = 3 + nm.length + (attrsT ps).length := by rw [HP.out]; simp; omega
        simp only [List.length_nil] at *
        go_wp2_with fail
        refine (xbldWrite wP.heap.size b _ [47, 62] w3 HWB.out.bld (by rw [hfr]; simp only [List.length_cons, List.length_nil]; omega) hB3).mono ?_
        rintro e w4 ⟨rfl, hw4⟩
        have hwF := HWB.out.trans hw4
        rw [show l0 ++ ([60] ++ nm ++ attrsT ps) ++ [47, 62] = l0 ++ printX (.mk nm ps [] []) by rw [HP.out]; simp] at hwF
        go_wp2
        first | go_end0 | refine bodyPost_ret (results_none rfl _ _ _) rfl ?_
        exact ⟨rfl, hwF⟩
      · have hne : tx.isEmpty = false ∨ (tx.isEmpty = true ∧ ((ks.length : Int) == 0) = false) := by
          cases tx with
          | cons a b => exact .inl rfl
          | nil =>
            right
            refine ⟨rfl, ?_⟩
            cases ks with
            | nil => exact absurd ⟨rfl, rfl⟩ hem
            | cons a b => rw [beq_eq_false_iff_ne]; simp; omega
        have hnn : escX tx ++ printXs ks ≠ [] := fun e => by
          rw [List.append_eq_nil_iff] at e
          exact hem ⟨escX_nil.1 e.1, prints_nil e.2⟩
        have HP : Hid (printX (.mk nm ps tx ks) = [60] ++ nm ++ attrsT ps ++ ([62] ++ (escX tx ++ printXs ks) ++ ([60, 47] ++ nm ++ [62]))) := show _ = _ from print_in hnn
        have hpx : (printX (.mk nm ps tx ks)).length = 5 + 2 * nm.length + (attrsT ps).length + (escX tx).length + (printXs ks).length := by rw [HP.out]; simp; omega
        have HC3 := hid (xcat [60, 47] nm)
        have HC4 := hid (xcat ([60, 47] ++ nm) [62])
        have hs3 : ¬ 9223372036854775807 < 2 + nm.length := by omega
        have hs4 : ¬ 9223372036854775807 < 2 + nm.length + 1 := by omega
        clear hem hnn
        rcases hne with hA | ⟨hA, hA2⟩
        all_goals
          (go_wp2_with fail
           refine (xbldWrite wP.heap.size b _ [62] w3 HWB.out.bld (by rw [hfr]; simp only [List.length_cons, List.length_nil]; omega) hB3).mono ?_
           rintro e w4 ⟨rfl, hw4⟩
           have hr4 := hw4.row HR3.out hnb (by decide)
           obtain ⟨m0, m1, m2, m3, _, _, _, _⟩ := hr4.rc4
           have hB4 : wP.heap.size ≤ w4.heap.size := Nat.le_trans hB3 hw4.bel.size
           go_wp2_with fail
           refine (writeText_list wP.heap.size b _ tx w4 hw4.bld (by rw [List.length_append, hfr]; simp only [List.length_cons, List.length_nil]; omega) s2 hB4).mono ?_
           rintro e w5 ⟨rfl, hw5⟩
           have hr5 := hw5.row hr4 hnb (by decide)
           have hB5 : wP.heap.size ≤ w5.heap.size := Nat.le_trans hB4 hw5.bel.size
           have hw45 := hw4.trans hw5
           have HO5 : Hid (Own w5 C0 3 (.slice ka ks.length kc) (posCells (startsX (d + 1) ks (k + 1)))) := hw45.owns HOWN.out hkb (by decide)
           have HW5 := hid (HWB.out.trans hw45)
           have HR5 := hid hr5
           clear g0 g1 g2 g3 m0 m1 m2 m3 hr4 hr5 hw4 hw5 hw45 HOWN HWB HR3 hA
           go_wp2
           go_loopw [62] (fun iv wx => ∃ j : Nat, j ≤ ks.length ∧ iv = .int .i64 (j : Int) ∧ Hid (Wrote wP.heap.size b (l0 ++ ([60] ++ nm ++ attrsT ps) ++ [62] ++ escX tx ++ printXs (ks.take j)) w wx) ∧ Hid (RowIs wx w.heap.size 48 [.int .i64 (d : Int), .string ⟨nm.toArray⟩, .slice pao ps.length pcap, .string ⟨tx.toArray⟩]) ∧ Hid (Own wx C0 3 (.slice ka ks.length kc) (posCells (startsX (d + 1) ks (k + 1)))) ∧ wP.heap.size ≤ wx.heap.size) (fun iv _ => ks.length - (intOf iv).toNat)
           case atStart => exact ⟨0, Nat.zero_le _, rfl, by simpa [printXs] using HW5, HR5, HO5, hB5⟩
           case round =>
             obtain ⟨j, hj, rfl, hw, hr, ho, hB⟩ := hrel
             clear HW5 HR5 HO5 hB5
             by_cases hlt : j < ks.length
             · obtain ⟨g, rfl, cg⟩ := own_pos ho.out j (by rw [starts_len]; exact hlt)
               rw [starts_at (d + 1) ks (k + 1) j hlt] at cg
               have hpt := prints_take hlt
               have hbx := HBW.out.trans hw.out.bel
               have KW := hid (HI.out ks[j] (HSz.out j hlt) (k + 1 + (flatXs (d + 1) (ks.take j)).length) (d + 1) _ _ wr (HDrop.out j hlt) (HPost.out j) hbx hw.out.bld (by simp only [List.length_append, List.length_cons, List.length_nil]; omega) (HSI.out j hlt))
               unfold WrE at KW
               have HSN := hid (prints_snoc hlt)
               have HLT := hid hlt
               generalize k + 1 + (flatXs (d + 1) (ks.take j)).length = pos at cg KW
               have q6 : (j : Int) < (ks.length : Int) := by omega
               go_wp2_with fail
               refine (KW.out).mono ?_
               rintro e w6 ⟨rfl, hw6⟩
               have hr6 := hw6.row hr.out hnb (by decide)
               have ho6 : Own w6 C0 3 (.slice (some ⟨g, 0, none⟩) ks.length kc) (posCells (startsX (d + 1) ks (k + 1))) := hw6.owns ho.out hkb (by decide)
               have hwF := hw.out.trans hw6
               rw [List.append_assoc (l0 ++ ([60] ++ nm ++ attrsT ps) ++ [62] ++ escX tx), ← HSN.out] at hwF
               have hB6 : wP.heap.size ≤ w6.heap.size := Nat.le_trans hB hw6.bel.size
               go_wp2
               go_roundw
               case rel => exact ⟨j + 1, by have := HLT.out; omega, by go_num, hid hwF, hid hr6, hid ho6, hB6⟩
               case measure => have := HLT.out; simp [intOf]; omega
             · have hjl : j = ks.length := by omega
               subst hjl
               rw [List.take_length] at hw
               have q6 : ¬ ((ks.length : Int) < (ks.length : Int)) := by omega
               obtain ⟨m0, m1, m2, m3, _, _, _, _⟩ := hr.out.rc4
               go_wp2_with fail
               try rw [HC3.out]
               try rw [HC4.out]
               refine (xbldWrite wP.heap.size b _ ([60, 47] ++ nm ++ [62]) wr hw.out.bld (by simp only [List.length_append, List.length_cons, List.length_nil]; omega) hB).mono ?_
               rintro e w7 ⟨rfl, hw7⟩
               have hwF := hw.out.trans hw7
               rw [show l0 ++ ([60] ++ nm ++ attrsT ps) ++ [62] ++ escX tx ++ printXs ks ++ ([60, 47] ++ nm ++ [62]) = l0 ++ printX (.mk nm ps tx ks) by rw [HP.out]; simp] at hwF
               go_wp2
               first | go_end0 | refine bodyPost_ret (results_none rfl _ _ _) rfl ?_
               exact ⟨rfl, hwF⟩)
end
end Go.Proofs.YtnijlmkodgdhlaaDoor

/-
  The document's own layer 13: Print.
-/
namespace Go.Proofs.YtnijlmkodgdhlaaDoor
open Go.RowKit Sc
set_option linter.unusedVariables false
set_option maxRecDepth 20000
set_option linter.unusedSimpArgs false

set_option maxHeartbeats 2000000 in
set_option maxRecDepth 100000 in
theorem rprint13_bad (v : Value) (cs : List NdC) (w : World) (hz : cs.length ≤ 140737488355328) (hsm : ∀ c ∈ cs, SmallN 140737488355328 c.nd) (hv : NdsAt w v cs) (hc : checkX (ndsL cs) ≠ 0) :
    Calls Tryd.prog 12 #[v] w fun e w' => e = .returned (.tuple #[.string ⟨#[]⟩, .int .i64 (checkX (ndsL cs))]) ∧ Below w.heap.size w w' := by
  have KC := hid (fun w' (h : Below w.heap.size w w') => rcheck13_any v cs w' hz hsm (hv.below h))
  generalize checkX (ndsL cs) = R at KC hc ⊢
  have r1 : (R != 0) = true := by simpa using hc
  obtain ⟨ao, cap, rfl, _⟩ := hv
  generalize cs.length = n at KC hz ⊢
  clear hc
  go_enter Tryd.func12, Tryd.ntmps12
  go_wp2_with fail
  refine (KC.out _ (Below.refl _ _)).mono ?_
  rintro e w1 ⟨rfl, hw1⟩
  go_wp2_with fail
  refine (KC.out _ hw1).mono ?_
  rintro e w2 ⟨rfl, hw2⟩
  go_wp2
  go_ret2
  exact ⟨rfl, hw1.trans (hw2.mono hw1.size)⟩

theorem glueP (l : List UInt8) : (⟨#[60, 63, 120, 109, 108, 32, 118, 101, 114, 115, 105, 111, 110, 61, 34, 49, 46, 48, 34, 32, 101, 110, 99, 111, 100, 105, 110, 103, 61, 34, 85, 84, 70, 45, 56, 34, 63, 62, 10]⟩ : ByteArray) ++ ⟨l.toArray⟩ = ⟨(prologK ++ l).toArray⟩ := by
  rw [ByteArray.mk_append_mk]; simp [prologK]
set_option maxHeartbeats 2000000 in
set_option maxRecDepth 100000 in
theorem rprint13_ok (v : Value) (cs : List NdC) (t : XT) (w : World) (hz : cs.length ≤ 1048576) (hsm : ∀ c ∈ cs, SmallN 1048576 c.nd) (hv : NdsAt w v cs) (hc : checkX (ndsL cs) = 0) (hf : flatX 0 t = ndsL cs) (hpl : (printX t).length ≤ 1099511627776) :
    Calls Tryd.prog 12 #[v] w fun e w' => e = .returned (.tuple #[.string ⟨(prologK ++ printX t).toArray⟩, .int .i64 0]) ∧ Below w.heap.size w w' := by
  have hsm2 : ∀ c ∈ cs, SmallN 140737488355328 c.nd := fun c hcm => by
    obtain ⟨h1, h2, h3, h4⟩ := hsm c hcm
    exact ⟨by omega, by omega, ⟨by have := h3.1; omega, fun p hp => ⟨by have := (h3.2 p hp).1; omega, by have := (h3.2 p hp).2; omega⟩⟩, h4⟩
  have KC := hid (rcheck13_any v cs w (by omega) hsm2 hv)
  rw [hc] at KC
  have KW := hid (fun w' (h : Below w.heap.size w w') => rwritten_any _ t (Nat.le_refl _) v cs 0 0 [] w' (hv.below h) hz hsm (by rw [List.drop_zero, hf, List.append_nil]) (fun x hx => by simp at hx) hpl)
  have HG := hid (glueP (printX t))
  generalize prologK ++ printX t = Z at HG ⊢
  generalize printX t = P at KW HG hpl
  generalize 0 + (flatX 0 t).length = x at KW
  have z1 := size_list P
  unfold WrRes at KW
  obtain ⟨ao, cap, rfl, _⟩ := hv
  generalize cs.length = n at KC KW hz ⊢
  clear hc hf hsm hsm2
  go_enter Tryd.func12, Tryd.ntmps12
  go_wp2_with fail
  refine KC.out.mono ?_
  rintro e w1 ⟨rfl, hw1⟩
  go_wp2_with fail
  refine (KW.out _ hw1).mono ?_
  rintro e w2 ⟨rfl, hw2⟩
  go_wp2
  go_ret2
  exact ⟨by rw [← HG.out]; rfl, hw1.trans (hw2.mono hw1.size)⟩
end Go.Proofs.YtnijlmkodgdhlaaDoor

/-
  Contracts: package xml's Print.
-/
namespace Go.Proofs.YtnijlmkodgdhlaaDoor
open Go.RowKit Sc
set_option linter.unusedVariables false
set_option maxRecDepth 20000
set_option linter.unusedSimpArgs false

mutual
theorem szX_flat (d : Nat) : ∀ t : XT, szX t + 1 ≤ 4 * (flatX d t).length
  | .mk n a tx k => by
    have := szXs_flat (d + 1) k
    rw [szX, flatX, List.length_cons]; omega
theorem szXs_flat (d : Nat) : ∀ ks : List XT, szXs ks ≤ 4 * (flatXs d ks).length + 1
  | [] => by rw [szXs]; omega
  | k :: ks => by
    have h1 := szX_flat d k
    have h2 := szXs_flat d ks
    rw [szXs, flatXs, List.length_append]; omega
end
theorem write_any (wP : World) (v : Value) (cs : List NdC) (b : Nat) (hv : NdsAt wP v cs) (hz : cs.length ≤ 1000000) (hsm : ∀ c ∈ cs, SmallN 140737488355328 c.nd) (hbB : wP.heap.size ≤ b) : ∀ N, WrS wP v cs b N
  | 0 => by
    intro t ht
    obtain ⟨n, a, tx, k⟩ := t
    rw [szX] at ht; omega
  | N + 1 => write_step wP v cs b hv hz hsm hbB N (write_any wP v cs b hv hz hsm hbB N)
set_option maxHeartbeats 2000000 in
set_option maxRecDepth 100000 in
theorem xprint_bad (v : Value) (cs : List NdC) (w : World) (hz : cs.length ≤ 140737488355328) (hsm : ∀ c ∈ cs, SmallN 140737488355328 c.nd) (hv : NdsAt w v cs) (hc : checkX (ndsL cs) ≠ 0) :
    Calls Tryd.prog 11 #[v] w fun e w' => e = .returned (.tuple #[.string ⟨#[]⟩, .int .i64 (checkX (ndsL cs))]) ∧ Below w.heap.size w w' := by
  have KC := hid (xcheck_any v cs w hz hsm hv)
  generalize checkX (ndsL cs) = R at KC hc ⊢
  have r1 : (R != 0) = true := by simpa using hc
  obtain ⟨ao, cap, rfl, _⟩ := hv
  generalize cs.length = n at KC hz ⊢
  clear hc
  go_enter Tryd.func11, Tryd.ntmps11
  go_wp2_with fail
  refine (KC.out).mono ?_
  rintro e w1 ⟨rfl, hw1⟩
  go_wp2
  go_ret2
  exact ⟨rfl, hw1⟩
set_option maxHeartbeats 2000000 in
set_option maxRecDepth 100000 in
theorem xprint_ok (v : Value) (cs : List NdC) (t : XT) (w : World) (hsm : ∀ c ∈ cs, SmallN 140737488355328 c.nd) (hv : NdsAt w v cs) (hc : checkX (ndsL cs) = 0) (hf : flatX 0 t = ndsL cs) (hpl : 39 + (printX t).length ≤ 140737488355328) :
    Calls Tryd.prog 11 #[v] w fun e w' => e = .returned (.tuple #[.string ⟨(prologK ++ printX t).toArray⟩, .int .i64 0]) ∧ Below w.heap.size w w' := by
  have h200 : cs.length ≤ 200 := by have := (checkX_ok hc).2.1; rw [ndsL_len] at this; exact this
  have hfl : (flatX 0 t).length = cs.length := by rw [hf, ndsL_len]
  have hszt := szX_flat 0 t
  rw [hfl] at hszt
  have KC := hid (xcheck_any v cs w (by omega) hsm hv)
  rw [hc] at KC
  have HZ : Hid (∀ w1 : World, Below w.heap.size w w1 → IsBld (w1.alloc (.cells #[.pointer none, .slice none 0 0] 55)) w.heap.size w1.heap.size []) := fun w1 hw1 => .inl ⟨hw1.size, .slice none 0 0, heap_alloc_new _ _, World.ownsRowF_nil _ _ _ _, by simp [Value.ownBlock]⟩
  have KW := hid (fun b (hb : w.heap.size ≤ b) => write_any w v cs b hv (by omega) hsm hb (szX t) t (Nat.le_refl _) 0 0 [] prologK)
  have HN : Hid (prologK ++ printX t ≠ []) := fun e => by simp [prologK] at e
  have HP0 : Hid (prologK.length = 39) := rfl
  have HD : Hid ((ndsL cs).drop 0 = flatX 0 t ++ []) := show _ = _ by rw [List.drop_zero, hf, List.append_nil]
  have HB : Hid (∀ w1 : World, Below w.heap.size w w1 → Below w.heap.size w (w1.alloc (.cells #[.pointer none, .slice none 0 0] 55))) := fun w1 hw1 => hw1.alloc hw1.size _
  have HPK : Hid ((⟨#[60, 63, 120, 109, 108, 32, 118, 101, 114, 115, 105, 111, 110, 61, 34, 49, 46, 48, 34, 32, 101, 110, 99, 111, 100, 105, 110, 103, 61, 34, 85, 84, 70, 45, 56, 34, 63, 62, 10]⟩ : ByteArray) = ⟨prologK.toArray⟩) := rfl
  have hPl : prologK.length + (printX t).length ≤ 140737488355328 := by rw [HP0.out]; exact hpl
  unfold WrE at KW
  generalize prologK ++ printX t = Z at KW HN ⊢
  generalize printX t = PT at KW hPl
  obtain ⟨ao, cap, rfl, _⟩ := hv
  generalize hnn : cs.length = n at KC KW ⊢
  clear hc hf hsm hfl
  go_enter Tryd.func11, Tryd.ntmps11
  go_wp2_with fail
  refine (KC.out).mono ?_
  rintro e w1 ⟨rfl, hw1⟩
  have hbl := HZ.out w1 hw1
  have hbw := HB.out w1 hw1
  have hsz : w.heap.size ≤ (w1.alloc (.cells #[.pointer none, .slice none 0 0] 55)).heap.size := hbw.size
  go_wp2_with fail
  generalize World.alloc _ _ = W2 at hbl hbw hsz ⊢
  rw [HPK.out]
  refine (xbldWrite w.heap.size w1.heap.size [] prologK W2 hbl (by have := HP0.out; simp; omega) hsz).mono ?_
  rintro e w3 ⟨rfl, hw3⟩
  rw [List.nil_append] at hw3
  go_wp2_with fail
  refine (KW.out w1.heap.size hw1.size w3 HD.out (fun x hx => by simp at hx) (hbw.trans hw3.bel) hw3.bld hPl (by omega)).mono ?_
  rintro e w4 ⟨rfl, hw4⟩
  go_wp2_with fail
  refine (bldString w.heap.size w1.heap.size Z w4 hw4.bld HN.out).mono ?_
  rintro e w5 ⟨rfl, h5, hb5, _⟩
  go_wp2
  go_ret2
  exact ⟨rfl, ((hbw.trans hw3.bel).trans hw4.bel).trans hb5⟩
end Go.Proofs.YtnijlmkodgdhlaaDoor

/-
  Contracts: package xml's attempt and Parse, as the reader reads.
-/
namespace Go.Proofs.YtnijlmkodgdhlaaDoor
open Go.RowKit Sc
set_option linter.unusedVariables false
set_option maxRecDepth 20000
set_option linter.unusedSimpArgs false

theorem FrX.row {b c : Nat} {v v' : Value} {w w' : World} {e : TypeId} {l : List Value} (h : FrX b v w v' w') (hr : RowIs w c e l) (hn : c ≠ b) (hv : v.ownBlock ≠ some c) : RowIs w' c e l := by
  unfold RowIs at hr ⊢
  rw [h.block c (Array.getElem?_eq_some_iff.1 hr).1 hn hv]; exact hr
theorem one_row (w : World) (v : Value) (t : TypeId) : RowIs (w.alloc (.cells #[v] t)) w.heap.size t [v] := by
  unfold RowIs; rw [heap_alloc_new]
/-- What attempt tells. -/
def AttP (o : Option (List Nd)) (b B : Nat) (w : World) (e : Ending) (w' : World) : Prop := match o with
  | none => e = .returned (.tuple #[.slice none 0 0, .int .i64 130]) ∧ FrX b (.slice none 0 0) w (.slice none 0 0) w'
  | some ns => ∃ v' cs', e = .returned (.tuple #[v', .int .i64 0]) ∧ ndsL cs' = ns ∧ OwnN w' B v' cs' ∧ FrX b (.slice none 0 0) w (.slice none 0 0) w'
set_option maxHeartbeats 4000000 in
set_option maxRecDepth 100000 in
theorem attempt_any (b : Nat) (l : List UInt8) (w : World) (hrd : XrAt w b l (.slice none 0 0)) (hl : l.length ≤ 4096) :
    Calls Tryd.prog 35 #[.func (.func 36) #[.pointer (some ⟨b, 0, none⟩)] #[]] w fun e w' => AttP (docC l) b w.heap.size w e w' := by
  have hmf : ∀ (fn : Fn) (first cap : Array Value) (w : World), (Instr.makeFunc fn first cap).run Tryd.prog w = .ok (.func fn first cap) w := fun _ _ _ _ => rfl
  have hbw := hrd.lt
  have hrp := (one_row w (.slice none 0 0) 22).below ((Below.refl _ (w.alloc (.cells #[.slice none 0 0] 22))).alloc (Nat.le_refl _) (.cells #[.int .i64 0] 25)) (by simp)
  have hrq := one_row (w.alloc (.cells #[.slice none 0 0] 22)) (.int .i64 0) 25
  rw [show (w.alloc (.cells #[.slice none 0 0] 22)).heap.size = w.heap.size + 1 by simp] at hrq
  have hb0 : Below w.heap.size w ((w.alloc (.cells #[.slice none 0 0] 22)).alloc (.cells #[.int .i64 0] 25)) := ((Below.refl _ w).alloc (Nat.le_refl _) _).alloc (by simp) _
  have hsz : ((w.alloc (.cells #[.slice none 0 0] 22)).alloc (.cells #[.int .i64 0] 25)).heap.size = w.heap.size + 2 := by simp
  have hr0 := hrd.below hb0
  have KD := hid (doc_any b (w.heap.size + 2) l _ hr0 (by omega) (Nat.le_of_eq hsz.symm) hl)
  have HB0 := hid hb0
  have HRP := hid hrp
  have HRQ := hid hrq
  have HSZ := hid hsz
  clear hrd hr0 hb0 hrp hrq hsz
  generalize docC l = R at KD ⊢
  cases R with
  | none =>
    simp only [DocP] at KD
    go_enter_defers Tryd.func35, Tryd.ntmps35
    go_wp2_with fail
    generalize World.alloc _ _ = W0 at KD HB0 HRP HRQ HSZ ⊢
    refine (KD.out).mono ?_
    rintro e w2 ⟨rfl, hf2⟩
    have hp2 := hf2.row HRP.out (by omega) (by simp [Value.ownBlock])
    have hq2 := hf2.row HRQ.out (by omega) (by simp [Value.ownBlock])
    have hq3 : RowIs (w2.setCell ⟨w.heap.size, 0, none⟩ (.slice none 0 0)) (w.heap.size + 1) 25 [.int .i64 0] := by
      unfold RowIs; rw [heap_setCell_other _ _ _ _ (show w.heap.size + 1 ≠ w.heap.size by omega)]; exact hq2
    refine leaves_cons (f := 52) (args := #[.pointer (some ⟨w.heap.size, 0, none⟩), .pointer (some ⟨w.heap.size + 1, 0, none⟩)]) (by simp) (by simp [go_sem]) ?_
    refine (catch_panic ⟨w.heap.size, 0, none⟩ ⟨w.heap.size + 1, 0, none⟩ _ _ [] w2 (hp2.cell 0 (by simp)) (hp2.frozen 0) (hq3.cell 0 (by simp)) (hq3.frozen 0)).mono ?_
    rintro e u' w'' ⟨rfl, rfl, rfl⟩
    have hp4 : RowIs ((w2.setCell ⟨w.heap.size, 0, none⟩ (.slice none 0 0)).setCell ⟨w.heap.size + 1, 0, none⟩ (.int .i64 130)) w.heap.size 22 [.slice none 0 0] := by
      have := hp2.set 0 (.slice none 0 0)
      unfold RowIs at this ⊢
      rw [heap_setCell_other _ _ _ _ (show w.heap.size ≠ w.heap.size + 1 by omega)]; simpa using this
    have hq4 : RowIs ((w2.setCell ⟨w.heap.size, 0, none⟩ (.slice none 0 0)).setCell ⟨w.heap.size + 1, 0, none⟩ (.int .i64 130)) (w.heap.size + 1) 25 [.int .i64 130] := by
      have := hq3.set 0 (.int .i64 130)
      simpa using this
    have hfin : FrX b (.slice none 0 0) w (.slice none 0 0) ((w2.setCell ⟨w.heap.size, 0, none⟩ (.slice none 0 0)).setCell ⟨w.heap.size + 1, 0, none⟩ (.int .i64 130)) := by
      have h1 := (FrX.of (v := .slice none 0 0) (FrR.below (b := b) HB0.out)).trans hf2
      refine ⟨h1.os, h1.tape, h1.output, by simp only [World.size_setCell]; exact h1.size, fun c hc hn hv => ?_, h1.own⟩
      rw [heap_setCell_other _ _ _ _ (show c ≠ w.heap.size + 1 by omega), heap_setCell_other _ _ _ _ (show c ≠ w.heap.size by omega)]
      exact h1.block c hc hn hv
    have c4 := hp4.cell 0 (by simp)
    have c5 := hq4.cell 0 (by simp)
    generalize World.setCell _ _ _ = w4 at hfin c4 c5 ⊢
    simp only [List.getElem_cons_zero] at c4 c5
    simp [Leaves, settle, results, Tryd.results35, go_sem, c4, c5, AttP, hfin]
  | some ns =>
    simp only [DocP] at KD
    go_enter_defers Tryd.func35, Tryd.ntmps35
    go_wp2_with fail
    generalize World.alloc _ _ = W0 at KD HB0 HRP HRQ HSZ ⊢
    refine (KD.out).mono ?_
    rintro e w2 ⟨v2, cs2, rfl, hk2, hown2, hf2⟩
    have hp2 := hf2.row HRP.out (by omega) (by simp [Value.ownBlock])
    have hq2 := hf2.row HRQ.out (by omega) (by simp [Value.ownBlock])
    obtain ⟨xa, xc, hv2⟩ := hown2.form
    obtain ⟨N2, hN2⟩ : ∃ N2, cs2.length = N2 := ⟨_, rfl⟩
    rw [hN2] at hv2
    subst hv2
    have hq3 : RowIs (w2.setCell ⟨w.heap.size, 0, none⟩ (.slice xa N2 xc)) (w.heap.size + 1) 25 [.int .i64 0] := by
      unfold RowIs; rw [heap_setCell_other _ _ _ _ (show w.heap.size + 1 ≠ w.heap.size by omega)]; exact hq2
    have cp := hp2.cell 0 (by simp)
    have fp := hp2.frozen 0
    have cq := hq3.cell 0 (by simp)
    have fq := hq3.frozen 0
    simp only [List.getElem_cons_zero] at cp cq
    have hp4 : RowIs ((w2.setCell ⟨w.heap.size, 0, none⟩ (.slice xa N2 xc)).setCell ⟨w.heap.size + 1, 0, none⟩ (.int .i64 0)) w.heap.size 22 [.slice xa N2 xc] := by
      have := hp2.set 0 (.slice xa N2 xc)
      unfold RowIs at this ⊢
      rw [heap_setCell_other _ _ _ _ (show w.heap.size ≠ w.heap.size + 1 by omega)]; simpa using this
    have hq4 : RowIs ((w2.setCell ⟨w.heap.size, 0, none⟩ (.slice xa N2 xc)).setCell ⟨w.heap.size + 1, 0, none⟩ (.int .i64 0)) (w.heap.size + 1) 25 [.int .i64 0] := by
      have := hq3.set 0 (.int .i64 0)
      simpa using this
    have hfin : FrX b (.slice none 0 0) w (.slice none 0 0) ((w2.setCell ⟨w.heap.size, 0, none⟩ (.slice xa N2 xc)).setCell ⟨w.heap.size + 1, 0, none⟩ (.int .i64 0)) := by
      have h1 := (FrX.of (v := .slice none 0 0) (FrR.below (b := b) HB0.out)).trans hf2.none
      refine ⟨h1.os, h1.tape, h1.output, by simp only [World.size_setCell]; exact h1.size, fun c hc hn hv => ?_, h1.own⟩
      rw [heap_setCell_other _ _ _ _ (show c ≠ w.heap.size + 1 by omega), heap_setCell_other _ _ _ _ (show c ≠ w.heap.size by omega)]
      exact h1.block c hc hn hv
    have hown4 : OwnN ((w2.setCell ⟨w.heap.size, 0, none⟩ (.slice xa N2 xc)).setCell ⟨w.heap.size + 1, 0, none⟩ (.int .i64 0)) w.heap.size (.slice xa N2 xc) cs2 := by
      have h1 : OwnN ((w2.setCell ⟨w.heap.size, 0, none⟩ (.slice xa N2 xc)).setCell ⟨w.heap.size + 1, 0, none⟩ (.int .i64 0)) (w.heap.size + 2) (.slice xa N2 xc) cs2 :=
        ⟨ownsRow_setCell_below (ownsRow_setCell_below hown2.1 (by simp) _) (by simp) _, fun c hc => ownsRow_setCell_below (ownsRow_setCell_below (hown2.2 c hc) (by simp) _) (by simp) _⟩
      exact h1.mono (by omega)
    have c4 := hp4.cell 0 (by simp)
    have c5 := hq4.cell 0 (by simp)
    have HFIN := hid hfin
    have HOWN := hid hown4
    have HK2 := hid hk2
    have C4 := hid c4
    have C5 := hid c5
    clear hp4 hq4 hfin hown4 hown2 hk2 hN2 c4 c5 hf2 hp2 hq2 hq3
    go_wp2
    generalize World.setCell _ _ _ = w4 at HFIN HOWN C4 C5 ⊢
    have c4 := C4.out
    have c5 := C5.out
    simp only [List.getElem_cons_zero] at c4 c5
    refine leaves_cons (f := 52) (args := #[.pointer (some ⟨w.heap.size, 0, none⟩), .pointer (some ⟨w.heap.size + 1, 0, none⟩)]) (by simp) (by simp [go_sem]) ?_
    refine (catch_idle ⟨w.heap.size, 0, none⟩ ⟨w.heap.size + 1, 0, none⟩ _).mono ?_
    rintro e u' w'' ⟨rfl, rfl, rfl⟩
    simp [Leaves, settle, results, Tryd.results35, go_sem, c4, c5]
    exact ⟨.slice xa N2 xc, cs2, rfl, HK2.out, HOWN.out, HFIN.out⟩
end Go.Proofs.YtnijlmkodgdhlaaDoor

/-
  Contracts: package xml's Parse.
-/
namespace Go.Proofs.YtnijlmkodgdhlaaDoor
open Go.RowKit Sc
set_option linter.unusedVariables false
set_option maxRecDepth 20000
set_option linter.unusedSimpArgs false

/-- The elements that Parse tells. -/
def ParP (R : List Nd × Int) (w : World) (e : Ending) (w' : World) : Prop := ∃ v' cs', e = .returned (.tuple #[v', .int .i64 R.2]) ∧ ndsL cs' = R.1 ∧ OwnN w' w.heap.size v' cs' ∧ Below w.heap.size w w'
theorem fr_below {w w' : World} {o : Obj} (h : FrX w.heap.size (.slice none 0 0) (w.alloc o) (.slice none 0 0) w') : Below w.heap.size w w' := by
  have hb : Below w.heap.size w (w.alloc o) := (Below.refl _ w).alloc (Nat.le_refl _) o
  refine ⟨h.os.trans hb.os, h.tape.trans hb.tape, h.output.trans hb.output, Nat.le_trans hb.size h.size, fun c hc => ?_⟩
  rw [h.block c (Nat.lt_of_lt_of_le hc hb.size) (by omega) (by simp [Value.ownBlock]), hb.block c hc]
set_option maxHeartbeats 1000000 in
set_option maxRecDepth 100000 in
theorem xparse_any (l : List UInt8) (w : World) (hl : l.length ≤ 140737488355328) :
    Calls Tryd.prog 17 #[.string ⟨l.toArray⟩] w fun e w' => ParP (parseX l) w e w' := by
  have hmf : ∀ (fn : Fn) (first cap : Array Value) (w : World), (Instr.makeFunc fn first cap).run Tryd.prog w = .ok (.func fn first cap) w := fun _ _ _ _ => rfl
  have hP := parseC_is l
  generalize parseX l = R at hP ⊢
  by_cases h : 4096 < l.length
  · rw [if_pos h] at hP
    have HP := hid hP
    have r : (4096 : Int) < (l.length : Int) := by omega
    clear hP
    go_enter Tryd.func17, Tryd.ntmps17
    go_wp2
    go_ret2
    rw [HP.out]
    exact ⟨.slice none 0 0, [], rfl, rfl, OwnN.nil _ _, Below.refl _ _⟩
  · rw [if_neg h] at hP
    have HP := hid hP
    have r : ¬ (4096 : Int) < (l.length : Int) := by omega
    have hrd : XrAt (w.alloc (.cells #[.string ⟨l.toArray⟩, .slice none 0 0] 69)) w.heap.size l (.slice none 0 0) := rc_row2 w _ _ _
    have KA := hid (attempt_any w.heap.size l _ hrd (by omega))
    have HFB : Hid (∀ w', FrX w.heap.size (.slice none 0 0) (w.alloc (.cells #[.string ⟨l.toArray⟩, .slice none 0 0] 69)) (.slice none 0 0) w' → Below w.heap.size w w') := fun w' h => fr_below h
    have HSZ : Hid (w.heap.size ≤ (w.alloc (.cells #[.string ⟨l.toArray⟩, .slice none 0 0] 69)).heap.size) := show _ ≤ _ by simp
    clear hP hrd
    generalize docC l = o at KA HP
    cases o with
    | none =>
      simp only [AttP] at KA
      go_enter Tryd.func17, Tryd.ntmps17
      go_wp2_with fail
      generalize World.alloc _ _ = W0 at KA HFB ⊢
      refine (KA.out).mono ?_
      rintro e w2 ⟨rfl, hf2⟩
      go_wp2
      go_ret2
      rw [HP.out]
      exact ⟨.slice none 0 0, [], rfl, rfl, OwnN.nil _ _, HFB.out _ hf2⟩
    | some ns =>
      simp only [AttP] at KA
      go_enter Tryd.func17, Tryd.ntmps17
      go_wp2_with fail
      generalize World.alloc _ _ = W0 at KA HFB HSZ ⊢
      refine (KA.out).mono ?_
      rintro e w2 ⟨v2, cs2, rfl, hk2, hown2, hf2⟩
      go_wp2
      go_ret2
      rw [HP.out]
      exact ⟨v2, cs2, rfl, hk2, hown2.mono HSZ.out, HFB.out _ hf2⟩
end Go.Proofs.YtnijlmkodgdhlaaDoor
