/-
  The contract of package via's List.
-/
import Derived.Test.YtpcgomfiihhpcaaDoorVParse2
import Derived.Test.YtpcgomfiihhpcaaDoorFAll
import Derived.Test.YtpcgomfiihhpcaaDoorFH
namespace Go.Proofs.YtpcgomfiihhpcaaDoor
open Go.RowKit Sc
set_option linter.unusedVariables false
set_option maxRecDepth 20000

def viaK : List UInt8 := [86, 105, 97]
/-- What List hands back. -/
def HopsRes (R : List Hop × Int) (w w' : World) (e : Ending) : Prop := ∃ v cs, e = .returned (.tuple #[v, .int .i64 R.2]) ∧ cs.map HopC.h = R.1 ∧ OwnV w' w.heap.size v cs
theorem hsres_bad {R : List Hop × Int} {n : Int} {w w' : World} (h : R = ([], n)) : HopsRes R w w' (.returned (.tuple #[.slice none 0 0, .int .i64 n])) := ⟨_, [], by rw [h], by rw [h]; rfl, OwnV.nil _ _⟩
theorem Own.txts {w : World} {B e : Nat} {v : Value} {ps : List (List UInt8)} (h : Own w B e v (strs ps)) : ∃ ao cap, v = .slice ao ps.length cap ∧ ∀ j (hj : j < ps.length), ∃ a, ao = some a ∧ a.block < w.heap.size ∧ w.cell? (a.add j) = some (.string ⟨(ps[j]).toArray⟩) := by
  by_cases hne : ps = []
  · obtain ⟨a, cap, rfl⟩ := h.form
    subst hne
    exact ⟨a, cap, rfl, fun j hj => by simp at hj⟩
  · obtain ⟨g, cap, rfl, hc⟩ := own_strs h hne
    refine ⟨_, cap, rfl, fun j hj => ⟨_, rfl, ?_, ?_⟩⟩
    · exact World.block_lt_of_cell? w ⟨g, j, none⟩ (hc j hj)
    · have e : (⟨g, 0, none⟩ : Addr).add j = ⟨g, j, none⟩ := by unfold Addr.add; split <;> simp_all
      rw [e]; exact hc j hj
theorem Own.lower {w : World} {B C : Nat} {e : TypeId} {v : Value} {xs : List Value} (h : Own w B e v xs) (hc : C ≤ B) : Own w C e v xs := by
  obtain ⟨h1, h2⟩ := h
  refine ⟨h1, ?_⟩
  rcases h2 with h2 | ⟨g, cap, cur, hv, hg, r⟩
  · exact Or.inl h2
  · exact Or.inr ⟨g, cap, cur, hv, Nat.le_trans hc hg, r⟩
theorem parts_own {l : List UInt8} {qs : List (List UInt8)} {c : Int} (h : partsV c l = qs) (w : World) (hs : l.length ≤ 1048576) :
    Calls Tryd.prog 36 #[.string ⟨l.toArray⟩, .int .u8 c] w fun e w' => ∃ a cap, e = .returned (.slice a qs.length cap) ∧ Own w' w.heap.size 9 (.slice a qs.length cap) (strs qs) ∧ Below w.heap.size w w' := by
  refine (parts_any ⟨l.toArray⟩ c w (by rw [size_list]; omega)).mono ?_
  rintro e w' ⟨v, rfl, hown, hb⟩
  have ho : Own w' w.heap.size 9 v (strs qs) := by rw [← h]; exact hown.lower (Nat.le_succ _)
  obtain ⟨a, cap, rfl⟩ := ho.form
  rw [strs_length] at ho ⊢
  exact ⟨a, cap, rfl, ho, hb⟩
theorem refparts_own {l : List UInt8} {qs : List (List UInt8)} {c : Int} (h : partsV c l = qs) (w : World) (hs : l.length ≤ 1048576) :
    Calls Tryd.prog 42 #[.string ⟨l.toArray⟩, .int .u8 c] w fun e w' => ∃ a cap, e = .returned (.slice a qs.length cap) ∧ Own w' w.heap.size 9 (.slice a qs.length cap) (strs qs) ∧ Below w.heap.size w w' := by
  refine (refparts_any ⟨l.toArray⟩ c w (by rw [size_list]; omega)).mono ?_
  rintro e w' ⟨v, rfl, hown, hb⟩
  have ho : Own w' w.heap.size 9 v (strs qs) := by rw [← h]; exact hown
  obtain ⟨a, cap, rfl⟩ := ho.form
  rw [strs_length] at ho ⊢
  exact ⟨a, cap, rfl, ho, hb⟩
theorem hopsV_1 {vals : List (List UInt8)} {n : Int} (h : hopsG [] (restQ vals 0) = ([], n)) (hn : n ≠ 0) : hopsV vals = ([], n) := by rw [hopsV_is, h]; simp [hn]
theorem hopsV_2 {vals : List (List UInt8)} (h : hopsG [] (restQ vals 0) = ([], 0)) : hopsV vals = ([], 100) := by rw [hopsV_is, h]; simp
theorem hopsV_3 {vals : List (List UInt8)} {out : List Hop} (h : hopsG [] (restQ vals 0) = (out, 0)) (hn : out ≠ []) : hopsV vals = (out, 0) := by rw [hopsV_is, h]; simp [hn]

theorem partsG_count (sep : Int) : ∀ (l : List UInt8) (p : Pl) (cur : List UInt8), (partsG sep p cur l).length ≤ l.length + 1
  | [], p, cur => by rw [partsG]; simp
  | b :: r, p, cur => by
    rw [partsG]
    split
    · have := partsG_count sep r (pst p b.toNat).1 []; simp; omega
    · have := partsG_count sep r (pst p b.toNat).1 (cur ++ [b]); simp; omega
theorem parts_count (sep : Int) (l : List UInt8) : (partsV sep l).length ≤ l.length + 1 := partsG_count sep l pl0 []

set_option maxHeartbeats 2000000 in
set_option maxRecDepth 100000 in
theorem vlist_any (m : Ms) (h : Value) (w : World) (hsm : SmallM 140737488355328 m) (hhl : m.headers.length ≤ 4398046511104) (hat : HdrsAt w h m.headers) (hvl : ∀ l ∈ allV m viaK, l.length ≤ 1048576) :
    Calls Tryd.prog 21 #[msgV m h] w fun e w' => HopsRes (hopsV (allV m viaK)) w w' e ∧ Below w.heap.size w w' := by
  obtain ⟨i0, hi, hz0, hz1, hz2⟩ := info_parts infoHop
  have KA := hid (fun w' (hb : Below w.heap.size w w') => fall_any m h viaK w' hsm hhl (by decide) (hat.below hb))
  have hnl : (allV m viaK).length ≤ 4398046511104 := by
    unfold allV
    rw [List.length_map]
    exact Nat.le_trans (List.length_filter_le _ _) hhl
  have HBX := hid (boxM_new w m h)
  have hb0 : Below w.heap.size w (w.alloc (objM m h)) := (Below.refl _ w).alloc (Nat.le_refl _) _
  have H1 := hid (fun n => @hopsV_1 (allV m viaK) n)
  have H2 := hid (@hopsV_2 (allV m viaK))
  have H3 := hid (fun o => @hopsV_3 (allV m viaK) o)
  have HVL := hid hvl
  obtain ⟨ah, ch, rfl⟩ := hat.form
  clear hsm hhl hat hvl
  obtain ⟨me, ta, st, re, hs, bo⟩ := m
  unfold msgV at KA ⊢
  unfold objM at HBX hb0
  simp only at KA HBX hb0 ⊢
  generalize allV _ viaK = vals at KA H1 H2 H3 HVL hnl ⊢
  generalize hopsV vals = R at H1 H2 H3 ⊢
  obtain ⟨F, hF⟩ : ∃ F, hopsG [] (restQ vals 0) = F := ⟨_, rfl⟩
  rw [hF] at H1 H2 H3
  have HF0 : Hid (F = hopsG [] (restQ vals 0)) := hF.symm
  clear hF
  obtain ⟨n, hn⟩ : ∃ n, n = vals.length := ⟨_, rfl⟩
  rw [← hn] at hnl
  have HN := hid hn
  clear hn
  obtain ⟨x0, x1, x2, x3, x4, x5⟩ := HBX.out
  simp only at x0 x1 x2 x3 x4 x5
  unfold viaK at KA
  go_enter Tryd.func21, Tryd.ntmps21
  go_wp2_with fail
  refine (KA.out _ hb0).mono ?_
  rintro e w1 ⟨v0, rfl, hov, hw1⟩
  have hb1 := hb0.trans (hw1.mono hb0.size)
  obtain ⟨va, vc, hve, hvc⟩ := hov.txts
  subst hve
  rw [← HN.out]
  have HC := hid hvc
  clear hvc KA hov hw1 hb0 HBX x0 x1 x2 x3 x4 x5
  go_wp2
  go_loopw [4, 14] (fun x i wr => ∃ (k : Nat) (cs : List HopC), k ≤ n ∧ i = .int .i64 k ∧ Hid (F = hopsG (cs.map HopC.h) (restQ vals k)) ∧ Hid (cs.length ≤ 16) ∧ Hid (OwnV wr w1.heap.size x cs) ∧ Below w1.heap.size w1 wr ∧ w1.heap.size ≤ wr.heap.size) (fun _ i _ => n - (intOf i).toNat)
  case atStart => exact ⟨0, [], by omega, rfl, HF0, hid (by simp), hid (OwnV.nil _ _), Below.refl _ _, Nat.le_refl _⟩
  case round =>
    clear HF0
    obtain ⟨k, cs0, hkn, rfl, hF, hcl, hown, hb, hB⟩ := hrel
    by_cases hlt : k < n
    · have hkl : k < vals.length := by have := HN.out; omega
      obtain ⟨a, hao, hab, hcell⟩ := HC.out k hkl
      subst hao
      have hcell2 := cell_below hb (by rw [add_block]; exact hab) hcell
      have hll := HVL.out _ (List.getElem_mem hkl)
      have hnx := hop_next hkl
      have HF : Hid (F = hopsG (cs0.map HopC.h) (partsV 44 vals[k] ++ restQ vals (k + 1))) := show _ = _ by rw [hF.out, hnx]
      obtain ⟨qs, hqs⟩ : ∃ qs, partsV 44 vals[k] = qs := ⟨_, rfl⟩
      have KP := hid (fun w' => parts_own hqs w' hll)
      have HQL : Hid (∀ l ∈ qs, l.length ≤ 1048576) := fun l hl => by have := p_mem_len 44 vals[k] l (by rw [hqs]; exact hl); omega
      have hqn : qs.length ≤ 1048577 := by
        have := parts_count 44 vals[k]
        rw [hqs] at this
        omega
      rw [hqs] at HF
      clear hcell hnx hF hqs hll
      obtain ⟨xa, xc, hxe⟩ := hown.out.form
      subst hxe
      go_wp2_with fail
      refine (KP.out _).mono ?_
      rintro e w2 ⟨pa, pc, rfl, hop, hw2⟩
      have HO2 := hid (hown.out.below hw2)
      have HP2 := hid (hop.lower hB)
      have hb2 := hb.trans (hw2.mono hB)
      have hB2 := Nat.le_trans hB hw2.size
      clear hown hop hb hB hw2 KP hcell2
      obtain ⟨n2, hn2⟩ : ∃ n2, n2 = qs.length := ⟨_, rfl⟩
      rw [← hn2] at HP2 hqn ⊢
      have HN2 := hid hn2
      clear hn2
      go_wp2
      go_loopw [4, 21] (fun x i wr => ∃ (j : Nat) (cs : List HopC), j ≤ n2 ∧ i = .int .i64 j ∧ Hid (F = hopsG (cs.map HopC.h) (qs.drop j ++ restQ vals (k + 1))) ∧ Hid (cs.length ≤ 16) ∧ Hid (OwnV wr w1.heap.size x cs) ∧ Hid (Own wr w1.heap.size 9 (.slice pa n2 pc) (strs qs)) ∧ Below w1.heap.size w1 wr ∧ w1.heap.size ≤ wr.heap.size) (fun _ i _ => n2 - (intOf i).toNat)
      case atStart => exact ⟨0, cs0, by omega, rfl, HF, hcl, HO2, HP2, hb2, hB2⟩
      case round =>
        clear HF HO2 HP2 hb2 hB2 hcl
        obtain ⟨j, cs, hjn, rfl, hF, hcl, hown, hop, hb, hB⟩ := hrel
        obtain ⟨xa, xc, hxe⟩ := hown.out.form
        subst hxe
        by_cases hlt2 : j < n2
        · have hjl : j < qs.length := by have := HN2.out; omega
          obtain ⟨ao, cap, he, hcs⟩ := hop.out.txts
          obtain ⟨a, hao, hab, hcell⟩ := hcs j hjl
          subst hao
          simp only [Value.slice.injEq] at he
          obtain ⟨hpa, hq1, hq2⟩ := he
          subst hpa
          clear hq1 hq2
          have hll := HQL.out _ (List.getElem_mem hjl)
          have KV := hid (fun w' => vparse_any qs[j] w' hll)
          have hon := @hop_on F qs (restQ vals (k + 1)) (cs.map HopC.h) j
          have hbad := @hop_bad F qs (restQ vals (k + 1)) (cs.map HopC.h) j
          have hful := @hop_full F qs (restQ vals (k + 1)) (cs.map HopC.h) j
          obtain ⟨x, er, hpv⟩ : ∃ x er, parseH qs[j] = (x, er) := ⟨_, _, rfl⟩
          rw [hpv] at KV
          have hcl2 := hcl.out
          by_cases he : er = 0
          · subst he
            obtain ⟨ho, po, ps⟩ := x
            unfold HopRes hpV at KV
            simp only at KV
            by_cases hf : cs.length < 16
            · have hnext := hid (hon hjl hF.out hpv (by simpa using hf))
              have hfn : ((cs.length : Int) == 16) = false := by simp; omega
              clear hon hbad hful hpv hF hcs hab hll
              go_wp2_with fail
              refine (KV.out _).mono ?_
              rintro e w3 ⟨⟨q, rfl, o3⟩, hw3⟩
              have HC3 : Hid (HopC.Own w3 w1.heap.size ⟨⟨ho, po, ps⟩, q⟩) := OwnP.mono o3 hB
              obtain ⟨a3, k3, e3⟩ := o3.parsAt.form
              subst e3
              have hown2 := hown.out.below hw3
              have hop2 := hop.out.below hw3
              have hb3 := hb.trans (hw3.mono hB)
              have hB3 := hb3.size
              clear o3 hown hop hw3 KV hb hcell
              have HNW := hid (fun (wx : World) (t : TypeId) => new_hop wx ⟨⟨ho, po, ps⟩, .slice a3 ps.length k3⟩ t)
              simp only at HNW
              have HNV := hid (HNW.out (w3.alloc (.cells #[.string ⟨ho.toArray⟩, .int .i64 po, .slice a3 ps.length k3] 24)))
              rw [show (w3.alloc (.cells #[.string ⟨ho.toArray⟩, .int .i64 po, .slice a3 ps.length k3] 24)).heap.size = w3.heap.size + 1 by simp] at HNV
              clear HNW
              have hA := hid ((Below.refl _ w3).alloc (Nat.le_refl _) (.cells #[.string ⟨ho.toArray⟩, .int .i64 po, .slice a3 ps.length k3] 24))
              have hA2 := hid (fun o => hA.out.trans (((Below.refl _ _).alloc (Nat.le_refl _) o).mono hA.out.size))
              have hO3 := hid (fun o => hown2.below (hA2.out o))
              have hP3 := hid (fun o => hop2.below (hA2.out o))
              have hC3 := hid (fun o => HC3.out.below (hA2.out o))
              have hb4 := hid (fun o => hb3.trans ((hA2.out o).mono hB3))
              clear hown2 hop2 HC3 hA hb3
              go_wp2_with (at_builtin; refine wp_appV _ rfl (.tmp 36) (.tmp 38) 48 rfl w1.heap.size i0 _ Tryd.underlying48 hi hz0 hz1 hz2 rfl _ cs rfl (hO3.out _) ⟨_, 0, none⟩ 1 ⟨⟨ho, po, ps⟩, .slice a3 ps.length k3⟩ (hC3.out _) rfl (by exact HNV.out _) (by omega) w1 (hb4.out _) (by simp; omega) ?_; intro v5 w5 hown5 hkeep hb5 hB5)
              have HO5 := hid hown5
              have HP5 := hid (hkeep _ _ _ (hP3.out _))
              clear hown5 hkeep hP3
              go_wp2
              go_roundw
              case rel => exact ⟨j + 1, cs ++ [⟨⟨ho, po, ps⟩, .slice a3 ps.length k3⟩], by omega, by go_num, hid (by rw [List.map_append]; exact hnext.out), hid (by simp; omega), HO5, HP5, hb5, hB5⟩
              case measure => simp [intOf]; omega
            · have hft : ((cs.length : Int) == 16) = true := by simp; omega
              have HR2 : Hid (R = ([], 4)) := H1.out _ (hful hjl hF.out hpv (by simp; omega)) (by decide)
              clear hon hbad hful hpv hF hcs hab hll
              go_wp2_with fail
              refine (KV.out _).mono ?_
              rintro e w3 ⟨⟨q, rfl, o3⟩, hw3⟩
              obtain ⟨a3, k3, e3⟩ := o3.parsAt.form
              subst e3
              have hb3 := hb.trans (hw3.mono hB)
              have hb4 := fun o => hb3.alloc hb3.size o
              clear o3 hw3 KV hb hcell
              go_wp2
              go_ret2
              exact ⟨hsres_bad HR2.out, hb1.trans ((hb4 _).mono hb1.size)⟩
          · have hne : (er != 0) = true := by simpa using he
            have hne2 : (er == 0) = false := by simpa using he
            have HR2 : Hid (R = ([], er)) := H1.out _ (hbad hjl hF.out hpv he) he
            clear hon hbad hful hpv hF hcs hab hll
            obtain ⟨ho, po, ps⟩ := x
            unfold HopRes hpV at KV
            simp only at KV
            go_wp2_with fail
            refine (KV.out _).mono ?_
            rintro e w3 ⟨⟨q, rfl, o3⟩, hw3⟩
            obtain ⟨a3, k3, e3⟩ := o3.parsAt.form
            subst e3
            have hb3 := hb.trans (hw3.mono hB)
            have hb4 := fun o => hb3.alloc hb3.size o
            clear o3 hw3 KV hb hcell
            go_wp2
            go_ret2
            exact ⟨hsres_bad HR2.out, hb1.trans ((hb4 _).mono hb1.size)⟩
        · have hF2 := hid (hop_done (by have := HN2.out; omega) hF.out)
          clear hF hop
          go_wp2
          go_roundw
          case rel => exact ⟨k + 1, cs, by omega, by go_num, hF2, hcl, hown, hb, hB⟩
          case measure => simp [intOf]; omega
    · have hF2 : F = (cs0.map HopC.h, 0) := by
        have := hF.out
        rw [hop_over (by have := HN.out; omega), hopsG] at this
        exact this
      obtain ⟨xa, xc, hxe⟩ := hown.out.form
      subst hxe
      by_cases hz : cs0 = []
      · subst hz
        have HR2 : Hid (R = ([], 100)) := H2.out hF2
        clear hF2 hF hown
        go_wp2
        go_ret2
        exact ⟨hsres_bad HR2.out, hb1.trans (hb.mono hb1.size)⟩
      · have HR2 : Hid (R = (cs0.map HopC.h, 0)) := H3.out _ hF2 (by simpa using hz)
        have hz2 : cs0.length ≠ 0 := fun k => hz (List.eq_nil_of_length_eq_zero k)
        have hz3 : ((cs0.length : Int) == 0) = false := by simp; omega
        clear hF2 hF
        go_wp2
        go_ret2
        exact ⟨⟨_, cs0, by rw [HR2.out]; rfl, by rw [HR2.out], hown.out.mono hb1.size⟩, hb1.trans (hb.mono hb1.size)⟩

end Go.Proofs.YtpcgomfiihhpcaaDoor
