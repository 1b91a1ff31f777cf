/-
  Contracts of package uri: fits, mayBe, allHave.
-/
import Derived.Test.YtfdcklekjnihjaaDoorUWhere
import Derived.Test.YtfdcklekjnihjaaDoorRefList
import Derived.Maps.OwnOps
import Derived.Maps.OwnSet
namespace Go.Proofs.YtfdcklekjnihjaaDoor
open Go.RowKit Sc Go.Maps Go.WideMaps
set_option linter.unusedVariables false
set_option maxRecDepth 20000

set_option maxHeartbeats 1000000 in
theorem fits_any (nm vl : List UInt8) (hs : Bool) (w : World) (h1 : nm.length ≤ 140737488355328) (h2 : vl.length ≤ 140737488355328) :
    Calls Tryd.prog 60 #[.agg #[.string ⟨nm.toArray⟩, .string ⟨vl.toArray⟩, .bool hs]] w fun e w' => e = .returned (.bool (parB ⟨nm, vl, hs⟩)) ∧ Below w.heap.size w w' := by
  have hv : parB ⟨nm, vl, hs⟩ = (decide (1 ≤ nm.length) && (decide (nm.length ≤ 64) && (decide (vl.length ≤ 64) && (hs || vl.isEmpty)))) := rfl
  have z1 := size_list nm
  have z2 := size_list vl
  by_cases c1 : 1 ≤ nm.length
  · have e1 : nm.isEmpty = false := by cases nm with | nil => simp at c1 | cons => rfl
    by_cases c2 : nm.length ≤ 64
    · by_cases c3 : vl.length ≤ 64
      · have HV : Hid (parB ⟨nm, vl, hs⟩ = (hs || vl.isEmpty)) := show _ = _ by rw [hv, decide_eq_true c1, decide_eq_true c2, decide_eq_true c3]; rfl
        clear hv
        cases hs
        all_goals (
          go_enter Tryd.func60, Tryd.ntmps60
          go_wp2
          go_ret
          exact ⟨ret_bool HV.out.symm, (Below.refl _ _).alloc (Nat.le_refl _) _⟩)
      · have HV : Hid (parB ⟨nm, vl, hs⟩ = false) := show _ = _ by rw [hv, decide_eq_true c1, decide_eq_true c2, decide_eq_false c3]; rfl
        clear hv
        go_enter Tryd.func60, Tryd.ntmps60
        go_wp2
        go_ret
        exact ⟨ret_bool HV.out.symm, (Below.refl _ _).alloc (Nat.le_refl _) _⟩
    · have HV : Hid (parB ⟨nm, vl, hs⟩ = false) := show _ = _ by rw [hv, decide_eq_true c1, decide_eq_false c2]; rfl
      clear hv
      go_enter Tryd.func60, Tryd.ntmps60
      go_wp2
      go_ret
      exact ⟨ret_bool HV.out.symm, (Below.refl _ _).alloc (Nat.le_refl _) _⟩
  · have e1 : nm.isEmpty = true := by cases nm with | nil => rfl | cons => simp at c1
    have HV : Hid (parB ⟨nm, vl, hs⟩ = false) := show _ = _ by rw [hv, decide_eq_false c1]; rfl
    clear hv
    go_enter Tryd.func60, Tryd.ntmps60
    go_wp2
    go_ret
    exact ⟨ret_bool HV.out.symm, (Below.refl _ _).alloc (Nat.le_refl _) _⟩

/-- What a map of counted names reads as. -/
def Named (D : DataW Unit) (qs : List Par) : Prop := IsMap D ∧ ∀ kl : List UInt8, D.atKey (.string kl) (.lit (.int .i64 0)) = .lit (.int .i64 (if qs.any (fun q => lowL q.name == kl) = true then 1 else 0))
theorem named0 : Named (.map []) [] := ⟨⟨[], rfl⟩, fun kl => rfl⟩
theorem any_apart (qs : List Par) (nm : List UInt8) : qs.any (fun q => lowL q.name == lowL nm) = !apartB qs nm := by
  unfold apartB sameB
  induction qs with
  | nil => rfl
  | cons q qs ih => rw [List.any_cons, List.all_cons, ih]; cases (lowL q.name == lowL nm) <;> rfl
theorem Named.at {D : DataW Unit} {qs : List Par} (h : Named D qs) (nm : List UInt8) : D.atKey (.string (lowL nm)) (.lit (.int .i64 0)) = .lit (.int .i64 (if apartB qs nm = true then 0 else 1)) := by
  rw [h.2, any_apart]
  cases apartB qs nm <;> rfl
theorem Named.put {D : DataW Unit} {qs : List Par} (h : Named D qs) (p : Par) : Named (D.put (.string (lowL p.name)) (.lit (.int .i64 1))) (qs ++ [p]) := by
  obtain ⟨es, rfl⟩ := h.1
  refine ⟨⟨_, rfl⟩, fun kl => ?_⟩
  by_cases hk : kl = lowL p.name
  · subst hk
    rw [atKey_put_same ⟨es, rfl⟩ (by trivial)]
    simp
  · rw [atKey_put_other (by intro e; exact hk (by injection e))]
    rw [h.2]
    have : (lowL p.name == kl) = false := by rw [beq_eq_false_iff_ne]; exact fun e => hk e.symm
    simp [List.any_append, this]
theorem ownsMap_below {P : Program} {k : TypeId} {R : Value → Option (DataW Unit × List MemPlace)} {w w' : World} {b n : Nat} {D : DataW Unit} (h : w.ownsMap P k R b n D) (hb : Below w.heap.size w w') : w'.ownsMap P k R b n D := by
  have hlt := h.lt
  obtain ⟨es, clock, h1, h2⟩ := h
  exact ⟨es, clock, by rw [hb.block b hlt]; exact h1, h2⟩
theorem keyed9 : Keyed Tryd.prog 9 := string_keyed Tryd.underlying9
theorem zero3i (w : World) : (zeroValue 3).run Tryd.prog w = .ok (.int .i64 0) w := by kernel_rfl

theorem box_cell {w w5 : World} {x y z : Value} {t : TypeId} (h : Below (w.alloc (.cells #[x, y, z] t)).heap.size (w.alloc (.cells #[x, y, z] t)) w5) : w5.cell? ⟨w.heap.size, 0, none⟩ = some x := by
  rw [h.cell (by simp)]
  unfold World.cell?; rw [heap_alloc_new]; rfl
theorem box_owns {P : Program} {k : TypeId} {R : Value → Option (DataW Unit × List MemPlace)} {w w5 : World} {o : Obj} {b n : Nat} {D : DataW Unit} (h : w.ownsMap P k R b n D) (h5 : Below (w.alloc o).heap.size (w.alloc o) w5) : w5.ownsMap P k R b n D := ownsMap_below (h.alloc o) h5
theorem box_below {B : Nat} {a w w5 : World} {o : Obj} (hb : Below B a w) (hB : B ≤ w.heap.size) (h5 : Below (w.alloc o).heap.size (w.alloc o) w5) : Below B a w5 := (hb.alloc hB o).trans (h5.mono (Nat.le_trans hB (by simp)))
theorem lit_inj {H : Type} {a b : Int} (h : (DataW.lit (Lit.int .i64 a) : DataW H) = DataW.lit (Lit.int .i64 b)) : a = b := by injection h with h; injection h
theorem makeHint (n : Int) (u : World) : (Instr.makeMap 83 (some (.int .i64 n))).run Tryd.prog u = .ok (.map (some u.heap.size)) (u.alloc (.map #[] 0)) := by kernel_rfl
theorem low_key (nm : List UInt8) (h : nm.length ≤ 140737488355328) : keyOf Tryd.prog 9 (.string ⟨(lowL nm).toArray⟩) = some (.string (lowL nm)) :=
  keyOf_string_mk Tryd.underlying9 (by rw [size_list, lowL_len]; unfold maxLen; omega)

set_option maxHeartbeats 2000000 in
set_option maxRecDepth 100000 in
theorem mayBe_row (a : Addr) (cap : Nat) (ps : List Par) (w : World) (hsm : SmallP 140737488355328 ps) (hc : ∀ k (hk : k < ps.length), a.block < w.heap.size ∧ ParAt w a k ps[k]) (h16 : ps.length ≤ 16) :
    Calls Tryd.prog 41 #[.slice (some a) ps.length cap] w fun e w' => e = .returned (.bool (listB ps)) ∧ Below w.heap.size w w' := by
  have hv : Hid (listB ps = listGo [] ps) := show _ = _ by rw [listB, decide_eq_true h16]; rfl
  have HC : Hid _ := hc; clear hc
  have HS : Hid _ := hsm.2; clear hsm
  obtain ⟨n, hn⟩ : ∃ n, n = ps.length := ⟨_, rfl⟩
  rw [← hn] at h16 ⊢
  have HN : Hid _ := hn; clear hn
  have hmm := makeHint n
  go_enter Tryd.func41, Tryd.ntmps41
  go_wp2
  clear hmm
  go_loopw [15] (fun i wr => ∃ (k : Nat) (D : DataW Unit), k ≤ n ∧ i = .int .i64 k ∧ Hid (wr.ownsMap Tryd.prog 9 (plainElem Tryd.prog 3) w.heap.size k D) ∧ Hid (Named D (ps.take k)) ∧ Below w.heap.size w wr ∧ Hid (listGo [] ps = listGo (ps.take k) (ps.drop k))) (fun i _ => n - (intOf i).toNat)
  case atStart => exact ⟨0, .map [], by omega, rfl, World.ownsMap_made _ _ _ _, named0, (Below.refl _ _).alloc (Nat.le_refl _) _, show _ = _ by simp⟩
  case round =>
    obtain ⟨k, D, hk, rfl, hown, hnam, hb, hgo⟩ := hrel
    by_cases hlt : k < n
    · have hkl : k < ps.length := by have := HN.out; omega
      obtain ⟨hab, hpa⟩ := HC.out k hkl
      obtain ⟨c0, c1, c2⟩ := hpa.below hb hab
      have hss := HS.out ps[k] (List.getElem_mem hkl)
      have hat := listGo_at ps k hkl
      have htk : Hid (ps.take (k + 1) = ps.take k ++ [ps[k]]) := List.take_succ_eq_append_getElem hkl
      generalize ps[k] = p at c0 c1 c2 hss hat htk
      obtain ⟨nm, vl, hs⟩ := p
      simp only at c0 c1 c2 hss hat
      have HA : Hid _ := hat; clear hat hpa
      cases hp : parB ⟨nm, vl, hs⟩ with
      | false =>
        have hbad : Hid (listB ps = false) := show _ = _ by rw [hv.out, hgo.out, HA.out, hp]; rfl
        clear hgo HA hown hnam htk
        go_wp2_with (go_at_call 60; refine (fits_any nm vl hs _ hss.1 hss.2).mono ?_; rintro e w5 ⟨rfl, h5⟩; rw [hp])
        go_ret
        exact ⟨ret_bool hbad.out.symm, (hb.alloc hb.size _).trans (h5.mono (Nat.le_trans hb.size (by simp)))⟩
      | true =>
        rw [hp, Bool.true_and] at HA
        have hkey := low_key nm hss.1
        have hat := hnam.out.at nm
        cases hap : apartB (ps.take k) nm with
        | false =>
          have hbad : Hid (listB ps = false) := show _ = _ by rw [hv.out, hgo.out, HA.out, hap]; rfl
          rw [hap] at hat
          have HAT : Hid _ := hat
          clear hat
          clear hgo HA htk
          have hB := hb.size
          go_wp2_with (first
            | (go_at_call 60; refine (fits_any nm vl hs _ hss.1 hss.2).mono ?_; rintro e w5 ⟨rfl, h5⟩; rw [hp]; have hcl := box_cell h5; have hown5 : Hid _ := box_owns hown.out h5; have hb5 := box_below hb hB h5; clear h5 hown)
            | (go_at_call 24; refine (lower_list nm _ (by omega)).mono ?_; rintro e w6 ⟨rfl, h6⟩; have hownL := ownsMap_below hown5.out h6; have hb6 := hb5.trans (h6.mono hb5.size); clear h6 hown5 hcl)
            | (at_lookup; refine wpList_lookup_own_int _ rfl _ _ 83 rfl 9 3 .i64 keyed9 Tryd.underlying83 Tryd.underlying3 (zero3i _) w.heap.size _ _ rfl hownL _ _ rfl hkey ?_; intro c hc1 hwc; obtain rfl : c = 1 := lit_inj (hc1.symm.trans HAT.out); have hownU := hownL; clear hownL HAT hc1)
            | (at_mapUpdate; refine wpList_mapUpdate_own _ rfl _ _ _ 83 rfl 9 3 keyed9 Tryd.underlying83 _ w.heap.size k _ rfl hownU (by unfold maxLen; omega) _ _ _ rfl rfl hkey (.lit (.int .i64 2)) [] (plainElem_int Tryd.underlying3 (by decide)) ?_; intro w7 hown7 hgr; have hownM := hown7; have hb7 := hb6.grown hgr hb6.size (fun j hj => by cases hj; exact Nat.le_refl _); clear hownU hown7 hgr)
            | (at_lookup; refine wpList_lookup_own_int _ rfl _ _ 83 rfl 9 3 .i64 keyed9 Tryd.underlying83 Tryd.underlying3 (zero3i _) w.heap.size _ _ rfl hownM _ _ rfl hkey ?_; intro c hc1 hwc; obtain rfl : c = 2 := lit_inj (hc1.symm.trans (atKey_put_same hnam.out.1 (by trivial) _ _))))
          go_ret
          exact ⟨ret_bool hbad.out.symm, hb7⟩
        | true =>
          have hgo2 : Hid (listGo [] ps = listGo (ps.take (k + 1)) (ps.drop (k + 1))) := show _ = _ by rw [hgo.out, HA.out, hap]; rfl
          have hnam2 : Hid (Named (D.put (.string (lowL nm)) (.lit (.int .i64 1))) (ps.take (k + 1))) := by
            show Named _ _
            rw [htk.out]; exact hnam.out.put ⟨nm, vl, hs⟩
          rw [hap] at hat
          have HAT : Hid _ := hat
          clear hat
          clear hgo HA htk
          have hB := hb.size
          go_wp2_with (first
            | (go_at_call 60; refine (fits_any nm vl hs _ hss.1 hss.2).mono ?_; rintro e w5 ⟨rfl, h5⟩; rw [hp]; have hcl := box_cell h5; have hown5 : Hid _ := box_owns hown.out h5; have hb5 := box_below hb hB h5; clear h5 hown)
            | (go_at_call 24; refine (lower_list nm _ (by omega)).mono ?_; rintro e w6 ⟨rfl, h6⟩; have hownL := ownsMap_below hown5.out h6; have hb6 := hb5.trans (h6.mono hb5.size); clear h6 hown5 hcl)
            | (at_lookup; refine wpList_lookup_own_int _ rfl _ _ 83 rfl 9 3 .i64 keyed9 Tryd.underlying83 Tryd.underlying3 (zero3i _) w.heap.size _ _ rfl hownL _ _ rfl hkey ?_; intro c hc1 hwc; obtain rfl : c = 0 := lit_inj (hc1.symm.trans HAT.out); have hownU := hownL; clear hownL HAT hc1)
            | (at_mapUpdate; refine wpList_mapUpdate_own _ rfl _ _ _ 83 rfl 9 3 keyed9 Tryd.underlying83 _ w.heap.size k _ rfl hownU (by unfold maxLen; omega) _ _ _ rfl rfl hkey (.lit (.int .i64 1)) [] (plainElem_int Tryd.underlying3 (by decide)) ?_; intro w7 hown7 hgr; have hownM := hown7; have hownK : Hid _ := hown7; have hb7 := hb6.grown hgr hb6.size (fun j hj => by cases hj; exact Nat.le_refl _); clear hownU hown7 hgr)
            | (at_lookup; refine wpList_lookup_own_int _ rfl _ _ 83 rfl 9 3 .i64 keyed9 Tryd.underlying83 Tryd.underlying3 (zero3i _) w.heap.size _ _ rfl hownM _ _ rfl hkey ?_; intro c hc1 hwc; obtain rfl : c = 1 := lit_inj (hc1.symm.trans (atKey_put_same hnam.out.1 (by trivial) _ _)); clear hc1 hownM))
          go_roundw
          case rel => exact ⟨k + 1, _, by omega, by go_num, hownK, hnam2, hb7, hgo2⟩
          case measure => simp [intOf]; omega
    · have hd : Hid (listB ps = true) := show _ = _ by
        have e := HN.out
        rw [hv.out, hgo.out, List.drop_of_length_le (by omega)]; rfl
      clear hgo hown hnam
      go_wp2
      go_ret
      exact ⟨ret_bool hd.out.symm, hb⟩

end Go.Proofs.YtfdcklekjnihjaaDoor
