/-
  The contract of the document's own List.
-/
import Derived.Test.YtfdcklekjnihjaaDoorPListL
import Derived.Test.YtfdcklekjnihjaaDoorOpenUri
import Derived.Deep.RegionLaw
namespace Go.Proofs.YtfdcklekjnihjaaDoor
open Go.RowKit Sc
set_option linter.unusedVariables false
set_option maxRecDepth 20000

theorem apart_snoc {ps : List Par} {j : Nat} {nm : List UInt8} (hj : j < ps.length) (h : apartB (ps.take j) nm = true) (hs : sameB ps[j].name nm = false) : apartB (ps.take (j + 1)) nm = true := by
  unfold apartB at *
  rw [List.take_succ_eq_append_getElem hj, List.all_append, h]
  simp [hs]
theorem apart_bad {ps : List Par} {j k : Nat} {nm : List UInt8} (hj : j < ps.length) (hjk : j < k) (hs : sameB ps[j].name nm = true) : apartB (ps.take k) nm = false := by
  unfold apartB
  rw [List.all_eq_false]
  refine ⟨ps[j], ?_, by simp [hs]⟩
  rw [List.mem_take_iff_getElem]
  exact ⟨j, by omega, rfl⟩
theorem refsame_list (a b : List UInt8) (w : World) (ha : a.length ≤ 140737488355328) (hb : b.length ≤ 140737488355328) :
    Calls Tryd.prog 61 #[.string ⟨a.toArray⟩, .string ⟨b.toArray⟩] w fun e w' => e = .returned (.bool (sameB a b)) ∧ Below w.heap.size w w' :=
  refsame_any ⟨a.toArray⟩ ⟨b.toArray⟩ w (by simp [ByteArray.size]; omega) (by simp [ByteArray.size]; omega)

set_option maxHeartbeats 2000000 in
set_option maxRecDepth 100000 in
theorem list_row (a : Addr) (cap : Nat) (ps : List Par) (w : World) (hsm : SmallP 140737488355328 ps) (hc : ∀ k (hk : k < ps.length), a.block < w.heap.size ∧ ParAt w a k ps[k]) (h16 : ps.length ≤ 16) :
    Calls Tryd.prog 43 #[.slice (some a) ps.length cap] w fun e w' => e = .returned (.bool (listB ps)) ∧ Below w.heap.size w w' := by
  have hv : Hid (listB ps = listGo [] ps) := show _ = _ by rw [listB, decide_eq_true h16]; rfl
  have HC : Hid _ := hc; clear hc
  have HS : Hid _ := hsm.2; clear hsm
  obtain ⟨n, hn⟩ : ∃ n, n = ps.length := ⟨_, rfl⟩
  rw [← hn] at h16 ⊢
  have HN : Hid _ := hn; clear hn
  go_enter Tryd.func43, Tryd.ntmps43
  go_wp2
  go_loopw [3] (fun i wr => ∃ k : Nat, k ≤ n ∧ i = .int .i64 k ∧ Below w.heap.size w wr ∧ Hid (listGo [] ps = listGo (ps.take k) (ps.drop k))) (fun i _ => n - (intOf i).toNat)
  case atStart => exact ⟨0, by omega, rfl, Below.refl _ _, show _ = _ by simp⟩
  case round =>
    obtain ⟨k, hk, rfl, hb, hgo⟩ := hrel
    by_cases hlt : k < n
    · have hkl : k < ps.length := by have := HN.out; omega
      obtain ⟨hab, hpa⟩ := HC.out k hkl
      obtain ⟨c0, c1, c2⟩ := hpa.below hb hab
      have hss := HS.out ps[k] (List.getElem_mem hkl)
      have hat := listGo_at ps k hkl
      generalize ps[k] = p at c0 c1 c2 hss hat
      obtain ⟨nm, vl, hs⟩ := p
      simp only at c0 c1 c2 hss hat
      have HA : Hid _ := hat; clear hat hpa
      by_cases h1 : 1 ≤ nm.length
      · by_cases h2 : nm.length ≤ 64
        · by_cases h3 : vl.length ≤ 64
          · by_cases h4 : hs = true ∨ vl = []
            · have hpb : parB ⟨nm, vl, hs⟩ = true := by
                simp [parB]
                refine ⟨by omega, h2, h3, ?_⟩
                rcases h4 with h | h
                · exact Or.inl h
                · exact Or.inr h
              rw [hpb, Bool.true_and] at HA
              have h4' : hs = true ∨ (hs = false ∧ vl.isEmpty = true) := by
                cases hs with
                | true => exact Or.inl rfl
                | false => right; rcases h4 with h | h <;> simp_all
              clear hpb h4
              have hcell : ∀ o1 o2 o3, (wr.alloc (.cells #[.string o1, o2, o3] 66)).cell? ⟨wr.heap.size, 0, none⟩ = some (.string o1) := fun o1 o2 o3 => by unfold World.cell?; rw [heap_alloc_new]; rfl
              have hb3 : ∀ o, Below w.heap.size w (wr.alloc o) := fun o => hb.alloc hb.size o
              have hsz3 : ∀ o, wr.heap.size < (wr.alloc o).heap.size := fun o => by simp
              rcases h4' with rfl | ⟨rfl, hie⟩
              all_goals (
                go_wp2
                have hcell' := hcell ⟨nm.toArray⟩ (.string ⟨vl.toArray⟩)
                generalize hw3 : wr.alloc (Obj.cells #[Value.string ⟨nm.toArray⟩, Value.string ⟨vl.toArray⟩, _] 66) = w3
                have hcl : w3.cell? ⟨wr.heap.size, 0, none⟩ = some (.string ⟨nm.toArray⟩) := by rw [← hw3]; exact hcell' _
                have hbw : Below w.heap.size w w3 := by rw [← hw3]; exact hb3 _
                have hsw : wr.heap.size < w3.heap.size := by rw [← hw3]; exact hsz3 _
                have HCL : Hid _ := hcl
                clear hcell hcell' hb3 hsz3 hw3 c0 c1 c2 hb hcl
                go_loopw [5] (fun i wr2 => ∃ j : Nat, j ≤ k ∧ i = .int .i64 j ∧ Below w3.heap.size w3 wr2 ∧ Hid (apartB (ps.take j) nm = true)) (fun i _ => k - (intOf i).toNat)
                case atStart => exact ⟨0, by omega, rfl, Below.refl _ _, rfl⟩
                case round =>
                  obtain ⟨j, hj, rfl, hb4, hap⟩ := hrel
                  have hbx := hbw.trans (hb4.mono hbw.size)
                  by_cases hjk : j < k
                  · have hjl : j < ps.length := by omega
                    obtain ⟨d0, d1, d2⟩ := (HC.out j hjl).2.below hbx hab
                    have hcl2 := cell_below hb4 hsw HCL.out
                    have hsj := (HS.out ps[j] (List.getElem_mem hjl)).1
                    have hjn : (j : Int) < (n : Int) := by omega
                    cases hsm : sameB ps[j].name nm with
                    | true =>
                      have hbad : Hid (listB ps = false) := show _ = _ by
                        rw [hv.out, hgo.out, HA.out, apart_bad hjl hjk hsm]; rfl
                      clear hap hgo HA
                      go_wp2
                      go_region_law (go_simp; go_at_call 61; refine (refsame_list _ _ _ hsj hss.1).mono ?_; rintro e w5 ⟨rfl, h5⟩)
                      all_goals (
                        go_wp2
                        go_ret
                        exact ⟨ret_bool hbad.out.symm, hbx.drew.trans (h5.mono hbx.size)⟩)
                    | false =>
                      have hap2 : Hid (apartB (ps.take (j + 1)) nm = true) := apart_snoc hjl hap.out hsm
                      clear hap
                      go_wp2
                      go_region_law (go_simp; go_at_call 61; refine (refsame_list _ _ _ hsj hss.1).mono ?_; rintro e w5 ⟨rfl, h5⟩)
                      all_goals (
                        go_wp2
                        go_roundw
                        case rel => exact ⟨j + 1, by omega, by go_num, hb4.drew.trans (h5.mono hb4.size), hap2⟩
                        case measure => simp [intOf]; omega)
                  · have hjk' : j = k := by omega
                    subst hjk'
                    have hgo2 : Hid (listGo [] ps = listGo (ps.take (j + 1)) (ps.drop (j + 1))) := show _ = _ by
                      rw [hgo.out, HA.out, hap.out, Bool.true_and]
                    clear hap hgo HA
                    go_wp2
                    go_roundw
                    case rel => exact ⟨j + 1, by omega, by go_num, hbx, hgo2⟩
                    case measure => simp [intOf]; omega)
            · have hbad : Hid (listB ps = false) := show _ = _ by
                have : parB ⟨nm, vl, hs⟩ = false := by simp [parB] at h4 ⊢; intro _ _ _; exact ⟨h4.1, h4.2⟩
                rw [hv.out, hgo.out, HA.out, this]; rfl
              obtain ⟨h4a, h4b⟩ : hs = false ∧ ¬ vl = [] := by
                cases hs with
                | true => exact absurd (Or.inl rfl) h4
                | false => exact ⟨rfl, fun e => h4 (Or.inr e)⟩
              subst h4a
              have hie : vl.isEmpty = false := by simpa using h4b
              clear h4 hgo HA h4b
              go_wp2
              go_ret
              exact ⟨ret_bool hbad.out.symm, hb.alloc hb.size _⟩
          · have hbad : Hid (listB ps = false) := show _ = _ by
              have : parB ⟨nm, vl, hs⟩ = false := by simp [parB]; intro _ _ h; exact absurd h h3
              rw [hv.out, hgo.out, HA.out, this]; rfl
            clear hgo HA
            go_wp2
            go_ret
            exact ⟨ret_bool hbad.out.symm, hb.alloc hb.size _⟩
        · have hbad : Hid (listB ps = false) := show _ = _ by
            have : parB ⟨nm, vl, hs⟩ = false := by simp [parB]; intro _ h; exact absurd h h2
            rw [hv.out, hgo.out, HA.out, this]; rfl
          clear hgo HA
          go_wp2
          go_ret
          exact ⟨ret_bool hbad.out.symm, hb.alloc hb.size _⟩
      · have hbad : Hid (listB ps = false) := show _ = _ by
          have : parB ⟨nm, vl, hs⟩ = false := by simp [parB]; intro h; omega
          rw [hv.out, hgo.out, HA.out, this]; rfl
        clear hgo HA
        go_wp2
        go_ret
        exact ⟨ret_bool hbad.out.symm, hb.alloc hb.size _⟩
    · have hd : Hid (listB ps = true) := show _ = _ by
        have e := HN.out
        rw [hv.out, hgo.out, List.drop_of_length_le (by omega)]; rfl
      clear hgo
      go_wp2
      go_ret
      exact ⟨ret_bool hd.out.symm, hb⟩

set_option maxHeartbeats 400000 in
theorem list_long (a : Option Addr) (cap : Nat) (ps : List Par) (w : World) (h16 : ¬ ps.length ≤ 16) :
    Calls Tryd.prog 43 #[.slice a ps.length cap] w fun e w' => e = .returned (.bool (listB ps)) ∧ Below w.heap.size w w' := by
  have hv : Hid (listB ps = false) := show _ = _ by rw [listB, decide_eq_false h16]; rfl
  go_enter Tryd.func43, Tryd.ntmps43
  go_wp2
  go_ret
  exact ⟨ret_bool hv.out.symm, Below.refl _ _⟩
set_option maxHeartbeats 400000 in
theorem list_nil (a : Option Addr) (cap : Nat) (w : World) :
    Calls Tryd.prog 43 #[.slice a 0 cap] w fun e w' => e = .returned (.bool true) ∧ w' = w := by
  go_enter Tryd.func43, Tryd.ntmps43
  go_wp2
  go_loop [3] (fun i => i = .int .i64 0) (fun i => 0)
  case atStart => rfl
  case round =>
    subst hrel
    go_wp2
    go_ret
    exact ⟨rfl, rfl⟩
theorem list_any (v : Value) (ps : List Par) (w : World) (hsm : SmallP 140737488355328 ps) (h : ParsAt w v ps) :
    Calls Tryd.prog 43 #[v] w fun e w' => e = .returned (.bool (listB ps)) ∧ Below w.heap.size w w' := by
  by_cases h16 : ps.length ≤ 16
  · rcases h with ⟨rfl, rfl⟩ | ⟨a, cap, rfl, hc⟩
    · refine (list_nil none 0 w).mono ?_
      rintro e w' ⟨rfl, rfl⟩
      exact ⟨rfl, Below.refl _ _⟩
    · exact list_row a cap ps w hsm hc h16
  · obtain ⟨a, cap, rfl⟩ := h.form
    exact list_long a cap ps w h16

end Go.Proofs.YtfdcklekjnihjaaDoor
