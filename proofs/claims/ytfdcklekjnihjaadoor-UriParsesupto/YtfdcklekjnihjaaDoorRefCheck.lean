/-
  The contract of the document's own Check.
-/
import Derived.Test.YtfdcklekjnihjaaDoorRefList
import Derived.Test.YtfdcklekjnihjaaDoorRefWhere
namespace Go.Proofs.YtfdcklekjnihjaaDoor
open Go.RowKit Sc
set_option linter.unusedVariables false
set_option maxRecDepth 20000

/-- A URI's six cells in a block of its own. -/
def BoxU (w : World) (b : Nat) (u : Uri) (p h : Value) : Prop :=
  w.cell? ⟨b, 0, none⟩ = some (.string ⟨u.scheme.toArray⟩) ∧ w.cell? ⟨b, 1, none⟩ = some (.string ⟨u.user.toArray⟩) ∧ w.cell? ⟨b, 2, none⟩ = some (.string ⟨u.host.toArray⟩) ∧
  w.cell? ⟨b, 3, none⟩ = some (.int .i64 u.port) ∧ w.cell? ⟨b, 4, none⟩ = some p ∧ w.cell? ⟨b, 5, none⟩ = some h
theorem BoxU.below {w w' : World} {b B : Nat} {u : Uri} {p h : Value} (k : BoxU w b u p h) (hb : Below B w w') (hlt : b < B) : BoxU w' b u p h :=
  ⟨cell_below hb hlt k.1, cell_below hb hlt k.2.1, cell_below hb hlt k.2.2.1, cell_below hb hlt k.2.2.2.1, cell_below hb hlt k.2.2.2.2.1, cell_below hb hlt k.2.2.2.2.2⟩
theorem box_new (w : World) (u : Uri) (p h : Value) : BoxU (w.alloc (.cells #[.string ⟨u.scheme.toArray⟩, .string ⟨u.user.toArray⟩, .string ⟨u.host.toArray⟩, .int .i64 u.port, p, h] 31)) w.heap.size u p h := by
  unfold BoxU World.cell?
  simp only [heap_alloc_new]
  exact ⟨rfl, rfl, rfl, rfl, rfl, rfl⟩
theorem refscheme_list (l : List UInt8) (w : World) :
    Calls Tryd.prog 12 #[.string ⟨l.toArray⟩] w fun e w' => e = .returned (.bool (schemeB l)) ∧ w' = w := refscheme_any ⟨l.toArray⟩ w
theorem has_snoc {ps : List Par} {k : Nat} (hk : k < ps.length) (h : (ps.take k).all (·.has) = true) (hb : ps[k].has = true) : (ps.take (k + 1)).all (·.has) = true := by
  rw [List.take_succ_eq_append_getElem hk, List.all_append, h]; simp [hb]
theorem has_bad {ps : List Par} {k : Nat} (hk : k < ps.length) (hb : ps[k].has = false) : ps.all (·.has) = false := by
  rw [List.all_eq_false]; exact ⟨ps[k], List.getElem_mem hk, by simp [hb]⟩
theorem SmallP.le {B C : Nat} {ps : List Par} (h : SmallP B ps) (hBC : B ≤ C) : SmallP C ps := ⟨by have := h.1; omega, fun p hp => by have := h.2 p hp; omega⟩

set_option maxHeartbeats 2000000 in
set_option maxRecDepth 100000 in
theorem refcheck_any (u : Uri) (p h : Value) (w : World) (hsm : SmallU 140737488355328 u) (hp : ParsAt w p u.params) (hh : ParsAt w h u.headers) :
    Calls Tryd.prog 19 #[uriV u p h] w fun e w' => e = .returned (.int .i64 (checkV u)) ∧ Below w.heap.size w w' := by
  obtain ⟨s1, s2, s3, s4, s5⟩ := hsm
  have hcv : checkV u = checkV u := rfl
  conv at hcv => rhs; unfold checkV
  have hbox := box_new w u p h
  have hbw : Below w.heap.size w (w.alloc (.cells #[.string ⟨u.scheme.toArray⟩, .string ⟨u.user.toArray⟩, .string ⟨u.host.toArray⟩, .int .i64 u.port, p, h] 31)) := (Below.refl _ w).alloc (Nat.le_refl _) _
  have hws : w.heap.size < (w.alloc (.cells #[.string ⟨u.scheme.toArray⟩, .string ⟨u.user.toArray⟩, .string ⟨u.host.toArray⟩, .int .i64 u.port, p, h] 31)).heap.size := by simp
  unfold uriV
  cases e1 : schemeB u.scheme with
  | false =>
    rw [e1] at hcv; simp at hcv
    have HV : Hid _ := hcv; clear hcv
    go_enter Tryd.func19, Tryd.ntmps19
    go_wp2_with (go_at_call 12; refine (refscheme_list _ _).mono ?_; rintro e w' ⟨rfl, rfl⟩)
    go_ret
    exact ⟨ret_int HV.out.symm, hbw⟩
  | true =>
    rw [e1, if_neg (by simp)] at hcv
    by_cases e2 : 64 < u.user.length
    · rw [if_pos e2] at hcv
      have HV : Hid _ := hcv; clear hcv
      go_enter Tryd.func19, Tryd.ntmps19
      go_wp2_with (go_at_call 12; refine (refscheme_list _ _).mono ?_; rintro e w' ⟨rfl, rfl⟩)
      go_ret
      exact ⟨ret_int HV.out.symm, hbw⟩
    · rw [if_neg e2] at hcv
      go_enter Tryd.func19, Tryd.ntmps19
      go_wp2_with (go_at_call 12; refine (refscheme_list _ _).mono ?_; rintro e w' ⟨rfl, rfl⟩)
      refine (refhost_list _ _ s3).mono ?_
      rintro e w2 ⟨rfl, hw2⟩
      have hb2 := hbw.trans (hw2.mono hbw.size)
      have hx2 := hbox.below hw2 hws
      have hs2 : w.heap.size < w2.heap.size := Nat.lt_of_lt_of_le hws hw2.size
      obtain ⟨g0, g1, g2, g3, g4, g5⟩ := hx2
      have hx2 : Hid (BoxU w2 w.heap.size u p h) := ⟨g0, g1, g2, g3, g4, g5⟩
      clear hbox hbw hws hw2
      cases e3 : hostB u.host with
      | false =>
        rw [e3, if_pos rfl] at hcv
        have HV : Hid _ := hcv; clear hcv
        go_wp2
        go_ret
        exact ⟨ret_int HV.out.symm, hb2⟩
      | true =>
        rw [e3, if_neg (by simp)] at hcv
        by_cases e4 : u.port < 0 ∨ 65535 < u.port
        · rw [if_pos e4] at hcv
          have HV : Hid _ := hcv; clear hcv
          by_cases e5 : u.port < 0
          · clear e4
            go_wp2
            go_ret
            exact ⟨ret_int HV.out.symm, hb2⟩
          · have e6 : 65535 < u.port := by omega
            clear e4
            go_wp2
            go_ret
            exact ⟨ret_int HV.out.symm, hb2⟩
        · rw [if_neg e4] at hcv
          have e5 : 0 ≤ u.port := by omega
          have e6 : u.port ≤ 65535 := by omega
          clear e4
          go_wp2_with fail
          refine (list_any _ u.params _ s4 (hp.below hb2)).mono ?_
          rintro e w3 ⟨rfl, hw3⟩
          have hb3 := hb2.trans (hw3.mono hb2.size)
          have hx3 := hx2.out.below hw3 hs2
          have hs3 : w.heap.size < w3.heap.size := Nat.lt_of_lt_of_le hs2 hw3.size
          clear g0 g1 g2 g3 g4 g5 hx2 hb2 hw3
          obtain ⟨g0, g1, g2, g3, g4, g5⟩ := hx3
          have hx3 : Hid (BoxU w3 w.heap.size u p h) := ⟨g0, g1, g2, g3, g4, g5⟩
          cases e7 : listB u.params with
          | false =>
            rw [e7, if_pos rfl] at hcv
            have HV : Hid _ := hcv; clear hcv
            go_wp2
            go_ret
            exact ⟨ret_int HV.out.symm, hb3⟩
          | true =>
            rw [e7, if_neg (by simp)] at hcv
            go_wp2_with fail
            refine (list_any _ u.headers _ s5 (hh.below hb3)).mono ?_
            rintro e w4 ⟨rfl, hw4⟩
            have hb4 := hb3.trans (hw4.mono hb3.size)
            have hx4 := hx3.out.below hw4 hs3
            clear g0 g1 g2 g3 g4 g5 hx3 hb3 hw4 hs2
            obtain ⟨g0, g1, g2, g3, g4, g5⟩ := hx4
            cases e8 : listB u.headers with
            | false =>
              rw [e8, if_pos rfl] at hcv
              have HV : Hid _ := hcv; clear hcv
              go_wp2
              go_ret
              exact ⟨ret_int HV.out.symm, hb4⟩
            | true =>
              rw [e8, if_neg (by simp)] at hcv
              have HV : Hid _ := hcv; clear hcv
              have h4 := hh.below hb4
              have h16 : u.headers.length ≤ 140737488355328 := s5.1
              obtain ⟨n, hn⟩ : ∃ n, n = u.headers.length := ⟨_, rfl⟩
              rcases h4 with ⟨rfl, hnil⟩ | ⟨a, cap, rfl, hc⟩
              · have hall : Hid (checkV u = 0) := show _ = _ by rw [HV.out, hnil]; rfl
                go_wp2
                go_loop [3] (fun i => i = .int .i64 0) (fun i => 0)
                case atStart => rfl
                case round =>
                  subst hrel
                  go_wp2
                  go_ret
                  exact ⟨ret_int hall.out.symm, hb4⟩
              · have HC : Hid _ := hc; clear hc
                rw [← hn] at h16 g5 ⊢
                go_wp2
                go_loop [3] (fun i => ∃ k : Nat, k ≤ n ∧ i = .int .i64 k ∧ Hid ((u.headers.take k).all (·.has) = true)) (fun i => n - (intOf i).toNat)
                case atStart => exact ⟨0, by omega, rfl, rfl⟩
                case round =>
                  obtain ⟨k, hk, rfl, hal⟩ := hrel
                  by_cases hlt : k < n
                  · have hkl : k < u.headers.length := by omega
                    obtain ⟨c0, c1, c2⟩ := (HC.out k hkl).2
                    cases hhas : u.headers[k].has with
                    | true =>
                      have hal2 : Hid ((u.headers.take (k + 1)).all (·.has) = true) := has_snoc hkl hal.out hhas
                      rw [hhas] at c2
                      clear hal
                      go_wp2
                      go_round
                      case rel => exact ⟨k + 1, by omega, by go_num, hal2⟩
                      case measure => simp [intOf]; omega
                    | false =>
                      have hbad : Hid (checkV u = 34) := show _ = _ by rw [HV.out, has_bad hkl hhas]; rfl
                      rw [hhas] at c2
                      clear hal
                      go_wp2
                      go_ret
                      exact ⟨ret_int hbad.out.symm, hb4⟩
                  · have hall : Hid (checkV u = 0) := show _ = _ by
                      have := hal.out
                      rw [List.take_of_length_le (by omega)] at this
                      rw [HV.out, this]; rfl
                    clear hal
                    go_wp2
                    go_ret
                    exact ⟨ret_int hall.out.symm, hb4⟩

end Go.Proofs.YtfdcklekjnihjaaDoor
