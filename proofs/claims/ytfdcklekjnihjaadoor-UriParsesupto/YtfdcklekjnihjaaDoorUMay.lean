/-
  Contracts of package uri: mayBe, allHave, Check.
-/
import Derived.Test.YtfdcklekjnihjaaDoorUCheck
import Derived.Test.YtfdcklekjnihjaaDoorRefCheck
namespace Go.Proofs.YtfdcklekjnihjaaDoor
open Go.RowKit Sc
set_option linter.unusedVariables false
set_option maxRecDepth 20000

set_option maxHeartbeats 400000 in
theorem mayBe_long (a : Option Addr) (cap : Nat) (ps : List Par) (w : World) (h16 : ¬ ps.length ≤ 16) :
    Calls Tryd.prog 41 #[.slice a ps.length cap] w fun e w' => e = .returned (.bool (listB ps)) ∧ Below w.heap.size w w' := by
  have hv : Hid (listB ps = false) := show _ = _ by rw [listB, decide_eq_false h16]; rfl
  go_enter Tryd.func41, Tryd.ntmps41
  go_wp2
  go_ret
  exact ⟨ret_bool hv.out.symm, Below.refl _ _⟩
set_option maxHeartbeats 400000 in
theorem mayBe_nil (a : Option Addr) (cap : Nat) (w : World) :
    Calls Tryd.prog 41 #[.slice a 0 cap] w fun e w' => e = .returned (.bool true) ∧ Below w.heap.size w w' := by
  have hmm := makeHint 0
  go_enter Tryd.func41, Tryd.ntmps41
  go_wp2
  go_loop [15] (fun i => i = .int .i64 0) (fun i => 0)
  case atStart => rfl
  case round =>
    subst hrel
    go_wp2
    go_ret
    exact ⟨rfl, (Below.refl _ _).alloc (Nat.le_refl _) _⟩
theorem mayBe_any (v : Value) (ps : List Par) (w : World) (hsm : SmallP 140737488355328 ps) (h : ParsAt w v ps) :
    Calls Tryd.prog 41 #[v] w fun e w' => e = .returned (.bool (listB ps)) ∧ Below w.heap.size w w' := by
  by_cases h16 : ps.length ≤ 16
  · rcases h with ⟨rfl, rfl⟩ | ⟨a, cap, rfl, hc⟩
    · exact mayBe_nil none 0 w
    · exact mayBe_row a cap ps w hsm hc h16
  · obtain ⟨a, cap, rfl⟩ := h.form
    exact mayBe_long a cap ps w h16

set_option maxHeartbeats 1000000 in
theorem allHave_row (a : Addr) (cap : Nat) (ps : List Par) (w : World) (h16 : ps.length ≤ 140737488355328) (hc : ∀ k (hk : k < ps.length), a.block < w.heap.size ∧ ParAt w a k ps[k]) :
    Calls Tryd.prog 42 #[.slice (some a) ps.length cap] w fun e w' => e = .returned (.bool (ps.all (·.has))) ∧ Below w.heap.size w w' := by
  have HC : Hid _ := hc; clear hc
  obtain ⟨b, hb0⟩ : ∃ b, ps.all (·.has) = b := ⟨_, rfl⟩
  rw [hb0]
  have HB : Hid _ := hb0; clear hb0
  obtain ⟨n, hn⟩ : ∃ n, n = ps.length := ⟨_, rfl⟩
  rw [← hn] at h16 ⊢
  have HN : Hid _ := hn; clear hn
  go_enter Tryd.func42, Tryd.ntmps42
  go_wp2
  go_loopw [7] (fun i wr => ∃ k : Nat, k ≤ n ∧ i = .int .i64 k ∧ Below w.heap.size w wr ∧ Hid ((ps.take k).all (·.has) = true)) (fun i _ => n - (intOf i).toNat)
  case atStart => exact ⟨0, by omega, rfl, Below.refl _ _, rfl⟩
  case round =>
    obtain ⟨k, hk, rfl, hb, hal⟩ := hrel
    by_cases hlt : k < n
    · have hkl : k < ps.length := by have := HN.out; omega
      obtain ⟨hab, hpa⟩ := HC.out k hkl
      obtain ⟨c0, c1, c2⟩ := hpa.below hb hab
      cases hhas : ps[k].has with
      | true =>
        have hal2 : Hid ((ps.take (k + 1)).all (·.has) = true) := has_snoc hkl hal.out hhas
        rw [hhas] at c2
        clear hal hpa
        go_wp2
        go_roundw
        case rel => exact ⟨k + 1, by omega, by go_num, hb.alloc hb.size _, hal2⟩
        case measure => simp [intOf]; omega
      | false =>
        have hbad : Hid (b = false) := show _ = _ by rw [← HB.out, has_bad hkl hhas]
        rw [hhas] at c2
        clear hal hpa
        go_wp2
        go_ret
        exact ⟨ret_bool hbad.out.symm, hb.alloc hb.size _⟩
    · have hall : Hid (b = true) := show _ = _ by
        have := hal.out
        rw [List.take_of_length_le (by have := HN.out; omega)] at this
        rw [← HB.out, this]
      clear hal
      go_wp2
      go_ret
      exact ⟨ret_bool hall.out.symm, hb⟩
set_option maxHeartbeats 400000 in
theorem allHave_nil (a : Option Addr) (cap : Nat) (w : World) :
    Calls Tryd.prog 42 #[.slice a 0 cap] w fun e w' => e = .returned (.bool true) ∧ Below w.heap.size w w' := by
  go_enter Tryd.func42, Tryd.ntmps42
  go_wp2
  go_loop [7] (fun i => i = .int .i64 0) (fun i => 0)
  case atStart => rfl
  case round =>
    subst hrel
    go_wp2
    go_ret
    exact ⟨rfl, Below.refl _ _⟩
theorem allHave_any (v : Value) (ps : List Par) (w : World) (h16 : ps.length ≤ 140737488355328) (h : ParsAt w v ps) :
    Calls Tryd.prog 42 #[v] w fun e w' => e = .returned (.bool (ps.all (·.has))) ∧ Below w.heap.size w w' := by
  rcases h with ⟨rfl, rfl⟩ | ⟨a, cap, rfl, hc⟩
  · exact allHave_nil none 0 w
  · exact allHave_row a cap ps w h16 hc

set_option maxHeartbeats 2000000 in
set_option maxRecDepth 100000 in
theorem check_any (u : Uri) (p h : Value) (w : World) (hsm : SmallU 140737488355328 u) (hp : ParsAt w p u.params) (hh : ParsAt w h u.headers) :
    Calls Tryd.prog 18 #[uriV u p h] w fun e w' => e = .returned (.int .i64 (checkV u)) ∧ Below w.heap.size w w' := by
  obtain ⟨s1, s2, s3, s4, s5⟩ := hsm
  have hcv : checkV u = checkV u := rfl
  conv at hcv => rhs; unfold checkV
  have hbox := box_new w u p h
  have hbw : Below w.heap.size w (w.alloc (.cells #[.string ⟨u.scheme.toArray⟩, .string ⟨u.user.toArray⟩, .string ⟨u.host.toArray⟩, .int .i64 u.port, p, h] 31)) := (Below.refl _ w).alloc (Nat.le_refl _) _
  have hws : w.heap.size < (w.alloc (.cells #[.string ⟨u.scheme.toArray⟩, .string ⟨u.user.toArray⟩, .string ⟨u.host.toArray⟩, .int .i64 u.port, p, h] 31)).heap.size := by simp
  unfold uriV
  cases e1 : schemeB u.scheme with
  | false =>
    rw [e1] at hcv; simp at hcv
    have HV : Hid _ := hcv; clear hcv
    go_enter Tryd.func18, Tryd.ntmps18
    go_wp2_with (go_at_call 11; refine (scheme_list _ _).mono ?_; rintro e w' ⟨rfl, rfl⟩; rw [e1])
    go_ret
    exact ⟨ret_int HV.out.symm, hbw⟩
  | true =>
    rw [e1, if_neg (by simp)] at hcv
    by_cases e2 : 64 < u.user.length
    · rw [if_pos e2] at hcv
      have HV : Hid _ := hcv; clear hcv
      go_enter Tryd.func18, Tryd.ntmps18
      go_wp2_with (go_at_call 11; refine (scheme_list _ _).mono ?_; rintro e w' ⟨rfl, rfl⟩; rw [e1])
      go_ret
      exact ⟨ret_int HV.out.symm, hbw⟩
    · rw [if_neg e2] at hcv
      go_enter Tryd.func18, Tryd.ntmps18
      go_wp2_with (go_at_call 11; refine (scheme_list _ _).mono ?_; rintro e w' ⟨rfl, rfl⟩; rw [e1])
      refine (host_list _ _ s3).mono ?_
      rintro e w2 ⟨rfl, hw2⟩
      have hb2 := hbw.trans (hw2.mono hbw.size)
      have hx2 := hbox.below hw2 hws
      have hs2 : w.heap.size < w2.heap.size := Nat.lt_of_lt_of_le hws hw2.size
      obtain ⟨g0, g1, g2, g3, g4, g5⟩ := hx2
      have hx2 : Hid (BoxU w2 w.heap.size u p h) := ⟨g0, g1, g2, g3, g4, g5⟩
      clear hbox hbw hws hw2
      cases e3 : hostB u.host with
      | false =>
        rw [e3, if_pos rfl] at hcv
        have HV : Hid _ := hcv; clear hcv
        go_wp2
        go_ret
        exact ⟨ret_int HV.out.symm, hb2⟩
      | true =>
        rw [e3, if_neg (by simp)] at hcv
        by_cases e4 : u.port < 0 ∨ 65535 < u.port
        · rw [if_pos e4] at hcv
          have HV : Hid _ := hcv; clear hcv
          by_cases e5 : u.port < 0
          · clear e4
            go_wp2
            go_ret
            exact ⟨ret_int HV.out.symm, hb2⟩
          · have e6 : 65535 < u.port := by omega
            clear e4
            go_wp2
            go_ret
            exact ⟨ret_int HV.out.symm, hb2⟩
        · rw [if_neg e4] at hcv
          have e5 : 0 ≤ u.port := by omega
          have e6 : u.port ≤ 65535 := by omega
          clear e4
          go_wp2_with fail
          refine (mayBe_any _ u.params _ s4 (hp.below hb2)).mono ?_
          rintro e w3 ⟨rfl, hw3⟩
          have hb3 := hb2.trans (hw3.mono hb2.size)
          have hx3 := hx2.out.below hw3 hs2
          have hs3 : w.heap.size < w3.heap.size := Nat.lt_of_lt_of_le hs2 hw3.size
          clear g0 g1 g2 g3 g4 g5 hx2 hb2 hw3
          obtain ⟨g0, g1, g2, g3, g4, g5⟩ := hx3
          have hx3 : Hid (BoxU w3 w.heap.size u p h) := ⟨g0, g1, g2, g3, g4, g5⟩
          cases e7 : listB u.params with
          | false =>
            rw [e7, if_pos rfl] at hcv
            have HV : Hid _ := hcv; clear hcv
            go_wp2
            go_ret
            exact ⟨ret_int HV.out.symm, hb3⟩
          | true =>
            rw [e7, if_neg (by simp)] at hcv
            go_wp2_with fail
            refine (mayBe_any _ u.headers _ s5 (hh.below hb3)).mono ?_
            rintro e w4 ⟨rfl, hw4⟩
            have hb4 := hb3.trans (hw4.mono hb3.size)
            have hx4 := hx3.out.below hw4 hs3
            clear g0 g1 g2 g3 g4 g5 hx3 hb3 hw4 hs2
            obtain ⟨g0, g1, g2, g3, g4, g5⟩ := hx4
            cases e8 : listB u.headers with
            | false =>
              rw [e8, if_pos rfl] at hcv
              have HV : Hid _ := hcv; clear hcv
              go_wp2
              go_ret
              exact ⟨ret_int HV.out.symm, hb4⟩
            | true =>
              rw [e8, if_neg (by simp)] at hcv
              have HV : Hid _ := hcv; clear hcv
              have h16 : u.headers.length ≤ 140737488355328 := s5.1
              go_wp2_with fail
              refine (allHave_any _ u.headers _ h16 (hh.below hb4)).mono ?_
              rintro e w5 ⟨rfl, hw5⟩
              have hb5 := hb4.trans (hw5.mono hb4.size)
              cases e9 : u.headers.all (·.has) with
              | false =>
                have hbad : Hid (checkV u = 34) := show _ = _ by rw [HV.out, e9]; rfl
                clear HV
                go_wp2
                go_ret
                exact ⟨ret_int hbad.out.symm, hb5⟩
              | true =>
                have hall : Hid (checkV u = 0) := show _ = _ by rw [HV.out, e9]; rfl
                clear HV
                go_wp2
                go_ret
                exact ⟨ret_int hall.out.symm, hb5⟩

end Go.Proofs.YtfdcklekjnihjaaDoor
