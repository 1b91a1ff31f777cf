/-
  The walk of the law WheelSteps.
-/
import Derived.Test.YthioekmlljpbpaaW9L
namespace Go.Proofs.Ythioekmlljpbpaa.wheelSteps
open Go.RowKit Go.Sort
set_option linter.unusedVariables false
set_option maxRecDepth 20000
set_option linter.unusedSimpArgs false

theorem WWu.app {B U b : Nat} {w w' : World} {l : List Tm} (h : WWu B U b w l) {B' : Nat} {va : Value} {ts : List Tm} (ho : OwnT w B' va ts) (hg : w.grownBy w' va.ownBlock) : WWu B U b w' l := by
  obtain ⟨m, v, f, n, D, h, h4, hu⟩ := h
  exact ⟨m, v, f, n, D, h.app ho hg, h4, hu⟩
/-- What is known in between: both wheels, the row that grows, and all that was there. -/
def Mid (w : World) (U b1 b2 : Nat) (la lb : List Tm) (vl : Value) (ts : List Tm) (wr : World) : Prop :=
  WWu w.heap.size U b1 wr la ∧ WW U b2 wr lb ∧ OwnT wr w.heap.size vl ts ∧ Below w.heap.size w wr ∧ w.heap.size ≤ U
theorem Mid.due1 {w wr : World} {U b1 b2 : Nat} {la lb ts : List Tm} {vl : Value} (h : Mid w U b1 b2 la lb vl ts wr) {now : Int} :
    Calls Try.prog 18 #[.pointer (some ⟨b1, 0, none⟩), .int .i64 now] wr fun e w' => ∃ va, e = .returned va ∧ OwnT w' wr.heap.size va (dueT la now) ∧ Mid w U b1 b2 (leftT la now) lb vl ts w' := by
  obtain ⟨h1, h2, h3, h4, h5⟩ := h
  refine (wwdue_two h1 h2).mono ?_
  rintro e w' ⟨va, rfl, ho, ha, hb, hf⟩
  exact ⟨va, rfl, ho, ha, hb, TmsAt'.fr h3 hf, h4.trans hf.below, h5⟩
theorem Mid.due2 {w wr : World} {U b1 b2 : Nat} {la lb ts : List Tm} {vl : Value} (h : Mid w U b1 b2 la lb vl ts wr) {now : Int} :
    Calls Try.prog 18 #[.pointer (some ⟨b2, 0, none⟩), .int .i64 now] wr fun e w' => ∃ va, e = .returned va ∧ OwnT w' wr.heap.size va (dueT lb now) ∧ Mid w U b1 b2 la (leftT lb now) vl ts w' := by
  obtain ⟨h1, h2, h3, h4, h5⟩ := h
  refine (wwdue_any h2).mono ?_
  rintro e w' ⟨va, rfl, ho, hb, hf⟩
  exact ⟨va, rfl, ho, WWu.below h1 hf.below, hb, TmsAt'.fr h3 hf, h4.trans (hf.below.mono h5), h5⟩
theorem Mid.grow {w wr w' : World} {U b1 b2 : Nat} {la lb ts ns : List Tm} {vl vl' : Value} (h : Mid w U b1 b2 la lb vl ts wr) (ho : OwnT w' w.heap.size vl' (ts ++ ns)) (hg : wr.grownBy w' vl.ownBlock) : Mid w U b1 b2 la lb vl' (ts ++ ns) w' := by
  obtain ⟨h1, h2, h3, h4, h5⟩ := h
  exact ⟨WWu.app h1 h3 hg, WW.app h2 h3 hg, ho, h4.grown hg h4.size (fun k hk => (World.ownsRow.lt h3 k hk).1), h5⟩
theorem Mid.below {w wr w' : World} {U b1 b2 : Nat} {la lb ts : List Tm} {vl : Value} (h : Mid w U b1 b2 la lb vl ts wr) (hb : Below wr.heap.size wr w') : Mid w U b1 b2 la lb vl ts w' := by
  obtain ⟨h1, h2, h3, h4, h5⟩ := h
  have hU : U ≤ wr.heap.size := h2.lo
  exact ⟨WWu.below h1 (hb.mono hU), WW.below h2 hb, TmsAt'.fr h3 (Fr.of hb (Nat.le_refl _)), h4.trans (hb.mono h4.size), h5⟩

set_option maxHeartbeats 8000000 in
set_option maxRecDepth 100000 in
theorem law_walk (w : World) (v0 : Value) (a1 a2 : Int) (k0 : IntsIn 140737488351232 w v0) (u1 : (Lit.int .i64 a1).wf = true) (u2 : (Lit.int .i64 a2).wf = true) :
    Calls Try.prog 5 #[v0, .int .i64 a1, .int .i64 a2] w fun e w' => e = .returned (.bool true) ∧ Below w.heap.size w w' := by
  obtain ⟨i0, hi, hz0, hz1, hz2⟩ := info_parts infoTm
  obtain ⟨ats, hat⟩ := k0
  have KF := hid (fun w' (hb : Below w.heap.size w w') => filled_any (hat.below hb))
  obtain ⟨hrow, hlen⟩ := fillL_row ats
  obtain ⟨ao, cap, rfl, _⟩ := hat
  generalize ats.length = na at KF ⊢
  generalize fillL ats = L at KF hrow hlen
  by_cases hgt : a2 < a1
  · have dgt : decide (a2 < a1) = true := decide_eq_true hgt
    clear KF
    go_enter Try.func5, Try.ntmps5
    go_wp2_with fail
    refine (awake9_any _).mono ?_
    rintro e w9 ⟨rfl, hw9⟩
    go_wp2
    go_ret
    exact ⟨rfl, hw9⟩
  have dgt : decide (a2 < a1) = false := decide_eq_false hgt
  obtain ⟨E1, E2⟩ := due_two L (show a1 ≤ a2 by omega)
  have hl1 := due_len L a1
  have hl2 := due_len (leftT L a1) a2
  have hl3 := due_len L a2
  go_enter Try.func5, Try.ntmps5
  go_wp2_with fail
  refine (KF.out _ (Below.refl _ _)).mono ?_
  rintro e w1 ⟨b1, rfl, hw1, hb1⟩
  go_wp2_with fail
  refine (KF.out _ hb1).mono ?_
  rintro e w2 ⟨b2, rfl, hw2, hb2⟩
  have hA := (Below.refl w2.heap.size w2).alloc (Nat.le_refl _) (.cells #[] 49)
  have hb12 := hb1.trans (hb2.mono hb1.size)
  have M0 := hid (Mid.below (wr := w2) (vl := .slice none 0 0) (ts := []) ⟨WWu.below hw1 hb2, hw2, OwnT.nil _ _, hb12, hb1.size⟩ hA)
  have M1 : Hid (Mid w w1.heap.size b1 b2 L L (.slice (some ⟨w2.heap.size, 0, none⟩) 0 0) [] (w2.alloc (.cells #[] 49))) := by
    obtain ⟨h1, h2, _, h4, h5⟩ := M0.out
    exact ⟨h1, h2, (ownT_made w2).mono hb12.size, h4, h5⟩
  clear M0 KF hw1 hw2 hA hb12 hb1 hb2
  have K1 := hid (Mid.due1 M1.out (now := a1))
  generalize dueT L a1 = d1 at E1 hl1 K1
  generalize leftT L a1 = L1 at E1 E2 hl1 hl2 K1
  clear M1
  generalize w1.heap.size = U at K1
  go_wp2_with fail
  refine K1.out.mono ?_
  rintro e w3 ⟨va, rfl, ho3, M3⟩
  have M3h := hid M3
  have O3 := hid ho3
  clear K1 ho3 M3
  go_wp2_with (at_builtin; refine wp_appO _ rfl (.tmp 18) (.tmp 21) 25 rfl w.heap.size i0 _ Try.underlying25 hi hz0 hz1 hz2 rfl (.slice (some ⟨w2.heap.size, 0, none⟩) 0 0) [] rfl M3h.out.2.2.1 va d1 _ rfl O3.out (by simp; omega) M3h.out.2.2.2.1.size ?_; intro v4 w4 hown4 hgr4; have M4 := hid (Mid.grow M3h.out hown4 hgr4); clear hown4 hgr4)
  rw [List.nil_append] at M4
  have K2 := hid (Mid.due1 M4.out (now := a2))
  clear M4 M3h O3
  generalize dueT L1 a2 = d2 at E1 hl2 K2
  generalize leftT L1 a2 = L2 at E2 hl2 K2
  refine K2.out.mono ?_
  rintro e w5 ⟨vb, rfl, ho5, M5⟩
  have M5h := hid M5
  have O5 := hid ho5
  clear K2 ho5 M5
  have HTL : Hid ((d1 ++ d2).length ≤ 1000000) := by show _ ≤ _; rw [List.length_append]; omega
  have HEQ := hid E1
  clear E1
  go_wp2_with (at_builtin; refine wp_appO _ rfl (.tmp 22) (.tmp 25) 25 rfl w.heap.size i0 _ Try.underlying25 hi hz0 hz1 hz2 rfl v4 d1 rfl M5h.out.2.2.1 vb d2 _ rfl O5.out (by omega) M5h.out.2.2.2.1.size ?_; intro v6 w6 hown6 hgr6; have M6 := hid (Mid.grow M5h.out hown6 hgr6); clear hown6 hgr6)
  generalize d1 ++ d2 = ds at HEQ HTL M6
  have KB := hid (Mid.due2 M6.out (now := a2))
  rw [← HEQ.out, ← E2] at KB
  clear M6 M5h O5
  refine KB.out.mono ?_
  rintro e w7 ⟨vc, rfl, ho7, M7⟩
  have KS := hid (refsame9_any M7.2.2.1.at ho7.at HTL.out HTL.out)
  simp only [decide_true] at KS
  have M7h := hid M7
  clear ho7 M7 KB
  go_wp2_with fail
  refine KS.out.mono ?_
  rintro e w8 ⟨rfl, hb8⟩
  have M8 := M7h.out.below hb8
  have KL1 := hid (wwlen_any M8.1.ww)
  have KL2 := hid (wwlen_any M8.2.1)
  have B8 := hid M8.2.2.2.1
  generalize L2.length = n2 at KL1 KL2
  have heq : ((n2 : Int) == (n2 : Int)) = true := by simp
  clear KS hb8 M7h M8
  go_wp2_with fail
  refine KL1.out.mono ?_
  rintro e wx ⟨rfl, hwx⟩
  rw [hwx]
  clear hwx KL1
  go_wp2_with fail
  refine KL2.out.mono ?_
  rintro e wx ⟨rfl, hwx⟩
  rw [hwx]
  clear hwx KL2
  go_wp2_with fail
  refine (awake9_any _).mono ?_
  rintro e w9 ⟨rfl, hw9⟩
  go_wp2
  go_ret
  exact ⟨rfl, B8.out.trans (hw9.mono B8.out.size)⟩
end Go.Proofs.Ythioekmlljpbpaa.wheelSteps
