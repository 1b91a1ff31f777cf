/-
  The walk of the law UriParses.
-/
import Derived.Test.YtfdcklekjnihjaaDoorAwakeUri
import Derived.Test.YtfdcklekjnihjaaDoorRefParse
namespace Go.Proofs.YtfdcklekjnihjaaDoor.uriParses
open Go.RowKit Sc
set_option linter.unusedVariables false
set_option maxRecDepth 20000

theorem refparseC {l : List UInt8} {u : Uri} {er : Int} (h : parseV l = (u, er)) (w : World) (hs : l.length ≤ 1048576) :
    Calls Tryd.prog 21 #[.string ⟨l.toArray⟩] w fun e w' => ∃ a1 k1 a2 k2, e = .returned (.tuple #[.agg #[.string ⟨u.scheme.toArray⟩, .string ⟨u.user.toArray⟩, .string ⟨u.host.toArray⟩, .int .i64 u.port, .slice a1 u.params.length k1, .slice a2 u.headers.length k2], .int .i64 er]) ∧ OwnP w' w.heap.size (.slice a1 u.params.length k1) u.params ∧ OwnP w' w.heap.size (.slice a2 u.headers.length k2) u.headers ∧ Below w.heap.size w w' := by
  have k := refparse_any l w hs
  rw [h] at k
  refine k.mono ?_
  rintro e w' ⟨p, q, rfl, hp, hq, hb⟩
  obtain ⟨a1, k1, e1⟩ := hp.parsAt.form
  obtain ⟨a2, k2, e2⟩ := hq.parsAt.form
  simp only at e1 e2 hp hq
  subst e1 e2
  exact ⟨a1, k1, a2, k2, rfl, hp, hq, hb⟩
theorem parsed_few {s : List UInt8} {u : Uri} {er : Int} (h : parseV s = (u, er)) (hs : s.length ≤ 1048576) : u.params.length ≤ 140737488355328 ∧ u.headers.length ≤ 140737488355328 := by
  have hz : noU.params.length ≤ 140737488355328 ∧ noU.headers.length ≤ 140737488355328 := by simp [noU]
  have hc := cutL_len 58 s
  have hu := user_rest (cutL 58 s).2.1
  have hsm := rest_small (s := (userV (cutL 58 s).2.1).2.1) (by omega)
  have e1 := congrArg Prod.fst h
  simp only at e1
  unfold parseV at e1
  split at e1
  · rw [← e1]; exact hz
  split at e1
  · rw [← e1]; exact hz
  unfold bothV at e1
  split at e1
  · rw [← e1]; exact hz
  unfold endV at e1
  split at e1
  · rw [← e1]; exact hz
  · rw [← e1]; exact ⟨hsm.2.1.1, hsm.2.2.1⟩

set_option maxHeartbeats 4000000 in
set_option maxRecDepth 100000 in
theorem law_walk (a0 : ByteArray) (b0 : a0.size ≤ 1048576) (w : World) :
    Calls Tryd.prog 5 #[.string a0] w fun e w' => e = .returned (.bool true) ∧ Below w.heap.size w w' := by
  have hs0 : a0 = ⟨a0.data.toList.toArray⟩ := by apply ByteArray.ext; simp
  have hl := len_data a0
  generalize a0.data.toList = s at hs0 hl
  subst hs0
  rw [← hl] at b0
  clear hl
  obtain ⟨u, er, hpv⟩ : ∃ u er, parseV s = (u, er) := ⟨_, _, rfl⟩
  have hfew := parsed_few hpv b0
  have K1 : Hid _ := fun w' => parseC hpv w' b0
  have K2 : Hid _ := fun w' => refparseC hpv w' b0
  have K4 : Hid _ := fun p h p' h' w' (y1 : ParsAt w' p u.params) (y2 : ParsAt w' h u.headers) (y3 : ParsAt w' p' u.params) (y4 : ParsAt w' h' u.headers) => usame_any u u p h p' h' w' hfew.1 hfew.2 y1 y2 y3 y4
  simp only [decide_true] at K4
  unfold uriV at K4
  clear hpv b0 hfew
  go_enter Tryd.func5, Tryd.ntmps5
  go_wp2_with fail
  refine (K1.out _).mono ?_
  rintro e w1 ⟨a1, k1, a2, k2, rfl, ho1, ho2, hw1⟩
  have hx1 : Hid _ := box_new w1 u (.slice a1 u.params.length k1) (.slice a2 u.headers.length k2)
  have hA : Below w1.heap.size w1 (w1.alloc (.cells #[.string ⟨u.scheme.toArray⟩, .string ⟨u.user.toArray⟩, .string ⟨u.host.toArray⟩, .int .i64 u.port, .slice a1 u.params.length k1, .slice a2 u.headers.length k2] 31)) := (Below.refl _ w1).alloc (Nat.le_refl _) _
  have hlt1 : w1.heap.size < (w1.alloc (.cells #[.string ⟨u.scheme.toArray⟩, .string ⟨u.user.toArray⟩, .string ⟨u.host.toArray⟩, .int .i64 u.port, .slice a1 u.params.length k1, .slice a2 u.headers.length k2] 31)).heap.size := by simp
  have P1 : Hid (ParsAt w1 (.slice a1 u.params.length k1) u.params) := ho1.parsAt
  have P2 : Hid (ParsAt w1 (.slice a2 u.headers.length k2) u.headers) := ho2.parsAt
  clear ho1 ho2 K1
  go_wp2_with fail
  refine (K2.out _).mono ?_
  rintro e w2 ⟨a3, k3, a4, k4, rfl, ho3, ho4, hw2⟩
  have hb12 : Below w1.heap.size w1 w2 := hA.trans (hw2.mono hA.size)
  have hx2 : Hid _ := BoxU.below hx1.out hw2 hlt1
  have hlt2 : w1.heap.size < w2.heap.size := Nat.lt_of_lt_of_le hlt1 hw2.size
  have hall : ∀ o, BoxU (w2.alloc o) w1.heap.size u (.slice a1 u.params.length k1) (.slice a2 u.headers.length k2) := fun o => BoxU.below hx2.out ((Below.refl _ w2).alloc (Nat.le_refl _) o) hlt2
  have g0 := fun o => (hall o).1
  have g1 := fun o => (hall o).2.1
  have g2 := fun o => (hall o).2.2.1
  have g3 := fun o => (hall o).2.2.2.1
  have g4 := fun o => (hall o).2.2.2.2.1
  have g5 := fun o => (hall o).2.2.2.2.2
  have HO1 : Hid (∀ o, ParsAt (w2.alloc o) (.slice a1 u.params.length k1) u.params) := fun o => ParsAt.alloc (P1.out.below hb12) o
  have HO2 : Hid (∀ o, ParsAt (w2.alloc o) (.slice a2 u.headers.length k2) u.headers) := fun o => ParsAt.alloc (P2.out.below hb12) o
  have HO3 : Hid (∀ o, ParsAt (w2.alloc o) (.slice a3 u.params.length k3) u.params) := fun o => ParsAt.alloc ho3.parsAt o
  have HO4 : Hid (∀ o, ParsAt (w2.alloc o) (.slice a4 u.headers.length k4) u.headers) := fun o => ParsAt.alloc ho4.parsAt o
  have hb2 := hw1.trans (hb12.mono hw1.size)
  have HBO : Hid (∀ o, Below w.heap.size w (w2.alloc o)) := fun o => hb2.alloc hb2.size o
  clear hall hx1 hx2 hA hlt1 hlt2 hb12 hw2 ho3 ho4 P1 P2 hw1 hb2 K2
  go_wp2_with fail
  refine (K4.out _ _ _ _ _ (HO1.out _) (HO2.out _) (HO3.out _) (HO4.out _)).mono ?_
  rintro e w5 ⟨rfl, hw5⟩
  have hb5 := (HBO.out _).trans (hw5.mono (HBO.out _).size)
  go_wp2_with (go_at_call 15; refine (awake_any _).mono ?_; rintro e w7 ⟨rfl, hw7⟩)
  go_ret
  exact ⟨rfl, hb5.trans (hw7.mono hb5.size)⟩

end Go.Proofs.YtfdcklekjnihjaaDoor.uriParses
