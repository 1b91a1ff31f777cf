/-
  The walk of the law FrameParses.
-/
import Derived.Test.YtagopboofmjnfaaDoorFLaw6
import Derived.Test.YtagopboofmjnfaaDoorRParse6
namespace Go.Proofs.YtagopboofmjnfaaDoor.frameParses
open Go.RowKit Go.Sort Sc
set_option linter.unusedVariables false
set_option maxRecDepth 20000

theorem rparse_is {s : List UInt8} {m : Ms} {n : Int} (h : parseM s = (m, n)) (w : World) (hs : s.length ≤ 140737488355328) :
    Calls Tryd.prog 18 #[.string ⟨s.toArray⟩] w fun e w' => ∃ a c, e = .returned (.tuple #[msgV m (.slice a m.headers.length c), .int .i64 n]) ∧ HdrsAt w' (.slice a m.headers.length c) m.headers ∧ Below w.heap.size w w' := by
  have k := rparse_any s w hs
  rw [h] at k
  refine k.mono ?_
  rintro e w' ⟨⟨v, rfl, hown⟩, hb⟩
  obtain ⟨a, c, rfl⟩ := hown.hdrsAt.form
  exact ⟨a, c, rfl, hown.hdrsAt, hb⟩

set_option maxHeartbeats 4000000 in
set_option maxRecDepth 100000 in
theorem law_walk (w : World) (v0 : Value) (k0 : BytesIn 140737488351232 w v0) (hmx : MaxAt w) :
    Calls Tryd.prog 4 #[v0] w fun e w' => e = .returned (.bool true) ∧ Below w.heap.size w w' := by
  obtain ⟨l, hat, hl⟩ := k0
  obtain ⟨a0, c0, rfl⟩ := hat.form
  have HCV := hid (fun (w' : World) (hb : Below w.heap.size w w') => conv_bytes (hat.below hb))
  have hcv := conv_bytes hat
  clear hat
  obtain ⟨m, er, hpv⟩ : ∃ m er, parseM l = (m, er) := ⟨_, _, rfl⟩
  have K1 := hid (fun w' (hb : Below w.heap.size w w') => parse_is hpv w' (hmx.below hb) (by omega))
  have K2 := hid (fun w' => rparse_is hpv w' (by omega))
  have KW := hid (fun w' (hb : Below w.heap.size w w') => awake6_any w' (hmx.below hb))
  have h64 : m.headers.length ≤ 64 := by
    by_cases he : er = 0
    · subst he; exact (parseM_small hpv).2
    · rw [parseM_none hpv he]; simp [noM]
  have KS := hid (fun v v' w' (h : HdrsAt w' v m.headers) (h' : HdrsAt w' v' m.headers) => rsame_any m v v' w' (by omega) h h')
  clear hpv hmx
  obtain ⟨me, ta, st, re, hs, bo⟩ := m
  unfold msgV at K1 K2 KS
  simp only at K1 K2 KS h64
  obtain ⟨n, hn⟩ : ∃ n, n = hs.length := ⟨_, rfl⟩
  rw [← hn] at K1 K2 h64
  clear hn
  go_enter Tryd.func4, Tryd.ntmps4
  go_wp2_with fail
  refine (K1.out _ (Below.refl _ _)).mono ?_
  rintro e w1 ⟨a1, c1, rfl, hat1, hw1⟩
  have HX1 := hid (boxM_new w1 ⟨me, ta, st, re, hs, bo⟩ (.slice a1 n c1))
  have hA := (Below.refl _ w1).alloc (Nat.le_refl _) (objM ⟨me, ta, st, re, hs, bo⟩ (.slice a1 n c1))
  have hltA := alloc_lt w1 (objM ⟨me, ta, st, re, hs, bo⟩ (.slice a1 n c1))
  have HATA := hid (hat1.below hA)
  have hbA := hw1.trans (hA.mono hw1.size)
  unfold objM at HX1 hA hltA HATA hbA
  simp only at HX1 hA hltA HATA hbA
  clear K1 hat1 hcv
  have hcv := HCV.out _ hbA
  go_wp2_with fail
  refine (K2.out _).mono ?_
  rintro e w2 ⟨a2, c2, rfl, hat2, hw2⟩
  have HX2 := hid (BoxM.below HX1.out hw2 hltA)
  have hlt2 := Nat.lt_of_lt_of_le hltA hw2.size
  have HAT2 := hid (HATA.out.below hw2)
  have hb2 := hbA.trans (hw2.mono hbA.size)
  clear HX1 hA hltA HATA hbA hw2 hcv HCV K2
  have HY2 := hid (boxM_new w2 ⟨me, ta, st, re, hs, bo⟩ (.slice a2 n c2))
  have hB := (Below.refl _ w2).alloc (Nat.le_refl _) (objM ⟨me, ta, st, re, hs, bo⟩ (.slice a2 n c2))
  have HXB := hid (BoxM.below HX2.out hB hlt2)
  have HATX := hid (HAT2.out.below hB)
  have HATY := hid (hat2.below hB)
  have hbB := hb2.trans (hB.mono hb2.size)
  unfold objM at HY2 HXB HATX HATY hbB hB
  simp only at HY2 HXB HATX HATY hbB hB
  clear hat2 HX2 HAT2 hb2 hlt2
  obtain ⟨x0, x1, x2, x3, x4, x5⟩ := HXB.out
  obtain ⟨y0, y1, y2, y3, y4, y5⟩ := HY2.out
  simp only at x0 x1 x2 x3 x4 x5 y0 y1 y2 y3 y4 y5
  go_wp2_with fail
  refine (KS.out _ _ _ HATX.out HATY.out).mono ?_
  rintro e w6 ⟨rfl, hw6⟩
  have hb6 := hbB.trans (hw6.mono hbB.size)
  clear hbB hw6 KS HATX HATY x0 x1 x2 x3 x4 x5 y0 y1 y2 y3 y4 y5 HXB HY2 hB
  go_wp2_with (go_at_call 10; refine (KW.out _ hb6).mono ?_; rintro e w7 ⟨rfl, hw7⟩)
  go_ret
  exact ⟨rfl, hb6.trans (hw7.mono hb6.size)⟩

end Go.Proofs.YtagopboofmjnfaaDoor.frameParses
