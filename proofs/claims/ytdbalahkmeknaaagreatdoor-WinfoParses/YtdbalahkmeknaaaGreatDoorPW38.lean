/-
  WWinfoParses.
-/
import Derived.Test.YtdbalahkmeknaaaGreatDoorPW35
set_option linter.unusedVariables false
set_option linter.unusedSimpArgs false
set_option maxRecDepth 20000
namespace Go.Proofs.YtdbalahkmeknaaaGreatDoor.winfoParses
open Go.RowKit Sc
set_option maxHeartbeats 2000000 in
set_option maxRecDepth 100000 in
theorem law_walk (a0:ByteArray) (b0:a0.size≤140737488351232) (w:World) :
  Calls Tryz.prog 4 #[.string a0] w fun e w'=>e=.returned (.bool true)∧Below w.heap.size w w':=by
 obtain ⟨R,h1,h2,_,_,hsm⟩:=parse15 a0 (by omega);obtain ⟨⟨vr,rs,wl⟩,x⟩:=R;have KS:=hid (fun w' ws ws' (k:WtsAt w' ws wl) (k':WtsAt w' ws' wl)=>rsame15_any ⟨vr,rs,wl⟩ ws ws' w' hsm k k');have K1:Hid (∀ w,Calls Tryz.prog 14 #[.string a0] w fun e w'=>∃ ta tk,e=.returned (.tuple #[.agg #[.int .i64 vr,.string ⟨rs.toArray⟩,.slice ta wl.length tk],.int .i64 x])∧WtsAt w' (.slice ta wl.length tk) wl∧Below w.heap.size w w'):=fun w=>(h1 w).mono fun e w' h=>h.forms;have K2:Hid (∀ w,Calls Tryz.prog 15 #[.string a0] w fun e w'=>∃ ta tk,e=.returned (.tuple #[.agg #[.int .i64 vr,.string ⟨rs.toArray⟩,.slice ta wl.length tk],.int .i64 x])∧WtsAt w' (.slice ta wl.length tk) wl∧Below w.heap.size w w'):=fun w=>(h2 w).mono fun e w' h=>h.forms;unfold infV at KS;simp only at KS;obtain ⟨tn,htn⟩:∃ tn,tn=wl.length:=⟨_,rfl⟩
 rw [← htn] at K1 K2;clear htn h1 h2 hsm
 go_enter Tryz.func4,Tryz.ntmps4
 go_wp2_with fail
 refine (K1.out _).mono ?_
 rintro e w1 ⟨ta,tk,rfl,hD1,hw1⟩;have HD1:=hid (hD1.alloc (.cells #[.int .i64 vr,.string ⟨rs.toArray⟩,.slice ta tn tk] 24));have hr1:=hid (rc_row3 w1 (.int .i64 vr) (.string ⟨rs.toArray⟩) (.slice ta tn tk) 24);have hb1:=hid (hw1.alloc hw1.size (.cells #[.int .i64 vr,.string ⟨rs.toArray⟩,.slice ta tn tk] 24));have hl1:=hid (alloc_lt w1 (.cells #[.int .i64 vr,.string ⟨rs.toArray⟩,.slice ta tn tk] 24));clear hD1 hw1 K1;go_wp2_with fail
 generalize World.alloc w1 _=W1 at HD1 hr1 hb1 hl1 ⊢;refine (K2.out _).mono ?_
 rintro e w2 ⟨ta2,tk2,rfl,hD2,hw2⟩;have HE2:=hid (HD1.out.below hw2);have hr2:=hid (hr1.out.below hw2 hl1.out);have hl2:=hid (Nat.lt_of_lt_of_le hl1.out hw2.size);have hb2:=hid (hb1.out.trans (hw2.mono hb1.out.size));have HD3:=hid (hD2.alloc (.cells #[.int .i64 vr,.string ⟨rs.toArray⟩,.slice ta2 tn tk2] 24));have HE3:=hid (HE2.out.alloc (.cells #[.int .i64 vr,.string ⟨rs.toArray⟩,.slice ta2 tn tk2] 24));have hr3:=hid (hr2.out.below ((Below.refl _ w2).alloc (Nat.le_refl _) (.cells #[.int .i64 vr,.string ⟨rs.toArray⟩,.slice ta2 tn tk2] 24)) hl2.out);have hs3:=hid (rc_row3 w2 (.int .i64 vr) (.string ⟨rs.toArray⟩) (.slice ta2 tn tk2) 24);have hb3:=hid (hb2.out.alloc hb2.out.size (.cells #[.int .i64 vr,.string ⟨rs.toArray⟩,.slice ta2 tn tk2] 24));clear hD2 hw2 K2 HD1 hr1 hb1 hl1 HE2 hr2 hl2 hb2
 go_upto_region 3 with fail
 generalize World.alloc w2 _=W2 at HD3 HE3 hr3 hs3 hb3 ⊢;obtain ⟨y0,y1,y2,_,_,_⟩:=hr3.out.rc3;obtain ⟨z0,z1,z2,_,_,_⟩:=hs3.out.rc3;go_wp2_with fail
 refine (KS.out _ _ _ HE3.out HD3.out).mono ?_
 rintro e w4 ⟨rfl,hw4⟩;clear y0 y1 y2 z0 z1 z2;have hb4:=hb3.out.trans (hw4.mono hb3.out.size);go_wp2_with (go_at_call 9; refine (awake15_any _).mono ?_; rintro e w7 ⟨rfl,hw7⟩)
 go_ret;exact ⟨rfl,hb4.trans (hw7.mono hb4.size)⟩
end Go.Proofs.YtdbalahkmeknaaaGreatDoor.winfoParses
