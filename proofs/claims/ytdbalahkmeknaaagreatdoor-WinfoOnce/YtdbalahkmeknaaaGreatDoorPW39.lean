/-
  WWinfoOnce.
-/
import Derived.Test.YtdbalahkmeknaaaGreatDoorPW35
set_option linter.unusedVariables false
set_option linter.unusedSimpArgs false
set_option maxRecDepth 20000
namespace Go.Proofs.YtdbalahkmeknaaaGreatDoor.winfoOnce
open Go.RowKit Sc
set_option maxHeartbeats 2000000 in
set_option maxRecDepth 100000 in
theorem law_walk (a0:ByteArray) (b0:a0.size≤140737488351232) (w:World) :
  Calls Tryz.prog 6 #[.string a0] w fun e w'=>e=.returned (.bool true)∧Below w.heap.size w w':=by
 obtain ⟨R,h1,_,hck,hno,hsm⟩:=parse15 a0 (by omega);obtain ⟨d,x⟩:=R;simp only at hck hno hsm;by_cases hx:x=0
 case neg =>
  have hd:=hno hx;subst hd;have r1:(x != 0)=true:=by simpa using hx
  have K1:Hid (∀ w,Calls Tryz.prog 14 #[.string a0] w fun e w'=>∃ ta tk,e=.returned (.tuple #[.agg #[.int .i64 0,.string ⟨#[]⟩,.slice ta 0 tk],.int .i64 x])∧Below w.heap.size w w'):=fun w=>(h1 w).mono fun e w' h=>by
   obtain ⟨ta,tk,q1,_,q3⟩:=h.forms;exact ⟨ta,tk,q1,q3⟩
  clear hck hno hsm hx h1
  go_enter Tryz.func6,Tryz.ntmps6
  go_wp2_with fail
  refine (K1.out _).mono ?_
  rintro e w1 ⟨ta,tk,rfl,hw1⟩;have hr1:=rc_row3 w1 (.int .i64 0) (.string ⟨#[]⟩) (.slice ta 0 tk) 24;have hb1:=hid (hw1.alloc hw1.size (.cells #[.int .i64 0,.string ⟨#[]⟩,.slice ta 0 tk] 24));obtain ⟨y0,y1,y2,_,_,_⟩:=hr1.rc3;clear hw1 K1 hr1
  go_upto_region 3 with fail
  generalize World.alloc w1 _=W1 at hb1 y0 y1 y2 ⊢;go_wp2_with (go_at_call 9; refine (awake15_any _).mono ?_; rintro e w7 ⟨rfl,hw7⟩)
  go_ret;exact ⟨rfl,hb1.out.trans (hw7.mono hb1.out.size)⟩
 subst hx;obtain ⟨hc,hlen⟩:=hck rfl;obtain ⟨vr,rs,wl⟩:=d;have KS:=hid (fun w' ws ws' (k:WtsAt w' ws wl) (k':WtsAt w' ws' wl)=>rsame15_any ⟨vr,rs,wl⟩ ws ws' w' hsm k k');have KP:=hid (fun w' ws (k:WtsAt w' ws wl)=>wprint_ok ⟨vr,rs,wl⟩ ws w' k hc);have KC:=hid (fun w' ws (k:WtsAt w' ws wl)=>wcheck_any ⟨vr,rs,wl⟩ ws w' (inf_small hc) k);rw [hc] at KC;have K1:Hid (∀ w,Calls Tryz.prog 14 #[.string a0] w fun e w'=>∃ ta tk,e=.returned (.tuple #[.agg #[.int .i64 vr,.string ⟨rs.toArray⟩,.slice ta wl.length tk],.int .i64 0])∧WtsAt w' (.slice ta wl.length tk) wl∧Below w.heap.size w w'):=fun w=>(h1 w).mono fun e w' h=>h.forms;have KB:Hid (∀ w,Calls Tryz.prog 14 #[.string ⟨(prologK++printX (treeI ⟨vr,rs,wl⟩)).toArray⟩] w fun e w'=>∃ ta tk,e=.returned (.tuple #[.agg #[.int .i64 vr,.string ⟨rs.toArray⟩,.slice ta wl.length tk],.int .i64 0])∧WtsAt w' (.slice ta wl.length tk) wl∧Below w.heap.size w w'):=fun w=>(wback_any _ w hc hlen).mono fun e w' h=>h.forms;generalize prologK++printX (treeI ⟨vr,rs,wl⟩)=Z at KP KB;have z1:=size_list Z;unfold infV at KS KP KC;simp only at KS KP KC;obtain ⟨tn,htn⟩:∃ tn,tn=wl.length:=⟨_,rfl⟩
 rw [← htn] at K1 KB;clear hck hno hsm hc htn h1 hlen
 go_enter Tryz.func6,Tryz.ntmps6
 go_wp2_with fail
 refine (K1.out _).mono ?_
 rintro e w1 ⟨ta,tk,rfl,hD1,hw1⟩;have HD1:=hid (hD1.alloc (.cells #[.int .i64 vr,.string ⟨rs.toArray⟩,.slice ta tn tk] 24));have hr1:=hid (rc_row3 w1 (.int .i64 vr) (.string ⟨rs.toArray⟩) (.slice ta tn tk) 24);have hb1:=hid (hw1.alloc hw1.size (.cells #[.int .i64 vr,.string ⟨rs.toArray⟩,.slice ta tn tk] 24));have hl1:=hid (alloc_lt w1 (.cells #[.int .i64 vr,.string ⟨rs.toArray⟩,.slice ta tn tk] 24));clear hD1 hw1 K1
 go_upto_region 4 with fail
 generalize World.alloc w1 _=W1 at HD1 hr1 hb1 hl1 ⊢;obtain ⟨y0,y1,y2,_,_,_⟩:=hr1.out.rc3;go_wp2_with fail
 refine (KP.out _ _ HD1.out).mono ?_
 rintro e w2 ⟨rfl,hw2⟩;have HD2:=hid (HD1.out.below hw2);have hr2:=hid (hr1.out.below hw2 hl1.out);have hl2:=hid (Nat.lt_of_lt_of_le hl1.out hw2.size);have hb2:=hid (hb1.out.trans (hw2.mono hb1.out.size));clear HD1 hr1 hb1 hl1 hw2 y0 y1 y2 KP;go_wp2_with fail
 refine (KB.out _).mono ?_
 rintro e w3 ⟨ta3,tk3,rfl,hD3,hw3⟩;have HE3:=hid (HD2.out.below hw3);have hr3:=hid (hr2.out.below hw3 hl2.out);have hl3:=hid (Nat.lt_of_lt_of_le hl2.out hw3.size);have hb3:=hid (hb2.out.trans (hw3.mono hb2.out.size));have hba:=(Below.refl _ w3).alloc (Nat.le_refl _) (.cells #[.int .i64 vr,.string ⟨rs.toArray⟩,.slice ta3 tn tk3] 24);have HD4:=hid (hD3.below hba);have HE4:=hid (HE3.out.below hba);have hr4:=hid (hr3.out.below hba hl3.out);have hl4:=hid (Nat.lt_of_lt_of_le hl3.out hba.size);have hs4:=hid (rc_row3 w3 (.int .i64 vr) (.string ⟨rs.toArray⟩) (.slice ta3 tn tk3) 24);have hb4:=hid (hb3.out.trans (hba.mono hb3.out.size));clear hD3 hw3 KB HD2 hr2 hl2 hb2 HE3 hr3 hb3 hl3 hba
 go_upto_region 6 with fail
 generalize World.alloc w3 _=W3 at HD4 HE4 hr4 hs4 hb4 hl4 ⊢;obtain ⟨y0,y1,y2,_,_,_⟩:=hr4.out.rc3;obtain ⟨z0,z1',z2,_,_,_⟩:=hs4.out.rc3;go_wp2_with fail
 refine (KS.out _ _ _ HE4.out HD4.out).mono ?_
 rintro e w6 ⟨rfl,hw6⟩;have HE6:=hid (HE4.out.below hw6);have hr6:=hid (hr4.out.below hw6 hl4.out);have hb6:=hid (hb4.out.trans (hw6.mono hb4.out.size));clear y0 y1 y2 z0 z1' z2 HE4 HD4 hr4 hs4 hb4 hw6 KS;obtain ⟨y0,y1,y2,_,_,_⟩:=hr6.out.rc3;go_wp2_with fail
 refine (KC.out _ _ HE6.out).mono ?_
 rintro e w8 ⟨rfl,hw8⟩;have hb8:=hb6.out.trans (hw8.mono hb6.out.size);clear y0 y1 y2;go_wp2_with (go_at_call 9; refine (awake15_any _).mono ?_; rintro e w7 ⟨rfl,hw7⟩)
 go_ret;exact ⟨rfl,hb8.trans (hw7.mono hb8.size)⟩
end Go.Proofs.YtdbalahkmeknaaaGreatDoor.winfoOnce
