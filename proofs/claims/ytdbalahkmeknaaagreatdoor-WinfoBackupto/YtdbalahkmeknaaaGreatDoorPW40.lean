/-
  WWinfoBack.
-/
import Derived.Test.YtdbalahkmeknaaaGreatDoorPW03
import Derived.Test.YtdbalahkmeknaaaGreatDoorPW36
set_option linter.unusedVariables false
set_option linter.unusedSimpArgs false
set_option maxRecDepth 20000
namespace Go.Proofs.YtdbalahkmeknaaaGreatDoor.winfoBack
open Go.RowKit Sc
set_option maxHeartbeats 2000000 in
set_option maxRecDepth 100000 in
theorem law_walk (w:World) (v0:Value) (k0:InfIn 1048576 w v0) :
  Calls Tryz.prog 5 #[v0] w fun e w'=>e=.returned (.bool true)∧Below w.heap.size w w':=by
 obtain ⟨d,ws,rfl,hD,hsm⟩:=k0;obtain ⟨vr,rs,wl⟩:=d;simp only at hD;have hsz:wl.length≤140737488355328:=by have:=hsm.wl; simp only at this; omega
 obtain ⟨ta,tk,hta,_,_⟩:=id hD;obtain ⟨tn,htn⟩:∃ tn,tn=wl.length:=⟨_,rfl⟩
 rw [← htn] at hta;subst hta;have HD0:=hid (hD.alloc (.cells #[.int .i64 vr,.string ⟨rs.toArray⟩,.slice ta tn tk] 24));have hr0:=hid (rc_row3 w (.int .i64 vr) (.string ⟨rs.toArray⟩) (.slice ta tn tk) 24);have hb0:=hid (show Below w.heap.size w (w.alloc (.cells #[.int .i64 vr,.string ⟨rs.toArray⟩,.slice ta tn tk] 24)) from (Below.refl _ w).alloc (Nat.le_refl _) _);have hl0:=hid (alloc_lt w (.cells #[.int .i64 vr,.string ⟨rs.toArray⟩,.slice ta tn tk] 24));by_cases hc:checkI ⟨vr,rs,wl⟩=0
 case neg =>
  have KP:=hid (fun w' ws (k:WtsAt w' ws wl)=>wprint_bad ⟨vr,rs,wl⟩ ws w' hsm k hc);have r1:(checkI ⟨vr,rs,wl⟩ != 0)=true:=by simpa using hc
  have r2:(checkI ⟨vr,rs,wl⟩==0)=false:=by simpa using hc
  unfold infV at KP ⊢;simp only at KP ⊢;generalize checkI ⟨vr,rs,wl⟩=C at KP r1 r2;clear hsm hsz htn hc hD
  go_enter Tryz.func5,Tryz.ntmps5
  go_upto_region 1 with fail
  generalize World.alloc w _=W0 at HD0 hr0 hb0 hl0 ⊢;obtain ⟨y0,y1,y2,_,_,_⟩:=hr0.out.rc3;go_wp2_with fail
  refine (KP.out _ _ HD0.out).mono ?_
  rintro e w1 ⟨rfl,hw1⟩;have hb1:=hb0.out.trans (hw1.mono hb0.out.size);clear y0 y1 y2;go_wp2_with (go_at_call 9; refine (awake15_any _).mono ?_; rintro e w7 ⟨rfl,hw7⟩)
  go_ret;exact ⟨rfl,hb1.trans (hw7.mono hb1.size)⟩
 have KS:=hid (fun w' ws ws' (k:WtsAt w' ws wl) (k':WtsAt w' ws' wl)=>rsame15_any ⟨vr,rs,wl⟩ ws ws' w' hsz k k');have KP:=hid (fun w' ws (k:WtsAt w' ws wl)=>wprint_ok ⟨vr,rs,wl⟩ ws w' k hc);have KB:Hid ((prologK++printX (treeI ⟨vr,rs,wl⟩)).length≤4096 → ∀ w,Calls Tryz.prog 14 #[.string ⟨(prologK++printX (treeI ⟨vr,rs,wl⟩)).toArray⟩] w fun e w'=>∃ ta tk,e=.returned (.tuple #[.agg #[.int .i64 vr,.string ⟨rs.toArray⟩,.slice ta wl.length tk],.int .i64 0])∧WtsAt w' (.slice ta wl.length tk) wl∧Below w.heap.size w w'):=fun hlen w=>(wback_any _ w hc hlen).mono fun e w' h=>h.forms
 have hTl:(prologK++printX (treeI ⟨vr,rs,wl⟩)).length≤140737488355328:=by
  have:prologK.length=39:=rfl
  have:=print_smI hc
  rw [List.length_append]; omega
 generalize prologK++printX (treeI ⟨vr,rs,wl⟩)=Z at KP KB hTl;have z1:=size_list Z;unfold infV at KS KP ⊢;simp only at KS KP ⊢;rw [← htn] at KB;clear hsm hsz htn hc hD
 go_enter Tryz.func5,Tryz.ntmps5
 go_upto_region 1 with fail
 generalize World.alloc w _=W0 at HD0 hr0 hb0 hl0 ⊢;obtain ⟨y0,y1,y2,_,_,_⟩:=hr0.out.rc3;go_wp2_with fail
 refine (KP.out _ _ HD0.out).mono ?_
 rintro e w1 ⟨rfl,hw1⟩;have HD1:=hid (HD0.out.below hw1);have hr1:=hid (hr0.out.below hw1 hl0.out);have hl1:=hid (Nat.lt_of_lt_of_le hl0.out hw1.size);have hb1:=hid (hb0.out.trans (hw1.mono hb0.out.size));clear HD0 hr0 hb0 hl0 hw1 y0 y1 y2 KP;by_cases h4:4096 < Z.length
 ·have r4:(4096:Int) < (Z.length:Int):=by omega
  go_wp2_with (go_at_call 9; refine (awake15_any _).mono ?_; rintro e w7 ⟨rfl,hw7⟩)
  go_ret;exact ⟨rfl,hb1.out.trans (hw7.mono hb1.out.size)⟩
 have r4:¬ (4096:Int) < (Z.length:Int):=by omega
 have KB':=hid (KB.out (by omega));clear KB;go_wp2_with fail
 refine (KB'.out _).mono ?_
 rintro e w3 ⟨ta3,tk3,rfl,hD3,hw3⟩;have HE3:=hid (HD1.out.below hw3);have hr3:=hid (hr1.out.below hw3 hl1.out);have hl3:=hid (Nat.lt_of_lt_of_le hl1.out hw3.size);have hb3:=hid (hb1.out.trans (hw3.mono hb1.out.size));have hba:=(Below.refl _ w3).alloc (Nat.le_refl _) (.cells #[.int .i64 vr,.string ⟨rs.toArray⟩,.slice ta3 tn tk3] 24);have HD4:=hid (hD3.below hba);have HE4:=hid (HE3.out.below hba);have hr4:=hid (hr3.out.below hba hl3.out);have hs4:=hid (rc_row3 w3 (.int .i64 vr) (.string ⟨rs.toArray⟩) (.slice ta3 tn tk3) 24);have hb4:=hid (hb3.out.trans (hba.mono hb3.out.size));clear hD3 hw3 KB' HD1 hr1 hl1 hb1 HE3 hr3 hb3 hba
 go_upto_region 5 with fail
 generalize World.alloc w3 _=W3 at HD4 HE4 hr4 hs4 hb4 ⊢;obtain ⟨y0,y1,y2,_,_,_⟩:=hr4.out.rc3;obtain ⟨z0,z1',z2,_,_,_⟩:=hs4.out.rc3;go_wp2_with fail
 refine (KS.out _ _ _ HE4.out HD4.out).mono ?_
 rintro e w6 ⟨rfl,hw6⟩;have hb6:=hb4.out.trans (hw6.mono hb4.out.size);clear y0 y1 y2 z0 z1' z2;go_wp2_with (go_at_call 9; refine (awake15_any _).mono ?_; rintro e w7 ⟨rfl,hw7⟩)
 go_ret;exact ⟨rfl,hb6.trans (hw7.mono hb6.size)⟩
end Go.Proofs.YtdbalahkmeknaaaGreatDoor.winfoBack
