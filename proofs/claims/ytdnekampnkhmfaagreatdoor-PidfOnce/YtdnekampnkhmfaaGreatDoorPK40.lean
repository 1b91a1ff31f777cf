/-
  P14All, WPidfOnce.
-/
import Derived.Test.YtdnekampnkhmfaaGreatDoorPK39
import Derived.Test.YtdnekampnkhmfaaGreatDoorPK08
set_option linter.unusedVariables false
set_option linter.unusedSimpArgs false
set_option maxRecDepth 20000
namespace Go.Proofs.YtdnekampnkhmfaaGreatDoor
open Go.RowKit Sc
theorem parse14 (s:ByteArray) (hs:s.size≤140737488351232):∃ R:Dc × Int,(∀ w,Calls Tryz.prog 15 #[.string s] w fun e w'=>DcP R w e w')∧(R.2=0 → checkD R.1=0)∧(R.2 ≠ 0 → R.1=noD)∧SmallD 140737488355328 R.1:=by
 have hs0:s=⟨s.data.toList.toArray⟩:=by apply ByteArray.ext; simp
 have hl:=len_data s;by_cases he:(parseX s.data.toList).2=0
 ·obtain ⟨nl,er,hpv⟩:∃ x er,parseX s.data.toList=(x,er):=⟨_,_,rfl⟩
  rw [hpv] at he;simp only at he;subst he;obtain ⟨t,hf,hok⟩:=tree_of (parseX_ok hpv);refine ⟨docT t,fun w=>?_,(docT_two t).1,(docT_two t).2,?_⟩
  ·have h:=pparse_ok s.data.toList nl t w (by omega) hpv hf;rw [← hs0] at h;exact h
  ·by_cases h0:(docT t).2=0
   ·exact (small_checked ((docT_two t).1 h0)).up (by decide)
   ·rw [(docT_two t).2 h0]; exact small_none _
 ·refine ⟨(noD,(parseX s.data.toList).2),fun w=>?_,fun h=>absurd h he,fun _=>rfl,small_none _⟩
  have h:=pparse_bad s.data.toList w (by omega) he;rw [← hs0] at h;exact h
end Go.Proofs.YtdnekampnkhmfaaGreatDoor
namespace Go.Proofs.YtdnekampnkhmfaaGreatDoor.pidfOnce
open Go.RowKit Sc
set_option maxHeartbeats 2000000 in
set_option maxRecDepth 100000 in
theorem law_walk (a0:ByteArray) (b0:a0.size≤140737488351232) (w:World) :
  Calls Tryz.prog 7 #[.string a0] w fun e w'=>e=.returned (.bool true)∧Below w.heap.size w w':=by
 obtain ⟨R,h1,hck,hno,hsm⟩:=parse14 a0 b0;have K1:=hid h1;have KF:Hid (∀ w e w',DcP R w e w' → ∃ ta tk na nk,e=.returned (.tuple #[.agg #[.string ⟨R.1.entity.toArray⟩,.slice ta R.1.tuples.length tk,.slice na R.1.notes.length nk],.int .i64 R.2])∧DocAt w' R.1 (.slice ta R.1.tuples.length tk) (.slice na R.1.notes.length nk)∧Below w.heap.size w w'):=fun w e w' h=>h.forms;clear h1;obtain ⟨d,x⟩:=R;simp only at KF hck hno hsm;by_cases hx:x=0
 case neg =>
  have hd:=hno hx;subst hd;have r1:(x != 0)=true:=by simpa using hx
  rw [show noD.entity=[] from rfl,show noD.tuples.length=0 from rfl,show noD.notes.length=0 from rfl] at KF;clear hck hno hsm hx
  go_enter Tryz.func7,Tryz.ntmps7
  go_wp2_with fail
  refine (K1.out _).mono ?_
  intro e w1 hP1;obtain ⟨ta,tk,na,nk,rfl,hD1,hw1⟩:=KF.out _ _ _ hP1;have hr1:=rc_row3 w1 (.string ⟨#[]⟩) (.slice ta 0 tk) (.slice na 0 nk) 25;have hb1:=hid (hw1.alloc hw1.size (.cells #[.string ⟨#[]⟩,.slice ta 0 tk,.slice na 0 nk] 25));obtain ⟨y0,y1,y2,_,_,_⟩:=hr1.rc3;clear hP1 hD1 hw1 K1 hr1
  go_upto_region 3 with fail
  generalize World.alloc w1 _=W1 at hb1 y0 y1 y2 ⊢;go_wp2_with (go_at_call 10; refine (awake14_any _).mono ?_; rintro e w7 ⟨rfl,hw7⟩)
  go_ret;exact ⟨rfl,hb1.out.trans (hw7.mono hb1.out.size)⟩
 subst hx;have hc:=hck rfl;have hel:=ent_len hc;have KS:=hid (fun w' ts ns ts' ns' (k:DocAt w' d ts ns) (k':DocAt w' d ts' ns')=>rsame14_any d ts ns ts' ns' w' hsm k.t k.n k'.t k'.n);have KP:=hid (fun w' ts ns (k:DocAt w' d ts ns)=>pprint_ok d ts ns w' k.c k.t k.n hc);have KC:=hid (fun w' ts ns (k:DocAt w' d ts ns)=>pcheck_any d ts ns w' hsm (by omega) k.c k.t k.n);rw [hc] at KC;have KB:=hid (fun (hl:(prologK++printX (treeD d)).length≤4096) w'=>pback_any d w' hc hl);have hTl:(prologK++printX (treeD d)).length≤140737488355328:=by
  have:prologK.length=39:=rfl
  have:=print_sm hc
  rw [List.length_append]; omega
 generalize prologK++printX (treeD d)=Z at KP KB hTl;have z1:=size_list Z;clear hck hno hsm hc hel;unfold docV at KS KP KC;generalize d.entity=en at KS KF KP KC;obtain ⟨tn,htn⟩:∃ tn,tn=d.tuples.length:=⟨_,rfl⟩
 obtain ⟨nn,hnn⟩:∃ nn,nn=d.notes.length:=⟨_,rfl⟩
 rw [← htn,← hnn] at KF;clear htn hnn
 go_enter Tryz.func7,Tryz.ntmps7
 go_wp2_with fail
 refine (K1.out _).mono ?_
 intro e w1 hP1;obtain ⟨ta,tk,na,nk,rfl,hD1,hw1⟩:=KF.out _ _ _ hP1;have HD1:=hid (hD1.alloc (.cells #[.string ⟨en.toArray⟩,.slice ta tn tk,.slice na nn nk] 25));have hr1:=hid (rc_row3 w1 (.string ⟨en.toArray⟩) (.slice ta tn tk) (.slice na nn nk) 25);have hb1:=hid (hw1.alloc hw1.size (.cells #[.string ⟨en.toArray⟩,.slice ta tn tk,.slice na nn nk] 25));have hl1:=hid (alloc_lt w1 (.cells #[.string ⟨en.toArray⟩,.slice ta tn tk,.slice na nn nk] 25));clear hP1 hD1 hw1 K1
 go_upto_region 4 with fail
 generalize World.alloc w1 _=W1 at HD1 hr1 hb1 hl1 ⊢;obtain ⟨y0,y1,y2,_,_,_⟩:=hr1.out.rc3;go_wp2_with fail
 refine (KP.out _ _ _ HD1.out).mono ?_
 rintro e w2 ⟨rfl,hw2⟩;have HD2:=hid (HD1.out.below hw2);have hr2:=hid (hr1.out.below hw2 hl1.out);have hl2:=hid (Nat.lt_of_lt_of_le hl1.out hw2.size);have hb2:=hid (hb1.out.trans (hw2.mono hb1.out.size));clear HD1 hr1 hb1 hl1 hw2 y0 y1 y2;obtain ⟨y0,y1,y2,_,_,_⟩:=hr2.out.rc3;by_cases h4:4096 < Z.length
 ·have r4:(4096:Int) < (Z.length:Int):=by omega
  go_wp2_with fail
  refine (KC.out _ _ _ HD2.out).mono ?_
  rintro e w3 ⟨rfl,hw3⟩;have hb3:=hb2.out.trans (hw3.mono hb2.out.size);clear y0 y1 y2;go_wp2_with (go_at_call 10; refine (awake14_any _).mono ?_; rintro e w7 ⟨rfl,hw7⟩)
  go_ret;exact ⟨rfl,hb3.trans (hw7.mono hb3.size)⟩
 have r4:¬ (4096:Int) < (Z.length:Int):=by omega
 have KB':=hid (KB.out (by omega));clear KB KC y0 y1 y2;go_wp2_with fail
 refine (KB'.out _).mono ?_
 intro e w3 hP3;obtain ⟨ta3,tk3,na3,nk3,rfl,hD3,hw3⟩:=KF.out _ _ _ hP3;have HE3:=hid (HD2.out.below hw3);have hr3:=hid (hr2.out.below hw3 hl2.out);have hl3:=hid (Nat.lt_of_lt_of_le hl2.out hw3.size);have hb3:=hid (hb2.out.trans (hw3.mono hb2.out.size));have HD4:=hid (hD3.alloc (.cells #[.string ⟨en.toArray⟩,.slice ta3 tn tk3,.slice na3 nn nk3] 25));have HE4:=hid (HE3.out.alloc (.cells #[.string ⟨en.toArray⟩,.slice ta3 tn tk3,.slice na3 nn nk3] 25));have hr4:=hid (hr3.out.below ((Below.refl _ w3).alloc (Nat.le_refl _) (.cells #[.string ⟨en.toArray⟩,.slice ta3 tn tk3,.slice na3 nn nk3] 25)) hl3.out);have hs4:=hid (rc_row3 w3 (.string ⟨en.toArray⟩) (.slice ta3 tn tk3) (.slice na3 nn nk3) 25);have ht4:=hid (alloc_lt w3 (.cells #[.string ⟨en.toArray⟩,.slice ta3 tn tk3,.slice na3 nn nk3] 25));have hb4:=hid (hb3.out.alloc hb3.out.size (.cells #[.string ⟨en.toArray⟩,.slice ta3 tn tk3,.slice na3 nn nk3] 25));clear hP3 hD3 hw3 KB' HD2 hr2 hl2 hb2 HE3 hr3 hb3 KF
 go_upto_region 8 with fail
 generalize World.alloc w3 _=W3 at HD4 HE4 hr4 hs4 ht4 hb4 ⊢;obtain ⟨z0,z1',z2,_,_,_⟩:=hs4.out.rc3;go_wp2_with fail
 refine (KP.out _ _ _ HD4.out).mono ?_
 rintro e w5 ⟨rfl,hw5⟩;have HD5:=hid (HD4.out.below hw5);have HE5:=hid (HE4.out.below hw5);have hr5:=hid (hr4.out.below hw5 (Nat.lt_trans hl3.out ht4.out));have hs5:=hid (hs4.out.below hw5 ht4.out);have hb5:=hid (hb4.out.trans (hw5.mono hb4.out.size));clear HD4 HE4 hr4 hs4 hb4 hw5 z0 z1' z2 KP;obtain ⟨y0,y1,y2,_,_,_⟩:=hr5.out.rc3;obtain ⟨z0,z1',z2,_,_,_⟩:=hs5.out.rc3;go_wp2_with fail
 refine (KS.out _ _ _ _ _ HE5.out HD5.out).mono ?_
 rintro e w6 ⟨rfl,hw6⟩;have hb6:=hb5.out.trans (hw6.mono hb5.out.size);clear y0 y1 y2 z0 z1' z2;go_wp2_with (go_at_call 10; refine (awake14_any _).mono ?_; rintro e w7 ⟨rfl,hw7⟩)
 go_ret;exact ⟨rfl,hb6.trans (hw7.mono hb6.size)⟩
end Go.Proofs.YtdnekampnkhmfaaGreatDoor.pidfOnce
