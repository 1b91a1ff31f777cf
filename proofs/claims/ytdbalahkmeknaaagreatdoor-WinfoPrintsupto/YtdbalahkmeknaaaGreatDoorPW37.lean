/-
  W15All, WWinfoPrints.
-/
import Derived.Test.YtdbalahkmeknaaaGreatDoorPW03
import Derived.Test.YtdbalahkmeknaaaGreatDoorPW36
import Derived.Test.YtdbalahkmeknaaaGreatDoorPW28
import Derived.Lib.QuietBelow
set_option linter.unusedVariables false
set_option linter.unusedSimpArgs false
set_option maxRecDepth 20000
namespace Go.Proofs.YtdbalahkmeknaaaGreatDoor
open Go.RowKit Sc
def wtW (t:Wt):Nat:=20+t.uri.length+t.ev.length+t.stat.length
def infW (d:Inf):Nat:=d.res.length+(d.ws.map wtW).sum
theorem sum_stepI {α:Type} (f:α → Nat) {l:List α} {k:Nat} (h:k < l.length):((l.take (k+1)).map f).sum=((l.take k).map f).sum+f l[k]:=by
 rw [List.take_succ_eq_append_getElem h,List.map_append,List.sum_append]; simp
theorem sum_boundI {α:Type} (f:α → Nat) (B:Nat):∀ l:List α,(∀ x ∈ l,f x≤B) → (l.map f).sum≤l.length * B
 | [],_=>by simp
 | a :: l,h=>by
  have h1:=h a (by simp);have h2:=sum_boundI f B l fun x hx=>h x (by simp [hx]);rw [List.map_cons,List.sum_cons,List.length_cons,Nat.succ_mul]; omega
set_option maxHeartbeats 2000000 in
set_option maxRecDepth 100000 in
theorem lsmall15 (d:Inf) (ws:Value) (w:World) (hsm:SmallI 1048576 d) (h1:WtsAt w ws d.ws) :
  Calls Tryz.prog 8 #[infV d ws] w fun e w'=>e=.returned (.bool (decide (infW d≤8000)))∧Below w.heap.size w w':=by
 obtain ⟨vr,rs,wl⟩:=d;obtain ⟨z0,z1,z2,z3⟩:=hsm;simp only at h1 z0 z1 z2 z3;unfold infV
 simp only
 have hv:infW ⟨vr,rs,wl⟩=rs.length+(wl.map wtW).sum:=rfl;generalize infW ⟨vr,rs,wl⟩=S at hv ⊢;have HV:=hid hv
 have hTB:∀ k,((wl.take k).map wtW).sum≤4000000000000:=fun k=>by
  have h:=sum_boundI wtW 3145748 (wl.take k) fun x hx=>by obtain ⟨a1,a2,a3,_⟩:=z3 x (List.mem_of_mem_take hx); unfold wtW; omega
  have hl:(wl.take k).length≤1048576:=by rw [List.length_take]; omega
  have hm:(wl.take k).length * 3145748≤1048576 * 3145748:=Nat.mul_le_mul_right _ hl;omega
 have HTB:=hid hTB;obtain ⟨ta,tc,rfl,_,htc⟩:=h1;have HTC:=hid htc;obtain ⟨tn,htn⟩:∃ tn,tn=wl.length:=⟨_,rfl⟩
 rw [← htn] at z2 ⊢;have HTN:=hid htn;clear hv htc htn hTB z3;have hr:=rc_row3 w (.int .i64 vr) (.string ⟨rs.toArray⟩) (.slice ta tn tc) 24;have hbn:Below w.heap.size w (w.alloc (.cells #[.int .i64 vr,.string ⟨rs.toArray⟩,.slice ta tn tc] 24)):=(Below.refl _ w).alloc (Nat.le_refl _) _;obtain ⟨x0,x1,x2,_,_,_⟩:=hr.rc3;have ze:=size_list rs;clear hr
 go_enter Tryz.func8,Tryz.ntmps8
 go_wp2;generalize World.alloc w _=W at x0 x1 x2 hbn ⊢
 go_loopw [3,4] (fun x i wr=>∃ k q t:Nat,k≤tn∧i=.int .i64 k∧x=.int .i64 t∧Hid (t=rs.length+((wl.take k).map wtW).sum)∧wr=W.drewN q) (fun _ i _=>tn - (intOf i).toNat)
 case atStart=>exact ⟨0,0,rs.length,Nat.zero_le _,rfl,by go_num,show _=_ by simp,rfl⟩
 case round =>
  obtain ⟨k,q,t,hk,rfl,rfl,ht,rfl⟩:=hrel;by_cases hlt:k < tn
  ·have hkl:k < wl.length:=by have:=HTN.out; omega
   obtain ⟨a,rfl,hab,c⟩:=HTC.out k hkl;have c:=c.below hbn hab;have hst:=sum_stepI wtW hkl;have hb1:=HTB.out k;have hb2:=HTB.out (k+1);have htt:=ht.out;have q6:(k:Int) < (tn:Int):=by omega
   generalize wl[k]=T at c hst;obtain ⟨ti,tu,ts,te⟩:=T;obtain ⟨c0,c1,c2,c3⟩:=c;simp only [wtW] at c0 c1 c2 c3 hst;have s1:=size_list tu;have s2:=size_list te;have s3:=size_list ts;have w1:IntKind.i64.wrap ((t:Int)+20)=(t:Int)+20:=by rw [IntKind.wrap_i64]; omega
   have w2:IntKind.i64.wrap ((t:Int)+20+(tu.length:Int))=(t:Int)+20+(tu.length:Int):=by rw [IntKind.wrap_i64]; omega
   have w3:IntKind.i64.wrap ((t:Int)+20+(tu.length:Int)+(te.length:Int))=(t:Int)+20+(tu.length:Int)+(te.length:Int):=by rw [IntKind.wrap_i64]; omega
   have w4:IntKind.i64.wrap ((t:Int)+20+(tu.length:Int)+(te.length:Int)+(ts.length:Int))=(t:Int)+20+(tu.length:Int)+(te.length:Int)+(ts.length:Int):=by rw [IntKind.wrap_i64]; omega
   have hnx:Hid (t+20+tu.length+te.length+ts.length=rs.length+((wl.take (k+1)).map wtW).sum):=show _=_ by rw [hst,htt]; omega
   clear hst htt hb1 hb2 ht HTC HTB;go_wp2
   go_quiet (fail)
   go_wp2;go_roundw
   case rel=>exact ⟨k+1,q+nq,t+20+tu.length+te.length+ts.length,by omega,by go_num,by first | rfl | (congr 1),hnx,by first | rfl | rw [World.drewN_drewN]⟩
   case measure=>simp [intOf]; omega
  ·have q6:¬ (k:Int) < (tn:Int):=by omega
   have hu2:Hid (t=S):=show _=_ by rw [ht.out,HV.out,List.take_of_length_le (by have:=HTN.out; omega)]
   clear ht HTC HTB HV;go_wp2;go_ret;exact ⟨ret_bool (by rw [hu2.out]; simp; omega),hbn.trans (below_drewN W q |>.mono hbn.size)⟩
end Go.Proofs.YtdbalahkmeknaaaGreatDoor
namespace Go.Proofs.YtdbalahkmeknaaaGreatDoor.winfoPrints
open Go.RowKit Go.Sort Sc
theorem both15 {d:Inf} (hsm:SmallI 1048576 d):∃ Z:List UInt8,(∀ w ws,WtsAt w ws d.ws → Calls Tryz.prog 10 #[infV d ws] w fun e w'=>e=.returned (.tuple #[.string ⟨Z.toArray⟩,.int .i64 (checkI d)])∧Below w.heap.size w w')∧(∀ w ws,WtsAt w ws d.ws → Calls Tryz.prog 11 #[infV d ws] w fun e w'=>e=.returned (.tuple #[.string ⟨Z.toArray⟩,.int .i64 (checkI d)])∧Below w.heap.size w w'):=by
 by_cases hc:checkI d=0
 ·refine ⟨prologK++printX (treeI d),fun w ws k=>?_,fun w ws k=>?_⟩
  ·rw [hc]; exact wprint_ok d ws w k hc
  ·rw [hc]; exact rprint15_ok d ws w k hc
 ·exact ⟨[],fun w ws k=>wprint_bad d ws w hsm k hc,fun w ws k=>rprint15_bad d ws w hsm k hc⟩
set_option maxHeartbeats 4000000 in
set_option maxRecDepth 100000 in
theorem law_walk (w:World) (v0:Value) (k0:InfIn 1048576 w v0) :
  Calls Tryz.prog 3 #[v0] w fun e w'=>e=.returned (.bool true)∧Below w.heap.size w w':=by
 obtain ⟨d,ws,rfl,hD,hsm⟩:=k0;obtain ⟨Z,hp1,hp2⟩:=both15 hsm;have KL:=hid (fun w' ws (k:WtsAt w' ws d.ws)=>lsmall15 d ws w' hsm k);have K1:=hid hp1;have K2:=hid hp2;have K3:=hid (fun w' ws (k:WtsAt w' ws d.ws)=>wcheck_any d ws w' hsm k);have K4:=hid (fun w' ws (k:WtsAt w' ws d.ws)=>rcheck15_any d ws w' hsm k);generalize decide (infW d≤8000)=SM at KL;generalize checkI d=C at K1 K2 K3 K4;obtain ⟨vr,rs,wl⟩:=d;simp only at hD KL K1 K2 K3 K4;obtain ⟨ta,tk,hta,_,_⟩:=id hD;obtain ⟨tn,htn⟩:∃ tn,tn=wl.length:=⟨_,rfl⟩
 rw [← htn] at hta;subst hta;have HD0:=hid (hD.alloc (.cells #[.int .i64 vr,.string ⟨rs.toArray⟩,.slice ta tn tk] 24));have hr0:=hid (rc_row3 w (.int .i64 vr) (.string ⟨rs.toArray⟩) (.slice ta tn tk) 24);have hb0:=hid (show Below w.heap.size w (w.alloc (.cells #[.int .i64 vr,.string ⟨rs.toArray⟩,.slice ta tn tk] 24)) from (Below.refl _ w).alloc (Nat.le_refl _) _);have hl0:=hid (alloc_lt w (.cells #[.int .i64 vr,.string ⟨rs.toArray⟩,.slice ta tn tk] 24));unfold infV at KL K1 K2 K3 K4 ⊢;simp only at KL K1 K2 K3 K4 ⊢;clear hsm htn hD hp1 hp2
 go_enter Tryz.func3,Tryz.ntmps3
 go_upto_region 1 with fail
 generalize World.alloc w _=W0 at HD0 hr0 hb0 hl0 ⊢;obtain ⟨y0,y1,y2,_,_,_⟩:=hr0.out.rc3;go_wp2_with fail
 refine (KL.out _ _ HD0.out).mono ?_
 rintro e w1 ⟨rfl,hw1⟩;have HD1:=hid (HD0.out.below hw1);have hr1:=hid (hr0.out.below hw1 hl0.out);have hl1:=hid (Nat.lt_of_lt_of_le hl0.out hw1.size);have hb1:=hid (hb0.out.trans (hw1.mono hb0.out.size));clear HD0 hr0 hb0 hl0 hw1 y0 y1 y2 KL
 cases SM with
 | false =>
  go_wp2_with (go_at_call 9; refine (awake15_any _).mono ?_; rintro e w7 ⟨rfl,hw7⟩)
  go_ret;exact ⟨rfl,hb1.out.trans (hw7.mono hb1.out.size)⟩
 | true =>
  obtain ⟨y0,y1,y2,_,_,_⟩:=hr1.out.rc3;go_wp2_with fail
  refine (K1.out _ _ HD1.out).mono ?_
  rintro e w2 ⟨rfl,hw2⟩;have HD2:=hid (HD1.out.below hw2);have hr2:=hid (hr1.out.below hw2 hl1.out);have hl2:=hid (Nat.lt_of_lt_of_le hl1.out hw2.size);have hb2:=hid (hb1.out.trans (hw2.mono hb1.out.size));clear HD1 hr1 hb1 hl1 hw2 y0 y1 y2 K1;obtain ⟨y0,y1,y2,_,_,_⟩:=hr2.out.rc3;go_wp2_with fail
  refine (K2.out _ _ HD2.out).mono ?_
  rintro e w3 ⟨rfl,hw3⟩;have HD3:=hid (HD2.out.below hw3);have hr3:=hid (hr2.out.below hw3 hl2.out);have hb3:=hid (hb2.out.trans (hw3.mono hb2.out.size));clear HD2 hr2 hb2 hl2 hw3 y0 y1 y2 K2;obtain ⟨y0,y1,y2,_,_,_⟩:=hr3.out.rc3
  go_upto_region 5 with fail
  replace y0:=cell_regrown y0;replace y1:=cell_regrown y1;replace y2:=cell_regrown y2;have c1:=hid (fun (d:Nat) (os:Array Obj)=>Calls.regrown_of (K3.out (grow (redrawn w3 d) os) _ (HD3.out.below (below_regrown w3 d os))));have c2:=hid (fun (d:Nat) (os:Array Obj)=>Calls.regrown_of (K4.out (grow (redrawn w3 d) os) _ (HD3.out.below (below_regrown w3 d os))));have c3:=hid (fun (d:Nat) (os:Array Obj)=>Calls.regrown_of (awake15_any (grow (redrawn w3 d) os)));clear K3 K4 HD3 hr3;refine wp_region_quiet_below followsM (by kernel_rfl) ?_
  repeat (go_big_quiet_step (first | with_reducible exact c1.out _ _ | with_reducible exact c2.out _ _ | with_reducible exact c3.out _ _))
  refine wpQuiet_nil ?_
  intro _ hw';obtain ⟨⟨dq,osq⟩,hw''⟩:=hw';subst hw'';have hbq:=hb3.out.trans ((below_regrown w3 dq osq).mono hb3.out.size);clear c1 c2 c3 y0 y1 y2 hb3;go_wp2;go_ret;exact ⟨rfl,hbq⟩
end Go.Proofs.YtdbalahkmeknaaaGreatDoor.winfoPrints
