/-
  WR2, WC1, WnS, WC2, InvAny, OpKit, RegCall, RegMem.
-/
import Derived.Test.YtdbalahkmeknaaaGreatDoorPW23
import Derived.Maps.Views
import Derived.Orders
import Derived.OwnWalk
set_option linter.unusedVariables false
set_option linter.unusedSimpArgs false
set_option maxRecDepth 20000
namespace Go.Proofs.YtdbalahkmeknaaaGreatDoor
open Go.RowKit Sc
set_option maxHeartbeats 2000000 in
set_option maxRecDepth 100000 in
theorem rsame15_any (d:Inf) (ws ws':Value) (w:World) (hz1:d.ws.length≤140737488355328) (h1:WtsAt w ws d.ws) (h3:WtsAt w ws' d.ws) :
  Calls Tryz.prog 16 #[infV d ws,infV d ws'] w fun e w'=>e=.returned (.bool true)∧Below w.heap.size w w':=by
 obtain ⟨vr,rs,wl⟩:=d;simp only at h1 h3 hz1;unfold infV
 simp only
 obtain ⟨ta,tc,rfl,_,htc⟩:=h1;obtain ⟨ta',tc',rfl,_,htc'⟩:=h3;have HTC:=hid htc;have HTC2:=hid htc';obtain ⟨tn,htn⟩:∃ tn,tn=wl.length:=⟨_,rfl⟩
 rw [← htn] at hz1 ⊢;have HTN:=hid htn;clear htc htc' htn;have r1:=rc_row3 w (.int .i64 vr) (.string ⟨rs.toArray⟩) (.slice ta tn tc) 24;have b1:Below w.heap.size w (w.alloc (.cells #[.int .i64 vr,.string ⟨rs.toArray⟩,.slice ta tn tc] 24)):=(Below.refl _ w).alloc (Nat.le_refl _) _;have l1:=alloc_lt w (.cells #[.int .i64 vr,.string ⟨rs.toArray⟩,.slice ta tn tc] 24);have s1:(w.alloc (.cells #[.int .i64 vr,.string ⟨rs.toArray⟩,.slice ta tn tc] 24)).heap.size=w.heap.size+1:=by simp
 have hR:RowIs ((w.alloc (.cells #[.int .i64 vr,.string ⟨rs.toArray⟩,.slice ta tn tc] 24)).alloc (.cells #[.int .i64 vr,.string ⟨rs.toArray⟩,.slice ta' tn tc'] 24)) w.heap.size 24 [.int .i64 vr,.string ⟨rs.toArray⟩,.slice ta tn tc]:=r1.below ((Below.refl _ _).alloc (Nat.le_refl _) _) l1;have hR2:=rc_row3 (w.alloc (.cells #[.int .i64 vr,.string ⟨rs.toArray⟩,.slice ta tn tc] 24)) (.int .i64 vr) (.string ⟨rs.toArray⟩) (.slice ta' tn tc') 24;rw [s1] at hR2;have hB:Below w.heap.size w ((w.alloc (.cells #[.int .i64 vr,.string ⟨rs.toArray⟩,.slice ta tn tc] 24)).alloc (.cells #[.int .i64 vr,.string ⟨rs.toArray⟩,.slice ta' tn tc'] 24)):=b1.alloc b1.size _;obtain ⟨x0,x1,x2,_,_,_⟩:=hR.rc3;obtain ⟨y0,y1,y2,_,_,_⟩:=hR2.rc3;have e9:(vr != vr)=false:=by simp
 have e8:(rs != rs)=false:=by simp
 clear r1 b1 l1 s1 hR hR2
 go_enter Tryz.func16,Tryz.ntmps16
 go_upto_region 1 with fail
 generalize World.alloc (World.alloc w _) _=W at x0 x1 x2 y0 y1 y2 hB ⊢;go_wp2
 go_loopw [5] (fun i wr=>∃ (k q:Nat),k≤tn∧i=.int .i64 k∧wr=W.drewN q) (fun i _=>tn - (intOf i).toNat)
 case atStart=>exact ⟨0,0,Nat.zero_le _,rfl,rfl⟩
 case round =>
  obtain ⟨k,q,hk,rfl,rfl⟩:=hrel;by_cases hlt:k < tn
  ·obtain ⟨d1,rfl,m1,f⟩:=HTC.out k (by have:=HTN.out; omega);obtain ⟨d2,rfl,m2,g⟩:=HTC2.out k (by have:=HTN.out; omega);have f:=f.below hB m1;have g:=g.below hB m2;have q6:(k:Int) < (tn:Int):=by omega
   generalize wl[k]=P at f g;obtain ⟨p0,p1,p2,p3⟩:=P;obtain ⟨f0,f1,f2,f3⟩:=f;obtain ⟨g0,g1,g2,g3⟩:=g;simp only at f0 f1 f2 f3 g0 g1 g2 g3;have e0:(p0==p0)=true:=by simp
   have e1:(p1==p1)=true:=by simp
   have e2:(p2==p2)=true:=by simp
   have e3:(p3==p3)=true:=by simp
   clear HTC HTC2;go_wp2
   go_quiet (fail)
   go_wp2;go_roundw
   case rel=>exact ⟨k+1,q+nq,by omega,by go_num,by first | rfl | rw [World.drewN_drewN]⟩
   case measure=>simp [intOf]; omega
  ·have q6:¬ (k:Int) < (tn:Int):=by omega
   go_wp2;go_ret;exact ⟨rfl,hB.trans (below_drewN W q |>.mono hB.size)⟩
theorem pre_take (p s:List UInt8):p.isPrefixOf s=(s.take p.length==p):=by
 by_cases h:p.isPrefixOf s=true
 ·rw [h];rw [List.isPrefixOf_iff_prefix] at h;obtain ⟨r,rfl⟩:=h
  simp
 ·have h':p.isPrefixOf s=false:=Bool.eq_false_iff.2 h;rw [h']
  symm
  rw [beq_eq_false_iff_ne];intro e
  apply h
  rw [List.isPrefixOf_iff_prefix]
  have:=List.take_append_drop p.length s
  rw [e] at this;exact ⟨_,this⟩
theorem pre_short {p s:List UInt8} (h:s.length < p.length):p.isPrefixOf s=false:=by
 rw [pre_take,beq_eq_false_iff_ne];intro e
 have:=congrArg List.length e
 rw [List.length_take] at this;omega
set_option maxHeartbeats 400000 in
theorem slHas_any (s p:List UInt8) (w:World) (hs:s.length≤140737488355328) (hp:p.length≤1000) :
  Calls Tryz.prog 127 #[.string ⟨s.toArray⟩,.string ⟨p.toArray⟩] w fun e w'=>e=.returned (.bool (p.isPrefixOf s))∧w'=w:=by
 have zs:=size_list s;have zp:=size_list p;by_cases h:s.length < p.length
 ·have r1:¬ (p.length:Int)≤(s.length:Int):=by omega
  have HV:=hid (pre_short h)
  go_enter Tryz.func127,Tryz.ntmps127
  go_wp2;go_ret;exact ⟨ret_bool HV.out.symm,rfl⟩
 ·have r1:(p.length:Int)≤(s.length:Int):=by omega
  have HE:Hid ((⟨s.toArray⟩:ByteArray).extract 0 p.length=⟨(s.take p.length).toArray⟩):=show _=_ by rw [ext_list]; simp
  have HV:=hid (pre_take p s);generalize p.isPrefixOf s=R at HV ⊢
  go_enter Tryz.func127,Tryz.ntmps127
  go_wp2;go_ret;refine ⟨ret_bool ?_,rfl⟩
  rw [HE.out,HV.out]
  simp
set_option maxHeartbeats 400000 in
theorem slTrim_any (s p:List UInt8) (w:World) (hs:s.length≤140737488355328) (hp:p.length≤1000) :
  Calls Tryz.prog 101 #[.string ⟨s.toArray⟩,.string ⟨p.toArray⟩] w fun e w'=>e=.returned (.string ⟨(trimP p s).toArray⟩)∧w'=w:=by
 have zs:=size_list s;have zp:=size_list p;have K:=hid (slHas_any s p w hs hp);have hv:trimP p s=if p.isPrefixOf s=true then s.drop p.length else s:=rfl
 by_cases h:s.length < p.length
 ·rw [pre_short h] at K hv;have HV:=hid hv;clear hv
  go_enter Tryz.func101,Tryz.ntmps101
  go_wp2_with fail
  refine K.out.mono ?_
  rintro e w1 ⟨rfl,rfl⟩;go_wp2;go_ret;exact ⟨by rw [HV.out]; rfl,rfl⟩
 ·have r1:(p.length:Int)≤(s.length:Int):=by omega
  have HE:Hid ((⟨s.toArray⟩:ByteArray).extract p.length s.length=⟨(s.drop p.length).toArray⟩):=drop_extract s p.length (by omega)
  cases hb:p.isPrefixOf s with
  | true =>
   rw [hb] at K hv;rw [if_pos rfl] at hv;have HV:=hid hv;clear hv
   go_enter Tryz.func101,Tryz.ntmps101
   go_wp2_with fail
   refine K.out.mono ?_
   rintro e w1 ⟨rfl,rfl⟩;go_wp2;go_ret;exact ⟨by rw [HV.out,← HE.out]; rfl,rfl⟩
  | false =>
   rw [hb] at K hv;rw [if_neg (by simp)] at hv;have HV:=hid hv;clear hv
   go_enter Tryz.func101,Tryz.ntmps101
   go_wp2_with fail
   refine K.out.mono ?_
   rintro e w1 ⟨rfl,rfl⟩;go_wp2;go_ret;exact ⟨by rw [HV.out]; rfl,rfl⟩
set_option maxHeartbeats 400000 in
theorem trimP_any (s p:List UInt8) (w:World) (hs:s.length≤140737488355328) (hp:p.length≤1000) :
  Calls Tryz.prog 56 #[.string ⟨s.toArray⟩,.string ⟨p.toArray⟩] w fun e w'=>e=.returned (.string ⟨(trimP p s).toArray⟩)∧w'=w:=by
 have K:=hid (slTrim_any s p w hs hp)
 go_enter Tryz.func56,Tryz.ntmps56
 go_wp2_with fail
 refine K.out.mono ?_
 rintro e w1 ⟨rfl,rfl⟩;go_wp2;go_ret;exact ⟨rfl,rfl⟩
set_option maxHeartbeats 1000000 in
set_option maxRecDepth 100000 in
theorem wsaid_any (x:Nd) (a:Value) (nm:List UInt8) (w:World) (hz:SmallP 140737488355328 x.attrs) (hv:ParsAt w a x.attrs) :
  Calls Tryz.prog 55 #[ndV x a,.string ⟨nm.toArray⟩] w fun e w'=>e=.returned (.string ⟨(wattV nm x).toArray⟩)∧Below w.heap.size w w':=by
 have KA:=hid (fun w' (hb:Below w.heap.size w w')=>xatt_any x a nm w' hz (hv.below hb));rw [show (attG nm x.attrs).getD []=wattV nm x from rfl] at KA;generalize wattV nm x=V at KA ⊢;generalize (attG nm x.attrs).isSome=S at KA;obtain ⟨pa,pc,hpf⟩:=hv.form;obtain ⟨xd,xn,ps,xt⟩:=x;unfold ndV at KA ⊢;simp only at KA hpf ⊢;obtain ⟨pn,hpn⟩:∃ pn,pn=ps.length:=⟨_,rfl⟩
 rw [← hpn] at hpf;subst hpf;clear hpn hv hz;have hbn:Below w.heap.size w (w.alloc (.cells #[.int .i64 xd,.string ⟨xn.toArray⟩,.slice pa pn pc,.string ⟨xt.toArray⟩] 49)):=(Below.refl _ w).alloc (Nat.le_refl _) _;obtain ⟨b0,b1,b2,b3,_,_,_,_⟩:=(rc_row4 w (.int .i64 xd) (.string ⟨xn.toArray⟩) (.slice pa pn pc) (.string ⟨xt.toArray⟩) 49).rc4
 go_enter Tryz.func55,Tryz.ntmps55
 go_wp2_with fail
 generalize World.alloc w _=W0 at b0 b1 b2 b3 hbn ⊢;refine (KA.out _ hbn).mono ?_
 rintro e w1 ⟨rfl,hw1⟩;have hb1:=hbn.trans (hw1.mono hbn.size);clear b0 b1 b2 b3;go_wp2;go_ret;exact ⟨rfl,hb1⟩
set_option maxHeartbeats 1000000 in
theorem wnumber_any (s:List UInt8) (most:Int) (w:World) (hs:s.length≤140737488355328) (h0:0≤most) (h1:most≤1099511627776) :
  Calls Tryz.prog 54 #[.string ⟨s.toArray⟩,.int .i64 most] w fun e w'=>e=.returned (.int .i64 (numV most s).1)∧w'=w:=by
 have K:=hid (number_any ⟨s.toArray⟩ most w (by rw [size_list]; unfold maxLen; omega) (by omega) (by omega));simp only at K;generalize numV most s=R at K ⊢;clear h0 h1 hs
 go_enter Tryz.func54,Tryz.ntmps54
 go_wp2_with fail
 refine K.out.mono ?_
 rintro e w1 ⟨rfl,rfl⟩;go_wp2;go_ret;exact ⟨rfl,rfl⟩
set_option maxHeartbeats 1000000 in
theorem wname_any (l:List UInt8) (w:World) (hs:l.length+4≤1048576) :
  Calls Tryz.prog 25 #[.string ⟨l.toArray⟩] w fun e w'=>e=.returned (.bool (decide ((hostV l).2=0)))∧Below w.heap.size w w':=by
 have K:=hid (samehost_any l w hs);generalize hostV l=R at K ⊢;obtain ⟨h,er⟩:=R;simp only at K ⊢;clear hs;by_cases he:er=0
 ·subst he
  go_enter Tryz.func25,Tryz.ntmps25
  go_wp2_with fail
  refine K.out.mono ?_
  rintro e w1 ⟨rfl,hw1⟩;go_wp2;go_ret;exact ⟨rfl,hw1⟩
 ·have r1:(er==0)=false:=by simpa using he
  have r2:decide (er=0)=false:=decide_eq_false he
  go_enter Tryz.func25,Tryz.ntmps25
  go_wp2_with fail
  refine K.out.mono ?_
  rintro e w1 ⟨rfl,hw1⟩;go_wp2;go_ret;exact ⟨by rw [r2]; rfl,hw1⟩
set_option maxHeartbeats 1000000 in
theorem wstat_any (l:List UInt8) (w:World) :
  Calls Tryz.prog 87 #[.string ⟨l.toArray⟩] w fun e w'=>e=.returned (.bool (statP l))∧w'=w:=by
 have hst:statP l=((l==[112,101,110,100,105,110,103]) || ((l==[97,99,116,105,118,101]) || (l==[116,101,114,109,105,110,97,116,101,100]))):=rfl;generalize statP l=R at hst ⊢
 cases o1:(l==[112,101,110,100,105,110,103]) with
 | true =>
  rw [o1,Bool.true_or] at hst;subst hst
  go_enter Tryz.func87,Tryz.ntmps87
  go_wp2;go_ret;exact ⟨rfl,rfl⟩
 | false =>
  rw [o1,Bool.false_or] at hst
  cases o2:(l==[97,99,116,105,118,101]) with
  | true =>
   rw [o2,Bool.true_or] at hst;subst hst
   go_enter Tryz.func87,Tryz.ntmps87
   go_wp2;go_ret;exact ⟨rfl,rfl⟩
  | false =>
   rw [o2,Bool.false_or] at hst
   cases o3:(l==[116,101,114,109,105,110,97,116,101,100]) with
   | true =>
    rw [o3] at hst;subst hst
    go_enter Tryz.func87,Tryz.ntmps87
    go_wp2;go_ret;exact ⟨rfl,rfl⟩
   | false =>
    rw [o3] at hst;subst hst
    go_enter Tryz.func87,Tryz.ntmps87
    go_wp2;go_ret;exact ⟨rfl,rfl⟩
set_option maxHeartbeats 2000000 in
set_option maxRecDepth 100000 in
theorem wmay_any (t:Wt) (w:World) (hu:t.uri.length+4≤1048576) (hs:t.stat.length≤140737488355328) (he:t.ev.length≤140737488355328) :
  Calls Tryz.prog 50 #[wtV t] w fun e w'=>e=.returned (.bool (wtP t))∧Below w.heap.size w w':=by
 obtain ⟨ti,tu,ts,te⟩:=t;simp only at hu hs he;have hv:wtP ⟨ti,tu,ts,te⟩=(decide (1≤ti) && (decide (ti≤1099511627776) && (decide ((hostV tu).2=0) && (statP ts && tokenB te)))):=rfl;have KN:=hid (fun w'=>wname_any tu w' hu);have KS:=hid (fun w'=>wstat_any ts w');have KT:=hid (fun w'=>token_list te w' he);generalize wtP ⟨ti,tu,ts,te⟩=R at hv ⊢;unfold wtV
 simp only
 generalize decide ((hostV tu).2=0)=N at hv KN;generalize statP ts=S at hv KS;generalize tokenB te=T at hv KT;clear hu hs he;have hbn:Below w.heap.size w (w.alloc (.cells #[.int .i64 ti,.string ⟨tu.toArray⟩,.string ⟨ts.toArray⟩,.string ⟨te.toArray⟩] 51)):=(Below.refl _ w).alloc (Nat.le_refl _) _;have hr:=rc_row4 w (.int .i64 ti) (.string ⟨tu.toArray⟩) (.string ⟨ts.toArray⟩) (.string ⟨te.toArray⟩) 51;have hlt:=alloc_lt w (.cells #[.int .i64 ti,.string ⟨tu.toArray⟩,.string ⟨ts.toArray⟩,.string ⟨te.toArray⟩] 51);obtain ⟨b0,b1,b2,b3,_,_,_,_⟩:=hr.rc4;have HR:=hid (fun (W':World) (h:Below (w.alloc (.cells #[.int .i64 ti,.string ⟨tu.toArray⟩,.string ⟨ts.toArray⟩,.string ⟨te.toArray⟩] 51)).heap.size (w.alloc (.cells #[.int .i64 ti,.string ⟨tu.toArray⟩,.string ⟨ts.toArray⟩,.string ⟨te.toArray⟩] 51)) W')=>(hr.below h hlt).rc4);clear hr hlt
 go_enter Tryz.func50,Tryz.ntmps50
 go_upto_region 1 with fail
 generalize World.alloc w _=W0 at b0 b1 b2 b3 hbn HR ⊢;by_cases p1:1≤ti
 case neg =>
  have p1d:decide (1≤ti)=false:=decide_eq_false p1;rw [p1d,Bool.false_and] at hv;subst hv;go_wp2;go_ret;exact ⟨rfl,hbn⟩
 have p1d:decide (1≤ti)=true:=decide_eq_true p1;rw [p1d,Bool.true_and] at hv;by_cases p2:ti≤1099511627776
 case neg =>
  have p2d:decide (ti≤1099511627776)=false:=decide_eq_false p2;rw [p2d,Bool.false_and] at hv;subst hv;go_wp2;go_ret;exact ⟨rfl,hbn⟩
 have p2d:decide (ti≤1099511627776)=true:=decide_eq_true p2;rw [p2d,Bool.true_and] at hv
 cases N with
 | false =>
  rw [Bool.false_and] at hv;subst hv;go_wp2_with fail
  refine (KN.out _).mono ?_
  rintro e w1 ⟨rfl,hw1⟩;go_wp2;go_ret;exact ⟨rfl,hbn.trans (hw1.mono hbn.size)⟩
 | true =>
  rw [Bool.true_and] at hv;go_wp2_with fail
  refine (KN.out _).mono ?_
  rintro e w1 ⟨rfl,hw1⟩;obtain ⟨b0,b1,b2,b3,_,_,_,_⟩:=HR.out _ hw1;have hb1:=hbn.trans (hw1.mono hbn.size)
  cases S with
  | false =>
   rw [Bool.false_and] at hv;subst hv;go_wp2_with fail
   refine (KS.out _).mono ?_
   rintro e w2 ⟨rfl,hw2⟩;rw [hw2];go_wp2;go_ret;exact ⟨rfl,hb1⟩
  | true =>
   rw [Bool.true_and] at hv;subst hv;go_wp2_with fail
   refine (KS.out _).mono ?_
   rintro e w2 ⟨rfl,hw2⟩;rw [hw2];clear hw2 w2;go_wp2_with fail
   refine (KT.out _).mono ?_
   rintro e w3 ⟨rfl,hw3⟩;rw [hw3];go_wp2;go_ret;exact ⟨rfl,hb1⟩
end Go.Proofs.YtdbalahkmeknaaaGreatDoor
namespace Go.Proofs.YtdbalahkmeknaaaGreatDoor
open Go.RowKit Sc Go.Maps Go.WideMaps
structure IdSet (D:DataW Unit) (ts:List Wt):Prop where
 tidy:Tidy D
 has:∀ c:Int,Maps.has D (.int .i64 c)=ts.any (fun q=>q.id==c)
 le:Maps.size D≤ts.length
 eq:Maps.size D=ts.length ↔ distinctW ts=true
theorem IdSet.nil:IdSet (.map []) []:=⟨Maps.tidy_empty,fun c=>rfl,Nat.le_refl _,⟨fun _=>rfl,fun _=>rfl⟩⟩
theorem any_ids (ts:List Wt) (c:Int):ts.all (fun q=>!(q.id==c))=!(ts.any (fun q=>q.id==c)):=by
 induction ts with
 | nil=>rfl
 | cons t ts ih=>rw [List.all_cons,List.any_cons,ih]; cases (t.id==c) <;> rfl
theorem IdSet.put {D:DataW Unit} {ts:List Wt} (h:IdSet D ts) (t:Wt):IdSet (D.put (.int .i64 t.id) (.agg [])) (ts++[t]):=by
 have hM:IsMap D:=h.tidy.isMap;have hk:WideAt.IsKeyLit (.int .i64 t.id):=by trivial
 have hs:=Maps.size_put (k:=.int .i64 t.id) h.tidy (.agg []);have hd:=distinctW_snoc t ts;rw [any_ids] at hd;have hh:=h.has t.id;have hl:=h.le;have he:=h.eq;refine ⟨h.tidy.put hk _,fun c=>?_,?_,?_⟩
 ·by_cases e:c=t.id
  ·subst e;rw [Maps.has_put_same hM hk,List.any_append]
   simp
  ·rw [Maps.has_put_other (by intro e2; injection e2 with _ e2; exact e e2),h.has,List.any_append]
   have:(t.id==c)=false:=by rw [beq_eq_false_iff_ne]; exact fun e2=>e e2.symm
   simp [this]
 ·rw [hs,List.length_append,List.length_singleton]
  split <;> omega
 ·rw [hs,hh,hd,List.length_append,List.length_singleton]
  cases ha:ts.any (fun q=>q.id==t.id) with
  | true =>
   simp only [if_true,Bool.not_true,Bool.and_false,Bool.false_eq_true,iff_false];omega
  | false =>
   simp only [Bool.false_eq_true,if_false,Bool.not_false,Bool.and_true];rw [← he];omega
theorem keyedI:Keyed Tryz.prog 3:=int_keyed Tryz.underlying3
theorem makeSet (n:Int) (u:World):(Instr.makeMap 89 (some (.int .i64 n))).run Tryz.prog u=.ok (.map (some u.heap.size)) (u.alloc (.map #[] 0)):=by kernel_rfl
theorem wts_take {l:List Wt} {j:Nat} (hj:j < l.length):l.take (j+1)=l.take j++[l[j]]:=List.take_succ_eq_append_getElem hj
theorem all_take {l:List Wt} {j:Nat} (hj:j < l.length) (h1:(l.take j).all wtP=true) (h2:wtP l[j]=true):(l.take (j+1)).all wtP=true:=by
 rw [wts_take hj,List.all_append,h1]; simp [h2]
theorem setBig (w:World) (b n:Nat) (D:DataW Unit) (h:w.ownsMap Tryz.prog 3 unitElem b n D) (ty:TypeId):(Builtin.len_ #[89] ty #[.map (some b)]).run Tryz.prog w=.ok (.int .i64 (Maps.size D)) w:=h.len Tryz.underlying89 ty
set_option maxHeartbeats 4000000 in
set_option maxRecDepth 100000 in
theorem wwatch_any (ws:Value) (wl:List Wt) (w:World) (hz:wl.length≤1048576) (hsm:∀ t ∈ wl,SmallW 1048576 t) (hws:WtsAt w ws wl) :
  Calls Tryz.prog 26 #[ws] w fun e w'=>e=.returned (.bool (decide (wl.length≤198) && wtsOk wl))∧Below w.heap.size w w':=by
 obtain ⟨R,hR⟩:∃ R,R=(decide (wl.length≤198) && wtsOk wl):=⟨_,rfl⟩
 rw [← hR];obtain ⟨ta,tc,rfl,hcp,htc⟩:=hws;have HTC:=hid htc;have HST:=hid hsm;obtain ⟨tn,htn⟩:∃ tn,tn=wl.length:=⟨_,rfl⟩
 rw [← htn] at hz hR hcp ⊢;have HTN:=hid htn;clear htc hsm htn;by_cases h1:198 < tn
 ·have h1d:(198:Int) < (tn:Int):=by omega
  rw [decide_eq_false (show ¬ tn≤198 by omega),Bool.false_and] at hR;subst hR;clear HTC HST
  go_enter Tryz.func26,Tryz.ntmps26
  go_wp2;go_ret;exact ⟨rfl,Below.refl _ _⟩
 have h1d:¬ (198:Int) < (tn:Int):=by omega
 rw [decide_eq_true (show tn≤198 by omega),Bool.true_and] at hR;have HBad:Hid (∀ j (hj:j < wl.length),wtP wl[j]=false → R=false):=fun j hj h=>by rw [hR]; exact wts_bad hj h
 have HEnd:Hid (wl.all wtP=true → ∀ D:DataW Unit,IdSet D wl → R=(Maps.size D==tn)):=fun ha D hD=>by
  have e:=hD.eq;have e2:=HTN.out;rw [hR,wtsOk,ha,Bool.true_and]
  cases hd:distinctW wl with
  | true=>rw [hd] at e; have:=e.2 rfl; rw [e2]; simp [this]
  | false =>
   rw [hd] at e
   symm
   rw [beq_eq_false_iff_ne];intro h;rw [e2] at h;exact absurd (e.1 h) (by simp)
 have hmm:=makeSet (tn:Int);clear hR
 go_enter Tryz.func26,Tryz.ntmps26
 go_wp2;clear hmm
 go_loopw [14] (fun i wr=>∃ (k:Nat) (D:DataW Unit),k≤tn∧i=.int .i64 k∧Hid (wr.ownsMap Tryz.prog 3 unitElem w.heap.size k D)∧Hid (IdSet D (wl.take k))∧Below w.heap.size w wr∧Hid ((wl.take k).all wtP=true)) (fun i _=>tn - (intOf i).toNat)
 case atStart=>exact ⟨0,.map [],Nat.zero_le _,rfl,World.ownsMap_made _ _ _ _,show IdSet _ _ from IdSet.nil,(Below.refl _ _).alloc (Nat.le_refl _) _,show _=_ from rfl⟩
 case round =>
  obtain ⟨k,D,hk,rfl,hown,hset,hb,hall⟩:=hrel;by_cases hlt:k < tn
  ·have hkl:k < wl.length:=by have:=HTN.out; omega
   obtain ⟨ad,rfl,hab,hc⟩:=HTC.out k hkl;have hc:=hc.below hb hab;obtain ⟨hu,hs,he,hi⟩:=HST.out wl[k] (List.getElem_mem hkl);have HB:=hid (HBad.out k hkl);have HA:=hid (all_take hkl hall.out);have HT:=hid (wts_take hkl);have KM:=hid (fun w'=>wmay_any wl[k] w' hu (by omega) (by omega));have hkey:keyOf Tryz.prog 3 (.int .i64 wl[k].id)=some (.int .i64 wl[k].id):=keyOf_int_mk Tryz.underlying3 hi;generalize wl[k]=t at hc HB HA HT KM hkey;obtain ⟨ti,tu,ts,te⟩:=t;obtain ⟨c0,c1,c2,c3⟩:=hc;unfold wtV at KM;simp only at c0 c1 c2 c3 KM hkey;generalize wtP ⟨ti,tu,ts,te⟩=T at KM HB HA;have q6:(k:Int) < (tn:Int):=by omega
   have hR1:=rc_row4 wr (.int .i64 ti) (.string ⟨tu.toArray⟩) (.string ⟨ts.toArray⟩) (.string ⟨te.toArray⟩) 51;have hL1:=alloc_lt wr (.cells #[.int .i64 ti,.string ⟨tu.toArray⟩,.string ⟨ts.toArray⟩,.string ⟨te.toArray⟩] 51);have hB1:=hb.alloc hb.size (.cells #[.int .i64 ti,.string ⟨tu.toArray⟩,.string ⟨ts.toArray⟩,.string ⟨te.toArray⟩] 51);have hO1:=hid (World.ownsMap.alloc hown.out (.cells #[.int .i64 ti,.string ⟨tu.toArray⟩,.string ⟨ts.toArray⟩,.string ⟨te.toArray⟩] 51));obtain ⟨d0,d1,d2,d3,_,_,_,_⟩:=hR1.rc4;clear HTC HST hown hu hs he hi HBad hall HEnd;go_wp2_with fail
   generalize World.alloc wr _=W1 at hR1 hL1 hB1 hO1 d0 d1 d2 d3 ⊢;refine (KM.out _).mono ?_
   rintro e w2 ⟨rfl,hw2⟩;have hB2:=hB1.trans (hw2.mono hB1.size);have hO2:=hid (ownsMap_below hO1.out hw2);obtain ⟨e0,e1,e2,e3,_,_,_,_⟩:=(hR1.below hw2 hL1).rc4;clear c0 c1 c2 c3 d0 d1 d2 d3 hO1 hR1 hL1 hB1 hw2 KM hb
   cases T with
   | false =>
    have hR:=hid (HB.out rfl);clear HB HA HT hset hO2;go_wp2;go_ret;exact ⟨ret_bool hR.out.symm,hB2⟩
   | true =>
    have HA2:=hid (HA.out rfl);have hset2:Hid (IdSet (D.put (.int .i64 ti) (.agg [])) (wl.take (k+1))):=show IdSet _ _ by rw [HT.out]; exact hset.out.put ⟨ti,tu,ts,te⟩
    clear HB HA HT hset;go_wp2_with (at_mapUpdate; refine wpList_mapUpdate_own _ rfl _ _ _ 89 rfl 3 91 keyedI Tryz.underlying89 _ w.heap.size k _ rfl hO2.out (by unfold maxLen; omega) _ _ _ rfl rfl hkey (.agg []) [] unitElem_mk ?_; intro w7 hown7 hgr; have hO7:=hid hown7; have hb7:=hB2.grown hgr hB2.size (fun j hj=>by cases hj; exact Nat.le_refl _); clear hown7 hgr)
    go_roundw
    case rel=>exact ⟨k+1,_,by omega,by go_num,hO7,hset2,hb7,HA2⟩
    case measure=>simp [intOf]; omega
  ·have q6:¬ (k:Int) < (tn:Int):=by omega
   have hE:wl.take k=wl:=List.take_of_length_le (by have:=HTN.out; omega);rw [hE] at hset hall;have hR:=hid (HEnd.out hall.out D hset.out);have hln:=setBig wr w.heap.size k D hown.out;generalize Maps.size D=sz at hR hln;clear HTC HST HBad HEnd hE hset hall hown;go_wp2;go_ret;exact ⟨ret_bool (by rw [hR.out,Bool.eq_iff_iff]; simp only [beq_iff_eq]; omega),hb⟩
set_option maxHeartbeats 4000000 in
set_option maxRecDepth 100000 in
theorem wcheck_any (d:Inf) (ws:Value) (w:World) (hsm:SmallI 1048576 d) (hws:WtsAt w ws d.ws) :
  Calls Tryz.prog 12 #[infV d ws] w fun e w'=>e=.returned (.int .i64 (checkI d))∧Below w.heap.size w w':=by
 obtain ⟨vr,rs,wl⟩:=d;obtain ⟨hvr,hrs,hz1,hst⟩:=hsm;simp only at hvr hrs hz1 hst hws;have KN:=hid (fun w'=>wname_any rs w' hrs);have KW:=hid (fun w' (h:Below w.heap.size w w')=>wwatch_any ws wl w' hz1 hst (hws.below h));have hv:checkI ⟨vr,rs,wl⟩=if vr < 0∨2147483647 < vr∨(hostV rs).2 ≠ 0∨198 < wl.length then 150 else if wtsOk wl=true then 0 else 150:=rfl
 unfold infV
 simp only
 generalize checkI ⟨vr,rs,wl⟩=R at hv ⊢;have s0:=i64_of hvr;clear hst hz1 hrs hvr;generalize (hostV rs).2=he at KN hv
 have hvw:(decide (wl.length≤198) && wtsOk wl)=true ↔ ¬ 198 < wl.length∧wtsOk wl=true:=by
  rw [Bool.and_eq_true,decide_eq_true_eq]; exact ⟨fun h=>⟨by omega,h.2⟩,fun h=>⟨by omega,h.2⟩⟩
 generalize (decide (wl.length≤198) && wtsOk wl)=T at KW hvw;obtain ⟨ta,tc,hwf,_,_⟩:=hws;obtain ⟨tn,htn⟩:∃ tn,tn=wl.length:=⟨_,rfl⟩
 rw [← htn] at hwf hv hvw;subst hwf;clear htn;have HV:=hid hv;have HVW:=hid hvw;clear hv hvw;have hbx:=box3I w (.int .i64 vr) (.string ⟨rs.toArray⟩) (.slice ta tn tc) 24;have hbn:Below w.heap.size w (w.alloc (.cells #[.int .i64 vr,.string ⟨rs.toArray⟩,.slice ta tn tc] 24)):=(Below.refl _ w).alloc (Nat.le_refl _) _;have hbr:=rc_row3 w (.int .i64 vr) (.string ⟨rs.toArray⟩) (.slice ta tn tc) 24;have hlt0:=alloc_lt w (.cells #[.int .i64 vr,.string ⟨rs.toArray⟩,.slice ta tn tc] 24);obtain ⟨x0,x1,x2,_,_,_⟩:=hbx;by_cases h1:vr < 0
 ·have h1d:decide (vr < 0)=true:=decide_eq_true h1;have hR:Hid (R=150):=show _=_ by rw [HV.out,if_pos (.inl h1)]
  clear HV HVW KN KW
  go_enter Tryz.func12,Tryz.ntmps12
  go_wp2;go_ret;exact ⟨ret_int hR.out.symm,hbn⟩
 have h1d:decide (vr < 0)=false:=decide_eq_false h1;by_cases h2:2147483647 < vr
 ·have h2d:decide (2147483647 < vr)=true:=decide_eq_true h2;have hR:Hid (R=150):=show _=_ by rw [HV.out,if_pos (.inr (.inl h2))]
  clear HV HVW KN KW
  go_enter Tryz.func12,Tryz.ntmps12
  go_wp2;go_ret;exact ⟨ret_int hR.out.symm,hbn⟩
 have h2d:decide (2147483647 < vr)=false:=decide_eq_false h2
 go_enter Tryz.func12,Tryz.ntmps12
 go_wp2_with fail
 generalize World.alloc w _=W0 at x0 x1 x2 hbn hbr hlt0 ⊢;refine (KN.out _).mono ?_
 rintro e w1 ⟨rfl,hw1⟩;obtain ⟨y0,y1,y2,_,_,_⟩:=(hbr.below hw1 hlt0).rc3;have hb1:=hbn.trans (hw1.mono hbn.size);clear x0 x1 x2 hbn hbr hlt0 KN hw1;by_cases h3:he=0
 case neg =>
  have h3d:decide (he=0)=false:=decide_eq_false h3;have hR:Hid (R=150):=show _=_ by rw [HV.out,if_pos (.inr (.inr (.inl h3)))]
  rw [h3d];clear HV HVW KW h3;go_wp2;go_ret;exact ⟨ret_int hR.out.symm,hb1⟩
 have h3d:decide (he=0)=true:=decide_eq_true h3;rw [h3d];go_wp2_with fail
 refine (KW.out _ hb1).mono ?_
 rintro e w2 ⟨rfl,hw2⟩;have hb2:=hb1.trans (hw2.mono hb1.size)
 have hR:Hid (R=if T=true then 0 else 150):=show _=_ by
  rw [HV.out];by_cases h4:198 < tn
  ·rw [if_pos (.inr (.inr (.inr h4))),if_neg (fun h=>(HVW.out.1 h).1 h4)]
  ·rw [if_neg (by simp only [not_or]; exact ⟨by omega,by omega,fun h=>h h3,h4⟩)];by_cases h5:wtsOk wl=true
   ·rw [if_pos h5,if_pos (HVW.out.2 ⟨h4,h5⟩)]
   ·rw [if_neg h5,if_neg (fun h=>h5 (HVW.out.1 h).2)]
 clear HV HVW KW h3 y0 y1 y2
 cases T with
 | true =>
  rw [if_pos rfl] at hR;go_wp2;go_ret;exact ⟨ret_int hR.out.symm,hb2⟩
 | false =>
  rw [if_neg (by simp)] at hR;go_wp2;go_ret;exact ⟨ret_int hR.out.symm,hb2⟩
end Go.Proofs.YtdbalahkmeknaaaGreatDoor
namespace Go.Proofs.YtdbalahkmeknaaaGreatDoor
section
variable {P : Program} {md : Region.Mode} {ops : Array Oper} {Q : Exit → Act → World → Prop}
theorem count_set {L:Array Bool} {i:Nat} (h:L.getD i true=false):(L.setIfInBounds i true).toList.count false+1=L.toList.count false:=by
 have hi:i < L.size:=by
  rcases Nat.lt_or_ge i L.size with h1 | h1
  ·exact h1
  ·rw [Array.getD_eq_getD_getElem?,Array.getElem?_eq_none h1] at h; simp at h
 have hv:L.toList[i]'(by simpa using hi)=false:=by
  rw [Array.getD_eq_getD_getElem?,Array.getElem?_eq_getElem hi] at h
  simpa using h
 have hm:false ∈ L.toList:=by rw [← hv]; exact List.getElem_mem _
 have hc:0 < L.toList.count false:=List.count_pos_iff.2 hm;rw [Array.toList_setIfInBounds,List.count_set (by simpa using hi),hv];have a1:(if (false==false)=true then (1:Nat) else 0)=1:=by decide
 have a2:(if (true==false)=true then (1:Nat) else 0)=0:=by decide
 rw [a1,a2];omega
theorem wpAny_inv (Inv:Array Bool → Act → World → Prop)
  (hend:∀ L a w,L.size=ops.size → Region.ready md ops L=[] → Inv L a w → Q .normal a w)
  (hstep:∀ L a w i,L.size=ops.size → i ∈ Region.ready md ops L → Inv L a w → wpOp P ops Q i (Inv (L.setIfInBounds i true)) a w) :
  ∀ (f:Nat) (L:Array Bool) (a:Act) (w:World),L.size=ops.size → L.toList.count false≤f → Inv L a w → wpAny P md ops Q f L a w:=by
 intro f
 induction f with
 | zero =>
  intro L a w hs hc hI
  have hr:Region.ready md ops L=[]:=by
   apply List.eq_nil_iff_forall_not_mem.2
   intro i hi
   have:=count_set (mem_ready.1 hi).1
   omega
  exact ⟨hr,hend L a w hs hr hI⟩
 | succ f ih =>
  intro L a w hs hc hI;refine ⟨fun hr=>hend L a w hs hr hI,fun i hi=>?_⟩
  refine wpOp_mono (fun a' w' k=>ih _ a' w' (by simpa using hs) ?_ k) (hstep L a w i hs hi hI)
  have:=count_set (mem_ready.1 hi).1
  omega
def lowB (md:Region.Mode) (ops:Array Oper):Bool:=(List.range ops.size).all fun j=>match ops[j]? with
 | some o=>o.after.all fun e=>!Region.binds md e || decide (e.on < j)
 | none=>false
theorem all_listed (hl:lowB md ops=true) {L:Array Bool} (hs:L.size=ops.size) (hr:Region.ready md ops L=[]):∀ j,j < ops.size → L.getD j false=true:=by
 intro j
 induction j using Nat.strongRecOn with
 | _ j ih =>
  intro hj;have h1:=List.all_eq_true.1 hl j (List.mem_range.2 hj);have ho:ops[j]? = some ops[j]:=Array.getElem?_eq_getElem hj;rw [ho] at h1;simp only at h1
  cases e:L[j]? with
  | none=>rw [Array.getElem?_eq_none_iff] at e; omega
  | some b =>
   cases b with
   | true=>rw [Array.getD_eq_getD_getElem?,e]; rfl
   | false =>
    exfalso
    have:j ∈ Region.ready md ops L:=by
     rw [mem_ready];refine ⟨by rw [Array.getD_eq_getD_getElem?,e]; rfl,ops[j],ho,fun x hx hb=>?_⟩
     have h2:=Array.all_eq_true_iff_forall_mem.1 h1 x hx;simp only [hb,Bool.not_true,Bool.false_or,decide_eq_true_eq] at h2;exact ih x.on h2 (by omega)
    rw [hr] at this
    cases this
theorem wp_region_inv {id:Nat} {a:Act} {w:World} (hm:P.follows .mixedOrders=true) (Inv:Array Bool → Act → World → Prop) (h0:Inv (Array.replicate ops.size false) a { w with drawn:=w.drawn+1 })
  (hend:∀ L a w,L.size=ops.size → Region.ready .any ops L=[] → Inv L a w → Q .normal a w)
  (hstep:∀ L a w i,L.size=ops.size → i ∈ Region.ready .any ops L → Inv L a w → wpOp P ops Q i (Inv (L.setIfInBounds i true)) a w):(Code.region id ops true).wp P Q a w :=
 wp_region_any hm (wpAny_inv Inv hend hstep ops.size _ a _ (by simp) (by simp) h0)
theorem wpOp_val {i:Nat} {o:Oper} {K:Act → World → Prop} {a:Act} {w w':World} {v:Value} (ho:ops[i]? = some o) (hg:o.guard=none) (hr:(execOp a.eval o).run P w=.ok (.value v) w') (h:K (a.put o.dst v) w'):wpOp P ops Q i K a w:=by
 unfold wpOp;rw [ho]
 simp only
 have hw:Region.wanted o (yielded ops a.tmps)=true:=by simp [Region.wanted,hg]
 rw [if_pos hw];refine Or.inl ?_
 unfold Oper.wp;rw [hr];exact h
theorem wpOp_of {i:Nat} {o:Oper} {K:Act → World → Prop} {a:Act} {w:World} (ho:ops[i]? = some o) {E:Prop} (h:if Region.wanted o (yielded ops a.tmps)=true then Oper.wp P o a w K Q else E) (hg:o.guard=none):wpOp P ops Q i K a w:=by
 unfold wpOp;rw [ho]
 simp only
 have hw:Region.wanted o (yielded ops a.tmps)=true:=by simp [Region.wanted,hg]
 rw [if_pos hw] at h ⊢;exact Or.inl h
theorem eval_put_ne {a:Act} {d s:Nat} {v:Value} (h:s ≠ d):(a.put (some d) v).eval (.tmp s)=a.eval (.tmp s):=by
 simp [Act.put,Act.eval,Array.getD_eq_getD_getElem?,Array.getElem?_setIfInBounds,Ne.symm h]
theorem eval_put_same {a:Act} {d:Nat} {v:Value} (h:d < a.tmps.size):(a.put (some d) v).eval (.tmp d)=v:=by
 simp [Act.put,Act.eval,Array.getD_eq_getD_getElem?,Array.getElem?_setIfInBounds,h]
theorem put_size (a:Act) (d:Option Nat) (v:Value):(a.put d v).tmps.size=a.tmps.size:=by
 cases d <;> simp [Act.put]
theorem put_defers (a:Act) (d:Option Nat) (v:Value):(a.put d v).defers=a.defers:=by
 cases d <;> simp [Act.put]
theorem getD_set_ne {L:Array Bool} {i j:Nat} (h:j ≠ i):(L.setIfInBounds i true).getD j false=L.getD j false:=by
 simp [Array.getD_eq_getD_getElem?,Array.getElem?_setIfInBounds,Ne.symm h]
theorem getD_set_same {L:Array Bool} {i:Nat} (h:i < L.size):(L.setIfInBounds i true).getD i false=true:=by
 simp [Array.getD_eq_getD_getElem?,Array.getElem?_setIfInBounds,h]
end
end Go.Proofs.YtdbalahkmeknaaaGreatDoor
namespace Go.Proofs.YtdbalahkmeknaaaGreatDoor
open Go.RowKit
theorem sv_mono {w:World} {B C e s n:Nat} {v:Value} {xs:List Value} (h:w.ownsRow B e s v n xs) (hc:C≤B):w.ownsRow C e s v n xs:=by
 obtain ⟨h1,h2⟩:=h;refine ⟨h1,?_⟩
 rcases h2 with h2 | ⟨g,cap,cur,hv,hg,r⟩
 ·exact Or.inl h2
 ·exact Or.inr ⟨g,cap,cur,hv,Nat.le_trans hc hg,r⟩
def OpIs (ops:Array Oper) (i:Nat) (d:Option Nat) (op:Op):Prop:=∃ o,ops[i]? = some o∧o.guard=none∧o.dst=d∧o.op=op
def Waits (ops:Array Oper) (i j:Nat):Prop:=∃ o,ops[i]? = some o∧∃ e ∈ o.after,Region.binds .any e=true∧e.on=j
section
variable {P : Program} {ops : Array Oper} {Q : Exit → Act → World → Prop} {L : Array Bool} {a : Act} {w : World} {i j d : Nat} {K : Act → World → Prop}
theorem Waits.on (h:Waits ops i j) (hi:i ∈ Region.ready .any ops L):L.getD j false=true:=by
 obtain ⟨o,ho,e,he,hb,rfl⟩:=h;obtain ⟨_,o',ho',hall⟩:=mem_ready.1 hi;rw [ho] at ho'
 injection ho' with e'
 subst e';exact hall e he hb
theorem OpIs.val {op:Op} (h:OpIs ops i (some d) op) {v:Value} {w':World} (hr:∀ o:Oper,o.op=op → (execOp a.eval o).run P w=.ok (.value v) w') (hK:K (a.put (some d) v) w'):wpOp P ops Q i K a w:=by
 obtain ⟨o,ho,hg,hd,hop⟩:=h;refine wpOp_val ho hg (hr o hop) ?_
 rw [hd]; exact hK
theorem OpIs.skip {op:Op} (h:OpIs ops i none op) {w':World} (hr:∀ o:Oper,o.op=op → (execOp a.eval o).run P w=.ok .skip w') (hK:K a w'):wpOp P ops Q i K a w:=by
 obtain ⟨o,ho,hg,hd,hop⟩:=h;unfold wpOp;rw [ho]
 simp only
 have hw:Region.wanted o (yielded ops a.tmps)=true:=by simp [Region.wanted,hg]
 rw [if_pos hw];refine Or.inl ?_
 unfold Oper.wp;rw [hr o hop,Oper.upon_skip,hd];exact hK
end
theorem OpIs.enter {P:Program} {ops:Array Oper} {Q:Exit → Act → World → Prop} {i d:Nat} {K:Act → World → Prop} {a:Act} {w:World} {f:FuncId} {ags:Array Operand} {ts:Array TypeId} (h:OpIs ops i (some d) (.call { callee:=.value (.func f),args:=ags,argTypes:=ts })) {vals:Array Value} (hv:ags.map a.eval=vals) (hf:∀ (xs:Array Value) (u:World),(callFunc f xs).run P u=.ok (.enter f xs) u)
  (hC:Calls P f vals w fun e w'=>∃ v,e=.returned v∧K (a.put (some d) v) w'):wpOp P ops Q i K a w:=by
 obtain ⟨o,ho,hg,hd,hop⟩:=h;unfold wpOp;rw [ho]
 simp only
 have hw:Region.wanted o (yielded ops a.tmps)=true:=by simp [Region.wanted,hg]
 rw [if_pos hw];refine Or.inl ?_
 unfold Oper.wp
 have hr:(execOp a.eval o).run P w=.ok (.enter f vals) w:=by
  have e1:a.eval (.func f)=.func (.func f) #[] #[]:=rfl
  simp [execOp,hop,resolve,invoke,e1,hv,Result.andThen,Deferred.ofValue,hf]
 rw [hr,Oper.upon_enter];refine hC.mono ?_
 rintro e w' ⟨v,rfl,hK⟩
 simp only
 rw [hd];exact hK
theorem put_list (a:Act) (d:Nat) (v:Value):(a.put (some d) v).tmps.toList=a.tmps.toList.set d v:=by simp [Act.put]
structure MP where
 a0:Act
 lo:Nat
 hi:Nat
 n:Nat
 k:Nat
 W:World
 D:Nat → Nat
 R:Nat → Value → World → Prop
structure Outs (p:MP) (a0 a:Act):Prop where
 sz:a.tmps.size=p.n
 df:a.defers=[]
 out:∀ s,s < p.lo∨p.hi≤s → a.eval (.tmp s)=a0.eval (.tmp s)
structure MI (p:MP) (ops:Array Oper) (L:Array Bool) (a:Act) (w:World):Prop where
 o:Outs p p.a0 a
 bel:Below p.W.heap.size p.W w
 val:∀ i,i < p.k → L.getD i false=true → p.R i (a.eval (.tmp (p.D i))) w
 dn:∀ i j,Waits ops i j → L.getD i false=true → L.getD j false=true
theorem Outs.put {p:MP} {a0 a:Act} (h:Outs p a0 a) (d:Nat) (v:Value) (hlo:p.lo≤d) (hhi:d < p.hi):Outs p a0 (a.put (some d) v) :=
 ⟨by rw [put_size]; exact h.sz,by rw [put_defers]; exact h.df,fun s hs=>by rw [eval_put_ne (by omega)]; exact h.out s hs⟩
theorem Outs.set {p:MP} {a0 a:Act} (h:Outs p a0 a) (hz:a0.tmps.size=p.n) (d:Nat) (v:Value) (hlo:d < p.lo) (hn:d < p.n):Outs p (a0.put (some d) v) (a.put (some d) v) :=
 ⟨by rw [put_size]; exact h.sz,by rw [put_defers]; exact h.df,fun s hs=>by
  by_cases e:s=d
  ·subst e;rw [eval_put_same (by rw [h.sz]; exact hn),eval_put_same (by rw [hz]; exact hn)]
  ·rw [eval_put_ne e,eval_put_ne e]; exact h.out s hs⟩
theorem Outs.fin {p:MP} {a0 a:Act} (h:Outs p a0 a) (h0:a0.tmps.size=p.n) (hle:p.lo≤p.hi) (hn:p.hi≤p.n):∃ us:List Value,us.length=p.hi - p.lo∧a=⟨(a0.tmps.toList.take p.lo++(us++a0.tmps.toList.drop p.hi)).toArray,[]⟩:=by
 have key:∀ s,s < p.lo∨p.hi≤s → a.tmps.toList[s]? = a0.tmps.toList[s]? := fun s hs=>by
  have e:=h.out s hs;by_cases hlt:s < p.n
  ·have l1:s < a.tmps.size:=by rw [h.sz]; exact hlt
   have l2:s < a0.tmps.size:=by rw [h0]; exact hlt
   simp [Act.eval,Array.getD_eq_getD_getElem?,l1,l2] at e
   simp [l1,l2,e]
  ·rw [List.getElem?_eq_none (by simp; rw [h.sz]; omega),List.getElem?_eq_none (by simp; rw [h0]; omega)]
 refine ⟨(a.tmps.toList.take p.hi).drop p.lo,by simp [h.sz]; omega,?_⟩
 have e1:a0.tmps.toList.take p.lo=a.tmps.toList.take p.lo:=by
  apply List.ext_getElem?
  intro s;rw [List.getElem?_take,List.getElem?_take]
  split
  ·exact (key s (.inl ‹_›)).symm
  ·rfl
 have e2:a0.tmps.toList.drop p.hi=a.tmps.toList.drop p.hi:=by
  apply List.ext_getElem?
  intro s;rw [List.getElem?_drop,List.getElem?_drop];exact (key _ (.inr (by omega))).symm
 have e3:a.tmps.toList=a.tmps.toList.take p.lo++((a.tmps.toList.take p.hi).drop p.lo++a.tmps.toList.drop p.hi):=by
  have:=List.take_append_drop p.lo (a.tmps.toList.take p.hi)
  rw [← List.append_assoc];rw [List.take_take,Nat.min_eq_left hle] at this;rw [this,List.take_append_drop]
 rw [e1,e2,← e3];obtain ⟨tm,df⟩:=a
 have:=h.df
 simp only at this;subst this
 rfl
section
variable {p : MP} {ops : Array Oper} {L : Array Bool} {a : Act} {w w' : World}
theorem ready_nots {i:Nat} (hi:i ∈ Region.ready .any ops L):L.getD i false=false∧i < ops.size:=by
 refine ⟨?_,?_⟩
 ·have:=(mem_ready.1 hi).1
  rw [Array.getD_eq_getD_getElem?] at this ⊢
  cases e:L[i]? with
  | none=>rw [e] at this; simp at this
  | some b=>rw [e] at this; simpa using this
 ·obtain ⟨_,o,ho,_⟩:=mem_ready.1 hi;exact (Array.getElem?_eq_some_iff.1 ho).1
theorem down_set {i:Nat} (hi:i ∈ Region.ready .any ops L) (hs:L.size=ops.size) (h:∀ i j,Waits ops i j → L.getD i false=true → L.getD j false=true) :
  ∀ x y,Waits ops x y → (L.setIfInBounds i true).getD x false=true → (L.setIfInBounds i true).getD y false=true:=by
 intro x y hxy hx;have hil:=(ready_nots hi).2
 have up:∀ y,L.getD y false=true → (L.setIfInBounds i true).getD y false=true:=fun y hy=>by
  by_cases e:y=i
  ·subst e; exact getD_set_same (by rw [hs]; exact hil)
  ·rw [getD_set_ne e]; exact hy
 by_cases e:x=i
 ·subst e; exact up y (hxy.on hi)
 ·rw [getD_set_ne e] at hx; exact up y (h x y hxy hx)
theorem MI.put (h:MI p ops L a w) (hs:L.size=ops.size) (i:Nat) (hi:i ∈ Region.ready .any ops L) (d:Nat) (hD:p.D i=d) (hinj:∀ j,j < p.k → j ≠ i → p.D j ≠ d) (hlo:p.lo≤d) (hhi:d < p.hi) (hn:p.hi≤p.n)
  (hst:∀ j v,j < p.k → p.R j v w → p.R j v w') (v:Value) (hb:Below w.heap.size w w') (hR:p.R i v w'):MI p ops (L.setIfInBounds i true) (a.put (some d) v) w':=by
 refine ⟨h.o.put d v hlo hhi,h.bel.trans (hb.mono h.bel.size),fun j hj hl=>?_,down_set hi hs h.dn⟩
 by_cases e:j=i
 ·subst e;rw [hD,eval_put_same (by rw [h.o.sz]; omega)]; exact hR
 ·rw [getD_set_ne e] at hl;rw [eval_put_ne (hinj j hj e)];exact hst j _ hj (h.val j hj hl)
end
def waitsB (ops:Array Oper) (i j:Nat):Bool:=match ops[i]? with
 | some o=>o.after.any fun e=>Region.binds .any e && decide (e.on=j)
 | none=>false
theorem waits_of {ops:Array Oper} {i j:Nat} (h:waitsB ops i j=true):Waits ops i j:=by
 unfold waitsB at h
 cases ho:ops[i]? with
 | none=>rw [ho] at h; cases h
 | some o =>
  rw [ho] at h;simp only at h;obtain ⟨k,hk,hb⟩:=Array.any_eq_true.1 h;simp only [Bool.and_eq_true,decide_eq_true_eq] at hb;exact ⟨o,ho,o.after[k],Array.getElem_mem hk,hb.1,hb.2⟩
def parentB (ops:Array Oper) (k:Nat):Bool:=(List.range k).all fun j=>(List.range (k+1)).any fun i=>decide (j < i) && waitsB ops i j
theorem parent_all {ops:Array Oper} {k:Nat} (h:parentB ops k=true) {L:Array Bool} (hk:k ∈ Region.ready .any ops L) (hd:∀ i j,Waits ops i j → L.getD i false=true → L.getD j false=true):∀ j,j < k → L.getD j false=true:=by
 have key:∀ m j,k - j≤m → j < k → L.getD j false=true:=by
  intro m
  induction m with
  | zero=>intro j h1 h2; omega
  | succ m ih =>
   intro j h1 h2;have h3:=List.all_eq_true.1 h j (List.mem_range.2 h2);obtain ⟨i,hi,h4⟩:=List.any_eq_true.1 h3;simp only [Bool.and_eq_true,decide_eq_true_eq] at h4;have hik:=List.mem_range.1 hi;have hw:=waits_of h4.2;by_cases e:i=k
   ·subst e; exact hw.on hk
   ·exact hd i j hw (ih i (by omega) (by omega))
 exact fun j hj=>key (k - j) j (Nat.le_refl _) hj
end Go.Proofs.YtdbalahkmeknaaaGreatDoor
