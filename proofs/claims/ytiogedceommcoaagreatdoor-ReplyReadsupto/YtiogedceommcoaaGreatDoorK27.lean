/-
  RCheckA, RBase1, VList, RVParse, RVList, RVia, VWho, VBy, HRef1.
-/
import Derived.Test.YtiogedceommcoaaGreatDoorK26
import Derived.Test.YtiogedceommcoaaGreatDoorK28
set_option linter.unusedVariables false
set_option linter.unusedSimpArgs false
set_option maxRecDepth 20000
namespace Go.Proofs.YtiogedceommcoaaGreatDoor
open Go.RowKit Sc
set_option maxHeartbeats 400000 in
theorem rtag_any (c:AdrC) (w:World) (hsm:SmallP 140737488355328 c.a.params) (hat:c.At w) :
  Calls Tryz.prog 33 #[adrV c.a c.p c.h c.q] w fun e w'=>e=.returned (.string ⟨(valV c.a.params [116,97,103]).1.toArray⟩)∧Below w.heap.size w w':=by
 obtain ⟨a,p,h,q⟩:=c;obtain ⟨h1,h2,h3,hcap⟩:=hat;simp only at h1 h2 h3 hcap hsm ⊢;have KV:=hid (fun w' (hb:Below w.heap.size w w')=>refvalue_any q a.params [116,97,103] w' (by decide) hsm (h3.below hb));have hbx:=boxA_new w a p h q;have hb0:Below w.heap.size w (w.alloc (objA a p h q)):=(Below.refl _ w).alloc (Nat.le_refl _) _;obtain ⟨a1,c1,rfl⟩:=h1.form;obtain ⟨a2,c2,rfl⟩:=h2.form;obtain ⟨a3,c3,rfl⟩:=h3.form;clear h1 h2 h3 hsm hcap;obtain ⟨d,u,ps⟩:=a;obtain ⟨us,uu,uh,up,upp,uhh⟩:=u;unfold adrV;unfold objA at hb0 hbx;simp only at KV hb0 hbx ⊢;generalize valV ps [116,97,103]=vv at KV ⊢;obtain ⟨vt,vb⟩:=vv;simp only at KV ⊢;obtain ⟨x0,x1,x2,x3,x4,x5,x6,x7⟩:=hbx;simp only at x0 x1 x2 x3 x4 x5 x6 x7
 go_enter Tryz.func33,Tryz.ntmps33
 go_wp2_with fail
 refine (KV.out _ hb0).mono ?_
 rintro e w1 ⟨rfl,hw1⟩;go_wp2;go_ret;exact ⟨rfl,hb0.trans (hw1.mono hb0.size)⟩
set_option maxHeartbeats 1000000 in
set_option maxRecDepth 100000 in
theorem raddress_any (m:Ms) (h:Value) (nm:List UInt8) (w:World) (hsm:SmallM 140737488355328 m) (hhl:m.headers.length≤4398046511104) (hnl:nm.length≤140737488355328) (hat:HdrsAt w h m.headers) (hvl:(oneV m nm).1.length≤1048576) :
  Calls Tryz.prog 29 #[msgV m h,.string ⟨nm.toArray⟩] w fun e w'=>ParseRes (addressV m nm) w w' e∧Below w.heap.size w w':=by
 have KO:=hid (fun w' (hb:Below w.heap.size w w')=>rone_any m h nm w' hsm hhl hnl (hat.below hb));have HV:Hid (addressV m nm=if (oneV m nm).2=false then (noA,100) else parseA (oneV m nm).1):=show _=_ from rfl
 have KP:=hid (fun w'=>rparseA_any (oneV m nm).1 w' hvl);generalize addressV m nm=R at HV ⊢;generalize oneV m nm=ov at KO HV KP hvl;obtain ⟨ot,ob⟩:=ov;simp only at KO HV KP hvl;obtain ⟨ao,cap,hh0,_⟩:=hat.get;have hb1:Below w.heap.size w (w.alloc (objM m h)):=(Below.refl _ w).alloc (Nat.le_refl _) _;have hlt1:=alloc_lt w (objM m h);have HBX:=boxM_new w m h;have hA8:=(Below.refl _ (w.alloc (objM m h))).alloc (Nat.le_refl _) (.cells #[.string ⟨#[]⟩,.string ⟨#[]⟩,.string ⟨#[]⟩,.string ⟨#[]⟩,.int .i64 0,.slice none 0 0,.slice none 0 0,.slice none 0 0] 31);have HB2:=hid (HBX.below hA8 hlt1);have hr0:=row8_new (w.alloc (objM m h)) 31;have hlt8:=alloc_lt (w.alloc (objM m h)) (.cells #[.string ⟨#[]⟩,.string ⟨#[]⟩,.string ⟨#[]⟩,.string ⟨#[]⟩,.int .i64 0,.slice none 0 0,.slice none 0 0,.slice none 0 0] 31);rw [show (w.alloc (objM m h)).heap.size=w.heap.size+1 by simp] at hr0 hlt8;have hb2:=hb1.trans (hA8.mono hb1.size);clear hA8 hb1 hlt1 HBX hsm;subst hh0;obtain ⟨me,ta,st,re,hs,bo⟩:=m;unfold msgV at KO ⊢;unfold objM at hb2 HB2 hr0 hlt8;simp only at KO hb2 HB2 hr0 hlt8 ⊢;obtain ⟨x0,x1,x2,x3,x4,x5⟩:=HB2.out;simp only at x0 x1 x2 x3 x4 x5
 go_enter Tryz.func29,Tryz.ntmps29
 go_wp2_with fail
 refine (KO.out _ hb2).mono ?_
 rintro e w3 ⟨rfl,hw3⟩;have hr3:=hr0.below hw3 hlt8;have hb3:=hb2.trans (hw3.mono hb2.size);have hlt3:=Nat.lt_of_lt_of_le hlt8 hw3.size;clear x0 x1 x2 x3 x4 x5 HB2 hb2 hr0 hlt8 hw3 KO
 cases ob with
 | false =>
  have HR:Hid (R=(noA,100)):=show _=_ by rw [HV.out]; rfl
  obtain ⟨y0,y1,y2,y3,y4,y5,y6,y7,f0,f1,f2,f3,f4,f5,f6,f7⟩:=hr3.eight;have H7:=hid (And.intro (row_store8 hr3 (.string ⟨#[]⟩) (.string ⟨#[]⟩) (.string ⟨#[]⟩) (.string ⟨#[]⟩) (.int .i64 0) (.slice none 0 0) (.slice none 0 0) (.slice none 0 0)) (store_below8 hb3 (w.heap.size+1) (by omega) (.string ⟨#[]⟩) (.string ⟨#[]⟩) (.string ⟨#[]⟩) (.string ⟨#[]⟩) (.int .i64 0) (.slice none 0 0) (.slice none 0 0) (.slice none 0 0)));clear HV KP;go_wp2;unfold set8 at H7;generalize World.setCell _ _ _=w7 at H7 ⊢;obtain ⟨hr7,hb7⟩:=H7.out;obtain ⟨d0,d1,d2,d3,d4,d5,d6,d7,_,_,_,_,_,_,_,_⟩:=hr7.eight
  try simp only [Exit.inBlock,Exit.then]
  refine bodyPost_ret (v:=.tuple #[.agg #[.string ⟨#[]⟩,.string ⟨#[]⟩,.string ⟨#[]⟩,.string ⟨#[]⟩,.int .i64 0,.slice none 0 0,.slice none 0 0,.slice none 0 0],.int .i64 100]) (by simp [results,Tryz.results29,go_sem,d0,d1,d2,d3,d4,d5,d6,d7]; try rfl) rfl ?_
  exact ⟨res_none HR.out,hb7⟩
 | true =>
  have HR:Hid (R=parseA ot):=show _=_ by rw [HV.out]; rfl
  generalize parseA ot=pr at KP HR;obtain ⟨⟨ad,⟨us,uu,uh,up,upp,uhh⟩,app⟩,pn⟩:=pr;unfold ParseRes adrV at KP;simp only at KP;clear HV;go_wp2_with fail
  refine (KP.out _).mono ?_
  rintro e w4 ⟨⟨p,h,q,rfl,hp,hh,hq⟩,hw4⟩;have hr4:=hr3.below hw4 hlt3;have hb4:=hb3.trans (hw4.mono hb3.size);have cq:=hq.cap;obtain ⟨a1,k1,e1⟩:=hp.parsAt.form;obtain ⟨a2,k2,e2⟩:=hh.parsAt.form;obtain ⟨a3,k3,e3⟩:=hq.parsAt.form;subst e1 e2 e3;obtain ⟨y0,y1,y2,y3,y4,y5,y6,y7,f0,f1,f2,f3,f4,f5,f6,f7⟩:=hr4.eight;have H7:=hid (And.intro (row_store8 hr4 (.string ⟨ad.toArray⟩) (.string ⟨us.toArray⟩) (.string ⟨uu.toArray⟩) (.string ⟨uh.toArray⟩) (.int .i64 up) (.slice a1 upp.length k1) (.slice a2 uhh.length k2) (.slice a3 app.length k3)) (And.intro (store_below8 hb4 (w.heap.size+1) (by omega) (.string ⟨ad.toArray⟩) (.string ⟨us.toArray⟩) (.string ⟨uu.toArray⟩) (.string ⟨uh.toArray⟩) (.int .i64 up) (.slice a1 upp.length k1) (.slice a2 uhh.length k2) (.slice a3 app.length k3)) (And.intro (OwnP.store8 hp hlt3 (.string ⟨ad.toArray⟩) (.string ⟨us.toArray⟩) (.string ⟨uu.toArray⟩) (.string ⟨uh.toArray⟩) (.int .i64 up) (.slice a1 upp.length k1) (.slice a2 uhh.length k2) (.slice a3 app.length k3)) (And.intro (OwnP.store8 hh hlt3 (.string ⟨ad.toArray⟩) (.string ⟨us.toArray⟩) (.string ⟨uu.toArray⟩) (.string ⟨uh.toArray⟩) (.int .i64 up) (.slice a1 upp.length k1) (.slice a2 uhh.length k2) (.slice a3 app.length k3)) (OwnP.store8 hq hlt3 (.string ⟨ad.toArray⟩) (.string ⟨us.toArray⟩) (.string ⟨uu.toArray⟩) (.string ⟨uh.toArray⟩) (.int .i64 up) (.slice a1 upp.length k1) (.slice a2 uhh.length k2) (.slice a3 app.length k3))))));clear KP hp hh hq;go_wp2;unfold set8 at H7;generalize World.setCell _ _ _=w7 at H7 ⊢;obtain ⟨hr7,hb7,q1,q2,q3⟩:=H7.out;obtain ⟨d0,d1,d2,d3,d4,d5,d6,d7,_,_,_,_,_,_,_,_⟩:=hr7.eight
  try simp only [Exit.inBlock,Exit.then]
  refine bodyPost_ret (v:=.tuple #[.agg #[.string ⟨ad.toArray⟩,.string ⟨us.toArray⟩,.string ⟨uu.toArray⟩,.string ⟨uh.toArray⟩,.int .i64 up,.slice a1 upp.length k1,.slice a2 uhh.length k2,.slice a3 app.length k3],.int .i64 pn]) (by simp [results,Tryz.results29,go_sem,d0,d1,d2,d3,d4,d5,d6,d7]; try rfl) rfl ?_
  refine ⟨?_,hb7⟩
  rw [HR.out];exact ⟨_,_,_,rfl,q1.mono (by omega),q2.mono (by omega),q3.mono (by omega)⟩
theorem refparts_own {l:List UInt8} {qs:List (List UInt8)} {c:Int} (h:partsV c l=qs) (w:World) (hs:l.length≤1048576) :
  Calls Tryz.prog 74 #[.string ⟨l.toArray⟩,.int .u8 c] w fun e w'=>∃ a cap,e=.returned (.slice a qs.length cap)∧Own w' w.heap.size 9 (.slice a qs.length cap) (strs qs)∧Below w.heap.size w w':=by
 refine (refparts_any ⟨l.toArray⟩ c w (by rw [size_list]; omega)).mono ?_
 rintro e w' ⟨v,rfl,hown,hb⟩;have ho:Own w' w.heap.size 9 v (strs qs):=by rw [← h]; exact hown
 obtain ⟨a,cap,rfl⟩:=ho.form;rw [strs_length] at ho ⊢;exact ⟨a,cap,rfl,ho,hb⟩
theorem refwhere_list (l:List UInt8) (w:World) (hs:l.length≤140737488355328) :
  Calls Tryz.prog 88 #[.string ⟨l.toArray⟩] w fun e w'=>e=.returned (.tuple #[.string ⟨(whereV l).1.toArray⟩,.int .i64 (whereV l).2.1,.int .i64 (whereV l).2.2])∧Below w.heap.size w w':=refwhere_any ⟨l.toArray⟩ w (by rw [size_list]; exact hs)
theorem blk_no {b:UInt8}:blk b=false ↔ (cls (b.toNat:Int) != 32)=true:=by
 rw [blk_cls]
 simp
theorem parseH_1 {s:List UInt8} (h:wordN (trimL s)=(trimL s).length):parseH s=(noH,70):=by rw [parseH,if_pos (Or.inl h)]
theorem parseH_2 {s:List UInt8} (h:sameB ((trimL s).take (wordN (trimL s))) protoK=false):parseH s=(noH,70):=by rw [parseH,if_pos (Or.inr h)]
theorem parseH_3 {s:List UInt8} (h:wordN (trimL s) ≠ (trimL s).length) (h2:sameB ((trimL s).take (wordN (trimL s))) protoK=true):parseH s=restH ((trimL s).drop (wordN (trimL s))):=by
 rw [parseH,if_neg];rintro (k | k)
 ·exact h k
 ·rw [h2] at k; cases k
set_option maxHeartbeats 2000000 in
set_option maxRecDepth 100000 in
theorem rvparse_any (s:List UInt8) (w:World) (hs:s.length≤1048576) :
  Calls Tryz.prog 75 #[.string ⟨s.toArray⟩] w fun e w'=>HopRes (parseH s) w w' e∧Below w.heap.size w w':=by
 have hts:=trimL_len s;have KT:=hid (fun w'=>reftrim_list s w' (by omega));have v1:=hid (@parseH_1 s);have v2:=hid (@parseH_2 s);have v3:=hid (@parseH_3 s);generalize parseH s=R at v1 v2 v3 ⊢;generalize trimL s=t at KT v1 v2 v3 hts;have HLE:=hid (wordN_le t);have HPOS:=hid (fun k (hk:k < t.length) (hp:k≤wordN t) (hb:blk t[k]=true)=>wordN_pos hk hp hb);have HMORE:=hid (fun k (hk:k < t.length) (hp:k≤wordN t) (hb:blk t[k]=false)=>wordN_more hk hp hb);have KS:=hid (fun w'=>refsame_list (t.take (wordN t)) protoK w' (by simp; omega) (by decide));have htk:=vtake_ext t (wordN t);have hdr:=vdrop_ext t (wordN t);have HTK:=hid htk;have HDR:=hid hdr;clear htk hdr;have HDL:Hid ((t.drop (wordN t)).length≤1048576):=show _≤_ by simp; omega
 generalize wordN t=n at v1 v2 v3 HLE HPOS HMORE KS HTK HDR HDL;have hr0:=row3_at w (.string ⟨#[]⟩) (.int .i64 0) (.slice none 0 0) 71;have hb0:Below w.heap.size w (w.alloc (.cells #[.string ⟨#[]⟩,.int .i64 0,.slice none 0 0] 71)):=(Below.refl _ w).alloc (Nat.le_refl _) _;have hlt0:=alloc_lt w (.cells #[.string ⟨#[]⟩,.int .i64 0,.slice none 0 0] 71);have HR0:=hid hr0;clear hr0
 go_enter Tryz.func75,Tryz.ntmps75
 go_wp2_with fail
 refine (KT.out _).mono ?_
 rintro e w1 ⟨rfl,hw1⟩;rw [hw1];clear KT hw1;go_wp2
 go_loopw [4] (fun i wr=>∃ k:Nat,k≤n∧i=.int .i64 k∧wr=w.alloc (.cells #[.string ⟨#[]⟩,.int .i64 0,.slice none 0 0] 71)) (fun i _=>n - (intOf i).toNat)
 case atStart=>exact ⟨0,by omega,rfl,rfl⟩
 case round =>
  obtain ⟨k,hkn,rfl,rfl⟩:=hrel;have hle:=HLE.out;by_cases hlt:k < t.length
  ·have hk2:k < (⟨t.toArray⟩:ByteArray).size:=by rw [size_list]; exact hlt
   have hki:(k:Int) < (t.length:Int):=by omega
   have hge:(⟨t.toArray⟩:ByteArray)[k]'hk2=t[k]:=rfl;have hpos:=HPOS.out k hlt hkn;have hmore:=HMORE.out k hlt hkn;generalize t[k]=x at hge hpos hmore;have hbt:=UInt8.toNat_lt x;have KC:=hid (fun w'=>refclass_any (x.toNat:Int) w' (by omega) (by omega));have hbn:=@blk_no x
   cases hbx:blk x with
   | false =>
    have hc:(cls (x.toNat:Int) != 32)=true:=hbn.1 hbx;have hm:=hmore hbx;clear hpos hmore hbn hbx;go_wp2_with fail
    refine (KC.out _).mono ?_
    rintro e w2 ⟨rfl,hw2⟩;rw [hw2];go_wp2;go_roundw
    case rel=>exact ⟨k+1,by omega,by go_num,by first | rfl | trivial⟩
    case measure=>simp [intOf]; omega
   | true =>
    have hc:(cls (x.toNat:Int) != 32)=false:=by
     cases h:(cls (x.toNat:Int) != 32) with
     | false=>rfl
     | true=>rw [hbn.2 h] at hbx; cases hbx
    have hn:=hpos hbx;clear hpos hmore hbn hbx;subst hn;have hnl:((n:Int)==(t.length:Int))=false:=by simp; omega
    have htk:=HTK.out;have hne:n ≠ t.length:=by omega
    have hv3:=hid (v3.out hne);clear HTK v3 v1 HPOS HMORE HLE;have hr1:=HR0.out;clear HR0;generalize t.take n=tk at KS htk v2 hv3
    cases hsb:sameB tk protoK with
    | false =>
     have HR:=hid (v2.out hsb);rw [hsb] at KS;clear v2 hv3 hsb HDR HDL;unfold protoK at KS;go_wp2_with (first | (go_at_call 77; refine (KC.out _).mono ?_; rintro e w2 ⟨rfl,hw2⟩; rw [hw2]))
     refine (KS.out _).mono ?_
     rintro e w3 ⟨rfl,hw3⟩;have hr3:=hr1.below hw3 hlt0;have hb3:=hb0.trans (hw3.mono hb0.size);clear hr1 hb0 hw3;have hr7:=row_store3 hr3 (.string ⟨#[]⟩) (.int .i64 0) (.slice none 0 0);have hb7:=store_below3 hb3 w.heap.size (Nat.le_refl _) (.string ⟨#[]⟩) (.int .i64 0) (.slice none 0 0);obtain ⟨y0,y1,y2,f0,f1,f2⟩:=hr3.three;have H7:=hid (And.intro hr7 hb7);clear hr7 hb7;go_wp2;generalize World.setCell _ _ _=w7 at H7 ⊢;obtain ⟨hr7,hb7⟩:=H7.out;obtain ⟨d0,d1,d2,_,_,_⟩:=hr7.three
     try simp only [Exit.inBlock,Exit.then]
     refine bodyPost_ret (v:=.tuple #[.agg #[.string ⟨#[]⟩,.int .i64 0,.slice none 0 0],.int .i64 70]) (by simp [results,Tryz.results75,go_sem,d0,d1,d2]; try rfl) rfl ?_
     exact ⟨hres_none HR.out,hb7⟩
    | true =>
     have HV:=hid (hv3.out hsb);rw [hsb] at KS;clear v2 hv3 hsb;unfold protoK at KS;have hdr:=HDR.out;have hdr2:(⟨t.toArray⟩:ByteArray).extract n t.length=⟨(t.drop n).toArray⟩:=by rw [← hdr,size_list]
     have hdl:=HDL.out;clear HDR HDL;generalize t.drop n=r at hdr hdr2 HV hdl;obtain ⟨p0',ps0,hpt⟩:=partsG_cons 59 r pl0 [];have hpt2:partsV 59 r=p0' :: ps0:=hpt;have hmem:=p_mem_len 59 r;rw [hpt2] at hmem;have hp0:=hmem p0' (by simp);have htp:=trimL_len p0';have KP:=hid (fun w'=>refparts_of hpt2 w' (by omega));have KTT:=hid (fun w'=>reftrim_list p0' w' (by omega));have KW:=hid (fun w'=>refwhere_list (trimL p0') w' (by omega));have HML:Hid (∀ l ∈ ps0,l.length≤1048576):=fun l hl=>by have:=hmem l (by simp [hl]); omega
     rw [restH_of hpt2] at HV;clear hpt hpt2 hmem;generalize trimL p0'=tp at KTT KW HV htp;generalize whereV tp=W at KW HV;obtain ⟨wh,wp,wn⟩:=W;simp only at KW HV;go_wp2_with (first | (go_at_call 77; refine (KC.out _).mono ?_; rintro e w2 ⟨rfl,hw2⟩; rw [hw2]))
     refine (KS.out _).mono ?_
     rintro e w3 ⟨rfl,hw3⟩;have hr3:=hr1.below hw3 hlt0;have hb3:=hb0.trans (hw3.mono hb0.size);have hlt3:=Nat.lt_of_lt_of_le hlt0 hw3.size;clear hr1 hb0 hw3 hlt0 KS;go_wp2_with fail
     refine (KP.out _).mono ?_
     rintro e w5 ⟨g,cap,rfl,hcap,hgl,hcells,hw5⟩;have hg0:=hcells 0 (by simp);simp only [List.getElem_cons_zero] at hg0;have hr6:=hr3.below hw5 hlt3;have hb6:=hb3.trans (hw5.mono hb3.size);have hlt6:=Nat.lt_of_lt_of_le hlt3 hw5.size;have HC:=hid hcells;clear hcells hw5 KP;go_wp2_with fail
     refine (KTT.out _).mono ?_
     rintro e w6 ⟨rfl,rfl⟩;have hw6:Below w6.heap.size w6 w6:=Below.refl _ _;have hr7:=hr6.below hw6 hlt6;have hb7:=hb6.trans (hw6.mono hb6.size);have hlt7:=Nat.lt_of_lt_of_le hlt6 hw6.size;clear hr6 hb6 KTT;go_wp2_with fail
     refine (KW.out _).mono ?_
     rintro e w7 ⟨rfl,hw7⟩;have hr8:=hr7.below hw7 hlt7;have hb8:=hb7.trans (hw7.mono hb7.size);have hlt8:=Nat.lt_of_lt_of_le hlt7 hw7.size;have hw8:=hw6.trans (hw7.mono hw6.size);clear hr7 hb7 KW hlt7 hw6 hw7;by_cases hun:wn=0
     ·subst hun;have HT2:Hid (R=if (fieldsV ps0).2 ≠ 0 then (noH,(fieldsV ps0).2) else (⟨wh,wp,(fieldsV ps0).1⟩,0)):=show _=_ by rw [HV.out,if_neg (by simp)]
      have HSA:Hid (StrsAt w7 (.slice (some ⟨g,1,none⟩) ps0.length (cap - 1)) ps0):=strs_tail HC.out hgl hw8;have HSB:Hid (ps0=[] → StrsAt w7 (.slice (some ⟨g,0,none⟩) ps0.length 0) ps0):=fun h=>by subst h; exact strs_none _ _ _
      clear HV HC hg0 hgl hw8;go_wp2_with fail
      all_goals (
       refine (reffields_any _ ps0 w7 HML.out ?hstr).mono ?_
       case hstr=>first | with_reducible exact HSA.out | exact HSB.out (List.eq_nil_of_length_eq_zero (by omega))
       rintro e w9 ⟨fv,fn,rfl,⟨hfn,hfo⟩,hw9⟩;generalize fieldsV ps0=fr at HT2 hfn hfo;obtain ⟨fp,fm⟩:=fr;simp only at HT2 hfn hfo;subst hfn;obtain ⟨a3,k3,hfe⟩:=hfo.parsAt.form;subst hfe;have hr9:=hr8.below hw9 hlt8;have hb9:=hb8.trans (hw9.mono hb8.size);have HO9:=hid (OwnP.mono hfo (show w.heap.size+1≤_ by omega));clear hfo hw9 hr8 hb8;by_cases hfz:fn=0
       ·subst hfz;have HR:Hid (R=(⟨wh,wp,fp⟩,0)):=show _=_ by rw [HT2.out,if_neg (by simp)]
        clear HT2;have hrA:=row_store3 hr9 (.string ⟨wh.toArray⟩) (.int .i64 wp) (.slice a3 fp.length k3);have hbA:=store_below3 hb9 w.heap.size (Nat.le_refl _) (.string ⟨wh.toArray⟩) (.int .i64 wp) (.slice a3 fp.length k3);have q3:=(OwnP.store3 HO9.out (Nat.lt_succ_self _) (.string ⟨wh.toArray⟩) (.int .i64 wp) (.slice a3 fp.length k3)).mono (Nat.le_succ w.heap.size);obtain ⟨y0,y1,y2,f0,f1,f2⟩:=hr9.three;have HA:=hid (And.intro hrA (And.intro hbA q3));clear hrA hbA q3;go_wp2;generalize World.setCell _ _ _=wA at HA ⊢;obtain ⟨hrA,hbA,q3⟩:=HA.out;obtain ⟨d0,d1,d2,_,_,_⟩:=hrA.three
        try simp only [Exit.inBlock,Exit.then]
        refine bodyPost_ret (v:=.tuple #[.agg #[.string ⟨wh.toArray⟩,.int .i64 wp,.slice a3 fp.length k3],.int .i64 0]) (by simp [results,Tryz.results75,go_sem,d0,d1,d2]; try rfl) rfl ?_
        refine ⟨?_,hbA⟩
        rw [HR.out];exact ⟨_,rfl,q3⟩
       ·have HR:Hid (R=(noH,fn)):=show _=_ by rw [HT2.out,if_pos hfz]
        have hne:(fn != 0)=true:=by simpa using hfz
        clear HT2 HO9;have hr7:=row_store3 hr9 (.string ⟨#[]⟩) (.int .i64 0) (.slice none 0 0);have hb7:=store_below3 hb9 w.heap.size (Nat.le_refl _) (.string ⟨#[]⟩) (.int .i64 0) (.slice none 0 0);obtain ⟨y0,y1,y2,f0,f1,f2⟩:=hr9.three;have H7:=hid (And.intro hr7 hb7);clear hr7 hb7;go_wp2;generalize World.setCell _ _ _=w7 at H7 ⊢;obtain ⟨hr7,hb7⟩:=H7.out;obtain ⟨d0,d1,d2,_,_,_⟩:=hr7.three
        try simp only [Exit.inBlock,Exit.then]
        refine bodyPost_ret (v:=.tuple #[.agg #[.string ⟨#[]⟩,.int .i64 0,.slice none 0 0],.int .i64 fn]) (by simp [results,Tryz.results75,go_sem,d0,d1,d2]; try rfl) rfl ?_
        exact ⟨hres_none HR.out,hb7⟩
        )
     ·have HR:Hid (R=(noH,wn)):=show _=_ by rw [HV.out,if_pos hun]
      have hne:(wn != 0)=true:=by simpa using hun
      clear HV HC;have hr7:=row_store3 hr8 (.string ⟨#[]⟩) (.int .i64 0) (.slice none 0 0);have hb7:=store_below3 hb8 w.heap.size (Nat.le_refl _) (.string ⟨#[]⟩) (.int .i64 0) (.slice none 0 0);obtain ⟨y0,y1,y2,f0,f1,f2⟩:=hr8.three;have H7:=hid (And.intro hr7 hb7);clear hr7 hb7;go_wp2;generalize World.setCell _ _ _=w7 at H7 ⊢;obtain ⟨hr7,hb7⟩:=H7.out;obtain ⟨d0,d1,d2,_,_,_⟩:=hr7.three
      try simp only [Exit.inBlock,Exit.then]
      refine bodyPost_ret (v:=.tuple #[.agg #[.string ⟨#[]⟩,.int .i64 0,.slice none 0 0],.int .i64 wn]) (by simp [results,Tryz.results75,go_sem,d0,d1,d2]; try rfl) rfl ?_
      exact ⟨hres_none HR.out,hb7⟩


  ·have hn:k=t.length:=by omega
   have hn2:n=t.length:=by omega
   have HR:=hid (v1.out hn2);subst hn;have hr1:=HR0.out;clear v1 v2 v3 HPOS HMORE HLE KS HTK HDR HDL HR0 hn2;go_wp2
   try simp only [Exit.inBlock,Exit.then]
   refine bodyPost_ret (v:=.tuple #[.agg #[.string ⟨#[]⟩,.int .i64 0,.slice none 0 0],.int .i64 70]) (by simp [results,Tryz.results75,go_sem]; try rfl) rfl ?_
   exact ⟨hres_none HR.out,hb0⟩
set_option maxHeartbeats 2000000 in
set_option maxRecDepth 100000 in
theorem rvlist_any (m:Ms) (h:Value) (w:World) (hsm:SmallM 140737488355328 m) (hhl:m.headers.length≤4398046511104) (hat:HdrsAt w h m.headers) (hvl:∀ l ∈ allV m viaK,l.length≤1048576) :
  Calls Tryz.prog 27 #[msgV m h] w fun e w'=>HopsRes (hopsV (allV m viaK)) w w' e∧Below w.heap.size w w':=by
 obtain ⟨i0,hi,hz0,hz1,hz2⟩:=info_parts infoHop;have KA:=hid (fun w' (hb:Below w.heap.size w w')=>rall_any m h viaK w' hsm hhl (by decide) (hat.below hb));have hnl:(allV m viaK).length≤4398046511104:=by
  unfold allV;rw [List.length_map];exact Nat.le_trans (List.length_filter_le _ _) hhl
 have HBX:=hid (boxM_new w m h);have hb0:Below w.heap.size w (w.alloc (objM m h)):=(Below.refl _ w).alloc (Nat.le_refl _) _;have H1:=hid (fun n=>@hopsV_1 (allV m viaK) n);have H2:=hid (@hopsV_2 (allV m viaK));have H3:=hid (fun o=>@hopsV_3 (allV m viaK) o);have HVL:=hid hvl;obtain ⟨ah,ch,rfl⟩:=hat.form;clear hsm hhl hat hvl;obtain ⟨me,ta,st,re,hs,bo⟩:=m;unfold msgV at KA ⊢;unfold objM at HBX hb0;simp only at KA HBX hb0 ⊢;generalize allV _ viaK=vals at KA H1 H2 H3 HVL hnl ⊢;generalize hopsV vals=R at H1 H2 H3 ⊢;obtain ⟨F,hF⟩:∃ F,hopsG [] (restQ vals 0)=F:=⟨_,rfl⟩
 rw [hF] at H1 H2 H3;have HF0:Hid (F=hopsG [] (restQ vals 0)):=hF.symm;clear hF;obtain ⟨n,hn⟩:∃ n,n=vals.length:=⟨_,rfl⟩
 rw [← hn] at hnl;have HN:=hid hn;clear hn;obtain ⟨x0,x1,x2,x3,x4,x5⟩:=HBX.out;simp only at x0 x1 x2 x3 x4 x5;unfold viaK at KA
 go_enter Tryz.func27,Tryz.ntmps27
 go_wp2_with fail
 refine (KA.out _ hb0).mono ?_
 rintro e w1 ⟨v0,rfl,hov,hw1⟩;have hb1:=hb0.trans (hw1.mono hb0.size);obtain ⟨va,vc,hve,hvc⟩:=hov.txts;subst hve;rw [← HN.out];have HC:=hid hvc;clear hvc KA hov hw1 hb0 HBX x0 x1 x2 x3 x4 x5;go_wp2
 go_loopw [4,6] (fun x i wr=>∃ (k:Nat) (cs:List HopC),k≤n∧i=.int .i64 k∧Hid (F=hopsG (cs.map HopC.h) (restQ vals k))∧Hid (cs.length≤16)∧Hid (OwnV wr w1.heap.size x cs)∧Below w1.heap.size w1 wr∧w1.heap.size≤wr.heap.size) (fun _ i _=>n - (intOf i).toNat)
 case atStart=>exact ⟨0,[],by omega,rfl,HF0,hid (by simp),hid (OwnV.nil _ _),Below.refl _ _,Nat.le_refl _⟩
 case round =>
  clear HF0;obtain ⟨k,cs0,hkn,rfl,hF,hcl,hown,hb,hB⟩:=hrel;by_cases hlt:k < n
  ·have hkl:k < vals.length:=by have:=HN.out; omega
   obtain ⟨a,hao,hab,hcell⟩:=HC.out k hkl;subst hao;have hcell2:=cell_below hb (by rw [add_block]; exact hab) hcell;have hll:=HVL.out _ (List.getElem_mem hkl);have hnx:=hop_next hkl;have HF:Hid (F=hopsG (cs0.map HopC.h) (partsV 44 vals[k]++restQ vals (k+1))):=show _=_ by rw [hF.out,hnx]
   obtain ⟨qs,hqs⟩:∃ qs,partsV 44 vals[k]=qs:=⟨_,rfl⟩
   have KP:=hid (fun w'=>refparts_own hqs w' hll);have HQL:Hid (∀ l ∈ qs,l.length≤1048576):=fun l hl=>by have:=p_mem_len 44 vals[k] l (by rw [hqs]; exact hl); omega
   have hqn:qs.length≤1048577:=by
    have:=parts_count 44 vals[k]
    rw [hqs] at this;omega
   rw [hqs] at HF;clear hcell hnx hF hqs hll;obtain ⟨xa,xc,hxe⟩:=hown.out.form;subst hxe;go_wp2_with fail
   refine (KP.out _).mono ?_
   rintro e w2 ⟨pa,pc,rfl,hop,hw2⟩;have HO2:=hid (hown.out.below hw2);have HP2:=hid (hop.lower hB);have hb2:=hb.trans (hw2.mono hB);have hB2:=Nat.le_trans hB hw2.size;clear hown hop hb hB hw2 KP hcell2;obtain ⟨n2,hn2⟩:∃ n2,n2=qs.length:=⟨_,rfl⟩
   rw [← hn2] at HP2 hqn ⊢;have HN2:=hid hn2;clear hn2;go_wp2
   go_loopw [4,8] (fun x i wr=>∃ (j:Nat) (cs:List HopC),j≤n2∧i=.int .i64 j∧Hid (F=hopsG (cs.map HopC.h) (qs.drop j++restQ vals (k+1)))∧Hid (cs.length≤16)∧Hid (OwnV wr w1.heap.size x cs)∧Hid (Own wr w1.heap.size 9 (.slice pa n2 pc) (strs qs))∧Below w1.heap.size w1 wr∧w1.heap.size≤wr.heap.size) (fun _ i _=>n2 - (intOf i).toNat)
   case atStart=>exact ⟨0,cs0,by omega,rfl,HF,hcl,HO2,HP2,hb2,hB2⟩
   case round =>
    clear HF HO2 HP2 hb2 hB2 hcl;obtain ⟨j,cs,hjn,rfl,hF,hcl,hown,hop,hb,hB⟩:=hrel;obtain ⟨xa,xc,hxe⟩:=hown.out.form;subst hxe;by_cases hlt2:j < n2
    ·have hjl:j < qs.length:=by have:=HN2.out; omega
     obtain ⟨ao,cap,he,hcs⟩:=hop.out.txts;obtain ⟨a,hao,hab,hcell⟩:=hcs j hjl;subst hao;simp only [Value.slice.injEq] at he;obtain ⟨hpa,hq1,hq2⟩:=he;subst hpa;clear hq1 hq2;have hll:=HQL.out _ (List.getElem_mem hjl);have KV:=hid (fun w'=>rvparse_any qs[j] w' hll);have hon:=@hop_on F qs (restQ vals (k+1)) (cs.map HopC.h) j;have hbad:=@hop_bad F qs (restQ vals (k+1)) (cs.map HopC.h) j;have hful:=@hop_full F qs (restQ vals (k+1)) (cs.map HopC.h) j;obtain ⟨x,er,hpv⟩:∃ x er,parseH qs[j]=(x,er):=⟨_,_,rfl⟩
     rw [hpv] at KV;have hcl2:=hcl.out;by_cases he:er=0
     ·subst he;obtain ⟨ho,po,ps⟩:=x;unfold HopRes hpV at KV;simp only at KV;by_cases hf:cs.length < 16
      ·have hnext:=hid (hon hjl hF.out hpv (by simpa using hf));have hfn:¬ ((16:Int)≤(cs.length:Int)):=by omega
       have hfd:decide ((16:Int)≤(cs.length:Int))=false:=decide_eq_false hfn;clear hon hbad hful hpv hF hcs hab hll;go_wp2_with fail
       refine (KV.out _).mono ?_
       rintro e w3 ⟨⟨q,rfl,o3⟩,hw3⟩;have HC3:Hid (HopC.Own w3 w1.heap.size ⟨⟨ho,po,ps⟩,q⟩):=OwnP.mono o3 hB;obtain ⟨a3,k3,e3⟩:=o3.parsAt.form;subst e3;have hown2:=hown.out.below hw3;have hop2:=hop.out.below hw3;have hb3:=hb.trans (hw3.mono hB);have hB3:=hb3.size;clear o3 hown hop hw3 KV hb hcell;have HNW:=hid (fun (wx:World) (t:TypeId)=>new_hop wx ⟨⟨ho,po,ps⟩,.slice a3 ps.length k3⟩ t);simp only at HNW;have HNV:=hid (HNW.out (w3.alloc (.cells #[.string ⟨ho.toArray⟩,.int .i64 po,.slice a3 ps.length k3] 71)));rw [show (w3.alloc (.cells #[.string ⟨ho.toArray⟩,.int .i64 po,.slice a3 ps.length k3] 71)).heap.size=w3.heap.size+1 by simp] at HNV;clear HNW;have hA:=hid ((Below.refl _ w3).alloc (Nat.le_refl _) (.cells #[.string ⟨ho.toArray⟩,.int .i64 po,.slice a3 ps.length k3] 71));have hA2:=hid (fun o=>hA.out.trans (((Below.refl _ _).alloc (Nat.le_refl _) o).mono hA.out.size));have hO3:=hid (fun o=>hown2.below (hA2.out o));have hP3:=hid (fun o=>hop2.below (hA2.out o));have hC3:=hid (fun o=>HC3.out.below (hA2.out o));have hb4:=hid (fun o=>hb3.trans ((hA2.out o).mono hB3));clear hown2 hop2 HC3 hA hb3;go_wp2_with (at_builtin; refine wp_appV _ rfl (.tmp 44) (.tmp 46) 66 rfl w1.heap.size i0 _ Tryz.underlying66 hi hz0 hz1 hz2 rfl _ cs rfl (hO3.out _) ⟨_,0,none⟩ 1 ⟨⟨ho,po,ps⟩,.slice a3 ps.length k3⟩ (hC3.out _) rfl (by exact HNV.out _) (by omega) w1 (hb4.out _) (by simp; omega) ?_; intro v5 w5 hown5 hkeep hb5 hB5)
       have HO5:=hid hown5;have HP5:=hid (hkeep _ _ _ (hP3.out _));clear hown5 hkeep hP3;go_wp2;go_roundw
       case rel=>exact ⟨j+1,cs++[⟨⟨ho,po,ps⟩,.slice a3 ps.length k3⟩],by omega,by go_num,hid (by rw [List.map_append]; exact hnext.out),hid (by simp; omega),HO5,HP5,hb5,hB5⟩
       case measure=>simp [intOf]; omega
      ·have hft:(16:Int)≤(cs.length:Int):=by omega
       have HR2:Hid (R=([],4)):=H1.out _ (hful hjl hF.out hpv (by simp; omega)) (by decide);clear hon hbad hful hpv hF hcs hab hll;go_wp2_with fail
       refine (KV.out _).mono ?_
       rintro e w3 ⟨⟨q,rfl,o3⟩,hw3⟩;obtain ⟨a3,k3,e3⟩:=o3.parsAt.form;subst e3;have hb3:=hb.trans (hw3.mono hB);have hb4:=fun o=>hb3.alloc hb3.size o;clear o3 hw3 KV hb hcell;go_wp2;go_ret2;exact ⟨hsres_bad HR2.out,hb1.trans ((hb4 _).mono hb1.size)⟩
     ·have hne:(er != 0)=true:=by simpa using he
      have hne2:(er==0)=false:=by simpa using he
      have HR2:Hid (R=([],er)):=H1.out _ (hbad hjl hF.out hpv he) he;clear hon hbad hful hpv hF hcs hab hll;obtain ⟨ho,po,ps⟩:=x;unfold HopRes hpV at KV;simp only at KV;go_wp2_with fail
      refine (KV.out _).mono ?_
      rintro e w3 ⟨⟨q,rfl,o3⟩,hw3⟩;obtain ⟨a3,k3,e3⟩:=o3.parsAt.form;subst e3;have hb3:=hb.trans (hw3.mono hB);have hb4:=fun o=>hb3.alloc hb3.size o;clear o3 hw3 KV hb hcell;go_wp2;go_ret2;exact ⟨hsres_bad HR2.out,hb1.trans ((hb4 _).mono hb1.size)⟩
    ·have hF2:=hid (hop_done (by have:=HN2.out; omega) hF.out);clear hF hop;go_wp2;go_roundw
     case rel=>exact ⟨k+1,cs,by omega,by go_num,hF2,hcl,hown,hb,hB⟩
     case measure=>simp [intOf]; omega
  ·have hF2:F=(cs0.map HopC.h,0):=by
    have:=hF.out
    rw [hop_over (by have:=HN.out; omega),hopsG] at this;exact this
   obtain ⟨xa,xc,hxe⟩:=hown.out.form;subst hxe;by_cases hz:cs0=[]
   ·subst hz;have HR2:Hid (R=([],100)):=H2.out hF2;clear hF2 hF hown;go_wp2;go_ret2;exact ⟨hsres_bad HR2.out,hb1.trans (hb.mono hb1.size)⟩
   ·have HR2:Hid (R=(cs0.map HopC.h,0)):=H3.out _ hF2 (by simpa using hz);have hz2:cs0.length ≠ 0:=fun k=>hz (List.eq_nil_of_length_eq_zero k);have hz3:((cs0.length:Int)==0)=false:=by simp; omega
    clear hF2 hF;go_wp2;go_ret2;exact ⟨⟨_,cs0,by rw [HR2.out]; rfl,by rw [HR2.out],hown.out.mono hb1.size⟩,hb1.trans (hb.mono hb1.size)⟩
theorem refdigits_v (n:Int) (w:World) (h0:0≤n) (h1:n≤9223372036854775807) :
  Calls Tryz.prog 51 #[.int .i64 n] w fun e w'=>e=.returned (.string ⟨(digL n.toNat).toArray⟩)∧Below w.heap.size w w':=by
 refine (refdigits_any n.toNat n w (by omega) h0 h1).mono ?_
 rintro e w' ⟨rfl,q,rfl⟩;exact ⟨rfl,below_drewN w q⟩
theorem take_ext (l:List UInt8) (k:Nat):(⟨l.toArray⟩:ByteArray).extract 0 k=⟨(l.take k).toArray⟩:=by
 apply ByteArray.ext
 simp
theorem refdigits_i64 (n:Int) (w:World) (h0:-9223372036854775808≤n) (h1:n≤9223372036854775807) :
  Calls Tryz.prog 51 #[.int .i64 n] w fun e w'=>e=.returned (.string ⟨(digI n).toArray⟩)∧Below w.heap.size w w':=by
 unfold digI;by_cases h:n < 0
 ·rw [if_pos h]; exact (refdigits_neg n w h).mono fun e w' k=>⟨k.1,by rw [k.2]; exact Below.refl _ _⟩
 ·rw [if_neg h]; exact refdigits_v n w (by omega) h1
set_option maxHeartbeats 1000000 in
set_option maxRecDepth 100000 in
theorem rvbranch_any (c:HopC) (w:World) (hsm:SmallV 140737488355328 c.h) (hat:c.At w) :
  Calls Tryz.prog 28 #[hpV c.h c.q] w fun e w'=>e=.returned (.tuple #[.string ⟨(brV c.h.params).1.toArray⟩,.bool (brV c.h.params).2])∧Below w.heap.size w w':=by
 obtain ⟨a,q⟩:=c;obtain ⟨h3,hcap⟩:=hat;simp only at h3 hcap hsm ⊢;have KV:=hid (fun w' (hb:Below w.heap.size w w')=>refvalue_any q a.params branchK w' (by decide) hsm.2.1 (h3.below hb));have hvl:=valV_len hsm.2.1 branchK;have hbv:brV a.params=brOf (valV a.params branchK).1:=rfl;have hbx:=boxV_new w a q;have hb0:Below w.heap.size w (w.alloc (objV a q)):=(Below.refl _ w).alloc (Nat.le_refl _) _;obtain ⟨a3,c3,rfl⟩:=h3.form;clear h3 hsm hcap;obtain ⟨ho,po,ps⟩:=a;unfold hpV;unfold objV at hb0 hbx;simp only at KV hb0 hbx hbv hvl ⊢;generalize brV ps=R at hbv ⊢;generalize valV ps branchK=vv at KV hbv hvl;obtain ⟨vt,vb⟩:=vv;simp only at KV hbv hvl;have HR:=hid hbv;clear hbv;obtain ⟨x0,x1,x2⟩:=hbx;simp only at x0 x1 x2;unfold branchK at KV
 go_enter Tryz.func28,Tryz.ntmps28
 go_wp2_with fail
 refine (KV.out _ hb0).mono ?_
 rintro e w1 ⟨rfl,hw1⟩;have hb1:=hb0.trans (hw1.mono hb0.size);clear KV hw1 x0 x1 x2 hb0;by_cases h7:vt.length≤7
 ·have HV:=hid (HR.out.trans (br_short h7));have h7':(vt.length:Int)≤7:=by omega
  clear HR;go_wp2;go_ret2;exact ⟨by rw [HV.out]; rfl,hb1⟩
 ·have h7':¬ ((vt.length:Int)≤7):=by omega
  have d7:decide ((vt.length:Int)≤7)=false:=decide_eq_false h7';have hx:=take_ext vt 7;have hg:=hid (@br_good vt h7);have hb:=hid (@br_not vt);generalize vt.take 7=tk at hx hg hb;by_cases hc:tk=cookieK
  ·have HV:=hid (HR.out.trans (hg.out hc));unfold cookieK at hc;subst hc;clear HR hg hb;go_wp2;go_ret2;exact ⟨ret_sv HV.out,hb1⟩
  ·have HV:=hid (HR.out.trans (hb.out hc));have hne:(tk==[122,57,104,71,52,98,75])=false:=beq_eq_false_iff_ne.2 hc;have hne2:(tk != [122,57,104,71,52,98,75])=true:=bne_iff_ne.2 hc;clear HR hc hg hb;go_wp2;go_ret2;exact ⟨ret_sv (x:=[]) HV.out,hb1⟩
end Go.Proofs.YtiogedceommcoaaGreatDoor
namespace Go.Proofs.YtiogedceommcoaaGreatDoor
open Go.RowKit Sc
open Go.Sort
theorem digI_5060:digI 5060=[53,48,54,48]:=by decide +kernel
theorem whoglue2 (a:List UInt8):(⟨a.toArray⟩:ByteArray)++(⟨#[58,53,48,54,48]⟩:ByteArray)=⟨(a++[58]++[53,48,54,48]).toArray⟩:=by
 have e0:(⟨#[58,53,48,54,48]⟩:ByteArray)=⟨([58]++[53,48,54,48]:List UInt8).toArray⟩:=rfl;rw [e0,ByteArray.mk_append_mk,List.append_assoc]
set_option maxHeartbeats 1000000 in
set_option maxRecDepth 100000 in
theorem rvby_any (c:HopC) (w:World) (hsm:SmallV 140737488355328 c.h) (hat:c.At w) :
  Calls Tryz.prog 32 #[hpV c.h c.q] w fun e w'=>e=.returned (.string ⟨(whoH c.h).toArray⟩)∧Below w.heap.size w w':=by
 obtain ⟨a,q⟩:=c;obtain ⟨h3,hcap⟩:=hat;simp only at h3 hcap hsm ⊢;have hpo:=hsm.port;have hho:=hsm.1;have KD:=hid (fun w'=>refdigits_i64 (if a.port=0 then 5060 else a.port) w' (by split <;> omega) (by split <;> omega));have hdl:=digI_len (n:=if a.port=0 then 5060 else a.port) (by split <;> omega);have HR:Hid (whoH a=a.host++[58]++digI (if a.port=0 then 5060 else a.port)):=show _=_ from rfl
 have hbx:=boxV_new w a q;have hb0:Below w.heap.size w (w.alloc (objV a q)):=(Below.refl _ w).alloc (Nat.le_refl _) _;have hlt:=alloc_lt w (objV a q);obtain ⟨a3,c3,rfl⟩:=h3.form;clear h3 hsm hcap;obtain ⟨ho,po,ps⟩:=a;unfold hpV;unfold objV at hb0 hbx hlt;simp only at KD hb0 hbx hlt hpo hho hdl HR ⊢;generalize whoH _=R at HR ⊢;have HBX:=hid hbx;clear hbx;obtain ⟨x0,x1,x2⟩:=HBX.out;simp only at x0 x1 x2;by_cases hp:po=0
 ·rw [if_pos hp] at HR;subst hp;clear KD hdl
  go_enter Tryz.func32,Tryz.ntmps32
  go_wp2;go_ret;exact ⟨by rw [HR.out,digI_5060,← whoglue2]; rfl,hb0⟩
 ·have hp1:(po==0)=false:=by simpa using hp
  rw [if_neg hp] at KD hdl HR;generalize digI _=dl at KD hdl HR;replace x0:=cell_regrown x0;replace x1:=cell_regrown x1;replace x2:=cell_regrown x2;have c:=hid (fun (d:Nat) (os:Array Obj)=>Calls.regrown_of (KD.out (grow (redrawn (w.alloc (.cells #[.string ⟨ho.toArray⟩,.int .i64 po,.slice a3 ps.length c3] 71)) d) os)));clear KD HBX
  go_enter Tryz.func32,Tryz.ntmps32
  go_wp2;refine wp_region_quiet_below followsMixed5 (by kernel_rfl) ?_
  repeat (go_big_quiet_step (with_reducible exact c.out _ _))
  refine wpQuiet_nil ?_
  intro _ hw';obtain ⟨⟨dq,osq⟩,hw''⟩:=hw';subst hw'';have hb1:=below_re5 hb0 dq osq;clear c x0 x1 x2 hb0;go_wp2;go_ret;exact ⟨by rw [HR.out,← whoglue]; rfl,hb1⟩
end Go.Proofs.YtiogedceommcoaaGreatDoor
namespace Go.Proofs.YtiogedceommcoaaGreatDoor
open Go.RowKit Sc
theorem refnumber_list (l:List UInt8) (w:World) (h:l.length≤140737488355328) :
  Calls Tryz.prog 60 #[.string ⟨l.toArray⟩,.int .i64 2147483647] w fun e w'=>e=.returned (.tuple #[.int .i64 (numV maxS l).1,.int .i64 (numV maxS l).2])∧w'=w:=refnumber_any ⟨l.toArray⟩ 2147483647 w (by rw [size_list]; unfold maxLen; omega) (by omega) (by omega)
end Go.Proofs.YtiogedceommcoaaGreatDoor
