/-
  PQ2, PQ3.
-/
import Derived.Test.YtdnekampnkhmfaaGreatDoorPM21
set_option linter.unusedVariables false
set_option linter.unusedSimpArgs false
set_option maxRecDepth 20000
namespace Go.Proofs.YtdnekampnkhmfaaGreatDoor
open Go.RowKit Sc
set_option maxHeartbeats 4000000 in
set_option maxRecDepth 100000 in
theorem ptuple_any (v:Value) (cs:List NdC) (p d:Nat) (t:XT) (w:World) (hs:SubAt (ndsL cs) p d t) (hr:RowD w v cs) :
  Calls Tryz.prog 74 #[v,.int .i64 p] w fun e w'=>TupP (tupleT t) w e w':=by
 have KS:=hid (fun w' (hb:Below w.heap.size w w')=>pstat_any v cs p d t w' hs (hr.below hb));have KK:=hid (fun nm (hnm:nm.length≤1000) w' (hb:Below w.heap.size w w')=>pnamed_any v cs p d t nm w' hs (hr.below hb) hnm);have HND:=hid (fun q dq k (hq:SubAt (ndsL cs) q dq k) w' (hb:Below w.heap.size w w')=>(hr.below hb).node hq);have HSB:=hid (fun nm=>namedP_sub (nm:=nm) hs);have HBAD:=hid (@tup_codebad t);have HYES:=hid (@tup_code t);have HS:=hid hs;generalize tupleT t=R at HBAD HYES ⊢;obtain ⟨ad,cap,a,hvf,hab,hpl,k0,k1,k2,k3,hpa,hsp,_⟩:=hr.node hs;have KA:=hid (fun w' (hb:Below w.heap.size w w')=>xatt_any ⟨d,nameT t,attrsOf t,textOf t⟩ a pidK w' ⟨by have:=hsp.1; simp only; omega,fun p hp=>⟨by have:=(hsp.2 p hp).1; omega,by have:=(hsp.2 p hp).2; omega⟩⟩ (hpa.below hb));simp only [ndV] at KA;obtain ⟨pa,pc,hpf⟩:=hpa.form;obtain ⟨pn,hpn⟩:∃ pn,pn=(attrsOf t).length:=⟨_,rfl⟩
 rw [← hpn] at hpf;subst hpf;have HK0:=hid (fun w' (hb:Below w.heap.size w w')=>cell_below hb (by rw [add_block]; exact hab) k0);have HK1:=hid (fun w' (hb:Below w.heap.size w w')=>cell_below hb (by simp only [add_block]; exact hab) k1);have HK2:=hid (fun w' (hb:Below w.heap.size w w')=>cell_below hb (by simp only [add_block]; exact hab) k2);have HK3:=hid (fun w' (hb:Below w.heap.size w w')=>cell_below hb (by simp only [add_block]; exact hab) k3);have hlen:=hr.len;obtain ⟨cn,hcn⟩:∃ cn,cn=cs.length:=⟨_,rfl⟩
 rw [← hcn] at hvf hlen hpl;have HCN:=hid hcn;subst hvf;have hq0:(p:Int) < (cn:Int):=by omega
 generalize (attG pidK (attrsOf t)).getD []=ID at KA HYES;generalize (attG pidK (attrsOf t)).isSome=IS at KA;generalize nameT t=NM at KA HK1;generalize textOf t=TX at KA HK3;generalize statR t=ST at KS HBAD HYES;obtain ⟨st1,st2⟩:=ST;simp only at KS HBAD HYES;clear k0 k1 k2 k3 hr hs hpa hsp hpn hcn;have h4:=rc_row5 w (.string ⟨#[]⟩) (.bool false) (.string ⟨#[]⟩) (.int .i64 0) (.string ⟨#[]⟩) 56;have hbn:Below w.heap.size w (w.alloc (.cells #[.string ⟨#[]⟩,.bool false,.string ⟨#[]⟩,.int .i64 0,.string ⟨#[]⟩] 56)):=(Below.refl _ w).alloc (Nat.le_refl _) _;have hl0:=alloc_lt w (.cells #[.string ⟨#[]⟩,.bool false,.string ⟨#[]⟩,.int .i64 0,.string ⟨#[]⟩] 56)
 go_enter Tryz.func74,Tryz.ntmps74
 go_wp2_with fail
 generalize World.alloc w _=W0 at h4 hbn hl0 ⊢;refine (KS.out _ hbn).mono ?_
 rintro e w1 ⟨rfl,hw1⟩;have hb1:=hbn.trans (hw1.mono hbn.size);have h41:=h4.below hw1 hl0;have hl1:=Nat.lt_of_lt_of_le hl0 hw1.size;clear KS h4 hbn hl0 hw1;go_wp2_with fail
 refine (KK.out pcontK (by decide) _ hb1).mono ?_
 rintro e w2 ⟨kv,rfl,hownC,hw2⟩;have hb2:=hb1.trans (hw2.mono hb1.size);have h42:=h41.below hw2 hl1;have hl2:=Nat.lt_of_lt_of_le hl1 hw2.size;clear h41 hl1 hw2;obtain ⟨ka,kc,hkf⟩:=own_form hownC;rw [List.length_map] at hkf;subst hkf;go_wp2_with fail
 refine (KK.out noteK (by decide) _ hb2).mono ?_
 rintro e w3 ⟨kv2,rfl,hownN,hw3⟩;have hb3:=hb2.trans (hw3.mono hb2.size);have h43:=h42.below hw3 hl2;have hl3:=Nat.lt_of_lt_of_le hl2 hw3.size;have hownC:=hownC.below hw3;clear h42 hl2 hw3 KK hb1 hb2;obtain ⟨la,lc,hlf⟩:=own_form hownN;rw [List.length_map] at hlf;subst hlf;have hPC:=HSB.out pcontK;have hPN:=HSB.out noteK;have hTC:=fun j=>places_take (nm:=pcontK) (d:=d) (p:=p) (t:=t) j;have hTN:=fun j=>places_take (nm:=noteK) (d:=d) (p:=p) (t:=t) j;have eC:(namedX pcontK (kidsOf t)).length=(placesN pcontK d t p).length:=places_len.symm;have eN:(namedX noteK (kidsOf t)).length=(placesN noteK d t p).length:=places_len.symm;rw [eC,eN] at HBAD HYES
 change ∀ y ∈ placesN pcontK d t p,SubAt (ndsL cs) y.1 (d+1) y.2 at hPC
 change ∀ y ∈ placesN noteK d t p,SubAt (ndsL cs) y.1 (d+1) y.2 at hPN
 generalize namedX pcontK (kidsOf t)=CL at hTC HYES eC;generalize namedX noteK (kidsOf t)=NL at hTN HYES eN;generalize placesN pcontK d t p=PC at hownC hPC hTC eC HBAD HYES ⊢;generalize placesN noteK d t p=PN at hownN hPN hTN eN HBAD HYES ⊢;obtain ⟨nC,hnC⟩:∃ nC,nC=PC.length:=⟨_,rfl⟩
 obtain ⟨nN,hnN⟩:∃ nN,nN=PN.length:=⟨_,rfl⟩
 rw [← hnC,← hnN] at HBAD HYES;rw [← hnC] at hownC ⊢;rw [← hnN] at hownN ⊢;have HNC:=hid hnC;have HNN:=hid hnN;have HTC:=hid hTC;have HTN:=hid hTN;have HPC:=hid hPC;have HPN:=hid hPN;have HOC:=hid hownC;have HON:=hid hownN;have HEC:=hid eC;have HEN:=hid eN;clear hnC hnN hTC hTN hPC hPN hownC hownN HSB HS eC eN;by_cases hgood:st2=true∧nC≤1∧nN≤1
 case neg =>
  have hR:Hid (R=none):=HBAD.out (by
   cases st2 with
   | false=>exact .inl rfl
   | true=>right; have:¬ (nC≤1∧nN≤1):=fun h=>hgood ⟨rfl,h⟩; omega)
  have hcond:st2=false∨(st2=true∧1 < nC)∨(st2=true∧¬ 1 < nC∧1 < nN):=by
   cases st2 with
   | false=>exact .inl rfl
   | true =>
    have:¬ (nC≤1∧nN≤1):=fun h=>hgood ⟨rfl,h⟩
    by_cases h:1 < nC
    ·exact .inr (.inl ⟨rfl,h⟩)
    ·exact .inr (.inr ⟨rfl,h,by omega⟩)
  obtain ⟨d0,d1,d2,d3,d4,g0,g1,g2,g3,g4⟩:=h43.rc5;clear HBAD HYES HND KA hgood HK0 HK1 HK2 HK3;have hr5:=hid (rc_store5 h43 (.string ⟨#[]⟩) (.bool false) (.string ⟨#[]⟩) (.int .i64 0) (.string ⟨#[]⟩));have hb5:=hid (rc_below5 hb3 w.heap.size (Nat.le_refl _) (.string ⟨#[]⟩) (.bool false) (.string ⟨#[]⟩) (.int .i64 0) (.string ⟨#[]⟩))
  rcases hcond with rfl | ⟨rfl,hx⟩ | ⟨rfl,hy,hx⟩
  ·go_wp2;generalize World.setCell _ _ _=w9 at hr5 hb5 ⊢;obtain ⟨e0,e1,e2,e3,e4,_,_,_,_,_⟩:=hr5.out.rc5
   try simp only [Exit.inBlock,Exit.then]
   refine bodyPost_ret (v:=.tuple #[tuV zeroTu,.bool false]) (by simp [results,Tryz.results74,go_sem,e0,e1,e2,e3,e4,tuV,zeroTu]; try rfl) rfl ?_
   exact ⟨zeroTu,false,rfl,by rw [hR.out]; rfl,hb5.out⟩
  ·have qx:(1:Int) < (nC:Int):=by omega
   go_wp2;generalize World.setCell _ _ _=w9 at hr5 hb5 ⊢;obtain ⟨e0,e1,e2,e3,e4,_,_,_,_,_⟩:=hr5.out.rc5
   try simp only [Exit.inBlock,Exit.then]
   refine bodyPost_ret (v:=.tuple #[tuV zeroTu,.bool false]) (by simp [results,Tryz.results74,go_sem,e0,e1,e2,e3,e4,tuV,zeroTu]; try rfl) rfl ?_
   exact ⟨zeroTu,false,rfl,by rw [hR.out]; rfl,hb5.out⟩
  ·have qx:(1:Int) < (nN:Int):=by omega
   have qy:¬ (1:Int) < (nC:Int):=by omega
   go_wp2;generalize World.setCell _ _ _=w9 at hr5 hb5 ⊢;obtain ⟨e0,e1,e2,e3,e4,_,_,_,_,_⟩:=hr5.out.rc5
   try simp only [Exit.inBlock,Exit.then]
   refine bodyPost_ret (v:=.tuple #[tuV zeroTu,.bool false]) (by simp [results,Tryz.results74,go_sem,e0,e1,e2,e3,e4,tuV,zeroTu]; try rfl) rfl ?_
   exact ⟨zeroTu,false,rfl,by rw [hR.out]; rfl,hb5.out⟩
 obtain ⟨rfl,hC1,hN1⟩:=hgood;have HR:=hid (HYES.out rfl hC1 hN1);clear HBAD HYES;have qC:¬ (1:Int) < (nC:Int):=by omega
 have qN:¬ (1:Int) < (nN:Int):=by omega
 have HQ0:=hid (tq_new w3 st1);have hbT:=HQ0.out.bel;have hbw:Below w.heap.size w (w3.alloc (.cells #[.string ⟨#[]⟩,.bool st1,.string ⟨#[]⟩,.int .i64 (-1),.string ⟨#[]⟩] 56)):=hb3.trans (hbT.mono hb3.size);have k0:=HK0.out _ hbw;have k1:=HK1.out _ hbw;have k2:=HK2.out _ hbw;have k3:=HK3.out _ hbw;go_wp2_with fail
 generalize World.alloc w3 _=w4 at HQ0 hbT hbw k0 k1 k2 k3 ⊢;refine (KA.out _ hbw).mono ?_
 rintro e w5 ⟨rfl,hw5⟩;have HQ1:=hid (HQ0.out.below hw5);obtain ⟨c0,c1,c2,c3,c4,f0,f1,f2,f3,f4⟩:=HQ1.out.c5;simp only at c0 c1 c2 c3 c4;have HQ2:=hid (HQ1.out.set (y:=⟨ID,st1,[],-1,[]⟩) 0 (.string ⟨ID.toArray⟩) rfl);clear KA HQ0 hbT hbw hw5 k0 k1 k2 k3 HK0 HK1 HK2 HK3;go_wp2;clear c0 c1 c2 c3 c4 f0 f1 f2 f3 f4 HQ1;generalize World.setCell _ _ _=w6 at HQ2 ⊢
 go_loopw [7,53] (fun ov iv wr=>∃ (j:Nat) (x:Tu) (o:Bool),j≤nC∧iv=.int .i64 j∧ov=.bool o∧TQ w3 wr x∧Hid (contQ ⟨ID,st1,[],-1,[]⟩ (CL.take j)=(x,o))) (fun _ iv _=>nC - (intOf iv).toNat)
 case atStart=>exact ⟨0,_,true,Nat.zero_le _,rfl,rfl,HQ2.out,show _=_ from rfl⟩
 case round =>
  obtain ⟨j,x,o,hj,rfl,rfl,hq,hx⟩:=hrel;by_cases hlt:j < nC
  ·have hj0:j=0:=by omega
   have hC:=hid (show nC=1 by omega);subst hj0;have e0:(⟨ID,st1,[],-1,[]⟩,true)=(x,o):=hx.out
   injection e0 with ex eo
   subst ex eo;have hPl:PC.length=1:=by have:=HNC.out; have:=hC.out; omega
   obtain ⟨y,hy⟩:=List.length_eq_one_iff.1 hPl;obtain ⟨qc,ct⟩:=y;subst hy;have hsub:=HPC.out (qc,ct) (by simp);obtain ⟨g,hka,cj⟩:=own_pos HOC.out 0 (by simp);subst hka;simp only [List.map_cons,List.map_nil,List.getElem_cons_zero] at cj;have hgl:g < w3.heap.size:=World.block_lt_of_cell? _ _ cj;have cj:=cell_below hq.bel hgl cj;have hbr:=hb3.trans (hq.bel.mono hb3.size);obtain ⟨ad2,cap2,a2,hvf2,hab2,hpl2,n0,n1,n2,n3,hpa2,hsp2,htl2⟩:=HND.out qc _ ct hsub wr hbr;have had:ad=ad2:=by injection hvf2 with h _; injection h
   subst had;have hqc:(qc:Int) < (cn:Int):=by have:=HCN.out; omega
   have hTk:Hid (contQ ⟨ID,st1,[],-1,[]⟩ (CL.take 1)=(⟨ID,st1,textOf ct,(prioR (attrsOf ct)).1,[]⟩,(prioR (attrsOf ct)).2)):=show _=_ by rw [← HTC.out 1]; rfl
   obtain ⟨c0,c1,c2,c3,c4,f0,f1,f2,f3,f4⟩:=hq.c5;simp only at c0 c1 c2 c3 c4 hsub n0 n1 n2 n3 hpl2;have HQ3:=hid (hq.set (y:=⟨ID,st1,textOf ct,-1,[]⟩) 2 (.string ⟨(textOf ct).toArray⟩) rfl);have hbr3:Below w.heap.size w (wr.setCell ⟨w3.heap.size,2,none⟩ (.string ⟨(textOf ct).toArray⟩)):=hb3.trans (HQ3.out.bel.mono hb3.size);have hAd:∀ q,(ad.add (q * 4)).block < w.heap.size:=fun q=>by rw [add_block]; exact hab
   clear hvf2 n0 n1 n2 hpa2 hsp2 htl2 hab2 HQ2
   go_upto_region 11 with fail
   clear cj n3 c0 c1 c2 c3 c4 f0 f1 f2 f3 f4 hx hq;generalize World.setCell _ _ _=w7 at HQ3 hbr3 ⊢;obtain ⟨ad3,cap3,a3,hvf3,hab3,hpl3,n0,n1,n2,n3,hpa3,hsp3,htl3⟩:=HND.out qc _ ct hsub w7 hbr3;have had:ad=ad3:=by injection hvf3 with h _; injection h
   subst had;have KP:=hid (pprio_any ⟨((d+1:Nat):Int),nameT ct,attrsOf ct,textOf ct⟩ a3 w7 hsp3 hpa3);obtain ⟨pa3,pc3,hpf3⟩:=hpa3.form;obtain ⟨pn3,hpn3⟩:∃ pn3,pn3=(attrsOf ct).length:=⟨_,rfl⟩
   rw [← hpn3] at hpf3;subst hpf3;simp only [ndV] at KP;clear hvf3 hpa3 hsp3 htl3 hab3 hpn3 hpl3 hpl2;generalize prioR (attrsOf ct)=PR at KP hTk;obtain ⟨pi,pb⟩:=PR;simp only at KP hTk;generalize textOf ct=CT at *;generalize nameT ct=CN at *;go_wp2_with fail
   refine KP.out.mono ?_
   rintro e w8 ⟨rfl,hw8⟩;have HQ4:=hid (HQ3.out.below hw8);have HQ5:=hid (HQ4.out.set (y:=⟨ID,st1,CT,pi,[]⟩) 3 (.int .i64 pi) rfl);obtain ⟨c0,c1,c2,c3,c4,f0,f1,f2,f3,f4⟩:=HQ4.out.c5;simp only at c0 c1 c2 c3 c4;clear KP n0 n1 n2 n3 HQ3 hw8 hbr3;go_wp2;clear c0 c1 c2 c3 c4 f0 f1 f2 f3 f4 HQ4;generalize World.setCell _ _ _=w9 at HQ5 ⊢;go_roundw
   case rel=>exact ⟨1,_,_,by have:=hC.out; omega,by go_num,rfl,HQ5.out,hTk⟩
   case measure=>simp [intOf]; omega
  ·have hjn:j=nC:=by omega
   subst hjn;have hCL:CL.take j=CL:=List.take_of_length_le (by have:=HEC.out; have:=HNC.out; omega);rw [hCL] at hx;have hR2:=hid HR.out;rw [hx.out] at hR2;simp only at hR2;have qj:¬ (j:Int) < (j:Int):=by omega
   clear hlt hx hCL HR HTC HPC HOC HQ2;go_wp2
   go_loopw [75] (fun iv wr=>∃ (m:Nat) (y:Tu),m≤nN∧iv=.int .i64 m∧TQ w3 wr y∧Hid (noteQ x (NL.take m)=y)) (fun iv _=>nN - (intOf iv).toNat)
   case atStart=>exact ⟨0,_,Nat.zero_le _,rfl,hq,show _=_ from rfl⟩
   case round =>
    rename_i wq
    obtain ⟨m,y,hm,rfl,hq2,hy⟩:=hrel;by_cases hlt:m < nN
    ·have hm0:m=0:=by omega
     have hN:=hid (show nN=1 by omega);subst hm0;have e0:x=y:=hy.out;subst e0;have hPl:PN.length=1:=by have:=HNN.out; have:=hN.out; omega
     obtain ⟨z,hz⟩:=List.length_eq_one_iff.1 hPl;obtain ⟨qn,nt⟩:=z;subst hz;have hsub:=HPN.out (qn,nt) (by simp);obtain ⟨g,hla,cj⟩:=own_pos HON.out 0 (by simp);subst hla;simp only [List.map_cons,List.map_nil,List.getElem_cons_zero] at cj;have hgl:g < w3.heap.size:=World.block_lt_of_cell? _ _ cj;have cj:=cell_below hq2.bel hgl cj;have hbr:=hb3.trans (hq2.bel.mono hb3.size);obtain ⟨ad2,cap2,a2,hvf2,hab2,hpl2,n0,n1,n2,n3,hpa2,hsp2,htl2⟩:=HND.out qn _ nt hsub _ hbr;have had:ad=ad2:=by injection hvf2 with h _; injection h
     subst had;have hqn:(qn:Int) < (cn:Int):=by have:=HCN.out; omega
     obtain ⟨xi,xo,xc,xp,xn⟩:=x;have hTk:Hid (noteQ ⟨xi,xo,xc,xp,xn⟩ (NL.take 1)=⟨xi,xo,xc,xp,textOf nt⟩):=show _=_ by rw [← HTN.out 1]; rfl
     obtain ⟨c0,c1,c2,c3,c4,f0,f1,f2,f3,f4⟩:=hq2.c5;simp only at c0 c1 c2 c3 c4 n3;have HQ3:=hid (hq2.set (y:=⟨xi,xo,xc,xp,textOf nt⟩) 4 (.string ⟨(textOf nt).toArray⟩) rfl);generalize textOf nt=NT at *;clear hvf2 n0 n1 n2 hpa2 hsp2 htl2 hab2 hpl2;go_wp2;clear c0 c1 c2 c3 c4 f0 f1 f2 f3 f4 hq2;generalize World.setCell _ _ _=w9 at HQ3 ⊢;go_roundw
     case rel=>exact ⟨1,_,by have:=hN.out; omega,by go_num,HQ3.out,hTk⟩
     case measure=>simp [intOf]; omega
    ·have hmn:m=nN:=by omega
     subst hmn;have hNL:NL.take m=NL:=List.take_of_length_le (by have:=HEN.out; have:=HNN.out; omega);rw [hNL] at hy;rw [hy.out] at hR2;have qj:¬ (m:Int) < (m:Int):=by omega
     have hbr:=hb3.trans (hq2.bel.mono hb3.size);have h44:=h43.below hq2.bel hl3;clear hlt hy hNL HTN HPN HON HND;obtain ⟨yi,yo,yc,yp,yn⟩:=y;obtain ⟨c0,c1,c2,c3,c4,f0,f1,f2,f3,f4⟩:=hq2.c5;obtain ⟨d0,d1,d2,d3,d4,g0,g1,g2,g3,g4⟩:=h44.rc5;simp only at c0 c1 c2 c3 c4;have hr5:=hid (rc_store5 h44 (.string ⟨yi.toArray⟩) (.bool yo) (.string ⟨yc.toArray⟩) (.int .i64 yp) (.string ⟨yn.toArray⟩));have hb5:=hid (rc_below5 hbr w.heap.size (Nat.le_refl _) (.string ⟨yi.toArray⟩) (.bool yo) (.string ⟨yc.toArray⟩) (.int .i64 yp) (.string ⟨yn.toArray⟩));go_wp2;generalize World.setCell _ _ _=w9 at hr5 hb5 ⊢;obtain ⟨e0,e1,e2,e3,e4,_,_,_,_,_⟩:=hr5.out.rc5
     try simp only [Exit.inBlock,Exit.then]
     refine bodyPost_ret (v:=.tuple #[tuV ⟨yi,yo,yc,yp,yn⟩,.bool o]) (by simp [results,Tryz.results74,go_sem,e0,e1,e2,e3,e4,tuV]; try rfl) rfl ?_
     exact ⟨⟨yi,yo,yc,yp,yn⟩,o,rfl,hR2.out,hb5.out⟩
def docR (t:XT):Option Dc :=
 if localX (nameT t) ≠ presenceK∨(entU t).2 ≠ 0 then none
 else match tuplesT (namedX tupleK (kidsOf t)) with
  | none=>none
  | some ts=>some ⟨(whoV (entU t).1).1,ts,notesT (kidsOf t)⟩
theorem docT_is (t:XT):docT t=match docR t with
  | none=>(noD,140)
  | some d=>if checkD d ≠ 0 then (noD,checkD d) else (d,0):=by
 unfold docT docR;by_cases h:(entU t).2 ≠ 0∨localX (nameT t) ≠ presenceK
 ·rw [if_pos h,if_pos (Or.comm.1 h)]
 ·rw [if_neg h,if_neg (fun hh=>h (Or.comm.1 hh))]
  cases tuplesT (namedX tupleK (kidsOf t)) <;> rfl
def DcR (R:Option Dc) (w:World) (e:Ending) (w':World):Prop:=∃ d ts ns ok,e=.returned (.tuple #[docV d ts ns,.bool ok])∧(R=if ok=true then some d else none)∧OwnT w' w.heap.size ts d.tuples∧Own w' w.heap.size 9 ns (strs d.notes)∧Below w.heap.size w w'∧(ok=true → SmallD 1048576 d∧d.entity.length≤257)
structure PE (w wr:World):Prop where
 bel:Below w.heap.size w wr
 r2:RowIs wr w.heap.size 25 [.string ⟨#[]⟩,.slice none 0 0,.slice none 0 0]
theorem PE.lt {w wr:World} (h:PE w wr):w.heap.size < wr.heap.size:=(Array.getElem?_eq_some_iff.1 (show wr.heap[w.heap.size]? = some _ from h.r2)).1
theorem PE.below {w wr w':World} (h:PE w wr) (hb:Below wr.heap.size wr w'):PE w w':=⟨h.bel.trans (hb.mono h.bel.size),h.r2.below hb h.lt⟩
theorem PE.belowC {w wr w':World} {C:Nat} (h:PE w wr) (hC:w.heap.size+1≤C) (hb:Below C wr w'):PE w w':=⟨h.bel.trans (hb.mono (by omega)),h.r2.below hb (by omega)⟩
theorem PE.d3 {w wr:World} (h:PE w wr):RowC3 wr w.heap.size (.string ⟨#[]⟩) (.slice none 0 0) (.slice none 0 0):=h.r2.rc3
theorem pe_new (w:World):PE w (w.alloc (.cells #[.string ⟨#[]⟩,.slice none 0 0,.slice none 0 0] 25)):=⟨(Below.refl _ w).alloc (Nat.le_refl _) _,rc_row3 w (.string ⟨#[]⟩) (.slice none 0 0) (.slice none 0 0) 25⟩
theorem PE.fr {w w9 wr:World} {b:Nat} (h:PE w w9) (hf:FrR b w9 wr) (hb:w.heap.size+1≤b) (hl:b≤w9.heap.size):PE w wr:=h.belowC hb (hf.under (Nat.le_refl _) hl)
theorem smallP_up {B C:Nat} {l:List Par} (h:SmallP B l) (hc:B≤C):SmallP C l:=⟨Nat.le_trans h.1 hc,fun p hp=>⟨Nat.le_trans (h.2 p hp).1 hc,Nat.le_trans (h.2 p hp).2 hc⟩⟩
end Go.Proofs.YtdnekampnkhmfaaGreatDoor
