/-
  PR8.
-/
import Derived.Test.YtdnekampnkhmfaaGreatDoorPM19
set_option linter.unusedVariables false
set_option linter.unusedSimpArgs false
set_option maxRecDepth 20000
namespace Go.Proofs.YtdnekampnkhmfaaGreatDoor
open Go.RowKit Sc
set_option maxHeartbeats 4000000 in
set_option maxRecDepth 100000 in
theorem rtuple_any (v:Value) (cs:List NdC) (p d:Nat) (t:XT) (w:World) (hs:SubAt (ndsL cs) p d t) (hr:RowD w v cs) :
  Calls Tryz.prog 41 #[v,.int .i64 p] w fun e w'=>TupP (tupleT t) w e w':=by
 have KK:=hid (fun nm (hnm:nm.length≤1000) q dq k (hq:SubAt (ndsL cs) q dq k) w' (hb:Below w.heap.size w w')=>rkids14_any v cs q dq k nm w' hq (hr.below hb) hnm);have HND:=hid (fun q dq k (hq:SubAt (ndsL cs) q dq k)=>hr.node hq);have HSB:=hid (fun nm q dq k (hq:SubAt (ndsL cs) q dq k)=>namedP_sub (nm:=nm) hq);have HN1:=hid (@tup_no1 t);have HN2:=hid (fun st h1 h2=>@tup_no2 t st h1 h2);have HY:=hid (fun st b h1 h2=>@tup_yes t st b h1 h2);obtain ⟨ad,cap,a,hvf,hab,hpl,c0,c1,c2,c3,hpa,hsp,htl⟩:=hr.node hs;have KA:=hid (fun w' (hb:Below w.heap.size w w')=>rattG_any ⟨d,nameT t,attrsOf t,textOf t⟩ a pidK w' (by have:=hsp.1; simp only; omega) (hpa.below hb));simp only [ndV,attV_is] at KA;have hlen:=hr.len;obtain ⟨pa,pc,hpf⟩:=hpa.form;obtain ⟨pn,hpn⟩:∃ pn,pn=(attrsOf t).length:=⟨_,rfl⟩
 rw [← hpn] at hpf;obtain ⟨cn,hcn⟩:∃ cn,cn=cs.length:=⟨_,rfl⟩
 rw [← hcn] at hvf hpl hlen;have HCN:=hid hcn;subst hvf hpf;have HS:=hid hs;have HTB:=hid (tb_new w);have b0:=cell_below (tb_new w).bel (by rw [add_block]; exact hab) c0;have b1:=cell_below (tb_new w).bel (by simp only [add_block]; exact hab) c1;have b2:=cell_below (tb_new w).bel (by simp only [add_block]; exact hab) c2;have b3:=cell_below (tb_new w).bel (by simp only [add_block]; exact hab) c3;have hq0:(p:Int) < (cn:Int):=by omega
 clear hpn hcn hr hs hpa hsp c0 c1 c2 c3;generalize (attG pidK (attrsOf t)).getD []=ID at KA HY;generalize (attG pidK (attrsOf t)).isSome=IS at KA;generalize tupleT t=R at HN1 HN2 HY ⊢;generalize nameT t=NM at KA b1;generalize textOf t=TX at KA b3 htl
 go_enter Tryz.func41,Tryz.ntmps41
 go_wp2_with fail
 generalize World.alloc (World.alloc w _) _=W1 at HTB b0 b1 b2 b3 ⊢;refine (KA.out _ HTB.out.bel).mono ?_
 rintro e w2 ⟨rfl,hw2⟩;have HTB:=hid (HTB.out.below hw2);obtain ⟨c0,c1,c2,c3,c4,f0,f1,f2,f3,f4⟩:=HTB.out.c5;simp only at c0 c1 c2 c3 c4;have HTB2:=hid (HTB.out.set (y:=⟨ID,false,[],-1,[]⟩) 0 (.string ⟨ID.toArray⟩) rfl);clear b0 b1 b2 b3 KA hw2;go_wp2_with fail
 clear HTB c0 c1 c2 c3 c4 f0 f1 f2 f3 f4;generalize World.setCell _ _ _=w3 at HTB2 ⊢;refine (KK.out pstatK (by decide) p d t HS.out w3 HTB2.out.bel).mono ?_
 rintro e w4 ⟨kv,rfl,hown,hw4⟩;have HTB:=hid (HTB2.out.below hw4);clear HTB2;obtain ⟨ka,kc,hkf⟩:=own_form hown;rw [List.length_map] at hkf;by_cases hl1:(placesN pstatK d t p).length=1
 case neg =>
  have hR:=hid (HN1.out (by rw [← places_len (d:=d) (p:=p)]; exact hl1));generalize (placesN pstatK d t p).length=n1 at hkf hl1;subst hkf;have q1:((n1:Int) != 1)=true:=by simp; omega
  clear hown hw4 HN1 HN2 HY hl1;obtain ⟨c0,c1,c2,c3,c4,f0,f1,f2,f3,f4⟩:=HTB.out.c5;obtain ⟨d0,d1,d2,d3,d4,g0,g1,g2,g3,g4⟩:=HTB.out.d5;simp only at c0 c1 c2 c3 c4;go_wp2;have hr5:=rc_store5 (show RowIs _ w.heap.size 56 [.string ⟨#[]⟩,.bool false,.string ⟨#[]⟩,.int .i64 0,.string ⟨#[]⟩] from HTB.out.r4) (.string ⟨ID.toArray⟩) (.bool false) (.string ⟨([]:List UInt8).toArray⟩) (.int .i64 (-1)) (.string ⟨([]:List UInt8).toArray⟩);have hb5:=rc_below5 HTB.out.bel w.heap.size (Nat.le_refl _) (.string ⟨ID.toArray⟩) (.bool false) (.string ⟨([]:List UInt8).toArray⟩) (.int .i64 (-1)) (.string ⟨([]:List UInt8).toArray⟩);generalize World.setCell _ _ _=w5 at hr5 hb5 ⊢;obtain ⟨e0,e1,e2,e3,e4,_,_,_,_,_⟩:=hr5.rc5
  try simp only [Exit.inBlock,Exit.then]
  refine bodyPost_ret (v:=.tuple #[tuV ⟨ID,false,([]:List UInt8),(-1),([]:List UInt8)⟩,.bool false]) (by simp [results,Tryz.results41,go_sem,e0,e1,e2,e3,e4,tuV]; try rfl) rfl ?_
  exact ⟨⟨ID,false,([]:List UInt8),(-1),([]:List UInt8)⟩,false,rfl,by rw [hR.out]; rfl,hb5⟩
 obtain ⟨q1,st,hq1,hst⟩:=places_one hl1;have hsub1:=HSB.out pstatK p d t HS.out (q1,st) (by rw [show namedP pstatK (startsP (d+1) (kidsOf t) (p+1))=[(q1,st)] from hq1]; simp);rw [hq1] at hown hkf;simp only [List.map_cons,List.map_nil] at hown;obtain ⟨g1,kc1,hkv,hc1,hg1⟩:=own_single hown;subst hkv;have hq1n:q1 < cn:=by have h1:=sub_lt hsub1; rw [ndsL_len] at h1; have h2:=HCN.out; omega
 have hq1i:(q1:Int) < (cn:Int):=by omega
 have HS1:=hid hsub1;have hHN2:=hid (HN2.out st hst);have hHY:=hid (fun b=>HY.out st b hst);clear hkf hown hsub1 hq1 hl1 HN1 HN2 HY hst hw4 hg1;go_wp2_with fail
 refine (KK.out basicK (by decide) q1 (d+1) st HS1.out w4 HTB.out.bel).mono ?_
 rintro e w5 ⟨kv,rfl,hown,hw5⟩;have HTB2:=hid (HTB.out.below hw5);clear HTB hc1;obtain ⟨ka2,kc2,hkf⟩:=own_form hown;rw [List.length_map] at hkf;by_cases hl1:(placesN basicK (d+1) st q1).length=1
 case neg =>
  have hR:=hid (hHN2.out (by rw [← places_len (d:=d+1) (p:=q1)]; exact hl1));generalize (placesN basicK (d+1) st q1).length=n1 at hkf hl1;subst hkf;have q1:((n1:Int) != 1)=true:=by simp; omega
  have HTB:=HTB2;clear hown hw5 hHN2 hHY hl1;obtain ⟨c0,c1,c2,c3,c4,f0,f1,f2,f3,f4⟩:=HTB.out.c5;obtain ⟨d0,d1,d2,d3,d4,g0,g1,g2,g3,g4⟩:=HTB.out.d5;simp only at c0 c1 c2 c3 c4;go_wp2;have hr5:=rc_store5 (show RowIs _ w.heap.size 56 [.string ⟨#[]⟩,.bool false,.string ⟨#[]⟩,.int .i64 0,.string ⟨#[]⟩] from HTB.out.r4) (.string ⟨ID.toArray⟩) (.bool false) (.string ⟨([]:List UInt8).toArray⟩) (.int .i64 (-1)) (.string ⟨([]:List UInt8).toArray⟩);have hb5:=rc_below5 HTB.out.bel w.heap.size (Nat.le_refl _) (.string ⟨ID.toArray⟩) (.bool false) (.string ⟨([]:List UInt8).toArray⟩) (.int .i64 (-1)) (.string ⟨([]:List UInt8).toArray⟩);generalize World.setCell _ _ _=w5 at hr5 hb5 ⊢;obtain ⟨e0,e1,e2,e3,e4,_,_,_,_,_⟩:=hr5.rc5
  try simp only [Exit.inBlock,Exit.then]
  refine bodyPost_ret (v:=.tuple #[tuV ⟨ID,false,([]:List UInt8),(-1),([]:List UInt8)⟩,.bool false]) (by simp [results,Tryz.results41,go_sem,e0,e1,e2,e3,e4,tuV]; try rfl) rfl ?_
  exact ⟨⟨ID,false,([]:List UInt8),(-1),([]:List UInt8)⟩,false,rfl,by rw [hR.out]; rfl,hb5⟩
 obtain ⟨q2,bt,hq2,hbt⟩:=places_one hl1;have hsub2:=HSB.out basicK q1 (d+1) st HS1.out (q2,bt) (by rw [show namedP basicK (startsP (d+1+1) (kidsOf st) (q1+1))=[(q2,bt)] from hq2]; simp);rw [hq2] at hown hkf;simp only [List.map_cons,List.map_nil] at hown;obtain ⟨g2,kc3,hkv,hc2,hg2⟩:=own_single hown;subst hkv;have hR0:=hid (hHY.out bt hbt);obtain ⟨ad2,cap2,a2,hvf2,_,hpl2,_,_,_,t3,_,_,htl2⟩:=HND.out q2 (d+1+1) bt hsub2;simp only [Value.slice.injEq,Option.some.injEq] at hvf2;obtain ⟨rfl,hcnx,rfl⟩:=hvf2;clear hcnx;have t3:=cell_below HTB2.out.bel (by simp only [add_block]; exact hab) t3;have hq2i:(q2:Int) < (cn:Int):=by have:=HCN.out; omega
 clear hkf hown hq2 hl1 hHN2 hHY hbt hw5 hg2 hsub2 hpl2;generalize textOf bt=B at t3 htl2 hR0;by_cases hno:B ≠ openK∧B ≠ closedK
 ·have hR:Hid (R=none):=show _=_ by rw [hR0.out,if_pos hno]
  have o1:(B==[111,112,101,110])=false:=by rw [beq_eq_false_iff_ne]; exact hno.1
  have o2:(B==[99,108,111,115,101,100])=false:=by rw [beq_eq_false_iff_ne]; exact hno.2
  have o1n:(B != [111,112,101,110])=true:=by rw [bne,o1]; rfl
  have o2n:(B != [99,108,111,115,101,100])=true:=by rw [bne,o2]; rfl
  have HTB:=HTB2;clear hR0 hno;obtain ⟨c0,c1,c2,c3,c4,f0,f1,f2,f3,f4⟩:=HTB.out.c5;obtain ⟨d0,d1,d2,d3,d4,g0,g1,g2,g3,g4⟩:=HTB.out.d5;simp only at c0 c1 c2 c3 c4;go_wp2;have hr5:=rc_store5 (show RowIs _ w.heap.size 56 [.string ⟨#[]⟩,.bool false,.string ⟨#[]⟩,.int .i64 0,.string ⟨#[]⟩] from HTB.out.r4) (.string ⟨ID.toArray⟩) (.bool false) (.string ⟨([]:List UInt8).toArray⟩) (.int .i64 (-1)) (.string ⟨([]:List UInt8).toArray⟩);have hb5:=rc_below5 HTB.out.bel w.heap.size (Nat.le_refl _) (.string ⟨ID.toArray⟩) (.bool false) (.string ⟨([]:List UInt8).toArray⟩) (.int .i64 (-1)) (.string ⟨([]:List UInt8).toArray⟩);generalize World.setCell _ _ _=w5 at hr5 hb5 ⊢;obtain ⟨e0,e1,e2,e3,e4,_,_,_,_,_⟩:=hr5.rc5
  try simp only [Exit.inBlock,Exit.then]
  refine bodyPost_ret (v:=.tuple #[tuV ⟨ID,false,([]:List UInt8),(-1),([]:List UInt8)⟩,.bool false]) (by simp [results,Tryz.results41,go_sem,e0,e1,e2,e3,e4,tuV]; try rfl) rfl ?_
  exact ⟨⟨ID,false,([]:List UInt8),(-1),([]:List UInt8)⟩,false,rfl,by rw [hR.out]; rfl,hb5⟩
 have hR1:=hR0.out;rw [if_neg hno] at hR1
 cases hOB:(B==openK) with
 | true =>
  rw [hOB] at hR1;have o1:(B==[111,112,101,110])=true:=hOB;have o1n:(B != [111,112,101,110])=false:=by rw [bne,o1]; rfl
  have HR1:=hid hR1;clear hR0 hno hOB hR1;have HTB3:=hid (HTB2.out.set (y:=⟨ID,true,[],-1,[]⟩) 1 (.bool true) rfl);obtain ⟨c0,c1,c2,c3,c4,f0,f1,f2,f3,f4⟩:=HTB2.out.c5;simp only at c0 c1 c2 c3 c4;go_wp2_with fail
  clear HTB2 c0 c1 c2 c3 c4 f0 f1 f2 f3 f4 t3 hc2;generalize World.setCell _ _ _=w6 at HTB3 ⊢;refine (KK.out pcontK (by decide) p d t HS.out w6 HTB3.out.bel).mono ?_
  rintro e w7 ⟨kvc,rfl,hownC,hw7⟩;have HTB4:=hid (HTB3.out.below hw7);have hlt6:=HTB3.out.lt;obtain ⟨kac,kcc,hkfc⟩:=own_form hownC;rw [List.length_map] at hkfc;have hCl:=places_len (nm:=pcontK) (d:=d) (p:=p) (t:=t);obtain ⟨nC,hnC⟩:∃ nC,nC=(placesN pcontK d t p).length:=⟨_,rfl⟩
  rw [← hnC] at hkfc hCl;have HnC:=hid hnC;have HCl:=hid hCl;subst hkfc;have HOC:=hid hownC;clear HTB3 hw7 hownC hnC hCl;go_wp2_with fail
  refine (KK.out noteK (by decide) p d t HS.out w7 HTB4.out.bel).mono ?_
  rintro e w8 ⟨kvn,rfl,hownN,hw8⟩;have HTB5:=hid (HTB4.out.below hw8);have HOC8:=hid (HOC.out.below hw8);obtain ⟨kan,kcn,hkfn⟩:=own_form hownN;rw [List.length_map] at hkfn;have hNl:=places_len (nm:=noteK) (d:=d) (p:=p) (t:=t);obtain ⟨nN,hnN⟩:∃ nN,nN=(placesN noteK d t p).length:=⟨_,rfl⟩
  rw [← hnN] at hkfn hNl;have HnN:=hid hnN;have HNl:=hid hNl;subst hkfn;have HON:=hid hownN;clear HTB4 hw8 hownN hnN hNl HOC;by_cases hlc:1 < nC
  ·have hR:Hid (R=none):=show _=_ by rw [HR1.out,if_pos (.inl (by rw [← HCl.out]; exact hlc))]
   have l1:(1:Int) < (nC:Int):=by omega
   have HTB:=HTB5;clear HTB5 HR1;obtain ⟨c0,c1,c2,c3,c4,f0,f1,f2,f3,f4⟩:=HTB.out.c5;obtain ⟨d0,d1,d2,d3,d4,g0,g1,g2,g3,g4⟩:=HTB.out.d5;simp only at c0 c1 c2 c3 c4;go_wp2;have hr5:=rc_store5 (show RowIs _ w.heap.size 56 [.string ⟨#[]⟩,.bool false,.string ⟨#[]⟩,.int .i64 0,.string ⟨#[]⟩] from HTB.out.r4) (.string ⟨ID.toArray⟩) (.bool true) (.string ⟨([]:List UInt8).toArray⟩) (.int .i64 (-1)) (.string ⟨([]:List UInt8).toArray⟩);have hb5:=rc_below5 HTB.out.bel w.heap.size (Nat.le_refl _) (.string ⟨ID.toArray⟩) (.bool true) (.string ⟨([]:List UInt8).toArray⟩) (.int .i64 (-1)) (.string ⟨([]:List UInt8).toArray⟩);generalize World.setCell _ _ _=w5 at hr5 hb5 ⊢;obtain ⟨e0,e1,e2,e3,e4,_,_,_,_,_⟩:=hr5.rc5
   try simp only [Exit.inBlock,Exit.then]
   refine bodyPost_ret (v:=.tuple #[tuV ⟨ID,true,([]:List UInt8),(-1),([]:List UInt8)⟩,.bool false]) (by simp [results,Tryz.results41,go_sem,e0,e1,e2,e3,e4,tuV]; try rfl) rfl ?_
   exact ⟨⟨ID,true,([]:List UInt8),(-1),([]:List UInt8)⟩,false,rfl,by rw [hR.out]; rfl,hb5⟩
  have l1:¬ (1:Int) < (nC:Int):=by omega
  by_cases hln:1 < nN
  ·have hR:Hid (R=none):=show _=_ by rw [HR1.out,if_pos (.inr (by rw [← HNl.out]; exact hln))]
   have l2:(1:Int) < (nN:Int):=by omega
   have HTB:=HTB5;clear HTB5 HR1;obtain ⟨c0,c1,c2,c3,c4,f0,f1,f2,f3,f4⟩:=HTB.out.c5;obtain ⟨d0,d1,d2,d3,d4,g0,g1,g2,g3,g4⟩:=HTB.out.d5;simp only at c0 c1 c2 c3 c4;go_wp2;have hr5:=rc_store5 (show RowIs _ w.heap.size 56 [.string ⟨#[]⟩,.bool false,.string ⟨#[]⟩,.int .i64 0,.string ⟨#[]⟩] from HTB.out.r4) (.string ⟨ID.toArray⟩) (.bool true) (.string ⟨([]:List UInt8).toArray⟩) (.int .i64 (-1)) (.string ⟨([]:List UInt8).toArray⟩);have hb5:=rc_below5 HTB.out.bel w.heap.size (Nat.le_refl _) (.string ⟨ID.toArray⟩) (.bool true) (.string ⟨([]:List UInt8).toArray⟩) (.int .i64 (-1)) (.string ⟨([]:List UInt8).toArray⟩);generalize World.setCell _ _ _=w5 at hr5 hb5 ⊢;obtain ⟨e0,e1,e2,e3,e4,_,_,_,_,_⟩:=hr5.rc5
   try simp only [Exit.inBlock,Exit.then]
   refine bodyPost_ret (v:=.tuple #[tuV ⟨ID,true,([]:List UInt8),(-1),([]:List UInt8)⟩,.bool false]) (by simp [results,Tryz.results41,go_sem,e0,e1,e2,e3,e4,tuV]; try rfl) rfl ?_
   exact ⟨⟨ID,true,([]:List UInt8),(-1),([]:List UInt8)⟩,false,rfl,by rw [hR.out]; rfl,hb5⟩
  have l2:¬ (1:Int) < (nN:Int):=by omega
  have hR2:=HR1.out;rw [if_neg (by rw [← HCl.out,← HNl.out]; omega)] at hR2;have HR2:=hid hR2;clear HR1 hR2;by_cases hn1:nN=1
  ·subst hn1;obtain ⟨qn,nt,hqn,hnt⟩:=places_one HnN.out.symm;have hsubN:=HSB.out noteK p d t HS.out (qn,nt) (by rw [show namedP noteK (startsP (d+1) (kidsOf t) (p+1))=[(qn,nt)] from hqn]; simp);have hON:=HON.out;rw [hqn] at hON;simp only [List.map_cons,List.map_nil] at hON;obtain ⟨gn,kcn2,hkv,hcn8,hgn⟩:=own_single hON;simp only [Value.slice.injEq,true_and] at hkv;obtain ⟨rfl,rfl⟩:=hkv;obtain ⟨ad3,cap3,a3,hvf3,_,hpl3,_,_,_,t3,_,_,htl3⟩:=HND.out qn (d+1) nt hsubN;simp only [Value.slice.injEq,Option.some.injEq] at hvf3;obtain ⟨rfl,hcnx,rfl⟩:=hvf3;clear hcnx;have t3:=cell_below HTB5.out.bel (by simp only [add_block]; exact hab) t3;have hqni:(qn:Int) < (cn:Int):=by have:=HCN.out; omega
   have hR3:=HR2.out;rw [hnt] at hR3;simp only [List.head?_cons,Option.map_some,Option.getD_some] at hR3;generalize textOf nt=NT at t3 htl3 hR3;have HR3:=hid hR3;have HTB6:=hid (HTB5.out.set (y:=⟨ID,true,[],-1,NT⟩) 4 (.string ⟨NT.toArray⟩) rfl);have HOC9:=hid (ownsRow_setCell_other HOC8.out (a:=⟨w.heap.size+1,4,none⟩) (fun e=>by have:=(World.ownsRow.lt HOC8.out _ e).1; simp only at this; omega) (.string ⟨NT.toArray⟩));obtain ⟨c0,c1,c2,c3,c4,f0,f1,f2,f3,f4⟩:=HTB5.out.c5;simp only at c0 c1 c2 c3 c4;clear HR2 hR3 hON hqn hnt hsubN hpl3 HON HnN HNl HOC8 hgn
   go_upto_region 19 with fail
   clear HTB5 c0 c1 c2 c3 c4 f0 f1 f2 f3 f4 t3 hcn8;generalize World.setCell _ _ _=w9 at HTB6 HOC9 ⊢;by_cases hc1:nC=1
   ·subst hc1;obtain ⟨qc,ct,hqc,hct⟩:=places_one HnC.out.symm;have hsubC:=HSB.out pcontK p d t HS.out (qc,ct) (by rw [show namedP pcontK (startsP (d+1) (kidsOf t) (p+1))=[(qc,ct)] from hqc]; simp);have hOC:=HOC9.out;rw [hqc] at hOC;simp only [List.map_cons,List.map_nil] at hOC;obtain ⟨gc,kcc2,hkv,hcc,hgc⟩:=own_single hOC;simp only [Value.slice.injEq,true_and] at hkv;obtain ⟨rfl,rfl⟩:=hkv;obtain ⟨ad4,cap4,a4,hvf4,_,hpl4,n0,n1,n2,n3,hpa4,hsp4,htl4⟩:=HND.out qc (d+1) ct hsubC;simp only [Value.slice.injEq,Option.some.injEq] at hvf4;obtain ⟨rfl,hcnx,rfl⟩:=hvf4;clear hcnx;have hqci:(qc:Int) < (cn:Int):=by have:=HCN.out; omega
    have hR4:=HR3.out;unfold contP at hR4;rw [hct] at hR4;simp only at hR4;have KA2:=hid (fun w' (hb:Below w.heap.size w w')=>rattG_any ⟨((d+1:Nat):Int),nameT ct,attrsOf ct,textOf ct⟩ a4 priorityK w' (by have:=hsp4.1; simp only; omega) (hpa4.below hb));simp only [ndV] at KA2;obtain ⟨pa4,pc4,hpf4⟩:=hpa4.form;obtain ⟨pn4,hpn4⟩:∃ pn4,pn4=(attrsOf ct).length:=⟨_,rfl⟩
    rw [← hpn4] at hpf4;subst hpf4;have hbdP:∀ pv,attG priorityK (attrsOf ct)=some pv → pv.length≤1048576:=fun pv h=>attG_small hsp4 h;generalize nameT ct=CN at KA2 n1;generalize textOf ct=CT at KA2 n3 hR4 htl4;have HTB7:=hid (HTB6.out.set (y:=⟨ID,true,CT,-1,NT⟩) 2 (.string ⟨CT.toArray⟩) rfl);have m3:=cell_below HTB6.out.bel (by simp only [add_block]; exact hab) n3;have x0:=cell_below HTB7.out.bel (by rw [add_block]; exact hab) n0;have x1:=cell_below HTB7.out.bel (by simp only [add_block]; exact hab) n1;have x2:=cell_below HTB7.out.bel (by simp only [add_block]; exact hab) n2;have x3:=cell_below HTB7.out.bel (by simp only [add_block]; exact hab) n3;have hOC10:=ownsRow_setCell_other hOC (a:=⟨w.heap.size+1,2,none⟩) (fun e=>by have:=(World.ownsRow.lt hOC _ e).1; simp only at this; omega) (.string ⟨CT.toArray⟩);obtain ⟨gc2,kcc3,hkv2,hcc10,_⟩:=own_single hOC10;simp only [Value.slice.injEq,Option.some.injEq,Addr.mk.injEq,and_true,true_and] at hkv2;obtain ⟨rfl,rfl⟩:=hkv2;have HP:=hid hpn4;have HBP:=hid hbdP;have HR4:=hid hR4;obtain ⟨c0,c1,c2,c3,c4,f0,f1,f2,f3,f4⟩:=HTB6.out.c5;simp only at c0 c1 c2 c3 c4;clear hpa4 hsp4 n0 n1 n2 n3 hR4 HR3 hbdP hpn4 hOC hOC10 hqc hct hsubC hpl4 HnC HCl hgc
    go_upto_region 21 with fail
    clear c0 c1 c2 c3 c4 f0 f1 f2 f3 f4 m3 hcc;generalize World.setCell _ _ _=w10 at HTB7 x0 x1 x2 x3 hcc10 ⊢;go_wp2_with fail
    refine (KA2.out _ HTB7.out.bel).mono ?_
    rintro e w11 ⟨rfl,hw11⟩;have HTB8:=hid (HTB7.out.below hw11);clear HTB7 x0 x1 x2 x3 hcc10 hw11 KA2
    cases hP:attG priorityK (attrsOf ct) with
    | none =>
     have HRS:Hid (R=some ⟨ID,true,CT,-1,NT⟩):=show _=_ by rw [HR4.out,hP]; rfl
     have HTB:=HTB8;rw [attV];clear hP HR4 HTB8 HBP HP;obtain ⟨c0,c1,c2,c3,c4,f0,f1,f2,f3,f4⟩:=HTB.out.c5;obtain ⟨d0,d1,d2,d3,d4,g0,g1,g2,g3,g4⟩:=HTB.out.d5;simp only at c0 c1 c2 c3 c4;go_wp2;have hr5:=rc_store5 (show RowIs _ w.heap.size 56 [.string ⟨#[]⟩,.bool false,.string ⟨#[]⟩,.int .i64 0,.string ⟨#[]⟩] from HTB.out.r4) (.string ⟨ID.toArray⟩) (.bool true) (.string ⟨CT.toArray⟩) (.int .i64 (-1)) (.string ⟨NT.toArray⟩);have hb5:=rc_below5 HTB.out.bel w.heap.size (Nat.le_refl _) (.string ⟨ID.toArray⟩) (.bool true) (.string ⟨CT.toArray⟩) (.int .i64 (-1)) (.string ⟨NT.toArray⟩);generalize World.setCell _ _ _=w5 at hr5 hb5 ⊢;obtain ⟨e0,e1,e2,e3,e4,_,_,_,_,_⟩:=hr5.rc5
     try simp only [Exit.inBlock,Exit.then]
     refine bodyPost_ret (v:=.tuple #[tuV ⟨ID,true,CT,(-1),NT⟩,.bool true]) (by simp [results,Tryz.results41,go_sem,e0,e1,e2,e3,e4,tuV]; try rfl) rfl ?_
     exact ⟨⟨ID,true,CT,(-1),NT⟩,true,rfl,by rw [HRS.out]; rfl,hb5⟩
    | some pv =>
     have hpvl:=HBP.out pv hP;have KT:=hid (fun w'=>rthou_any pv w' (by omega));have HRS:Hid (R=if thouV pv < 0 then none else some ⟨ID,true,CT,thouV pv,NT⟩):=show _=_ by
      rw [HR4.out,hP]
      simp only
      split <;> rfl
     rw [attV];clear hP HR4 HBP HP;generalize thouV pv=TV at KT HRS;go_wp2_with fail
     refine (KT.out _).mono ?_
     rintro e w12 ⟨rfl,q,rfl⟩;have HTB9:=hid (HTB8.out.below (below_drewN w11 q));have HTB10:=hid (HTB9.out.set (y:=⟨ID,true,CT,TV,NT⟩) 3 (.int .i64 TV) rfl);obtain ⟨c0,c1,c2,c3,c4,f0,f1,f2,f3,f4⟩:=HTB9.out.c5;simp only at c0 c1 c2 c3 c4;clear HTB8 KT
     go_upto_region 24 with fail
     clear c0 c1 c2 c3 c4 f0 f1 f2 f3 f4 HTB9;generalize World.setCell _ _ _=w13 at HTB10 ⊢;obtain ⟨c0,c1,c2,c3,c4,f0,f1,f2,f3,f4⟩:=HTB10.out.c5;obtain ⟨d0,d1,d2,d3,d4,g0,g1,g2,g3,g4⟩:=HTB10.out.d5;simp only at c0 c1 c2 c3 c4;have hr5:=rc_store5 (show RowIs _ w.heap.size 56 [.string ⟨#[]⟩,.bool false,.string ⟨#[]⟩,.int .i64 0,.string ⟨#[]⟩] from HTB10.out.r4) (.string ⟨ID.toArray⟩) (.bool true) (.string ⟨CT.toArray⟩) (.int .i64 TV) (.string ⟨NT.toArray⟩);have hb5:=rc_below5 HTB10.out.bel w.heap.size (Nat.le_refl _) (.string ⟨ID.toArray⟩) (.bool true) (.string ⟨CT.toArray⟩) (.int .i64 TV) (.string ⟨NT.toArray⟩);have HR5:=hid hr5;have HB5:=hid hb5;clear hr5 hb5
     go_region
     all_goals
      clear c0 c1 c2 c3 c4 f0 f1 f2 f3 f4 d0 d1 d2 d3 d4 g0 g1 g2 g3 g4;generalize World.setCell _ _ _=w5 at HR5 HB5 ⊢;obtain ⟨e0,e1,e2,e3,e4,_,_,_,_,_⟩:=HR5.out.rc5;go_wp2
      try simp only [Exit.inBlock,Exit.then]
      refine bodyPost_ret (v:=.tuple #[tuV ⟨ID,true,CT,TV,NT⟩,.bool (decide (0≤TV))]) (by simp [results,Tryz.results41,go_sem,e0,e1,e2,e3,e4,tuV]; try rfl) rfl ?_
      refine ⟨⟨ID,true,CT,TV,NT⟩,decide (0≤TV),rfl,?_,HB5.out.drew⟩
      rw [HRS.out];by_cases hneg:TV < 0
      ·rw [if_pos hneg,decide_eq_false (by omega)]; rfl
      ·rw [if_neg hneg,decide_eq_true (by omega)]; rfl
   ·have hc0:nC=0:=by omega
    subst hc0;obtain ⟨hqc,hct⟩:=places_nil HnC.out.symm;have hR4:=HR3.out;unfold contP at hR4;rw [hct] at hR4;have HRS:Hid (R=some ⟨ID,true,[],-1,NT⟩):=hR4;have HTB:=HTB6;clear hR4 HR3 hqc hct HTB6;obtain ⟨c0,c1,c2,c3,c4,f0,f1,f2,f3,f4⟩:=HTB.out.c5;obtain ⟨d0,d1,d2,d3,d4,g0,g1,g2,g3,g4⟩:=HTB.out.d5;simp only at c0 c1 c2 c3 c4;go_wp2;have hr5:=rc_store5 (show RowIs _ w.heap.size 56 [.string ⟨#[]⟩,.bool false,.string ⟨#[]⟩,.int .i64 0,.string ⟨#[]⟩] from HTB.out.r4) (.string ⟨ID.toArray⟩) (.bool true) (.string ⟨([]:List UInt8).toArray⟩) (.int .i64 (-1)) (.string ⟨NT.toArray⟩);have hb5:=rc_below5 HTB.out.bel w.heap.size (Nat.le_refl _) (.string ⟨ID.toArray⟩) (.bool true) (.string ⟨([]:List UInt8).toArray⟩) (.int .i64 (-1)) (.string ⟨NT.toArray⟩);generalize World.setCell _ _ _=w5 at hr5 hb5 ⊢;obtain ⟨e0,e1,e2,e3,e4,_,_,_,_,_⟩:=hr5.rc5
    try simp only [Exit.inBlock,Exit.then]
    refine bodyPost_ret (v:=.tuple #[tuV ⟨ID,true,([]:List UInt8),(-1),NT⟩,.bool true]) (by simp [results,Tryz.results41,go_sem,e0,e1,e2,e3,e4,tuV]; try rfl) rfl ?_
    exact ⟨⟨ID,true,([]:List UInt8),(-1),NT⟩,true,rfl,by rw [HRS.out]; rfl,hb5⟩
  ·have hn0:nN=0:=by omega
   subst hn0;obtain ⟨hqn,hnt⟩:=places_nil HnN.out.symm;have hR3:=HR2.out;rw [hnt] at hR3;simp only [List.head?_nil,Option.map_none,Option.getD_none] at hR3;have HR3:=hid hR3;clear HR2 hR3 hqn hnt HON HnN HNl;by_cases hc1:nC=1
   ·subst hc1;obtain ⟨qc,ct,hqc,hct⟩:=places_one HnC.out.symm;have hsubC:=HSB.out pcontK p d t HS.out (qc,ct) (by rw [show namedP pcontK (startsP (d+1) (kidsOf t) (p+1))=[(qc,ct)] from hqc]; simp);have hOC:=HOC8.out;rw [hqc] at hOC;simp only [List.map_cons,List.map_nil] at hOC;obtain ⟨gc,kcc2,hkv,hcc,hgc⟩:=own_single hOC;simp only [Value.slice.injEq,true_and] at hkv;obtain ⟨rfl,rfl⟩:=hkv;obtain ⟨ad4,cap4,a4,hvf4,_,hpl4,n0,n1,n2,n3,hpa4,hsp4,htl4⟩:=HND.out qc (d+1) ct hsubC;simp only [Value.slice.injEq,Option.some.injEq] at hvf4;obtain ⟨rfl,hcnx,rfl⟩:=hvf4;clear hcnx;have hqci:(qc:Int) < (cn:Int):=by have:=HCN.out; omega
    have hR4:=HR3.out;unfold contP at hR4;rw [hct] at hR4;simp only at hR4;have KA2:=hid (fun w' (hb:Below w.heap.size w w')=>rattG_any ⟨((d+1:Nat):Int),nameT ct,attrsOf ct,textOf ct⟩ a4 priorityK w' (by have:=hsp4.1; simp only; omega) (hpa4.below hb));simp only [ndV] at KA2;obtain ⟨pa4,pc4,hpf4⟩:=hpa4.form;obtain ⟨pn4,hpn4⟩:∃ pn4,pn4=(attrsOf ct).length:=⟨_,rfl⟩
    rw [← hpn4] at hpf4;subst hpf4;have hbdP:∀ pv,attG priorityK (attrsOf ct)=some pv → pv.length≤1048576:=fun pv h=>attG_small hsp4 h;generalize nameT ct=CN at KA2 n1;generalize textOf ct=CT at KA2 n3 hR4 htl4;have HTB7:=hid (HTB5.out.set (y:=⟨ID,true,CT,-1,([]:List UInt8)⟩) 2 (.string ⟨CT.toArray⟩) rfl);have m3:=cell_below HTB5.out.bel (by simp only [add_block]; exact hab) n3;have x0:=cell_below HTB7.out.bel (by rw [add_block]; exact hab) n0;have x1:=cell_below HTB7.out.bel (by simp only [add_block]; exact hab) n1;have x2:=cell_below HTB7.out.bel (by simp only [add_block]; exact hab) n2;have x3:=cell_below HTB7.out.bel (by simp only [add_block]; exact hab) n3;have hOC10:=ownsRow_setCell_other hOC (a:=⟨w.heap.size+1,2,none⟩) (fun e=>by have:=(World.ownsRow.lt hOC _ e).1; simp only at this; omega) (.string ⟨CT.toArray⟩);obtain ⟨gc2,kcc3,hkv2,hcc10,_⟩:=own_single hOC10;simp only [Value.slice.injEq,Option.some.injEq,Addr.mk.injEq,and_true,true_and] at hkv2;obtain ⟨rfl,rfl⟩:=hkv2;have HP:=hid hpn4;have HBP:=hid hbdP;have HR4:=hid hR4;obtain ⟨c0,c1,c2,c3,c4,f0,f1,f2,f3,f4⟩:=HTB5.out.c5;simp only at c0 c1 c2 c3 c4;clear hpa4 hsp4 n0 n1 n2 n3 hR4 HR3 hbdP hpn4 hOC hOC10 hqc hct hsubC hpl4 HnC HCl hgc
    go_upto_region 21 with fail
    clear c0 c1 c2 c3 c4 f0 f1 f2 f3 f4 m3 hcc;generalize World.setCell _ _ _=w10 at HTB7 x0 x1 x2 x3 hcc10 ⊢;go_wp2_with fail
    refine (KA2.out _ HTB7.out.bel).mono ?_
    rintro e w11 ⟨rfl,hw11⟩;have HTB8:=hid (HTB7.out.below hw11);clear HTB7 x0 x1 x2 x3 hcc10 hw11 KA2
    cases hP:attG priorityK (attrsOf ct) with
    | none =>
     have HRS:Hid (R=some ⟨ID,true,CT,-1,([]:List UInt8)⟩):=show _=_ by rw [HR4.out,hP]; rfl
     have HTB:=HTB8;rw [attV];clear hP HR4 HTB8 HBP HP;obtain ⟨c0,c1,c2,c3,c4,f0,f1,f2,f3,f4⟩:=HTB.out.c5;obtain ⟨d0,d1,d2,d3,d4,g0,g1,g2,g3,g4⟩:=HTB.out.d5;simp only at c0 c1 c2 c3 c4;go_wp2;have hr5:=rc_store5 (show RowIs _ w.heap.size 56 [.string ⟨#[]⟩,.bool false,.string ⟨#[]⟩,.int .i64 0,.string ⟨#[]⟩] from HTB.out.r4) (.string ⟨ID.toArray⟩) (.bool true) (.string ⟨CT.toArray⟩) (.int .i64 (-1)) (.string ⟨([]:List UInt8).toArray⟩);have hb5:=rc_below5 HTB.out.bel w.heap.size (Nat.le_refl _) (.string ⟨ID.toArray⟩) (.bool true) (.string ⟨CT.toArray⟩) (.int .i64 (-1)) (.string ⟨([]:List UInt8).toArray⟩);generalize World.setCell _ _ _=w5 at hr5 hb5 ⊢;obtain ⟨e0,e1,e2,e3,e4,_,_,_,_,_⟩:=hr5.rc5
     try simp only [Exit.inBlock,Exit.then]
     refine bodyPost_ret (v:=.tuple #[tuV ⟨ID,true,CT,(-1),([]:List UInt8)⟩,.bool true]) (by simp [results,Tryz.results41,go_sem,e0,e1,e2,e3,e4,tuV]; try rfl) rfl ?_
     exact ⟨⟨ID,true,CT,(-1),([]:List UInt8)⟩,true,rfl,by rw [HRS.out]; rfl,hb5⟩
    | some pv =>
     have hpvl:=HBP.out pv hP;have KT:=hid (fun w'=>rthou_any pv w' (by omega));have HRS:Hid (R=if thouV pv < 0 then none else some ⟨ID,true,CT,thouV pv,([]:List UInt8)⟩):=show _=_ by
      rw [HR4.out,hP]
      simp only
      split <;> rfl
     rw [attV];clear hP HR4 HBP HP;generalize thouV pv=TV at KT HRS;go_wp2_with fail
     refine (KT.out _).mono ?_
     rintro e w12 ⟨rfl,q,rfl⟩;have HTB9:=hid (HTB8.out.below (below_drewN w11 q));have HTB10:=hid (HTB9.out.set (y:=⟨ID,true,CT,TV,([]:List UInt8)⟩) 3 (.int .i64 TV) rfl);obtain ⟨c0,c1,c2,c3,c4,f0,f1,f2,f3,f4⟩:=HTB9.out.c5;simp only at c0 c1 c2 c3 c4;clear HTB8 KT
     go_upto_region 24 with fail
     clear c0 c1 c2 c3 c4 f0 f1 f2 f3 f4 HTB9;generalize World.setCell _ _ _=w13 at HTB10 ⊢;obtain ⟨c0,c1,c2,c3,c4,f0,f1,f2,f3,f4⟩:=HTB10.out.c5;obtain ⟨d0,d1,d2,d3,d4,g0,g1,g2,g3,g4⟩:=HTB10.out.d5;simp only at c0 c1 c2 c3 c4;have hr5:=rc_store5 (show RowIs _ w.heap.size 56 [.string ⟨#[]⟩,.bool false,.string ⟨#[]⟩,.int .i64 0,.string ⟨#[]⟩] from HTB10.out.r4) (.string ⟨ID.toArray⟩) (.bool true) (.string ⟨CT.toArray⟩) (.int .i64 TV) (.string ⟨([]:List UInt8).toArray⟩);have hb5:=rc_below5 HTB10.out.bel w.heap.size (Nat.le_refl _) (.string ⟨ID.toArray⟩) (.bool true) (.string ⟨CT.toArray⟩) (.int .i64 TV) (.string ⟨([]:List UInt8).toArray⟩);have HR5:=hid hr5;have HB5:=hid hb5;clear hr5 hb5
     go_region
     all_goals
      clear c0 c1 c2 c3 c4 f0 f1 f2 f3 f4 d0 d1 d2 d3 d4 g0 g1 g2 g3 g4;generalize World.setCell _ _ _=w5 at HR5 HB5 ⊢;obtain ⟨e0,e1,e2,e3,e4,_,_,_,_,_⟩:=HR5.out.rc5;go_wp2
      try simp only [Exit.inBlock,Exit.then]
      refine bodyPost_ret (v:=.tuple #[tuV ⟨ID,true,CT,TV,([]:List UInt8)⟩,.bool (decide (0≤TV))]) (by simp [results,Tryz.results41,go_sem,e0,e1,e2,e3,e4,tuV]; try rfl) rfl ?_
      refine ⟨⟨ID,true,CT,TV,([]:List UInt8)⟩,decide (0≤TV),rfl,?_,HB5.out.drew⟩
      rw [HRS.out];by_cases hneg:TV < 0
      ·rw [if_pos hneg,decide_eq_false (by omega)]; rfl
      ·rw [if_neg hneg,decide_eq_true (by omega)]; rfl
   ·have hc0:nC=0:=by omega
    subst hc0;obtain ⟨hqc,hct⟩:=places_nil HnC.out.symm;have hR4:=HR3.out;unfold contP at hR4;rw [hct] at hR4;have HRS:Hid (R=some ⟨ID,true,[],-1,([]:List UInt8)⟩):=hR4;have HTB:=HTB5;clear hR4 HR3 hqc hct HTB5;obtain ⟨c0,c1,c2,c3,c4,f0,f1,f2,f3,f4⟩:=HTB.out.c5;obtain ⟨d0,d1,d2,d3,d4,g0,g1,g2,g3,g4⟩:=HTB.out.d5;simp only at c0 c1 c2 c3 c4;go_wp2;have hr5:=rc_store5 (show RowIs _ w.heap.size 56 [.string ⟨#[]⟩,.bool false,.string ⟨#[]⟩,.int .i64 0,.string ⟨#[]⟩] from HTB.out.r4) (.string ⟨ID.toArray⟩) (.bool true) (.string ⟨([]:List UInt8).toArray⟩) (.int .i64 (-1)) (.string ⟨([]:List UInt8).toArray⟩);have hb5:=rc_below5 HTB.out.bel w.heap.size (Nat.le_refl _) (.string ⟨ID.toArray⟩) (.bool true) (.string ⟨([]:List UInt8).toArray⟩) (.int .i64 (-1)) (.string ⟨([]:List UInt8).toArray⟩);generalize World.setCell _ _ _=w5 at hr5 hb5 ⊢;obtain ⟨e0,e1,e2,e3,e4,_,_,_,_,_⟩:=hr5.rc5
    try simp only [Exit.inBlock,Exit.then]
    refine bodyPost_ret (v:=.tuple #[tuV ⟨ID,true,([]:List UInt8),(-1),([]:List UInt8)⟩,.bool true]) (by simp [results,Tryz.results41,go_sem,e0,e1,e2,e3,e4,tuV]; try rfl) rfl ?_
    exact ⟨⟨ID,true,([]:List UInt8),(-1),([]:List UInt8)⟩,true,rfl,by rw [HRS.out]; rfl,hb5⟩
 | false =>
  rw [hOB] at hR1;have o1:(B==[111,112,101,110])=false:=hOB;have o1n:(B != [111,112,101,110])=true:=by rw [bne,o1]; rfl
  have o2:(B==[99,108,111,115,101,100])=true:=by
   rw [beq_iff_eq]
   apply Classical.byContradiction
   intro h;exact hno ⟨by rw [beq_eq_false_iff_ne] at hOB; exact hOB,h⟩
  have o2n:(B != [99,108,111,115,101,100])=false:=by rw [bne,o2]; rfl
  have HR1:=hid hR1;clear hR0 hno hOB hR1;have HTB3:=hid (HTB2.out.set (y:=⟨ID,false,[],-1,[]⟩) 1 (.bool false) rfl);obtain ⟨c0,c1,c2,c3,c4,f0,f1,f2,f3,f4⟩:=HTB2.out.c5;simp only at c0 c1 c2 c3 c4;go_wp2_with fail
  clear HTB2 c0 c1 c2 c3 c4 f0 f1 f2 f3 f4 t3 hc2;generalize World.setCell _ _ _=w6 at HTB3 ⊢;refine (KK.out pcontK (by decide) p d t HS.out w6 HTB3.out.bel).mono ?_
  rintro e w7 ⟨kvc,rfl,hownC,hw7⟩;have HTB4:=hid (HTB3.out.below hw7);have hlt6:=HTB3.out.lt;obtain ⟨kac,kcc,hkfc⟩:=own_form hownC;rw [List.length_map] at hkfc;have hCl:=places_len (nm:=pcontK) (d:=d) (p:=p) (t:=t);obtain ⟨nC,hnC⟩:∃ nC,nC=(placesN pcontK d t p).length:=⟨_,rfl⟩
  rw [← hnC] at hkfc hCl;have HnC:=hid hnC;have HCl:=hid hCl;subst hkfc;have HOC:=hid hownC;clear HTB3 hw7 hownC hnC hCl;go_wp2_with fail
  refine (KK.out noteK (by decide) p d t HS.out w7 HTB4.out.bel).mono ?_
  rintro e w8 ⟨kvn,rfl,hownN,hw8⟩;have HTB5:=hid (HTB4.out.below hw8);have HOC8:=hid (HOC.out.below hw8);obtain ⟨kan,kcn,hkfn⟩:=own_form hownN;rw [List.length_map] at hkfn;have hNl:=places_len (nm:=noteK) (d:=d) (p:=p) (t:=t);obtain ⟨nN,hnN⟩:∃ nN,nN=(placesN noteK d t p).length:=⟨_,rfl⟩
  rw [← hnN] at hkfn hNl;have HnN:=hid hnN;have HNl:=hid hNl;subst hkfn;have HON:=hid hownN;clear HTB4 hw8 hownN hnN hNl HOC;by_cases hlc:1 < nC
  ·have hR:Hid (R=none):=show _=_ by rw [HR1.out,if_pos (.inl (by rw [← HCl.out]; exact hlc))]
   have l1:(1:Int) < (nC:Int):=by omega
   have HTB:=HTB5;clear HTB5 HR1;obtain ⟨c0,c1,c2,c3,c4,f0,f1,f2,f3,f4⟩:=HTB.out.c5;obtain ⟨d0,d1,d2,d3,d4,g0,g1,g2,g3,g4⟩:=HTB.out.d5;simp only at c0 c1 c2 c3 c4;go_wp2;have hr5:=rc_store5 (show RowIs _ w.heap.size 56 [.string ⟨#[]⟩,.bool false,.string ⟨#[]⟩,.int .i64 0,.string ⟨#[]⟩] from HTB.out.r4) (.string ⟨ID.toArray⟩) (.bool false) (.string ⟨([]:List UInt8).toArray⟩) (.int .i64 (-1)) (.string ⟨([]:List UInt8).toArray⟩);have hb5:=rc_below5 HTB.out.bel w.heap.size (Nat.le_refl _) (.string ⟨ID.toArray⟩) (.bool false) (.string ⟨([]:List UInt8).toArray⟩) (.int .i64 (-1)) (.string ⟨([]:List UInt8).toArray⟩);generalize World.setCell _ _ _=w5 at hr5 hb5 ⊢;obtain ⟨e0,e1,e2,e3,e4,_,_,_,_,_⟩:=hr5.rc5
   try simp only [Exit.inBlock,Exit.then]
   refine bodyPost_ret (v:=.tuple #[tuV ⟨ID,false,([]:List UInt8),(-1),([]:List UInt8)⟩,.bool false]) (by simp [results,Tryz.results41,go_sem,e0,e1,e2,e3,e4,tuV]; try rfl) rfl ?_
   exact ⟨⟨ID,false,([]:List UInt8),(-1),([]:List UInt8)⟩,false,rfl,by rw [hR.out]; rfl,hb5⟩
  have l1:¬ (1:Int) < (nC:Int):=by omega
  by_cases hln:1 < nN
  ·have hR:Hid (R=none):=show _=_ by rw [HR1.out,if_pos (.inr (by rw [← HNl.out]; exact hln))]
   have l2:(1:Int) < (nN:Int):=by omega
   have HTB:=HTB5;clear HTB5 HR1;obtain ⟨c0,c1,c2,c3,c4,f0,f1,f2,f3,f4⟩:=HTB.out.c5;obtain ⟨d0,d1,d2,d3,d4,g0,g1,g2,g3,g4⟩:=HTB.out.d5;simp only at c0 c1 c2 c3 c4;go_wp2;have hr5:=rc_store5 (show RowIs _ w.heap.size 56 [.string ⟨#[]⟩,.bool false,.string ⟨#[]⟩,.int .i64 0,.string ⟨#[]⟩] from HTB.out.r4) (.string ⟨ID.toArray⟩) (.bool false) (.string ⟨([]:List UInt8).toArray⟩) (.int .i64 (-1)) (.string ⟨([]:List UInt8).toArray⟩);have hb5:=rc_below5 HTB.out.bel w.heap.size (Nat.le_refl _) (.string ⟨ID.toArray⟩) (.bool false) (.string ⟨([]:List UInt8).toArray⟩) (.int .i64 (-1)) (.string ⟨([]:List UInt8).toArray⟩);generalize World.setCell _ _ _=w5 at hr5 hb5 ⊢;obtain ⟨e0,e1,e2,e3,e4,_,_,_,_,_⟩:=hr5.rc5
   try simp only [Exit.inBlock,Exit.then]
   refine bodyPost_ret (v:=.tuple #[tuV ⟨ID,false,([]:List UInt8),(-1),([]:List UInt8)⟩,.bool false]) (by simp [results,Tryz.results41,go_sem,e0,e1,e2,e3,e4,tuV]; try rfl) rfl ?_
   exact ⟨⟨ID,false,([]:List UInt8),(-1),([]:List UInt8)⟩,false,rfl,by rw [hR.out]; rfl,hb5⟩
  have l2:¬ (1:Int) < (nN:Int):=by omega
  have hR2:=HR1.out;rw [if_neg (by rw [← HCl.out,← HNl.out]; omega)] at hR2;have HR2:=hid hR2;clear HR1 hR2;by_cases hn1:nN=1
  ·subst hn1;obtain ⟨qn,nt,hqn,hnt⟩:=places_one HnN.out.symm;have hsubN:=HSB.out noteK p d t HS.out (qn,nt) (by rw [show namedP noteK (startsP (d+1) (kidsOf t) (p+1))=[(qn,nt)] from hqn]; simp);have hON:=HON.out;rw [hqn] at hON;simp only [List.map_cons,List.map_nil] at hON;obtain ⟨gn,kcn2,hkv,hcn8,hgn⟩:=own_single hON;simp only [Value.slice.injEq,true_and] at hkv;obtain ⟨rfl,rfl⟩:=hkv;obtain ⟨ad3,cap3,a3,hvf3,_,hpl3,_,_,_,t3,_,_,htl3⟩:=HND.out qn (d+1) nt hsubN;simp only [Value.slice.injEq,Option.some.injEq] at hvf3;obtain ⟨rfl,hcnx,rfl⟩:=hvf3;clear hcnx;have t3:=cell_below HTB5.out.bel (by simp only [add_block]; exact hab) t3;have hqni:(qn:Int) < (cn:Int):=by have:=HCN.out; omega
   have hR3:=HR2.out;rw [hnt] at hR3;simp only [List.head?_cons,Option.map_some,Option.getD_some] at hR3;generalize textOf nt=NT at t3 htl3 hR3;have HR3:=hid hR3;have HTB6:=hid (HTB5.out.set (y:=⟨ID,false,[],-1,NT⟩) 4 (.string ⟨NT.toArray⟩) rfl);have HOC9:=hid (ownsRow_setCell_other HOC8.out (a:=⟨w.heap.size+1,4,none⟩) (fun e=>by have:=(World.ownsRow.lt HOC8.out _ e).1; simp only at this; omega) (.string ⟨NT.toArray⟩));obtain ⟨c0,c1,c2,c3,c4,f0,f1,f2,f3,f4⟩:=HTB5.out.c5;simp only at c0 c1 c2 c3 c4;clear HR2 hR3 hON hqn hnt hsubN hpl3 HON HnN HNl HOC8 hgn
   go_upto_region 19 with fail
   clear HTB5 c0 c1 c2 c3 c4 f0 f1 f2 f3 f4 t3 hcn8;generalize World.setCell _ _ _=w9 at HTB6 HOC9 ⊢;by_cases hc1:nC=1
   ·subst hc1;obtain ⟨qc,ct,hqc,hct⟩:=places_one HnC.out.symm;have hsubC:=HSB.out pcontK p d t HS.out (qc,ct) (by rw [show namedP pcontK (startsP (d+1) (kidsOf t) (p+1))=[(qc,ct)] from hqc]; simp);have hOC:=HOC9.out;rw [hqc] at hOC;simp only [List.map_cons,List.map_nil] at hOC;obtain ⟨gc,kcc2,hkv,hcc,hgc⟩:=own_single hOC;simp only [Value.slice.injEq,true_and] at hkv;obtain ⟨rfl,rfl⟩:=hkv;obtain ⟨ad4,cap4,a4,hvf4,_,hpl4,n0,n1,n2,n3,hpa4,hsp4,htl4⟩:=HND.out qc (d+1) ct hsubC;simp only [Value.slice.injEq,Option.some.injEq] at hvf4;obtain ⟨rfl,hcnx,rfl⟩:=hvf4;clear hcnx;have hqci:(qc:Int) < (cn:Int):=by have:=HCN.out; omega
    have hR4:=HR3.out;unfold contP at hR4;rw [hct] at hR4;simp only at hR4;have KA2:=hid (fun w' (hb:Below w.heap.size w w')=>rattG_any ⟨((d+1:Nat):Int),nameT ct,attrsOf ct,textOf ct⟩ a4 priorityK w' (by have:=hsp4.1; simp only; omega) (hpa4.below hb));simp only [ndV] at KA2;obtain ⟨pa4,pc4,hpf4⟩:=hpa4.form;obtain ⟨pn4,hpn4⟩:∃ pn4,pn4=(attrsOf ct).length:=⟨_,rfl⟩
    rw [← hpn4] at hpf4;subst hpf4;have hbdP:∀ pv,attG priorityK (attrsOf ct)=some pv → pv.length≤1048576:=fun pv h=>attG_small hsp4 h;generalize nameT ct=CN at KA2 n1;generalize textOf ct=CT at KA2 n3 hR4 htl4;have HTB7:=hid (HTB6.out.set (y:=⟨ID,false,CT,-1,NT⟩) 2 (.string ⟨CT.toArray⟩) rfl);have m3:=cell_below HTB6.out.bel (by simp only [add_block]; exact hab) n3;have x0:=cell_below HTB7.out.bel (by rw [add_block]; exact hab) n0;have x1:=cell_below HTB7.out.bel (by simp only [add_block]; exact hab) n1;have x2:=cell_below HTB7.out.bel (by simp only [add_block]; exact hab) n2;have x3:=cell_below HTB7.out.bel (by simp only [add_block]; exact hab) n3;have hOC10:=ownsRow_setCell_other hOC (a:=⟨w.heap.size+1,2,none⟩) (fun e=>by have:=(World.ownsRow.lt hOC _ e).1; simp only at this; omega) (.string ⟨CT.toArray⟩);obtain ⟨gc2,kcc3,hkv2,hcc10,_⟩:=own_single hOC10;simp only [Value.slice.injEq,Option.some.injEq,Addr.mk.injEq,and_true,true_and] at hkv2;obtain ⟨rfl,rfl⟩:=hkv2;have HP:=hid hpn4;have HBP:=hid hbdP;have HR4:=hid hR4;obtain ⟨c0,c1,c2,c3,c4,f0,f1,f2,f3,f4⟩:=HTB6.out.c5;simp only at c0 c1 c2 c3 c4;clear hpa4 hsp4 n0 n1 n2 n3 hR4 HR3 hbdP hpn4 hOC hOC10 hqc hct hsubC hpl4 HnC HCl hgc
    go_upto_region 21 with fail
    clear c0 c1 c2 c3 c4 f0 f1 f2 f3 f4 m3 hcc;generalize World.setCell _ _ _=w10 at HTB7 x0 x1 x2 x3 hcc10 ⊢;go_wp2_with fail
    refine (KA2.out _ HTB7.out.bel).mono ?_
    rintro e w11 ⟨rfl,hw11⟩;have HTB8:=hid (HTB7.out.below hw11);clear HTB7 x0 x1 x2 x3 hcc10 hw11 KA2
    cases hP:attG priorityK (attrsOf ct) with
    | none =>
     have HRS:Hid (R=some ⟨ID,false,CT,-1,NT⟩):=show _=_ by rw [HR4.out,hP]; rfl
     have HTB:=HTB8;rw [attV];clear hP HR4 HTB8 HBP HP;obtain ⟨c0,c1,c2,c3,c4,f0,f1,f2,f3,f4⟩:=HTB.out.c5;obtain ⟨d0,d1,d2,d3,d4,g0,g1,g2,g3,g4⟩:=HTB.out.d5;simp only at c0 c1 c2 c3 c4;go_wp2;have hr5:=rc_store5 (show RowIs _ w.heap.size 56 [.string ⟨#[]⟩,.bool false,.string ⟨#[]⟩,.int .i64 0,.string ⟨#[]⟩] from HTB.out.r4) (.string ⟨ID.toArray⟩) (.bool false) (.string ⟨CT.toArray⟩) (.int .i64 (-1)) (.string ⟨NT.toArray⟩);have hb5:=rc_below5 HTB.out.bel w.heap.size (Nat.le_refl _) (.string ⟨ID.toArray⟩) (.bool false) (.string ⟨CT.toArray⟩) (.int .i64 (-1)) (.string ⟨NT.toArray⟩);generalize World.setCell _ _ _=w5 at hr5 hb5 ⊢;obtain ⟨e0,e1,e2,e3,e4,_,_,_,_,_⟩:=hr5.rc5
     try simp only [Exit.inBlock,Exit.then]
     refine bodyPost_ret (v:=.tuple #[tuV ⟨ID,false,CT,(-1),NT⟩,.bool true]) (by simp [results,Tryz.results41,go_sem,e0,e1,e2,e3,e4,tuV]; try rfl) rfl ?_
     exact ⟨⟨ID,false,CT,(-1),NT⟩,true,rfl,by rw [HRS.out]; rfl,hb5⟩
    | some pv =>
     have hpvl:=HBP.out pv hP;have KT:=hid (fun w'=>rthou_any pv w' (by omega));have HRS:Hid (R=if thouV pv < 0 then none else some ⟨ID,false,CT,thouV pv,NT⟩):=show _=_ by
      rw [HR4.out,hP]
      simp only
      split <;> rfl
     rw [attV];clear hP HR4 HBP HP;generalize thouV pv=TV at KT HRS;go_wp2_with fail
     refine (KT.out _).mono ?_
     rintro e w12 ⟨rfl,q,rfl⟩;have HTB9:=hid (HTB8.out.below (below_drewN w11 q));have HTB10:=hid (HTB9.out.set (y:=⟨ID,false,CT,TV,NT⟩) 3 (.int .i64 TV) rfl);obtain ⟨c0,c1,c2,c3,c4,f0,f1,f2,f3,f4⟩:=HTB9.out.c5;simp only at c0 c1 c2 c3 c4;clear HTB8 KT
     go_upto_region 24 with fail
     clear c0 c1 c2 c3 c4 f0 f1 f2 f3 f4 HTB9;generalize World.setCell _ _ _=w13 at HTB10 ⊢;obtain ⟨c0,c1,c2,c3,c4,f0,f1,f2,f3,f4⟩:=HTB10.out.c5;obtain ⟨d0,d1,d2,d3,d4,g0,g1,g2,g3,g4⟩:=HTB10.out.d5;simp only at c0 c1 c2 c3 c4;have hr5:=rc_store5 (show RowIs _ w.heap.size 56 [.string ⟨#[]⟩,.bool false,.string ⟨#[]⟩,.int .i64 0,.string ⟨#[]⟩] from HTB10.out.r4) (.string ⟨ID.toArray⟩) (.bool false) (.string ⟨CT.toArray⟩) (.int .i64 TV) (.string ⟨NT.toArray⟩);have hb5:=rc_below5 HTB10.out.bel w.heap.size (Nat.le_refl _) (.string ⟨ID.toArray⟩) (.bool false) (.string ⟨CT.toArray⟩) (.int .i64 TV) (.string ⟨NT.toArray⟩);have HR5:=hid hr5;have HB5:=hid hb5;clear hr5 hb5
     go_region
     all_goals
      clear c0 c1 c2 c3 c4 f0 f1 f2 f3 f4 d0 d1 d2 d3 d4 g0 g1 g2 g3 g4;generalize World.setCell _ _ _=w5 at HR5 HB5 ⊢;obtain ⟨e0,e1,e2,e3,e4,_,_,_,_,_⟩:=HR5.out.rc5;go_wp2
      try simp only [Exit.inBlock,Exit.then]
      refine bodyPost_ret (v:=.tuple #[tuV ⟨ID,false,CT,TV,NT⟩,.bool (decide (0≤TV))]) (by simp [results,Tryz.results41,go_sem,e0,e1,e2,e3,e4,tuV]; try rfl) rfl ?_
      refine ⟨⟨ID,false,CT,TV,NT⟩,decide (0≤TV),rfl,?_,HB5.out.drew⟩
      rw [HRS.out];by_cases hneg:TV < 0
      ·rw [if_pos hneg,decide_eq_false (by omega)]; rfl
      ·rw [if_neg hneg,decide_eq_true (by omega)]; rfl
   ·have hc0:nC=0:=by omega
    subst hc0;obtain ⟨hqc,hct⟩:=places_nil HnC.out.symm;have hR4:=HR3.out;unfold contP at hR4;rw [hct] at hR4;have HRS:Hid (R=some ⟨ID,false,[],-1,NT⟩):=hR4;have HTB:=HTB6;clear hR4 HR3 hqc hct HTB6;obtain ⟨c0,c1,c2,c3,c4,f0,f1,f2,f3,f4⟩:=HTB.out.c5;obtain ⟨d0,d1,d2,d3,d4,g0,g1,g2,g3,g4⟩:=HTB.out.d5;simp only at c0 c1 c2 c3 c4;go_wp2;have hr5:=rc_store5 (show RowIs _ w.heap.size 56 [.string ⟨#[]⟩,.bool false,.string ⟨#[]⟩,.int .i64 0,.string ⟨#[]⟩] from HTB.out.r4) (.string ⟨ID.toArray⟩) (.bool false) (.string ⟨([]:List UInt8).toArray⟩) (.int .i64 (-1)) (.string ⟨NT.toArray⟩);have hb5:=rc_below5 HTB.out.bel w.heap.size (Nat.le_refl _) (.string ⟨ID.toArray⟩) (.bool false) (.string ⟨([]:List UInt8).toArray⟩) (.int .i64 (-1)) (.string ⟨NT.toArray⟩);generalize World.setCell _ _ _=w5 at hr5 hb5 ⊢;obtain ⟨e0,e1,e2,e3,e4,_,_,_,_,_⟩:=hr5.rc5
    try simp only [Exit.inBlock,Exit.then]
    refine bodyPost_ret (v:=.tuple #[tuV ⟨ID,false,([]:List UInt8),(-1),NT⟩,.bool true]) (by simp [results,Tryz.results41,go_sem,e0,e1,e2,e3,e4,tuV]; try rfl) rfl ?_
    exact ⟨⟨ID,false,([]:List UInt8),(-1),NT⟩,true,rfl,by rw [HRS.out]; rfl,hb5⟩
  ·have hn0:nN=0:=by omega
   subst hn0;obtain ⟨hqn,hnt⟩:=places_nil HnN.out.symm;have hR3:=HR2.out;rw [hnt] at hR3;simp only [List.head?_nil,Option.map_none,Option.getD_none] at hR3;have HR3:=hid hR3;clear HR2 hR3 hqn hnt HON HnN HNl;by_cases hc1:nC=1
   ·subst hc1;obtain ⟨qc,ct,hqc,hct⟩:=places_one HnC.out.symm;have hsubC:=HSB.out pcontK p d t HS.out (qc,ct) (by rw [show namedP pcontK (startsP (d+1) (kidsOf t) (p+1))=[(qc,ct)] from hqc]; simp);have hOC:=HOC8.out;rw [hqc] at hOC;simp only [List.map_cons,List.map_nil] at hOC;obtain ⟨gc,kcc2,hkv,hcc,hgc⟩:=own_single hOC;simp only [Value.slice.injEq,true_and] at hkv;obtain ⟨rfl,rfl⟩:=hkv;obtain ⟨ad4,cap4,a4,hvf4,_,hpl4,n0,n1,n2,n3,hpa4,hsp4,htl4⟩:=HND.out qc (d+1) ct hsubC;simp only [Value.slice.injEq,Option.some.injEq] at hvf4;obtain ⟨rfl,hcnx,rfl⟩:=hvf4;clear hcnx;have hqci:(qc:Int) < (cn:Int):=by have:=HCN.out; omega
    have hR4:=HR3.out;unfold contP at hR4;rw [hct] at hR4;simp only at hR4;have KA2:=hid (fun w' (hb:Below w.heap.size w w')=>rattG_any ⟨((d+1:Nat):Int),nameT ct,attrsOf ct,textOf ct⟩ a4 priorityK w' (by have:=hsp4.1; simp only; omega) (hpa4.below hb));simp only [ndV] at KA2;obtain ⟨pa4,pc4,hpf4⟩:=hpa4.form;obtain ⟨pn4,hpn4⟩:∃ pn4,pn4=(attrsOf ct).length:=⟨_,rfl⟩
    rw [← hpn4] at hpf4;subst hpf4;have hbdP:∀ pv,attG priorityK (attrsOf ct)=some pv → pv.length≤1048576:=fun pv h=>attG_small hsp4 h;generalize nameT ct=CN at KA2 n1;generalize textOf ct=CT at KA2 n3 hR4 htl4;have HTB7:=hid (HTB5.out.set (y:=⟨ID,false,CT,-1,([]:List UInt8)⟩) 2 (.string ⟨CT.toArray⟩) rfl);have m3:=cell_below HTB5.out.bel (by simp only [add_block]; exact hab) n3;have x0:=cell_below HTB7.out.bel (by rw [add_block]; exact hab) n0;have x1:=cell_below HTB7.out.bel (by simp only [add_block]; exact hab) n1;have x2:=cell_below HTB7.out.bel (by simp only [add_block]; exact hab) n2;have x3:=cell_below HTB7.out.bel (by simp only [add_block]; exact hab) n3;have hOC10:=ownsRow_setCell_other hOC (a:=⟨w.heap.size+1,2,none⟩) (fun e=>by have:=(World.ownsRow.lt hOC _ e).1; simp only at this; omega) (.string ⟨CT.toArray⟩);obtain ⟨gc2,kcc3,hkv2,hcc10,_⟩:=own_single hOC10;simp only [Value.slice.injEq,Option.some.injEq,Addr.mk.injEq,and_true,true_and] at hkv2;obtain ⟨rfl,rfl⟩:=hkv2;have HP:=hid hpn4;have HBP:=hid hbdP;have HR4:=hid hR4;obtain ⟨c0,c1,c2,c3,c4,f0,f1,f2,f3,f4⟩:=HTB5.out.c5;simp only at c0 c1 c2 c3 c4;clear hpa4 hsp4 n0 n1 n2 n3 hR4 HR3 hbdP hpn4 hOC hOC10 hqc hct hsubC hpl4 HnC HCl hgc
    go_upto_region 21 with fail
    clear c0 c1 c2 c3 c4 f0 f1 f2 f3 f4 m3 hcc;generalize World.setCell _ _ _=w10 at HTB7 x0 x1 x2 x3 hcc10 ⊢;go_wp2_with fail
    refine (KA2.out _ HTB7.out.bel).mono ?_
    rintro e w11 ⟨rfl,hw11⟩;have HTB8:=hid (HTB7.out.below hw11);clear HTB7 x0 x1 x2 x3 hcc10 hw11 KA2
    cases hP:attG priorityK (attrsOf ct) with
    | none =>
     have HRS:Hid (R=some ⟨ID,false,CT,-1,([]:List UInt8)⟩):=show _=_ by rw [HR4.out,hP]; rfl
     have HTB:=HTB8;rw [attV];clear hP HR4 HTB8 HBP HP;obtain ⟨c0,c1,c2,c3,c4,f0,f1,f2,f3,f4⟩:=HTB.out.c5;obtain ⟨d0,d1,d2,d3,d4,g0,g1,g2,g3,g4⟩:=HTB.out.d5;simp only at c0 c1 c2 c3 c4;go_wp2;have hr5:=rc_store5 (show RowIs _ w.heap.size 56 [.string ⟨#[]⟩,.bool false,.string ⟨#[]⟩,.int .i64 0,.string ⟨#[]⟩] from HTB.out.r4) (.string ⟨ID.toArray⟩) (.bool false) (.string ⟨CT.toArray⟩) (.int .i64 (-1)) (.string ⟨([]:List UInt8).toArray⟩);have hb5:=rc_below5 HTB.out.bel w.heap.size (Nat.le_refl _) (.string ⟨ID.toArray⟩) (.bool false) (.string ⟨CT.toArray⟩) (.int .i64 (-1)) (.string ⟨([]:List UInt8).toArray⟩);generalize World.setCell _ _ _=w5 at hr5 hb5 ⊢;obtain ⟨e0,e1,e2,e3,e4,_,_,_,_,_⟩:=hr5.rc5
     try simp only [Exit.inBlock,Exit.then]
     refine bodyPost_ret (v:=.tuple #[tuV ⟨ID,false,CT,(-1),([]:List UInt8)⟩,.bool true]) (by simp [results,Tryz.results41,go_sem,e0,e1,e2,e3,e4,tuV]; try rfl) rfl ?_
     exact ⟨⟨ID,false,CT,(-1),([]:List UInt8)⟩,true,rfl,by rw [HRS.out]; rfl,hb5⟩
    | some pv =>
     have hpvl:=HBP.out pv hP;have KT:=hid (fun w'=>rthou_any pv w' (by omega));have HRS:Hid (R=if thouV pv < 0 then none else some ⟨ID,false,CT,thouV pv,([]:List UInt8)⟩):=show _=_ by
      rw [HR4.out,hP]
      simp only
      split <;> rfl
     rw [attV];clear hP HR4 HBP HP;generalize thouV pv=TV at KT HRS;go_wp2_with fail
     refine (KT.out _).mono ?_
     rintro e w12 ⟨rfl,q,rfl⟩;have HTB9:=hid (HTB8.out.below (below_drewN w11 q));have HTB10:=hid (HTB9.out.set (y:=⟨ID,false,CT,TV,([]:List UInt8)⟩) 3 (.int .i64 TV) rfl);obtain ⟨c0,c1,c2,c3,c4,f0,f1,f2,f3,f4⟩:=HTB9.out.c5;simp only at c0 c1 c2 c3 c4;clear HTB8 KT
     go_upto_region 24 with fail
     clear c0 c1 c2 c3 c4 f0 f1 f2 f3 f4 HTB9;generalize World.setCell _ _ _=w13 at HTB10 ⊢;obtain ⟨c0,c1,c2,c3,c4,f0,f1,f2,f3,f4⟩:=HTB10.out.c5;obtain ⟨d0,d1,d2,d3,d4,g0,g1,g2,g3,g4⟩:=HTB10.out.d5;simp only at c0 c1 c2 c3 c4;have hr5:=rc_store5 (show RowIs _ w.heap.size 56 [.string ⟨#[]⟩,.bool false,.string ⟨#[]⟩,.int .i64 0,.string ⟨#[]⟩] from HTB10.out.r4) (.string ⟨ID.toArray⟩) (.bool false) (.string ⟨CT.toArray⟩) (.int .i64 TV) (.string ⟨([]:List UInt8).toArray⟩);have hb5:=rc_below5 HTB10.out.bel w.heap.size (Nat.le_refl _) (.string ⟨ID.toArray⟩) (.bool false) (.string ⟨CT.toArray⟩) (.int .i64 TV) (.string ⟨([]:List UInt8).toArray⟩);have HR5:=hid hr5;have HB5:=hid hb5;clear hr5 hb5
     go_region
     all_goals
      clear c0 c1 c2 c3 c4 f0 f1 f2 f3 f4 d0 d1 d2 d3 d4 g0 g1 g2 g3 g4;generalize World.setCell _ _ _=w5 at HR5 HB5 ⊢;obtain ⟨e0,e1,e2,e3,e4,_,_,_,_,_⟩:=HR5.out.rc5;go_wp2
      try simp only [Exit.inBlock,Exit.then]
      refine bodyPost_ret (v:=.tuple #[tuV ⟨ID,false,CT,TV,([]:List UInt8)⟩,.bool (decide (0≤TV))]) (by simp [results,Tryz.results41,go_sem,e0,e1,e2,e3,e4,tuV]; try rfl) rfl ?_
      refine ⟨⟨ID,false,CT,TV,([]:List UInt8)⟩,decide (0≤TV),rfl,?_,HB5.out.drew⟩
      rw [HRS.out];by_cases hneg:TV < 0
      ·rw [if_pos hneg,decide_eq_false (by omega)]; rfl
      ·rw [if_neg hneg,decide_eq_true (by omega)]; rfl
   ·have hc0:nC=0:=by omega
    subst hc0;obtain ⟨hqc,hct⟩:=places_nil HnC.out.symm;have hR4:=HR3.out;unfold contP at hR4;rw [hct] at hR4;have HRS:Hid (R=some ⟨ID,false,[],-1,([]:List UInt8)⟩):=hR4;have HTB:=HTB5;clear hR4 HR3 hqc hct HTB5;obtain ⟨c0,c1,c2,c3,c4,f0,f1,f2,f3,f4⟩:=HTB.out.c5;obtain ⟨d0,d1,d2,d3,d4,g0,g1,g2,g3,g4⟩:=HTB.out.d5;simp only at c0 c1 c2 c3 c4;go_wp2;have hr5:=rc_store5 (show RowIs _ w.heap.size 56 [.string ⟨#[]⟩,.bool false,.string ⟨#[]⟩,.int .i64 0,.string ⟨#[]⟩] from HTB.out.r4) (.string ⟨ID.toArray⟩) (.bool false) (.string ⟨([]:List UInt8).toArray⟩) (.int .i64 (-1)) (.string ⟨([]:List UInt8).toArray⟩);have hb5:=rc_below5 HTB.out.bel w.heap.size (Nat.le_refl _) (.string ⟨ID.toArray⟩) (.bool false) (.string ⟨([]:List UInt8).toArray⟩) (.int .i64 (-1)) (.string ⟨([]:List UInt8).toArray⟩);generalize World.setCell _ _ _=w5 at hr5 hb5 ⊢;obtain ⟨e0,e1,e2,e3,e4,_,_,_,_,_⟩:=hr5.rc5
    try simp only [Exit.inBlock,Exit.then]
    refine bodyPost_ret (v:=.tuple #[tuV ⟨ID,false,([]:List UInt8),(-1),([]:List UInt8)⟩,.bool true]) (by simp [results,Tryz.results41,go_sem,e0,e1,e2,e3,e4,tuV]; try rfl) rfl ?_
    exact ⟨⟨ID,false,([]:List UInt8),(-1),([]:List UInt8)⟩,true,rfl,by rw [HRS.out]; rfl,hb5⟩
end Go.Proofs.YtdnekampnkhmfaaGreatDoor
