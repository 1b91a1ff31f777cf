/-
  RFields, RReadL, RRead.
-/
import Derived.Test.YtiogedceommcoaaGreatDoorL49
set_option linter.unusedVariables false
set_option linter.unusedSimpArgs false
set_option maxRecDepth 20000
namespace Go.Proofs.YtiogedceommcoaaGreatDoor
open Go.RowKit Sc
set_option maxHeartbeats 8000000 in
set_option maxRecDepth 100000 in
theorem rfields_any (m:Ms) (h:Value) (c0:RqC) (w:World) (hsm:SmallM 1048576 m) (hhl:m.headers.length≤1048576) (hat:HdrsAt w h m.headers) (hs:c0.Sl) (he:c0.eq=nilS) (he2:c0.r.event.params=[]) (ho:c0.co=nilS) (ho2:c0.r.contact=[]) :
  Calls Tryz.prog 41 #[msgV m h,.agg (rqCells c0).toArray] w fun e w'=>FdRes (fieldsR m c0.r) c0 w.heap.size w' e∧Below w.heap.size w w':=by
 have hz:=zeroR0;have hsm2:SmallM 140737488355328 m:=hsm.le (by omega);have H0:=hid (fd_in w m h hs he he2 ho ho2);obtain ⟨R,hR⟩:∃ R,fieldsR m c0.r=R:=⟨_,rfl⟩
 have HRE:=hid hR;rw [hR];have HR5:Hid (prefR m c0.r 5=R):=show _=_ by rw [← fields_pref]; exact hR
 clear hR;obtain ⟨ao,cap,hh0⟩:=hat.form;subst hh0;obtain ⟨CZ,hCZ⟩:∃ a,a=(rqCells c0).toArray:=⟨_,rfl⟩
 rw [← hCZ] at H0 ⊢;have hinf0:(Tryz.prog.info? 37).map (·.size)=some CZ.size:=by rw [hCZ]; exact infoR
 have HCZ:=hid hCZ;clear hCZ hs he he2 ho ho2;obtain ⟨W,hW⟩:∃ W,W=(((w.alloc (objM m (.slice ao m.headers.length cap))).alloc (.cells CZ 37)).alloc (.cells rq0 37)).alloc (.cells namesA 9):=⟨_,rfl⟩
 rw [← hW] at H0;unfold objM namesA at hW;unfold msgV
 go_enter Tryz.func41,Tryz.ntmps41
 go_wp2
 go_loopw [7] (fun i wr=>∃ (k:Nat) (c:RqC),k≤5∧i=.int .i64 k∧Hid (FdIn c0 w m (.slice ao m.headers.length cap) c wr)∧Hid (prefR m c0.r k=(c.r,0))) (fun i _=>5 - (intOf i).toNat)
 case atStart=>exact ⟨0,c0,by omega,rfl,by have h9:=H0; rw [hW] at h9; exact h9,rfl⟩
 case round =>
  clear H0 hW;obtain ⟨k,c,hk,rfl,HD0,HP⟩:=hrel;have HD:=hid (HD0.out.below (Below.refl _ wr).drew)
  rcases (show k=0∨k=1∨k=2∨k=3∨k=4∨k=5 by omega) with rfl | rfl | rfl | rfl | rfl | rfl
  ·clear HD0 HR5;have c1:=arr_cell HD.out.nm (k:=0) (v:=.string ⟨#[69,120,112,105,114,101,115]⟩) rfl;have KA:=hid (fun w' (hb:Below w.heap.size w w')=>rall_any m (.slice ao m.headers.length cap) expireK w' hsm2 (by omega) (by decide) (hat.below hb));have FVS:Hid (fK 0 m c.r=match allV m expireK with | []=>(c.r,0) | [s]=>({ c.r with expires:=(timeV s).1 },(timeV s).2) | _=>(c.r,4)):=show _=_ from rfl
   have HVL:=hid (all_small hsm expireK);generalize allV m expireK=vals at KA FVS HVL;have HPN:=hid (pref_next HP.out);have HST:=hid (fun n=>@pref_stop m c0.r c.r 0 n (by decide) HP.out);clear HP;clear hsm hsm2 hat;obtain ⟨me,ta,st,re,hs,bo⟩:=m;unfold msgV expireK at KA;simp only at KA;obtain ⟨x0,x1,x2,x3,x4,x5⟩:=HD.out.bx;simp only at x0 x1 x2 x3 x4 x5;go_wp2
   go_region_law (go_simp; go_at_call 48; refine (KA.out _ HD.out.b).mono ?_; rintro e w1 ⟨v1,rfl,hown1,hw1⟩)
   all_goals (
    have H1:=hid (HD.out.below hw1);obtain ⟨va,vc,hve,hvc⟩:=hown1.txts;subst hve;have HLO:=hid (fun a (ha:va=some a)=>show w.heap.size+4≤a.block from (by
     have e:(Value.slice va vals.length vc).ownBlock=some a.block:=by rw [ha]; rfl
     exact Nat.le_trans HD.out.lt (own_lt hown1 e).1))
    clear x0 x1 x2 x3 x4 x5 KA hown1 hw1 HD c1
    rcases vals with _ | ⟨s,_ | ⟨s',vs⟩⟩
    ·simp only at FVS;rw [FVS.out] at HPN;clear hvc HVL HST FVS HLO;go_wp2;go_roundw
     case rel=>exact ⟨1,c,by omega,by go_num,H1,HPN⟩
     case measure=>simp [intOf]
    ·obtain ⟨a,ha,hab,hcell⟩:=hvc 0 (by simp);have hsl:=HVL.out s (by simp);have hane:¬ a.block=w.heap.size+1:=by have:=HLO.out a ha; omega
     subst ha;simp only [List.getElem_cons_zero,add0] at hcell;clear hvc HVL HLO hab;simp only at FVS;have KT:=hid (fun w'=>rtime_any s w' (by omega));generalize timeV s=tv at KT FVS;obtain ⟨t,te⟩:=tv;simp only at KT FVS;go_wp2_with fail
     refine (KT.out _).mono ?_
     rintro e w2 ⟨rfl,hw2⟩;have H2:=hid (H1.out.below hw2);have y0:=H2.out.row.cell 29 (by rw [rq_len]; decide);have y1:=H2.out.row.frozen 29;have H3:=hid (H2.out.exp t);clear KT hw2 H1 H2;by_cases hte:te=0
     case pos =>
      subst hte;have HPN2:=hid (HPN.out.trans FVS.out);clear HPN HST FVS;replace HPN:=HPN2;clear HPN2;go_wp2;go_roundw
      case rel=>exact ⟨1,c.exp t,by omega,by go_num,H3,HPN⟩
      case measure=>simp [intOf]
     case neg =>
      have hne:(te != 0)=true:=by simpa using hte
      have HR2:=hid (HST.out te (congrArg Prod.snd FVS.out) hte);have HR0:Hid (te=0 → (c.exp t).r=R.1):=fun e=>absurd e hte;rw [HRE.out] at HR2;clear HPN HST FVS;have hlo:_=_:=(H3.out).row;have hst:=(H3.out).z;have hone:=oneR (H3.out).sl;have HO:=hid (fd_out (R:=R) (n:=te) H3.out HR2.out (HR0.out));unfold RowIs at hlo;have hinf:(Tryz.prog.info? 37).map (·.size)=some (rqCells (c.exp t)).toArray.size:=infoR;clear HR2 HR0;generalize (rqCells (c.exp t)).toArray=CA at hlo hone HO hinf;have hsz:rq0.size=CA.size:=by have:=infoR0; rw [hinf] at this; injection this with this; exact this.symm
      go_wp2_with (first
       | (refine wpList_load_row rfl 37 (.tmp 3) rfl (w.heap.size+1) rfl _ _ _ _ hlo Tryz.underlying37 rfl hinf ?_)
       | (refine wpList_store_row rfl 37 (.tmp 4) _ rfl (w.heap.size+1+1) CA rfl rfl _ _ hst hinf hsz hone ?_))
      obtain ⟨HO1,HO2⟩:=HO.out;generalize World.setRow _ _ _=wE at HO1 HO2 ⊢;have hld:=run_loadVar_row (P:=Tryz.prog) _ _ _ 37 _ _ _ HO2 Tryz.underlying37 rfl hinf
      try simp only [Exit.inBlock,Exit.then]
      refine bodyPost_ret (v:=.tuple #[.agg CA,.int .i64 te]) (by simp [results,Tryz.results41,asAddr,hld]; try rfl) rfl ?_
      exact HO1
    ·simp only at FVS;have HR2:=hid (HST.out 4 (congrArg Prod.snd FVS.out) (by decide));have HR0:Hid ((4:Int)=0 → c.r=R.1):=fun e=>absurd e (by decide);rw [HRE.out] at HR2;have hgt:(1:Int) < ((vs.length+1+1:Nat):Int):=by omega
     clear HPN HST FVS hvc HVL HLO;simp only [List.length_cons];have hlo:_=_:=(H1.out).row;have hst:=(H1.out).z;have hone:=oneR (H1.out).sl;have HO:=hid (fd_out (R:=R) (n:=4) H1.out HR2.out (HR0.out));unfold RowIs at hlo;have hinf:(Tryz.prog.info? 37).map (·.size)=some (rqCells (c)).toArray.size:=infoR;clear HR2 HR0;generalize (rqCells (c)).toArray=CA at hlo hone HO hinf;have hsz:rq0.size=CA.size:=by have:=infoR0; rw [hinf] at this; injection this with this; exact this.symm
     go_wp2_with (first
      | (refine wpList_load_row rfl 37 (.tmp 3) rfl (w.heap.size+1) rfl _ _ _ _ hlo Tryz.underlying37 rfl hinf ?_)
      | (refine wpList_store_row rfl 37 (.tmp 4) _ rfl (w.heap.size+1+1) CA rfl rfl _ _ hst hinf hsz hone ?_))
     obtain ⟨HO1,HO2⟩:=HO.out;generalize World.setRow _ _ _=wE at HO1 HO2 ⊢;have hld:=run_loadVar_row (P:=Tryz.prog) _ _ _ 37 _ _ _ HO2 Tryz.underlying37 rfl hinf
     try simp only [Exit.inBlock,Exit.then]
     refine bodyPost_ret (v:=.tuple #[.agg CA,.int .i64 4]) (by simp [results,Tryz.results41,asAddr,hld]; try rfl) rfl ?_
     exact HO1)
  ·clear HD0 HR5;have c1:=arr_cell HD.out.nm (k:=1) (v:=.string ⟨#[69,118,101,110,116]⟩) rfl;have KA:=hid (fun w' (hb:Below w.heap.size w w')=>rall_any m (.slice ao m.headers.length cap) eventK w' hsm2 (by omega) (by decide) (hat.below hb));have FVS:Hid (fK 1 m c.r=match allV m eventK with | []=>(c.r,0) | [s]=>({ c.r with event:=(eventV s).1 },(eventV s).2) | _=>(c.r,4)):=show _=_ from rfl
   have HVL:=hid (all_small hsm eventK);generalize allV m eventK=vals at KA FVS HVL;have HPN:=hid (pref_next HP.out);have HST:=hid (fun n=>@pref_stop m c0.r c.r 1 n (by decide) HP.out);clear HP;clear hsm hsm2 hat;obtain ⟨me,ta,st,re,hs,bo⟩:=m;unfold msgV eventK at KA;simp only at KA;obtain ⟨x0,x1,x2,x3,x4,x5⟩:=HD.out.bx;simp only at x0 x1 x2 x3 x4 x5;go_wp2
   go_region_law (go_simp; go_at_call 48; refine (KA.out _ HD.out.b).mono ?_; rintro e w1 ⟨v1,rfl,hown1,hw1⟩)
   all_goals (
    have H1:=hid (HD.out.below hw1);obtain ⟨va,vc,hve,hvc⟩:=hown1.txts;subst hve;have HLO:=hid (fun a (ha:va=some a)=>show w.heap.size+4≤a.block from (by
     have e:(Value.slice va vals.length vc).ownBlock=some a.block:=by rw [ha]; rfl
     exact Nat.le_trans HD.out.lt (own_lt hown1 e).1))
    clear x0 x1 x2 x3 x4 x5 KA hown1 hw1 HD c1
    rcases vals with _ | ⟨s,_ | ⟨s',vs⟩⟩
    ·simp only at FVS;rw [FVS.out] at HPN;clear hvc HVL HST FVS HLO;go_wp2;go_roundw
     case rel=>exact ⟨2,c,by omega,by go_num,H1,HPN⟩
     case measure=>simp [intOf]
    ·obtain ⟨a,ha,hab,hcell⟩:=hvc 0 (by simp);have hsl:=HVL.out s (by simp);have hane:¬ a.block=w.heap.size+1:=by have:=HLO.out a ha; omega
     subst ha;simp only [List.getElem_cons_zero,add0] at hcell;clear hvc HVL HLO hab;simp only at FVS;have KT:=hid (fun w'=>revent_any s w' hsl);generalize eventV s=tv at KT FVS;obtain ⟨⟨en,ep⟩,te⟩:=tv;unfold EvRes evV at KT;simp only at KT FVS;go_wp2_with fail
     refine (KT.out _).mono ?_
     rintro e w2 ⟨⟨q,rfl,hq⟩,hw2⟩;have H2:=hid (H1.out.below hw2);obtain ⟨qa,qc,hqe⟩:=hq.parsAt.form;subst hqe;have y0:=H2.out.row.cell 30 (by rw [rq_len]; decide);have y1:=H2.out.row.frozen 30;have y2:=H2.out.row.cell 31 (by rw [rq_len]; decide);have y3:=H2.out.row.frozen 31;have H3:=hid (H2.out.evt (e:=⟨en,ep⟩) (OwnP.mono hq H1.out.lt));clear KT hw2 H1 H2 hq;by_cases hte:te=0
     case pos =>
      subst hte;have HPN2:=hid (HPN.out.trans FVS.out);clear HPN HST FVS;replace HPN:=HPN2;clear HPN2;go_wp2;go_roundw
      case rel=>exact ⟨2,c.evt ⟨en,ep⟩ (.slice qa ep.length qc),by omega,by go_num,H3,HPN⟩
      case measure=>simp [intOf]
     case neg =>
      have hne:(te != 0)=true:=by simpa using hte
      have HR2:=hid (HST.out te (congrArg Prod.snd FVS.out) hte);have HR0:Hid (te=0 → (c.evt ⟨en,ep⟩ (.slice qa ep.length qc)).r=R.1):=fun e=>absurd e hte;rw [HRE.out] at HR2;clear HPN HST FVS;have hlo:_=_:=(H3.out).row;have hst:=(H3.out).z;have hone:=oneR (H3.out).sl;have HO:=hid (fd_out (R:=R) (n:=te) H3.out HR2.out (HR0.out));unfold RowIs at hlo;have hinf:(Tryz.prog.info? 37).map (·.size)=some (rqCells (c.evt ⟨en,ep⟩ (.slice qa ep.length qc))).toArray.size:=infoR;clear HR2 HR0;generalize (rqCells (c.evt ⟨en,ep⟩ (.slice qa ep.length qc))).toArray=CA at hlo hone HO hinf;have hsz:rq0.size=CA.size:=by have:=infoR0; rw [hinf] at this; injection this with this; exact this.symm
      go_wp2_with (first
       | (refine wpList_load_row rfl 37 (.tmp 3) rfl (w.heap.size+1) rfl _ _ _ _ hlo Tryz.underlying37 rfl hinf ?_)
       | (refine wpList_store_row rfl 37 (.tmp 4) _ rfl (w.heap.size+1+1) CA rfl rfl _ _ hst hinf hsz hone ?_))
      obtain ⟨HO1,HO2⟩:=HO.out;generalize World.setRow _ _ _=wE at HO1 HO2 ⊢;have hld:=run_loadVar_row (P:=Tryz.prog) _ _ _ 37 _ _ _ HO2 Tryz.underlying37 rfl hinf
      try simp only [Exit.inBlock,Exit.then]
      refine bodyPost_ret (v:=.tuple #[.agg CA,.int .i64 te]) (by simp [results,Tryz.results41,asAddr,hld]; try rfl) rfl ?_
      exact HO1
    ·simp only at FVS;have HR2:=hid (HST.out 4 (congrArg Prod.snd FVS.out) (by decide));have HR0:Hid ((4:Int)=0 → c.r=R.1):=fun e=>absurd e (by decide);rw [HRE.out] at HR2;have hgt:(1:Int) < ((vs.length+1+1:Nat):Int):=by omega
     clear HPN HST FVS hvc HVL HLO;simp only [List.length_cons];have hlo:_=_:=(H1.out).row;have hst:=(H1.out).z;have hone:=oneR (H1.out).sl;have HO:=hid (fd_out (R:=R) (n:=4) H1.out HR2.out (HR0.out));unfold RowIs at hlo;have hinf:(Tryz.prog.info? 37).map (·.size)=some (rqCells (c)).toArray.size:=infoR;clear HR2 HR0;generalize (rqCells (c)).toArray=CA at hlo hone HO hinf;have hsz:rq0.size=CA.size:=by have:=infoR0; rw [hinf] at this; injection this with this; exact this.symm
     go_wp2_with (first
      | (refine wpList_load_row rfl 37 (.tmp 3) rfl (w.heap.size+1) rfl _ _ _ _ hlo Tryz.underlying37 rfl hinf ?_)
      | (refine wpList_store_row rfl 37 (.tmp 4) _ rfl (w.heap.size+1+1) CA rfl rfl _ _ hst hinf hsz hone ?_))
     obtain ⟨HO1,HO2⟩:=HO.out;generalize World.setRow _ _ _=wE at HO1 HO2 ⊢;have hld:=run_loadVar_row (P:=Tryz.prog) _ _ _ 37 _ _ _ HO2 Tryz.underlying37 rfl hinf
     try simp only [Exit.inBlock,Exit.then]
     refine bodyPost_ret (v:=.tuple #[.agg CA,.int .i64 4]) (by simp [results,Tryz.results41,asAddr,hld]; try rfl) rfl ?_
     exact HO1)
  ·clear HD0 HR5;have c1:=arr_cell HD.out.nm (k:=2) (v:=.string ⟨#[67,111,110,116,97,99,116]⟩) rfl;have KA:=hid (fun w' (hb:Below w.heap.size w w')=>rall_any m (.slice ao m.headers.length cap) contactK w' hsm2 (by omega) (by decide) (hat.below hb));have FVS:Hid (fK 2 m c.r=match allV m contactK with | []=>(c.r,0) | [s]=>({ c.r with contact:=(listA s).1 },(listA s).2) | _=>(c.r,4)):=show _=_ from rfl
   have HVL:=hid (all_small hsm contactK);generalize allV m contactK=vals at KA FVS HVL;have HPN:=hid (pref_next HP.out);have HST:=hid (fun n=>@pref_stop m c0.r c.r 2 n (by decide) HP.out);clear HP;clear hsm hsm2 hat;obtain ⟨me,ta,st,re,hs,bo⟩:=m;unfold msgV contactK at KA;simp only at KA;obtain ⟨x0,x1,x2,x3,x4,x5⟩:=HD.out.bx;simp only at x0 x1 x2 x3 x4 x5;go_wp2
   go_region_law (go_simp; go_at_call 48; refine (KA.out _ HD.out.b).mono ?_; rintro e w1 ⟨v1,rfl,hown1,hw1⟩)
   all_goals (
    have H1:=hid (HD.out.below hw1);obtain ⟨va,vc,hve,hvc⟩:=hown1.txts;subst hve;have HLO:=hid (fun a (ha:va=some a)=>show w.heap.size+4≤a.block from (by
     have e:(Value.slice va vals.length vc).ownBlock=some a.block:=by rw [ha]; rfl
     exact Nat.le_trans HD.out.lt (own_lt hown1 e).1))
    clear x0 x1 x2 x3 x4 x5 KA hown1 hw1 HD c1
    rcases vals with _ | ⟨s,_ | ⟨s',vs⟩⟩
    ·simp only at FVS;rw [FVS.out] at HPN;clear hvc HVL HST FVS HLO;go_wp2;go_roundw
     case rel=>exact ⟨3,c,by omega,by go_num,H1,HPN⟩
     case measure=>simp [intOf]
    ·obtain ⟨a,ha,hab,hcell⟩:=hvc 0 (by simp);have hsl:=HVL.out s (by simp);have hane:¬ a.block=w.heap.size+1:=by have:=HLO.out a ha; omega
     subst ha;simp only [List.getElem_cons_zero,add0] at hcell;clear hvc HVL HLO hab;simp only at FVS;have KT:=hid (fun w'=>rlist_any s w' hsl);generalize listA s=tv at KT FVS;obtain ⟨tl,te⟩:=tv;unfold ListRes at KT;simp only at KT FVS;go_wp2_with fail
     refine (KT.out _).mono ?_
     rintro e w2 ⟨⟨q,cs,rfl,hcs,hq⟩,hw2⟩;have H2:=hid (H1.out.below hw2);obtain ⟨qa,qc,hqe⟩:=hq.form;subst hqe;have y0:=H2.out.row.cell 32 (by rw [rq_len]; decide);have y1:=H2.out.row.frozen 32;have H3:=hid (H2.out.con cs (hq.mono H1.out.lt) hcs);clear KT hw2 H1 H2 hq hcs;by_cases hte:te=0
     case pos =>
      subst hte;have HPN2:=hid (HPN.out.trans FVS.out);clear HPN HST FVS;replace HPN:=HPN2;clear HPN2;go_wp2;go_roundw
      case rel=>exact ⟨3,c.con tl (.slice qa cs.length qc),by omega,by go_num,H3,HPN⟩
      case measure=>simp [intOf]
     case neg =>
      have hne:(te != 0)=true:=by simpa using hte
      have HR2:=hid (HST.out te (congrArg Prod.snd FVS.out) hte);have HR0:Hid (te=0 → (c.con tl (.slice qa cs.length qc)).r=R.1):=fun e=>absurd e hte;rw [HRE.out] at HR2;clear HPN HST FVS;have hlo:_=_:=(H3.out).row;have hst:=(H3.out).z;have hone:=oneR (H3.out).sl;have HO:=hid (fd_out (R:=R) (n:=te) H3.out HR2.out (HR0.out));unfold RowIs at hlo;have hinf:(Tryz.prog.info? 37).map (·.size)=some (rqCells (c.con tl (.slice qa cs.length qc))).toArray.size:=infoR;clear HR2 HR0;generalize (rqCells (c.con tl (.slice qa cs.length qc))).toArray=CA at hlo hone HO hinf;have hsz:rq0.size=CA.size:=by have:=infoR0; rw [hinf] at this; injection this with this; exact this.symm
      go_wp2_with (first
       | (refine wpList_load_row rfl 37 (.tmp 3) rfl (w.heap.size+1) rfl _ _ _ _ hlo Tryz.underlying37 rfl hinf ?_)
       | (refine wpList_store_row rfl 37 (.tmp 4) _ rfl (w.heap.size+1+1) CA rfl rfl _ _ hst hinf hsz hone ?_))
      obtain ⟨HO1,HO2⟩:=HO.out;generalize World.setRow _ _ _=wE at HO1 HO2 ⊢;have hld:=run_loadVar_row (P:=Tryz.prog) _ _ _ 37 _ _ _ HO2 Tryz.underlying37 rfl hinf
      try simp only [Exit.inBlock,Exit.then]
      refine bodyPost_ret (v:=.tuple #[.agg CA,.int .i64 te]) (by simp [results,Tryz.results41,asAddr,hld]; try rfl) rfl ?_
      exact HO1
    ·simp only at FVS;have HR2:=hid (HST.out 4 (congrArg Prod.snd FVS.out) (by decide));have HR0:Hid ((4:Int)=0 → c.r=R.1):=fun e=>absurd e (by decide);rw [HRE.out] at HR2;have hgt:(1:Int) < ((vs.length+1+1:Nat):Int):=by omega
     clear HPN HST FVS hvc HVL HLO;simp only [List.length_cons];have hlo:_=_:=(H1.out).row;have hst:=(H1.out).z;have hone:=oneR (H1.out).sl;have HO:=hid (fd_out (R:=R) (n:=4) H1.out HR2.out (HR0.out));unfold RowIs at hlo;have hinf:(Tryz.prog.info? 37).map (·.size)=some (rqCells (c)).toArray.size:=infoR;clear HR2 HR0;generalize (rqCells (c)).toArray=CA at hlo hone HO hinf;have hsz:rq0.size=CA.size:=by have:=infoR0; rw [hinf] at this; injection this with this; exact this.symm
     go_wp2_with (first
      | (refine wpList_load_row rfl 37 (.tmp 3) rfl (w.heap.size+1) rfl _ _ _ _ hlo Tryz.underlying37 rfl hinf ?_)
      | (refine wpList_store_row rfl 37 (.tmp 4) _ rfl (w.heap.size+1+1) CA rfl rfl _ _ hst hinf hsz hone ?_))
     obtain ⟨HO1,HO2⟩:=HO.out;generalize World.setRow _ _ _=wE at HO1 HO2 ⊢;have hld:=run_loadVar_row (P:=Tryz.prog) _ _ _ 37 _ _ _ HO2 Tryz.underlying37 rfl hinf
     try simp only [Exit.inBlock,Exit.then]
     refine bodyPost_ret (v:=.tuple #[.agg CA,.int .i64 4]) (by simp [results,Tryz.results41,asAddr,hld]; try rfl) rfl ?_
     exact HO1)
  ·clear HD0 HR5;have c1:=arr_cell HD.out.nm (k:=3) (v:=.string ⟨#[67,111,110,116,101,110,116,45,84,121,112,101]⟩) rfl;have KA:=hid (fun w' (hb:Below w.heap.size w w')=>rall_any m (.slice ao m.headers.length cap) typeK w' hsm2 (by omega) (by decide) (hat.below hb));have FVS:Hid (fK 3 m c.r=match allV m typeK with | []=>(c.r,0) | [s]=>({ c.r with type:=typeT s },0) | _=>(c.r,4)):=show _=_ from rfl
   have HVL:=hid (all_small hsm typeK);generalize allV m typeK=vals at KA FVS HVL;have HPN:=hid (pref_next HP.out);have HST:=hid (fun n=>@pref_stop m c0.r c.r 3 n (by decide) HP.out);clear HP;clear hsm hsm2 hat;obtain ⟨me,ta,st,re,hs,bo⟩:=m;unfold msgV typeK at KA;simp only at KA;obtain ⟨x0,x1,x2,x3,x4,x5⟩:=HD.out.bx;simp only at x0 x1 x2 x3 x4 x5;go_wp2
   go_region_law (go_simp; go_at_call 48; refine (KA.out _ HD.out.b).mono ?_; rintro e w1 ⟨v1,rfl,hown1,hw1⟩)
   all_goals (
    have H1:=hid (HD.out.below hw1);obtain ⟨va,vc,hve,hvc⟩:=hown1.txts;subst hve;have HLO:=hid (fun a (ha:va=some a)=>show w.heap.size+4≤a.block from (by
     have e:(Value.slice va vals.length vc).ownBlock=some a.block:=by rw [ha]; rfl
     exact Nat.le_trans HD.out.lt (own_lt hown1 e).1))
    clear x0 x1 x2 x3 x4 x5 KA hown1 hw1 HD c1
    rcases vals with _ | ⟨s,_ | ⟨s',vs⟩⟩
    ·simp only at FVS;rw [FVS.out] at HPN;clear hvc HVL HST FVS HLO;go_wp2;go_roundw
     case rel=>exact ⟨4,c,by omega,by go_num,H1,HPN⟩
     case measure=>simp [intOf]
    ·obtain ⟨a,ha,hab,hcell⟩:=hvc 0 (by simp);have hsl:=HVL.out s (by simp);have hane:¬ a.block=w.heap.size+1:=by have:=HLO.out a ha; omega
     subst ha;simp only [List.getElem_cons_zero,add0] at hcell;clear hvc HVL HLO hab;simp only at FVS;have KT:=hid (fun w'=>rtype_any s w' hsl);generalize typeOk (typeT s)=tb at KT;generalize typeT s=tv at KT FVS;go_wp2_with fail
     refine (KT.out _).mono ?_
     rintro e w2 ⟨rfl,hw2⟩;have H2:=hid (H1.out.below hw2);have y0:=H2.out.row.cell 35 (by rw [rq_len]; decide);have y1:=H2.out.row.frozen 35;have H3:=hid (H2.out.typ tv);clear KT hw2 H1 H2;have HPN2:=hid (HPN.out.trans FVS.out);clear HPN HST FVS;replace HPN:=HPN2;clear HPN2;go_wp2;go_roundw
     case rel=>exact ⟨4,c.typ tv,by omega,by go_num,H3,HPN⟩
     case measure=>simp [intOf]
    ·simp only at FVS;have HR2:=hid (HST.out 4 (congrArg Prod.snd FVS.out) (by decide));have HR0:Hid ((4:Int)=0 → c.r=R.1):=fun e=>absurd e (by decide);rw [HRE.out] at HR2;have hgt:(1:Int) < ((vs.length+1+1:Nat):Int):=by omega
     clear HPN HST FVS hvc HVL HLO;simp only [List.length_cons];have hlo:_=_:=(H1.out).row;have hst:=(H1.out).z;have hone:=oneR (H1.out).sl;have HO:=hid (fd_out (R:=R) (n:=4) H1.out HR2.out (HR0.out));unfold RowIs at hlo;have hinf:(Tryz.prog.info? 37).map (·.size)=some (rqCells (c)).toArray.size:=infoR;clear HR2 HR0;generalize (rqCells (c)).toArray=CA at hlo hone HO hinf;have hsz:rq0.size=CA.size:=by have:=infoR0; rw [hinf] at this; injection this with this; exact this.symm
     go_wp2_with (first
      | (refine wpList_load_row rfl 37 (.tmp 3) rfl (w.heap.size+1) rfl _ _ _ _ hlo Tryz.underlying37 rfl hinf ?_)
      | (refine wpList_store_row rfl 37 (.tmp 4) _ rfl (w.heap.size+1+1) CA rfl rfl _ _ hst hinf hsz hone ?_))
     obtain ⟨HO1,HO2⟩:=HO.out;generalize World.setRow _ _ _=wE at HO1 HO2 ⊢;have hld:=run_loadVar_row (P:=Tryz.prog) _ _ _ 37 _ _ _ HO2 Tryz.underlying37 rfl hinf
     try simp only [Exit.inBlock,Exit.then]
     refine bodyPost_ret (v:=.tuple #[.agg CA,.int .i64 4]) (by simp [results,Tryz.results41,asAddr,hld]; try rfl) rfl ?_
     exact HO1)
  ·clear HD0 HR5;have c1:=arr_cell HD.out.nm (k:=4) (v:=.string ⟨#[83,73,80,45,73,102,45,77,97,116,99,104]⟩) rfl;have KA:=hid (fun w' (hb:Below w.heap.size w w')=>rall_any m (.slice ao m.headers.length cap) matchK w' hsm2 (by omega) (by decide) (hat.below hb));have FVS:Hid (fK 4 m c.r=match allV m matchK with | []=>(c.r,0) | [s]=>({ c.r with mtch:=s },if tokenB s=true then 0 else 160) | _=>(c.r,4)):=show _=_ from rfl
   have HVL:=hid (all_small hsm matchK);generalize allV m matchK=vals at KA FVS HVL;have HPN:=hid (pref_next HP.out);have HST:=hid (fun n=>@pref_stop m c0.r c.r 4 n (by decide) HP.out);clear HP;clear hsm hsm2 hat;obtain ⟨me,ta,st,re,hs,bo⟩:=m;unfold msgV matchK at KA;simp only at KA;obtain ⟨x0,x1,x2,x3,x4,x5⟩:=HD.out.bx;simp only at x0 x1 x2 x3 x4 x5;go_wp2
   go_region_law (go_simp; go_at_call 48; refine (KA.out _ HD.out.b).mono ?_; rintro e w1 ⟨v1,rfl,hown1,hw1⟩)
   all_goals (
    have H1:=hid (HD.out.below hw1);obtain ⟨va,vc,hve,hvc⟩:=hown1.txts;subst hve;have HLO:=hid (fun a (ha:va=some a)=>show w.heap.size+4≤a.block from (by
     have e:(Value.slice va vals.length vc).ownBlock=some a.block:=by rw [ha]; rfl
     exact Nat.le_trans HD.out.lt (own_lt hown1 e).1))
    clear x0 x1 x2 x3 x4 x5 KA hown1 hw1 HD c1
    rcases vals with _ | ⟨s,_ | ⟨s',vs⟩⟩
    ·simp only at FVS;rw [FVS.out] at HPN;clear hvc HVL HST FVS HLO;go_wp2;go_roundw
     case rel=>exact ⟨5,c,by omega,by go_num,H1,HPN⟩
     case measure=>simp [intOf]
    ·obtain ⟨a,ha,hab,hcell⟩:=hvc 0 (by simp);have hsl:=HVL.out s (by simp);have hane:¬ a.block=w.heap.size+1:=by have:=HLO.out a ha; omega
     subst ha;simp only [List.getElem_cons_zero,add0] at hcell;clear hvc HVL HLO hab;simp only at FVS;have KT:=hid (fun w'=>reftoken_list s w' (by omega));have y0:=H1.out.row.cell 36 (by rw [rq_len]; decide);have y1:=H1.out.row.frozen 36;have H3:=hid (H1.out.mat s);have hc2:(w1.setCell ⟨w.heap.size+1,36,none⟩ (.string ⟨s.toArray⟩)).cell? a=some (.string ⟨s.toArray⟩):=by
      rw [World.cell?_of_block (Below.heap_setCell _ _ _ _ hane)]; exact hcell
     generalize tokenB s=tb at KT FVS
     cases tb with
     | true =>
      have HPN2:=hid (HPN.out.trans FVS.out);simp only [if_true] at HPN2;clear HPN HST FVS H1;replace HPN:=HPN2;clear HPN2;go_wp2_with (go_at_call 47; refine (KT.out _).mono ?_; rintro e w3 ⟨rfl,hw3⟩; rw [hw3]; clear hw3)
      go_roundw
      case rel=>exact ⟨5,c.mat s,by omega,by go_num,H3,HPN⟩
      case measure=>simp [intOf]
     | false =>
      have HR2:=hid (HST.out 160 (congrArg Prod.snd FVS.out) (by decide));have HR0:Hid ((160:Int)=0 → (c.mat s).r=R.1):=fun e=>absurd e (by decide);rw [HRE.out] at HR2;clear HPN HST FVS H1;have hlo:_=_:=(H3.out).row;have hst:=(H3.out).z;have hone:=oneR (H3.out).sl;have HO:=hid (fd_out (R:=R) (n:=160) H3.out HR2.out (HR0.out));unfold RowIs at hlo;have hinf:(Tryz.prog.info? 37).map (·.size)=some (rqCells (c.mat s)).toArray.size:=infoR;clear HR2 HR0;generalize (rqCells (c.mat s)).toArray=CA at hlo hone HO hinf;have hsz:rq0.size=CA.size:=by have:=infoR0; rw [hinf] at this; injection this with this; exact this.symm
      go_wp2_with (first
       | (go_at_call 47; refine (KT.out _).mono ?_; rintro e w3 ⟨rfl,hw3⟩; rw [hw3]; clear hw3)
       | (refine wpList_load_row rfl 37 (.tmp 3) rfl (w.heap.size+1) rfl _ _ _ _ hlo Tryz.underlying37 rfl hinf ?_)
       | (refine wpList_store_row rfl 37 (.tmp 4) _ rfl (w.heap.size+1+1) CA rfl rfl _ _ hst hinf hsz hone ?_))
      obtain ⟨HO1,HO2⟩:=HO.out;generalize World.setRow _ _ _=wE at HO1 HO2 ⊢;have hld:=run_loadVar_row (P:=Tryz.prog) _ _ _ 37 _ _ _ HO2 Tryz.underlying37 rfl hinf
      try simp only [Exit.inBlock,Exit.then]
      refine bodyPost_ret (v:=.tuple #[.agg CA,.int .i64 160]) (by simp [results,Tryz.results41,asAddr,hld]; try rfl) rfl ?_
      exact HO1
    ·simp only at FVS;have HR2:=hid (HST.out 4 (congrArg Prod.snd FVS.out) (by decide));have HR0:Hid ((4:Int)=0 → c.r=R.1):=fun e=>absurd e (by decide);rw [HRE.out] at HR2;have hgt:(1:Int) < ((vs.length+1+1:Nat):Int):=by omega
     clear HPN HST FVS hvc HVL HLO;simp only [List.length_cons];have hlo:_=_:=(H1.out).row;have hst:=(H1.out).z;have hone:=oneR (H1.out).sl;have HO:=hid (fd_out (R:=R) (n:=4) H1.out HR2.out (HR0.out));unfold RowIs at hlo;have hinf:(Tryz.prog.info? 37).map (·.size)=some (rqCells (c)).toArray.size:=infoR;clear HR2 HR0;generalize (rqCells (c)).toArray=CA at hlo hone HO hinf;have hsz:rq0.size=CA.size:=by have:=infoR0; rw [hinf] at this; injection this with this; exact this.symm
     go_wp2_with (first
      | (refine wpList_load_row rfl 37 (.tmp 3) rfl (w.heap.size+1) rfl _ _ _ _ hlo Tryz.underlying37 rfl hinf ?_)
      | (refine wpList_store_row rfl 37 (.tmp 4) _ rfl (w.heap.size+1+1) CA rfl rfl _ _ hst hinf hsz hone ?_))
     obtain ⟨HO1,HO2⟩:=HO.out;generalize World.setRow _ _ _=wE at HO1 HO2 ⊢;have hld:=run_loadVar_row (P:=Tryz.prog) _ _ _ 37 _ _ _ HO2 Tryz.underlying37 rfl hinf
     try simp only [Exit.inBlock,Exit.then]
     refine bodyPost_ret (v:=.tuple #[.agg CA,.int .i64 4]) (by simp [results,Tryz.results41,asAddr,hld]; try rfl) rfl ?_
     exact HO1)
  ·clear HD;have HR0':Hid (R.2=0∧c.r=R.1):=by
    have:=HR5.out
    rw [HP.out] at this;rw [← this]; exact ⟨rfl,rfl⟩
   have HR2:Hid (R.2=0):=HR0'.out.1;have HR0:Hid ((0:Int)=0 → c.r=R.1):=fun _=>HR0'.out.2;clear HR0' HP HR5 HRE;have hlo:_=_:=(HD0.out).row;have hst:=(HD0.out).z;have hone:=oneR (HD0.out).sl;have HO:=hid (fd_out (R:=R) (n:=0) HD0.out HR2.out (HR0.out));unfold RowIs at hlo;have hinf:(Tryz.prog.info? 37).map (·.size)=some (rqCells (c)).toArray.size:=infoR;clear HR2 HR0;generalize (rqCells (c)).toArray=CA at hlo hone HO hinf;have hsz:rq0.size=CA.size:=by have:=infoR0; rw [hinf] at this; injection this with this; exact this.symm
   go_wp2_with (first
    | (refine wpList_load_row rfl 37 (.tmp 3) rfl (w.heap.size+1) rfl _ _ _ _ hlo Tryz.underlying37 rfl hinf ?_)
    | (refine wpList_store_row rfl 37 (.tmp 4) _ rfl (w.heap.size+1+1) CA rfl rfl _ _ hst hinf hsz hone ?_))
   obtain ⟨HO1,HO2⟩:=HO.out;generalize World.setRow _ _ _=wE at HO1 HO2 ⊢;have hld:=run_loadVar_row (P:=Tryz.prog) _ _ _ 37 _ _ _ HO2 Tryz.underlying37 rfl hinf
   try simp only [Exit.inBlock,Exit.then]
   refine bodyPost_ret (v:=.tuple #[.agg CA,.int .i64 0]) (by simp [results,Tryz.results41,asAddr,hld]; try rfl) rfl ?_
   exact HO1
structure RdIn (w w1:World) (m:Ms) (h:Value) (c:RqC) (wr:World):Prop where
 bi:BaseIn w m h wr
 row:RowIs wr w1.heap.size 37 (rqCells c)
 b1:Below w1.heap.size w1 wr
 frm:AdrC.Own w1 (w.heap.size+1+1+1) ⟨c.r.frm,c.fp,c.fh,c.fq⟩
 too:AdrC.Own w1 (w.heap.size+1+1+1) ⟨c.r.too,c.op,c.oh,c.oq⟩
 tp:OwnP wr (w1.heap.size+1) c.tp c.r.target.params
 th:OwnP wr (w1.heap.size+1) c.th c.r.target.headers
 ev:OwnP wr (w1.heap.size+1) c.eq c.r.event.params
 co:∃ cs:List AdrC,OwnA wr (w1.heap.size+1) c.co cs∧cs.map AdrC.a=c.r.contact
 ro:Own wr (w1.heap.size+1) 9 c.ro (strs c.r.routes)
 ac:Own wr (w1.heap.size+1) 9 c.ac (strs c.r.accept)
 sl:c.Sl
 lt:w1.heap.size+1≤wr.heap.size
 lo:w.heap.size+1+1+1≤w1.heap.size
theorem Own.setC {w:World} {B:Nat} {e:TypeId} {v:Value} {xs:List Value} (h:Own w B e v xs) {a:Addr} (ha:a.block < B) (x:Value):Own (w.setCell a x) B e v xs:=ownsRow_setCell h ha x
theorem BaseIn.setC {w wr:World} {m:Ms} {h:Value} (H:BaseIn w m h wr) {a:Addr} (ha:w.heap.size+1+1 < a.block) (x:Value):BaseIn w m h (wr.setCell a x) :=
 ⟨H.bx.setC (by omega) x,by rw [Below.heap_setCell _ _ _ _ (by omega)]; exact H.rs,by rw [Below.heap_setCell _ _ _ _ (by omega)]; exact H.no,H.b.setCell (by omega) x,by simpa [World.setCell] using H.lt⟩
theorem BaseIn.setR {w wr:World} {m:Ms} {h:Value} (H:BaseIn w m h wr) {g:Nat} (ha:w.heap.size+1+1 < g) (cs:Array Value):BaseIn w m h (wr.setRow g cs):=by
 have e:∀ j,(wr.setRow g cs).cell? ⟨w.heap.size,j,none⟩=wr.cell? ⟨w.heap.size,j,none⟩:=fun j=>cell_setRow_other _ _ _ _ (by simp; omega);refine ⟨?_,by rw [setRow_other _ _ _ _ (by omega)]; exact H.rs,by rw [setRow_other _ _ _ _ (by omega)]; exact H.no,below_setRow H.b (by omega) cs,by simpa using H.lt⟩
 have:=H.bx
 unfold BoxM at this ⊢;rw [e,e,e,e,e,e]; exact this
section
variable {w w1 wr w' : World} {m : Ms} {h : Value} {c : RqC}
theorem RdIn.below (H:RdIn w w1 m h c wr) (hb:Below wr.heap.size wr w'):RdIn w w1 m h c w':=by
 have hl:=H.lt;obtain ⟨cs,h1,h2⟩:=H.co;exact ⟨H.bi.below hb,H.row.below hb (by omega),H.b1.trans (hb.mono H.b1.size),H.frm,H.too,OwnP.below H.tp hb,OwnP.below H.th hb,OwnP.below H.ev hb,⟨cs,h1.below hb,h2⟩,H.ro.below hb,H.ac.below hb,H.sl,Nat.le_trans hl hb.size,H.lo⟩
theorem rd_begin {w1:World} (hi:BaseIn w m h w1) (hb:RqB (w.heap.size+1+1+1) c w1):RdIn w w1 m h c (w1.alloc (.cells (rqCells c).toArray 37)):=by
 have A:=(Below.refl _ w1).alloc (Nat.le_refl _) (.cells (rqCells c).toArray 37);refine ⟨hi.below A,by unfold RowIs; rw [heap_alloc_new],A,hb.frm,hb.too,?_,?_,?_,⟨[],?_,by rw [hb.l.1]; rfl⟩,?_,?_,hb.sl,by simp,by have:=hi.lt; omega⟩
 ·rw [hb.tp,hb.t]; exact OwnP.nil _ _
 ·rw [hb.th,hb.t]; exact OwnP.nil _ _
 ·rw [hb.eq,hb.e]; exact OwnP.nil _ _
 ·rw [hb.co]; exact OwnA.nil _ _
 ·rw [hb.ro,hb.l.2.1]; exact Own.nil _ _ _
 ·rw [hb.ac,hb.l.2.2]; exact Own.nil _ _ _
theorem RdIn.fields (H:RdIn w w1 m h c wr) {c':RqC} {B:Nat} (hB:w1.heap.size+1≤B) (hk:KeepC c c') (ev:OwnP wr B c'.eq c'.r.event.params) (co:∃ cs:List AdrC,OwnA wr B c'.co cs∧cs.map AdrC.a=c'.r.contact) (sl:c'.Sl) :
  RdIn w w1 m h c' (wr.setRow w1.heap.size (rqCells c').toArray):=by
 obtain ⟨cs,h1,h2⟩:=co;have hlo:=H.lo;refine ⟨H.bi.setR (by omega) _,setRow_heap _ _ _ _ _ _ H.row,below_setRow H.b1 (Nat.le_refl _) _,?_,?_,?_,?_,OwnP.setRow (OwnP.mono ev hB) (by omega) _,⟨cs,OwnA.setRow (h1.mono hB) (by omega) _,h2⟩,?_,?_,sl,by simpa using H.lt,H.lo⟩
 ·rw [hk.frm,hk.fp,hk.fh,hk.fq]; exact H.frm
 ·rw [hk.too,hk.op,hk.oh,hk.oq]; exact H.too
 ·rw [hk.tp,hk.target]; exact OwnP.setRow H.tp (by omega) _
 ·rw [hk.th,hk.target]; exact OwnP.setRow H.th (by omega) _
 ·rw [hk.ro,hk.routes]; exact Own.setR H.ro (by omega) _
 ·rw [hk.ac,hk.accept]; exact Own.setR H.ac (by omega) _
theorem RdIn.put (H:RdIn w w1 m h c wr) {c':RqC} (k:Nat) (x:Value) (hc:(rqCells c).set k x=rqCells c') (frm:c'.r.frm=c.r.frm∧c'.fp=c.fp∧c'.fh=c.fh∧c'.fq=c.fq) (too:c'.r.too=c.r.too∧c'.op=c.op∧c'.oh=c.oh∧c'.oq=c.oq)
  (tp:OwnP wr (w1.heap.size+1) c'.tp c'.r.target.params) (th:OwnP wr (w1.heap.size+1) c'.th c'.r.target.headers) (ev:c'.r.event=c.r.event∧c'.eq=c.eq) (co:c'.r.contact=c.r.contact∧c'.co=c.co)
  (ro:Own wr (w1.heap.size+1) 9 c'.ro (strs c'.r.routes)) (ac:Own wr (w1.heap.size+1) 9 c'.ac (strs c'.r.accept)):RdIn w w1 m h c' (wr.setCell ⟨w1.heap.size,k,none⟩ x):=by
 obtain ⟨cs,h1,h2⟩:=H.co;have hlo:=H.lo;have hr:=H.row.set k x;rw [hc] at hr;have s:=H.sl;refine ⟨H.bi.setC (by simp; omega) x,hr,H.b1.setCell (by simp) x,?_,?_,OwnP.setC tp (by simp) x,OwnP.setC th (by simp) x,?_,⟨cs,?_,?_⟩,Own.setC ro (by simp) x,Own.setC ac (by simp) x,?_,by simpa [World.setCell] using H.lt,H.lo⟩
 ·rw [frm.1,frm.2.1,frm.2.2.1,frm.2.2.2]; exact H.frm
 ·rw [too.1,too.2.1,too.2.2.1,too.2.2.2]; exact H.too
 ·rw [ev.1,ev.2]; exact OwnP.setC H.ev (by simp) x
 ·rw [co.2]; exact OwnA.setC h1 (by simp) x
 ·rw [co.1]; exact h2
 ·exact ⟨pars_sl tp.parsAt,pars_sl th.parsAt,by rw [frm.2.1]; exact s.fp,by rw [frm.2.2.1]; exact s.fh,by rw [frm.2.2.2]; exact s.fq,by rw [too.2.1]; exact s.op,by rw [too.2.2.1]; exact s.oh,by rw [too.2.2.2]; exact s.oq,by rw [ev.2]; exact s.eq,by rw [co.2]; exact s.co,own_sl ro,own_sl ac⟩
theorem RdIn.rou (H:RdIn w w1 m h c wr) {l:List (List UInt8)} {v:Value} (ho:Own wr (w1.heap.size+1) 9 v (strs l)):RdIn w w1 m h (c.rou l v) (wr.setCell ⟨w1.heap.size,33,none⟩ v) :=
 H.put 33 v rfl ⟨rfl,rfl,rfl,rfl⟩ ⟨rfl,rfl,rfl,rfl⟩ H.tp H.th ⟨rfl,rfl⟩ ⟨rfl,rfl⟩ ho H.ac
theorem RdIn.acc (H:RdIn w w1 m h c wr) {l:List (List UInt8)} {v:Value} (ho:Own wr (w1.heap.size+1) 9 v (strs l)):RdIn w w1 m h (c.acc l v) (wr.setCell ⟨w1.heap.size,34,none⟩ v) :=
 H.put 34 v rfl ⟨rfl,rfl,rfl,rfl⟩ ⟨rfl,rfl,rfl,rfl⟩ H.tp H.th ⟨rfl,rfl⟩ ⟨rfl,rfl⟩ H.ro ho
theorem RdIn.tgt (H:RdIn w w1 m h c wr) {u:Uri} {p q:Value} (hp:OwnP wr (w1.heap.size+1) p u.params) (hq:OwnP wr (w1.heap.size+1) q u.headers):RdIn w w1 m h (c.tgt u p q) (set16 wr w1.heap.size u p q):=by
 have n:∀ k,(⟨w1.heap.size,k,none⟩:Addr).block < w1.heap.size+1:=fun k=>by simp
 have H1:=H.put (c':={ c with r:={ c.r with target:={ c.r.target with scheme:=u.scheme } } }) 1 (.string ⟨u.scheme.toArray⟩) rfl ⟨rfl,rfl,rfl,rfl⟩ ⟨rfl,rfl,rfl,rfl⟩ H.tp H.th ⟨rfl,rfl⟩ ⟨rfl,rfl⟩ H.ro H.ac;have H2:=H1.put (c':={ c with r:={ c.r with target:={ c.r.target with scheme:=u.scheme,user:=u.user } } }) 2 (.string ⟨u.user.toArray⟩) rfl ⟨rfl,rfl,rfl,rfl⟩ ⟨rfl,rfl,rfl,rfl⟩ H1.tp H1.th ⟨rfl,rfl⟩ ⟨rfl,rfl⟩ H1.ro H1.ac;have H3:=H2.put (c':={ c with r:={ c.r with target:={ c.r.target with scheme:=u.scheme,user:=u.user,host:=u.host } } }) 3 (.string ⟨u.host.toArray⟩) rfl ⟨rfl,rfl,rfl,rfl⟩ ⟨rfl,rfl,rfl,rfl⟩ H2.tp H2.th ⟨rfl,rfl⟩ ⟨rfl,rfl⟩ H2.ro H2.ac;have H4:=H3.put (c':={ c with r:={ c.r with target:={ c.r.target with scheme:=u.scheme,user:=u.user,host:=u.host,port:=u.port } } }) 4 (.int .i64 u.port) rfl ⟨rfl,rfl,rfl,rfl⟩ ⟨rfl,rfl,rfl,rfl⟩ H3.tp H3.th ⟨rfl,rfl⟩ ⟨rfl,rfl⟩ H3.ro H3.ac;have p4:=OwnP.setC (OwnP.setC (OwnP.setC (OwnP.setC hp (n 1) (.string ⟨u.scheme.toArray⟩)) (n 2) (.string ⟨u.user.toArray⟩)) (n 3) (.string ⟨u.host.toArray⟩)) (n 4) (.int .i64 u.port);have q4:=OwnP.setC (OwnP.setC (OwnP.setC (OwnP.setC hq (n 1) (.string ⟨u.scheme.toArray⟩)) (n 2) (.string ⟨u.user.toArray⟩)) (n 3) (.string ⟨u.host.toArray⟩)) (n 4) (.int .i64 u.port);have H5:=H4.put (c':={ c with r:={ c.r with target:=⟨u.scheme,u.user,u.host,u.port,u.params,c.r.target.headers⟩ },tp:=p }) 5 p rfl ⟨rfl,rfl,rfl,rfl⟩ ⟨rfl,rfl,rfl,rfl⟩ p4 H4.th ⟨rfl,rfl⟩ ⟨rfl,rfl⟩ H4.ro H4.ac;exact H5.put (c':=c.tgt u p q) 6 q rfl ⟨rfl,rfl,rfl,rfl⟩ ⟨rfl,rfl,rfl,rfl⟩ H5.tp (OwnP.setC q4 (n 5) p) ⟨rfl,rfl⟩ ⟨rfl,rfl⟩ H5.ro H5.ac
theorem rd_out {R:Rq × Int} (H:RdIn w w1 m h c wr) (hR:R=(c.r,0)) :
  (ReadRes R (wr.setRow (w.heap.size+1) (rqCells c).toArray) (.returned (.tuple #[.agg (rqCells c).toArray,.int .i64 0]))∧Below w.heap.size w (wr.setRow (w.heap.size+1) (rqCells c).toArray)) ∧
  (wr.setRow (w.heap.size+1) (rqCells c).toArray).heap[w.heap.size+1]? = some (.cells (rqCells c).toArray 37 (0,0)):=by
 obtain ⟨cs,h1,h2⟩:=H.co;have hlo:=H.lo;have fr:=H.frm.below H.b1;have to:=H.too.below H.b1;refine ⟨⟨⟨c,by rw [hR],by rw [hR]; rfl,?_,H.sl⟩,below_setRow H.bi.b (by omega) _⟩,setRow_heap _ _ _ _ _ _ H.bi.rs⟩
 have g1:w.heap.size+1 < w1.heap.size+1:=by omega
 have g2:w.heap.size+1 < w.heap.size+1+1+1:=by omega
 have ev:=OwnP.setRow H.ev g1 (rqCells c).toArray;exact ⟨(OwnP.setRow H.tp g1 _).parsAt,(OwnP.setRow H.th g1 _).parsAt,AdrC.Own.at (B:=w.heap.size+1+1+1) ⟨OwnP.setRow fr.1 g2 _,OwnP.setRow fr.2.1 g2 _,OwnP.setRow fr.2.2 g2 _⟩,AdrC.Own.at (B:=w.heap.size+1+1+1) ⟨OwnP.setRow to.1 g2 _,OwnP.setRow to.2.1 g2 _,OwnP.setRow to.2.2 g2 _⟩,⟨ev.parsAt,ev.cap⟩,⟨cs,(OwnA.setRow h1 g1 _).adrsAt,h2⟩,⟨_,Own.setR H.ro g1 _⟩,⟨_,Own.setR H.ac g1 _⟩⟩
end
theorem RqB.mono {B C:Nat} {c:RqC} {w:World} (h:RqB B c w) (hc:C≤B):RqB C c w:=⟨h.frm.mono hc,h.too.mono hc,h.tp,h.th,h.eq,h.co,h.ro,h.ac,h.t,h.e,h.l⟩
end Go.Proofs.YtiogedceommcoaaGreatDoor
