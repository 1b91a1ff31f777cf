/-
  RRead, HRef6, ReqSmall, WReplyReads0, WReplyReads.
-/
import Derived.Test.YtiogedceommcoaaGreatDoorK41
import Derived.Test.YtiogedceommcoaaGreatDoorL50
set_option linter.unusedVariables false
set_option linter.unusedSimpArgs false
set_option maxRecDepth 20000
namespace Go.Proofs.YtiogedceommcoaaGreatDoor
open Go.RowKit Sc
set_option maxHeartbeats 8000000 in
set_option maxRecDepth 100000 in
theorem rread_any (m:Ms) (h:Value) (w:World) (hsm:SmallM 1048576 m) (hhl:m.headers.length≤1048576) (hat:HdrsAt w h m.headers) (hp1:(piecesV m routeK).length≤1048576) (hp2:(piecesV m acceptK).length≤1048576) :
  Calls Tryz.prog 14 #[msgV m h] w fun e w'=>ReadRes (rreadV m) w' e∧Below w.heap.size w w':=by
 have hz:=zeroR0;have H0:=hid (base_in w m h);have hst0:=H0.out.no;have hge:=H0.out.bx;obtain ⟨ao,cap,hh0⟩:=hat.form;subst hh0;have KB:=hid (fun w' (hb:Below w.heap.size w w')=>rbase_any m _ w' hsm hhl (hat.below hb));have KF:=hid (fun w' c0 (hb:Below w.heap.size w w')=>rfields_any m _ c0 w' hsm hhl (hat.below hb));have KP1:=hid (fun w' (hb:Below w.heap.size w w')=>rpieces_any m _ routeK w' hsm hhl (by decide) (hat.below hb) hp1);have KP2:=hid (fun w' (hb:Below w.heap.size w w')=>rpieces_any m _ acceptK w' hsm hhl (by decide) (hat.below hb) hp2);have KU:=hid (fun w'=>refparse_any m.target w' hsm.2.1);have HRL:=hid (pieces_small (nm:=routeK) hsm);obtain ⟨br,bn,E1⟩:∃ a b,baseV m=(a,b):=⟨_,_,rfl⟩
 obtain ⟨⟨us,uu,uh,up,upp,uhh⟩,un,E2⟩:∃ a b,parseV m.target=(a,b):=⟨_,_,rfl⟩
 obtain ⟨fr,fn,E3⟩:∃ a b,fieldsR m br=(a,b):=⟨_,_,rfl⟩
 have HV:Hid (rreadV m=if bn ≠ 0 then (noR,bn) else if un ≠ 0 then (noR,un) else if br.fromTag=[] then (noR,100) else if fn ≠ 0 then (noR,fn) else if routesE (piecesV m routeK) ≠ 0 then (noR,routesE (piecesV m routeK))
   else if 16 < (piecesV m routeK).length∨16 < (piecesV m acceptK).length then (noR,4)
   else ({ fr with target:=⟨us,uu,uh,up,upp,uhh⟩,routes:=piecesV m routeK,accept:=piecesV m acceptK },0)):=show _=_ by
  unfold rreadV;rw [E1,E2,E3]
 have HF3:=hid E3;rw [E1] at KB;rw [E2] at KU;simp only at KB KU;clear E1 E2 E3 hsm hat;generalize rreadV m=R at HV ⊢;generalize piecesV m routeK=rts at KP1 HRL HV hp1;generalize piecesV m acceptK=acs at KP2 HV hp2;obtain ⟨me,ta,st,re,hs,bo⟩:=m;simp only at hhl;unfold msgV at KB KF KP1 KP2 ⊢;unfold objM at H0 hst0 hge;simp only at KB KF KP1 KP2 KU H0 hst0 hge ⊢;obtain ⟨x0,x1,x2,x3,x4,x5⟩:=hge;simp only at x0 x1 x2 x3 x4 x5;unfold BaseRes rqV at KB;unfold uriV at KU;unfold routeK at KP1;unfold acceptK at KP2;simp only at KB KU
 go_enter Tryz.func14,Tryz.ntmps14
 go_wp2_with (first
  | (refine wpList_store_row rfl 37 (.tmp 4) _ rfl (w.heap.size+1+1) rq0 rfl rfl _ _ hst0 infoR0 rfl oneR0 ?_; rw [setRow_self _ _ _ _ _ hst0]))
 refine (KB.out _ H0.out.b).mono ?_
 rintro e w1 ⟨⟨c,hcr,rfl,hrb0⟩,hw1⟩;have hrb:=hrb0.mono (C:=w.heap.size+1+1+1) H0.out.lt;have HI:=hid (H0.out.below hw1);have H1:=hid (rd_begin HI.out hrb);have hnw:(w1.alloc (.cells rq0 37)).heap[w1.heap.size]? = some (.cells rq0 37 (0,0)):=by rw [heap_alloc_new]
 obtain ⟨CA,hCA⟩:∃ a,a=(rqCells c).toArray:=⟨_,rfl⟩
 rw [← hCA] at H1 ⊢;have hone:CA.all (·.oneCell')=true:=by rw [hCA]; exact oneR hrb.sl
 have hinf:(Tryz.prog.info? 37).map (·.size)=some CA.size:=by rw [hCA]; exact infoR
 have hsz:rq0.size=CA.size:=by rw [hCA]; rfl
 have HCA:=hid hCA;have HRB:=hid hrb;clear x0 x1 x2 x3 x4 x5 hst0 H0 hw1 KB hCA hrb0 hrb;by_cases hbn:bn=0
 case neg =>
  have HR:Hid (R=(noR,bn)):=show _=_ by rw [HV.out,if_pos hbn]
  have hne:(bn != 0)=true:=by simpa using hbn
  clear HV KF KP1 KP2 KU HF3;have hlo:=(H1.out.bi).no;have hst:=(H1.out.bi).rs;have hbE:=(H1.out.bi).b;have hld:=run_loadVar_row (P:=Tryz.prog) _ _ _ 37 _ _ _ hst Tryz.underlying37 rfl infoR0;go_wp2_with (first
   | (refine wpList_load_row rfl 37 (.tmp 4) rfl (w.heap.size+1+1) rfl _ _ _ _ hlo Tryz.underlying37 rfl infoR0 ?_)
   | (refine wpList_store_row rfl 37 (.tmp 2) _ rfl (w.heap.size+1) rq0 rfl rfl _ _ hst infoR0 rfl oneR0 ?_; rw [setRow_self _ _ _ _ _ hst])
   | (refine wpList_store_row rfl 37 (.tmp 5) _ rfl w1.heap.size CA rfl rfl _ _ hnw hinf hsz hone ?_; rw [World.setRow_alloc_new]))
  try simp only [Exit.inBlock,Exit.then]
  refine bodyPost_ret (v:=.tuple #[.agg rq0,.int .i64 bn]) (by simp [results,Tryz.results14,asAddr,hld]; try rfl) rfl ?_
  exact ⟨read_none HR.out,hbE⟩
 subst hbn;rw [if_neg (by simp)] at HV;have hx:=H1.out.bi.bx;obtain ⟨x0,x1,x2,x3,x4,x5⟩:=hx;simp only at x0 x1 x2 x3 x4 x5;go_wp2_with (first
  | (refine wpList_store_row rfl 37 (.tmp 5) _ rfl w1.heap.size CA rfl rfl _ _ hnw hinf hsz hone ?_; rw [World.setRow_alloc_new]))
 refine (KU.out _).mono ?_
 rintro e w2 ⟨p,q,rfl,hp,hq,hw2⟩;obtain ⟨pa,pc,hpe⟩:=hp.parsAt.form;obtain ⟨qa,qc,hqe⟩:=hq.parsAt.form;subst hpe;subst hqe;have H2:=hid (H1.out.below hw2);have A3:=(Below.refl _ w2).alloc (Nat.le_refl _) (.cells #[.string ⟨us.toArray⟩,.string ⟨uu.toArray⟩,.string ⟨uh.toArray⟩,.int .i64 up,.slice pa upp.length pc,.slice qa uhh.length qc] 29);have H3:=hid (H2.out.below A3);have hb2:w1.heap.size+1≤w2.heap.size:=H2.out.lt;have P3:=hid (OwnP.mono (OwnP.below hp A3) (show w1.heap.size+1≤_ by simp));have Q3:=hid (OwnP.mono (OwnP.below hq A3) (show w1.heap.size+1≤_ by simp));have U3:Hid (RowIs (w2.alloc (.cells #[.string ⟨us.toArray⟩,.string ⟨uu.toArray⟩,.string ⟨uh.toArray⟩,.int .i64 up,.slice pa upp.length pc,.slice qa uhh.length qc] 29)) w2.heap.size 29 [.string ⟨us.toArray⟩,.string ⟨uu.toArray⟩,.string ⟨uh.toArray⟩,.int .i64 up,.slice pa upp.length pc,.slice qa uhh.length qc]):=show RowIs _ _ _ _ by unfold RowIs; rw [heap_alloc_new]
 clear x0 x1 x2 x3 x4 x5 hw2 hp hq H1 H2 hnw KU HI;by_cases hun:un=0
 case neg =>
  have HR:Hid (R=(noR,un)):=show _=_ by rw [HV.out,if_pos hun]
  have hne:(un != 0)=true:=by simpa using hun
  clear HV KF KP1 KP2 HF3;have hlo:=(H3.out.bi).no;have hst:=(H3.out.bi).rs;have hbE:=(H3.out.bi).b;have hld:=run_loadVar_row (P:=Tryz.prog) _ _ _ 37 _ _ _ hst Tryz.underlying37 rfl infoR0;go_wp2_with (first
   | (refine wpList_load_row rfl 37 (.tmp 4) rfl (w.heap.size+1+1) rfl _ _ _ _ hlo Tryz.underlying37 rfl infoR0 ?_)
   | (refine wpList_store_row rfl 37 (.tmp 2) _ rfl (w.heap.size+1) rq0 rfl rfl _ _ hst infoR0 rfl oneR0 ?_; rw [setRow_self _ _ _ _ _ hst]))
  try simp only [Exit.inBlock,Exit.then]
  refine bodyPost_ret (v:=.tuple #[.agg rq0,.int .i64 un]) (by simp [results,Tryz.results14,asAddr,hld]; try rfl) rfl ?_
  exact ⟨read_none HR.out,hbE⟩
 subst hun;rw [if_neg (by simp)] at HV;have y25:=H3.out.row.cell 25 (by rw [rq_len]; decide);have hy25:(rqCells c)[25]'(by rw [rq_len]; decide)=.string ⟨br.fromTag.toArray⟩:=by rw [← hcr]; rfl
 rw [hy25] at y25;by_cases hft:br.fromTag=[]
 case pos =>
  have HR:Hid (R=(noR,100)):=show _=_ by rw [HV.out,if_pos hft]
  rw [hft] at y25;clear HV KF KP1 KP2 HF3;have hlo:=(H3.out.bi).no;have hst:=(H3.out.bi).rs;have hbE:=(H3.out.bi).b;have hld:=run_loadVar_row (P:=Tryz.prog) _ _ _ 37 _ _ _ hst Tryz.underlying37 rfl infoR0;go_wp2_with (first
   | (refine wpList_load_row rfl 37 (.tmp 4) rfl (w.heap.size+1+1) rfl _ _ _ _ hlo Tryz.underlying37 rfl infoR0 ?_)
   | (refine wpList_store_row rfl 37 (.tmp 2) _ rfl (w.heap.size+1) rq0 rfl rfl _ _ hst infoR0 rfl oneR0 ?_; rw [setRow_self _ _ _ _ _ hst]))
  try simp only [Exit.inBlock,Exit.then]
  refine bodyPost_ret (v:=.tuple #[.agg rq0,.int .i64 100]) (by simp [results,Tryz.results14,asAddr,hld]; try rfl) rfl ?_
  exact ⟨read_none HR.out,hbE⟩
 rw [if_neg hft] at HV;have hf1:(br.fromTag==[])=false:=by simpa using hft
 have hf2:br.fromTag.isEmpty=false:=by simpa using hft
 have KF3:=hid (KF.out _ c H3.out.bi.b HRB.out.sl HRB.out.eq (by rw [HRB.out.e]; rfl) HRB.out.co HRB.out.l.1);rw [hcr] at KF3;have hF3:=HF3.out;rw [hF3,← HCA.out] at KF3;have hlo:_=_:=H3.out.row;unfold RowIs at hlo;rw [← HCA.out] at hlo;obtain ⟨x0,x1,x2,x3,x4,x5⟩:=H3.out.bi.bx;simp only at x0 x1 x2 x3 x4 x5;unfold FdRes at KF3;simp only at KF3;clear KF hF3 HF3;generalize hW3:w2.alloc _=w3 at *;go_wp2_with (refine wpList_load_row rfl 37 (.tmp 5) rfl w1.heap.size rfl _ _ _ _ hlo Tryz.underlying37 rfl hinf ?_)
 refine KF3.out.mono ?_
 rintro e w4 ⟨⟨c',hc',rfl,hk,hev,hco,hsl⟩,hw4⟩;clear hW3 A3;have H4:=hid (H3.out.below hw4);have hrow4:_=_:=H4.out.row;unfold RowIs at hrow4;rw [← HCA.out] at hrow4;obtain ⟨CB,hCB⟩:∃ a,a=(rqCells c').toArray:=⟨_,rfl⟩
 have honeB:CB.all (·.oneCell')=true:=by rw [hCB]; exact oneR hsl
 have hinfB:(Tryz.prog.info? 37).map (·.size)=some CB.size:=by rw [hCB]; exact infoR
 have hszB:CA.size=CB.size:=by rw [hCB,HCA.out]; rfl
 have H5:=hid (H4.out.fields (B:=w3.heap.size) H3.out.lt hk hev hco hsl);have hbu:w2.heap.size ≠ w1.heap.size:=by omega
 have U5:Hid (RowIs (w4.setRow w1.heap.size (rqCells c').toArray) w2.heap.size 29 [.string ⟨us.toArray⟩,.string ⟨uu.toArray⟩,.string ⟨uh.toArray⟩,.int .i64 up,.slice pa upp.length pc,.slice qa uhh.length qc]):=show RowIs _ _ _ _ by
  have:=U3.out.below hw4 (Array.getElem?_eq_some_iff.1 U3.out).1
  unfold RowIs at this ⊢;rw [setRow_other _ _ _ _ hbu]; exact this
 have P5:=hid (OwnP.setRow (OwnP.below P3.out hw4) (Nat.lt_succ_self w1.heap.size) (rqCells c').toArray);have Q5:=hid (OwnP.setRow (OwnP.below Q3.out hw4) (Nat.lt_succ_self w1.heap.size) (rqCells c').toArray);rw [← hCB] at H5 U5 P5 Q5 ⊢;have HCB:=hid hCB;clear x0 x1 x2 x3 x4 x5 KF3 hlo hw4 hev hco H3 P3 Q3 U3 H4 hCB y25 hy25 hft hf1 hf2 hk;by_cases hfn:fn=0
 case neg =>
  have HR:Hid (R=(noR,fn)):=show _=_ by rw [HV.out,if_pos hfn]
  have hne:(fn != 0)=true:=by simpa using hfn
  clear HV KP1 KP2;have hlo:=(H5.out.bi).no;have hst:=(H5.out.bi).rs;have hbE:=(H5.out.bi).b;have hld:=run_loadVar_row (P:=Tryz.prog) _ _ _ 37 _ _ _ hst Tryz.underlying37 rfl infoR0;go_wp2_with (first
   | (refine wpList_load_row rfl 37 (.tmp 4) rfl (w.heap.size+1+1) rfl _ _ _ _ hlo Tryz.underlying37 rfl infoR0 ?_)
   | (refine wpList_store_row rfl 37 (.tmp 2) _ rfl (w.heap.size+1) rq0 rfl rfl _ _ hst infoR0 rfl oneR0 ?_; rw [setRow_self _ _ _ _ _ hst])
   | (refine wpList_store_row rfl 37 (.tmp 5) _ rfl w1.heap.size CB rfl rfl _ _ hrow4 hinfB hszB honeB ?_))
  try simp only [Exit.inBlock,Exit.then]
  refine bodyPost_ret (v:=.tuple #[.agg rq0,.int .i64 fn]) (by simp [results,Tryz.results14,asAddr,hld]; try rfl) rfl ?_
  exact ⟨read_none HR.out,hbE⟩
 subst hfn;rw [if_neg (by simp)] at HV;have hcr2:=hc' rfl;clear hc';obtain ⟨z0,z1,z2,z3,z4,z5⟩:_∧_∧_∧_∧_∧_:=⟨U5.out.cell 0 (by simp),U5.out.cell 1 (by simp),U5.out.cell 2 (by simp),U5.out.cell 3 (by simp),U5.out.cell 4 (by simp),U5.out.cell 5 (by simp)⟩
 simp only [List.getElem_cons_zero,List.getElem_cons_succ] at z0 z1 z2 z3 z4 z5;have HROW:=H5.out.row;have y1:=HROW.cell 1 (by rw [rq_len]; decide);have y2:=HROW.cell 2 (by rw [rq_len]; decide);have y3:=HROW.cell 3 (by rw [rq_len]; decide);have y4:=HROW.cell 4 (by rw [rq_len]; decide);have y5:=HROW.cell 5 (by rw [rq_len]; decide);have y6:=HROW.cell 6 (by rw [rq_len]; decide);have f1:=HROW.frozen 1;have f2:=HROW.frozen 2;have f3:=HROW.frozen 3;have f4:=HROW.frozen 4;have f5:=HROW.frozen 5;have f6:=HROW.frozen 6;have H6:=hid (H5.out.tgt (u:=⟨us,uu,uh,up,upp,uhh⟩) P5.out Q5.out);unfold set16 at H6;simp only at H6;clear HROW U5 P5 Q5 H5
 go_upto_region 13 with (first
 | (refine wpList_store_row rfl 37 (.tmp 5) _ rfl w1.heap.size CB rfl rfl _ _ hrow4 hinfB hszB honeB ?_))
 go_upto_region 14 with fail
 generalize World.setCell _ _ _=w6 at H6 ⊢;clear z0 z1 z2 z3 z4 z5 y1 y2 y3 y4 y5 y6 f1 f2 f3 f4 f5 f6;obtain ⟨x0,x1,x2,x3,x4,x5⟩:=H6.out.bi.bx;simp only at x0 x1 x2 x3 x4 x5;go_wp2_with fail
 refine (KP1.out _ H6.out.bi.b).mono ?_
 rintro e w7 ⟨v,rfl,hov,hw7⟩;have H7:=hid (H6.out.below hw7);have hlt6:=H6.out.lt;obtain ⟨va,vc,hve,hvc0⟩:=hov.txts;clear hvc0;have hov2:=hov.mono hlt6;subst hve;have H8:=hid (H7.out.rou hov2);have y33:=H7.out.row.cell 33 (by rw [rq_len]; decide);have f33:=H7.out.row.frozen 33;obtain ⟨C8,hC8⟩:∃ x,x=(c'.tgt ⟨us,uu,uh,up,upp,uhh⟩ (.slice pa upp.length pc) (.slice qa uhh.length qc)).rou rts (.slice va rts.length vc):=⟨_,rfl⟩
 rw [← hC8] at H8;have hro:C8.ro=.slice va rts.length vc:=by rw [hC8]; rfl
 have hrl:C8.r.routes=rts:=by rw [hC8]; rfl
 have hfin:Hid (∀ v2,(C8.acc acs v2).r={ fr with target:=⟨us,uu,uh,up,upp,uhh⟩,routes:=rts,accept:=acs }):=fun v2=>by rw [hC8,← hcr2]; rfl
 have hr33:(rqCells C8)[33]'(by rw [rq_len]; decide)=.slice va rts.length vc:=hro;clear x0 x1 x2 x3 x4 x5 hw7 hov hov2 KP1 H6 H7 hC8 hrow4 honeB hinfB hszB HCB hone hinf hsz HCA HRB hsl hcr2;obtain ⟨n,hn⟩:∃ n,n=rts.length:=⟨_,rfl⟩
 rw [← hn] at hro hr33 H8 hp1 ⊢;have HN:=hid hn;clear hn;go_wp2;generalize World.setCell _ _ _=W8 at H8 ⊢;clear y33 f33
 go_loopw [8] (fun i wr=>∃ k:Nat,k≤n∧i=.int .i64 k∧Hid (RdIn w w1 ⟨me,ta,st,re,hs,bo⟩ (.slice ao hs.length cap) C8 wr)∧Hid (routesE rts=routesE (rts.drop k))) (fun i _=>n - (intOf i).toNat)
 case atStart=>exact ⟨0,by omega,rfl,H8,hid rfl⟩
 case round =>
  clear H8;obtain ⟨k,hkn,rfl,HD,HE⟩:=hrel;have y33:=HD.out.row.cell 33 (by rw [rq_len]; decide);rw [hr33] at y33;by_cases hlt:k < n
  ·have hkl:k < rts.length:=by have:=HN.out; omega
   obtain ⟨ao',cap',he',hcs⟩:=HD.out.ro.txts;rw [hro] at he';simp only [Value.slice.injEq] at he';obtain ⟨a,hao,hab,hcell⟩:=hcs k (by rw [hrl]; exact hkl);rw [← he'.1] at hao;simp only [hrl] at hcell;have hva:=hid hao;have hll:=HRL.out _ (List.getElem_mem hkl);have KA:=hid (fun w'=>rparseA_any rts[k] w' hll);have hst':=routes_step hkl;have HE2:=hid (HE.out.trans hst');generalize parseA rts[k]=pr at KA HE2;obtain ⟨⟨ad,⟨as',au,ah',ap',app,ahh⟩,aps⟩,pe⟩:=pr;unfold ParseRes adrV at KA;simp only at KA HE2;generalize rts[k]=s at hcell KA;subst hao;clear hcs he' hab hll hst' HE;go_wp2_with fail
   refine (KA.out _).mono ?_
   rintro e w9 ⟨⟨p9,h9,q9,rfl,o1,o2,o3⟩,hw9⟩;obtain ⟨a1,k1,e1⟩:=o1.parsAt.form;obtain ⟨a2,k2,e2⟩:=o2.parsAt.form;obtain ⟨a3,k3,e3⟩:=o3.parsAt.form;subst e1 e2 e3;have HD9:=hid ((HD.out.below hw9).below ((Below.refl _ w9).alloc (Nat.le_refl _) (.cells #[.string ⟨ad.toArray⟩,.string ⟨as'.toArray⟩,.string ⟨au.toArray⟩,.string ⟨ah'.toArray⟩,.int .i64 ap',.slice a1 app.length k1,.slice a2 ahh.length k2,.slice a3 aps.length k3] 31)));clear HD hw9 o1 o2 o3 KA y33 hcell hva;by_cases hpe:pe=0
   case neg =>
    have hE:routesE rts=pe:=by rw [HE2.out,if_pos hpe]
    have HR:Hid (R=(noR,pe)):=show _=_ by rw [HV.out,hE,if_pos hpe]
    have hne:(pe != 0)=true:=by simpa using hpe
    clear HV HE2 KP2 hfin;have hlo:=(HD9.out.bi).no;have hst:=(HD9.out.bi).rs;have hbE:=(HD9.out.bi).b;have hld:=run_loadVar_row (P:=Tryz.prog) _ _ _ 37 _ _ _ hst Tryz.underlying37 rfl infoR0;go_wp2_with (first
     | (refine wpList_load_row rfl 37 (.tmp 4) rfl (w.heap.size+1+1) rfl _ _ _ _ hlo Tryz.underlying37 rfl infoR0 ?_)
     | (refine wpList_store_row rfl 37 (.tmp 2) _ rfl (w.heap.size+1) rq0 rfl rfl _ _ hst infoR0 rfl oneR0 ?_; rw [setRow_self _ _ _ _ _ hst]))
    try simp only [Exit.inBlock,Exit.then]
    refine bodyPost_ret (v:=.tuple #[.agg rq0,.int .i64 pe]) (by simp [results,Tryz.results14,asAddr,hld]; try rfl) rfl ?_
    exact ⟨read_none HR.out,hbE⟩
   subst hpe;rw [if_neg (by simp)] at HE2;go_wp2;go_roundw
   case rel=>exact ⟨k+1,by omega,by go_num,HD9,HE2⟩
   case measure=>simp [intOf]; omega
  ·have hE:routesE rts=0:=by rw [HE.out,List.drop_of_length_le (by have:=HN.out; omega)]; rfl
   rw [hE,if_neg (by simp)] at HV;obtain ⟨x0,x1,x2,x3,x4,x5⟩:=HD.out.bi.bx;simp only at x0 x1 x2 x3 x4 x5;clear HE;go_wp2_with fail
   refine (KP2.out _ HD.out.bi.b).mono ?_
   rintro e w9 ⟨v2,rfl,hov,hw9⟩;have hlt6:=HD.out.lt;have H9:=hid (HD.out.below hw9);obtain ⟨va2,vc2,hve,hvc0⟩:=hov.txts;clear hvc0;have hov2:=hov.mono hlt6;subst hve;have y34:=H9.out.row.cell 34 (by rw [rq_len]; decide);have f34:=H9.out.row.frozen 34;have HA:=hid (H9.out.acc hov2);have yA:=HA.out.row.cell 33 (by rw [rq_len]; decide);have yB:=HA.out.row.cell 34 (by rw [rq_len]; decide);have hyA:(rqCells (C8.acc acs (.slice va2 acs.length vc2)))[33]'(by rw [rq_len]; decide)=.slice va n vc:=hro;have hyB:(rqCells (C8.acc acs (.slice va2 acs.length vc2)))[34]'(by rw [rq_len]; decide)=.slice va2 acs.length vc2:=rfl;rw [hyA] at yA;rw [hyB] at yB;have hff:=hfin.out (.slice va2 acs.length vc2);obtain ⟨n2,hn2⟩:∃ n,n=acs.length:=⟨_,rfl⟩
   rw [← hn2] at yA yB HA hff hp2 ⊢;have HN2:=hid hn2;have HFF:=hid hff;clear hn2 hff hov hov2 hw9 HD H9 KP2 x0 x1 x2 x3 x4 x5 y33 hyA hyB hro hrl hr33 hfin;generalize hC9:C8.acc acs (.slice va2 n2 vc2)=C9 at HA HFF;clear hC9;by_cases h16:16 < n
   ·have h16i:(16:Int) < (n:Int):=by omega
    have HR:Hid (R=(noR,4)):=show _=_ by rw [HV.out,if_pos (Or.inl (by have:=HN.out; omega))]
    clear HV HFF;have hlo:=(HA.out.bi).no;have hst:=(HA.out.bi).rs;have hbE:=(HA.out.bi).b;have hld:=run_loadVar_row (P:=Tryz.prog) _ _ _ 37 _ _ _ hst Tryz.underlying37 rfl infoR0;go_wp2_with (first
     | (refine wpList_load_row rfl 37 (.tmp 4) rfl (w.heap.size+1+1) rfl _ _ _ _ hlo Tryz.underlying37 rfl infoR0 ?_)
     | (refine wpList_store_row rfl 37 (.tmp 2) _ rfl (w.heap.size+1) rq0 rfl rfl _ _ hst infoR0 rfl oneR0 ?_; rw [setRow_self _ _ _ _ _ hst]))
    try simp only [Exit.inBlock,Exit.then]
    refine bodyPost_ret (v:=.tuple #[.agg rq0,.int .i64 4]) (by simp [results,Tryz.results14,asAddr,hld]; try rfl) rfl ?_
    exact ⟨read_none HR.out,hbE⟩
   ·have h16i:¬ ((16:Int) < (n:Int)):=by omega
    by_cases h17:16 < n2
    ·have h17i:(16:Int) < (n2:Int):=by omega
     have HR:Hid (R=(noR,4)):=show _=_ by rw [HV.out,if_pos (Or.inr (by have:=HN2.out; omega))]
     clear HV HFF;have hlo:=(HA.out.bi).no;have hst:=(HA.out.bi).rs;have hbE:=(HA.out.bi).b;have hld:=run_loadVar_row (P:=Tryz.prog) _ _ _ 37 _ _ _ hst Tryz.underlying37 rfl infoR0;go_wp2_with (first
      | (refine wpList_load_row rfl 37 (.tmp 4) rfl (w.heap.size+1+1) rfl _ _ _ _ hlo Tryz.underlying37 rfl infoR0 ?_)
      | (refine wpList_store_row rfl 37 (.tmp 2) _ rfl (w.heap.size+1) rq0 rfl rfl _ _ hst infoR0 rfl oneR0 ?_; rw [setRow_self _ _ _ _ _ hst]))
     try simp only [Exit.inBlock,Exit.then]
     refine bodyPost_ret (v:=.tuple #[.agg rq0,.int .i64 4]) (by simp [results,Tryz.results14,asAddr,hld]; try rfl) rfl ?_
     exact ⟨read_none HR.out,hbE⟩
    ·have h17i:¬ ((16:Int) < (n2:Int)):=by omega
     have hR:R=(C9.r,0):=by rw [HV.out,if_neg (by have:=HN.out; have:=HN2.out; omega),HFF.out]
     have HO:=hid (rd_out HA.out hR);have hlo:_=_:=HA.out.row;unfold RowIs at hlo;have hst:=HA.out.bi.rs;have hone:(rqCells C9).toArray.all (·.oneCell')=true:=oneR HA.out.sl;have hinf:(Tryz.prog.info? 37).map (·.size)=some (rqCells C9).toArray.size:=infoR;have hsz:rq0.size=(rqCells C9).toArray.size:=rfl;clear HV HFF HA hR;generalize (rqCells C9).toArray=CC at HO hlo hone hinf hsz;go_wp2_with (first
      | (refine wpList_load_row rfl 37 (.tmp 5) rfl w1.heap.size rfl _ _ _ _ hlo Tryz.underlying37 rfl hinf ?_)
      | (refine wpList_store_row rfl 37 (.tmp 2) _ rfl (w.heap.size+1) CC rfl rfl _ _ hst hinf hsz hone ?_))
     obtain ⟨HO1,HO2⟩:=HO.out;generalize World.setRow _ _ _=wE at HO1 HO2 ⊢;have hld:=run_loadVar_row (P:=Tryz.prog) _ _ _ 37 _ _ _ HO2 Tryz.underlying37 rfl hinf
     try simp only [Exit.inBlock,Exit.then]
     refine bodyPost_ret (v:=.tuple #[.agg CC,.int .i64 0]) (by simp [results,Tryz.results14,asAddr,hld]; try rfl) rfl ?_
     exact HO1
end Go.Proofs.YtiogedceommcoaaGreatDoor
namespace Go.Proofs.YtiogedceommcoaaGreatDoor
open Go.RowKit Go.Sort Sc
theorem ev_ok_small {v:Ev} (h:evB v=true):SmallE 4096 v:=by
 obtain ⟨h1,h2,h3⟩:=ev_facts h;refine ⟨by have:=(tok_facts h1).2.1; omega,by omega,?_⟩
 intro p hp
 have:∀ (ps b:List Par),mayGo b ps=true → ∀ p ∈ ps,p.name.length≤4096∧p.value.length≤4096:=by
  intro ps
  induction ps with
  | nil=>intro b _ p hp; simp at hp
  | cons q ps ih =>
   intro b h p hp;rw [mayGo,Bool.and_eq_true] at h
   rcases List.mem_cons.1 hp with rfl | hp
   ·obtain ⟨m1,_,m3,_,_⟩:=may_facts h.1;obtain ⟨_,t2,_⟩:=tok_facts m1;omega
   ·exact ih _ h.2 p hp
 exact this _ _ h3 p hp
theorem event_small {s:List UInt8} {v:Ev} (h:eventV s=(v,0)):SmallE 4096 v:=ev_ok_small (event_checked h)
end Go.Proofs.YtiogedceommcoaaGreatDoor
namespace Go.Proofs.YtiogedceommcoaaGreatDoor
open Go.RowKit Sc
theorem alistG_small:∀ (qs:List (List UInt8)) (out:List Adr),(∀ a ∈ out,SmallA 140737488355328 a) → (∀ a ∈ (listG out qs).1,SmallA 140737488355328 a)∧(listG out qs).1.length≤out.length+qs.length
 | [],out,h=>⟨h,by simp [listG]⟩
 | q :: qs,out,h=>by
  rw [listG]
  split
  ·exact ⟨fun a ha=>by simp at ha,by simp⟩
  ·have:=alistG_small qs (out++[(parseA q).1]) (fun a ha=>by
    rcases List.mem_append.1 ha with ha | ha
    ·exact h a ha
    ·simp at ha; subst ha; exact rsmall_parsed q)
   refine ⟨this.1,?_⟩
   have h2:=this.2
   simp at h2 ⊢; omega
theorem alist_small (s:List UInt8):(∀ a ∈ (listA s).1,SmallA 140737488355328 a)∧(listA s).1.length≤16:=by
 unfold listA
 split
 ·exact ⟨fun a ha=>by simp at ha,by simp⟩
 ·have:=alistG_small (partsV 44 s) [] (fun a ha=>by simp at ha)
  refine ⟨this.1,?_⟩
  have h2:=this.2
  simp at h2; omega
structure SmallF (r:Rq):Prop where
 f:SmallA 140737488355328 r.frm
 o:SmallA 140737488355328 r.too
 e:r.event.params.length≤140737488355328
 c1:r.contact.length≤1048576
 c2:∀ a ∈ r.contact,SmallA 140737488355328 a
theorem sf_exp {m:Ms} {r:Rq} (h:SmallF r):SmallF (fExpV m r).1:=by unfold fExpV; split <;> exact ⟨h.f,h.o,h.e,h.c1,h.c2⟩
theorem sf_typ {m:Ms} {r:Rq} (h:SmallF r):SmallF (fTypV m r).1:=by unfold fTypV; split <;> exact ⟨h.f,h.o,h.e,h.c1,h.c2⟩
theorem sf_mat {m:Ms} {r:Rq} (h:SmallF r):SmallF (fMatV m r).1:=by unfold fMatV; split <;> exact ⟨h.f,h.o,h.e,h.c1,h.c2⟩
theorem sf_con {m:Ms} {r:Rq} (h:SmallF r):SmallF (fConV m r).1:=by
 unfold fConV
 split
 ·exact h
 ·rename_i s _
  have:=alist_small s
  exact ⟨h.f,h.o,h.e,by simp only; omega,this.1⟩
 ·exact h
theorem sf_evt {m:Ms} {r:Rq} (h:SmallF r) (he:(fEvtV m r).2=0):SmallF (fEvtV m r).1:=by
 unfold fEvtV at he ⊢
 split at he
 ·exact h
 ·rename_i s _
  simp only at he
  have:=event_small (s:=s) (v:=(eventV s).1) (by rw [← he])
  have h2:=this.2.1;exact ⟨h.f,h.o,by simp only; omega,h.c1,h.c2⟩
 ·exact h
theorem sf_fields {m:Ms} {r:Rq} (h:SmallF r) (he:(fieldsR m r).2=0):SmallF (fieldsR m r).1:=by
 unfold fieldsR at he ⊢;obtain ⟨h4,e5⟩:=thenV_ok he;obtain ⟨h3,e4⟩:=thenV_ok h4;obtain ⟨h2,e3⟩:=thenV_ok h3;obtain ⟨h1,e2⟩:=thenV_ok h2;rw [e5,e4,e3,e2];rw [e2] at h2;exact sf_mat (sf_typ (sf_con (sf_evt (sf_exp h) h2)))
theorem small_read (m:Ms) (hp1:(piecesV m routeK).length≤1048576) (hp2:(piecesV m acceptK).length≤1048576):SmallR (rreadV m).1:=by
 have hb:=small_base m;unfold rreadV
 split
 ·exact small_noR
 ·split
  ·exact small_noR
  ·split
   ·exact small_noR
   ·split
    ·exact small_noR
    ·split
     ·exact small_noR
     ·split
      ·exact small_noR
      ·rename_i a1 a2 a3 a4 a5 a6
       have e4:(fieldsR m (baseV m).1).2=0:=Classical.byContradiction a4;have e2:(parseV m.target).2=0:=Classical.byContradiction a2;have sf:=sf_fields (m:=m) (r:=(baseV m).1) ⟨hb.f,hb.o,hb.e,hb.c1,hb.c2⟩ e4;have su:=smallU_ok (parse_checked (s:=m.target) (u:=(parseV m.target).1) (by rw [← e2]));exact ⟨su.2.2.2.1.1,su.2.2.2.2.1,sf.f,sf.o,sf.e,sf.c1,sf.c2,by simp only; omega,by simp only; omega⟩
set_option maxHeartbeats 8000000 in
set_option maxRecDepth 100000 in
theorem replyReads_of (hC:∀ (m:Ms) (h:Value) (w:World),SmallM 1048576 m → m.headers.length≤1048576 → HdrsAt w h m.headers → sumQ m≤6000 → Calls Tryz.prog 13 #[msgV m h] w fun e w'=>ReadRes (rreadV m) w' e∧Below w.heap.size w w')
  (hW:∀ w:World,Calls Tryz.prog 9 #[] w fun e w'=>e=.returned (.bool true)∧Below w.heap.size w w')
  (m:Ms) (h:Value) (w:World) (hsm:SmallM 1048576 m) (hhl:m.headers.length≤1048576) (hat:HdrsAt w h m.headers) :
  Calls Tryz.prog 4 #[msgV m h] w fun e w'=>e=.returned (.bool true)∧Below w.heap.size w w':=by
 have hz:=zeroR0;have KS:=hid (fun w' (hb:Below w.heap.size w w')=>lsmall10 m h w' hsm hhl (hat.below hb));have KC:=hid (fun (hq:sumQ m≤6000) w' (hb:Below w.heap.size w w')=>hC m h w' hsm hhl (hat.below hb) hq);have KD:=hid (fun (hq:sumQ m≤6000) w' (hb:Below w.heap.size w w')=>(rread_any m h w' hsm hhl (hat.below hb) (pieces_few hq _) (pieces_few hq _)).mono (fun e w'' (x:_∧Below w'.heap.size w' w'')=>(⟨x.1,x.2⟩:ReadRes (rreadV m) w'' e∧Below w'.heap.size w' w'')));have KW:=hid hW;have HSR:=hid (fun (hq:sumQ m≤6000)=>small_read m (pieces_few hq _) (pieces_few hq _));have HBX:=hid (boxM_new w m h);have hb0:Below w.heap.size w (w.alloc (objM m h)):=(Below.refl _ w).alloc (Nat.le_refl _) _;have hl0:=alloc_lt w (objM m h);obtain ⟨ao,cap,hh0⟩:=hat.form;subst hh0;generalize rreadV m=R at KC KD HSR;clear hsm hhl hat hC hW;obtain ⟨me,ta,st,re,hs,bo⟩:=m;unfold msgV at KS KC KD ⊢;unfold objM at HBX hb0 hl0;simp only at KS KC KD HBX hb0 hl0 ⊢;generalize sumQ _=S at KS KC KD HSR;obtain ⟨x0,x1,x2,x3,x4,x5⟩:=HBX.out;simp only at x0 x1 x2 x3 x4 x5
 go_enter Tryz.func4,Tryz.ntmps4
 go_wp2_with fail
 refine (KS.out _ hb0).mono ?_
 rintro e w1 ⟨rfl,hw1⟩;have hb1:=hb0.trans (hw1.mono hb0.size);have HB1:=hid (HBX.out.below hw1 hl0);have hl1:=Nat.lt_of_lt_of_le hl0 hw1.size;clear x0 x1 x2 x3 x4 x5 HBX hw1 hb0 hl0 KS;by_cases hq:S≤6000
 case neg =>
  have hqd:decide (S≤6000)=false:=decide_eq_false hq;rw [hqd];clear KC KD HSR HB1;go_wp2_with fail
  refine (KW.out _).mono ?_
  rintro e w2 ⟨rfl,hw2⟩;go_wp2;go_ret;exact ⟨rfl,hb1.trans (hw2.mono hb1.size)⟩
 have hqd:decide (S≤6000)=true:=decide_eq_true hq;rw [hqd];replace KC:=hid (KC.out hq);replace KD:=hid (KD.out hq);replace HSR:=hid (HSR.out hq);obtain ⟨x0,x1,x2,x3,x4,x5⟩:=HB1.out;simp only at x0 x1 x2 x3 x4 x5;go_wp2_with fail
 refine (KC.out _ hb1).mono ?_
 rintro e w2 ⟨⟨c,hcr,rfl,hca,hcs⟩,hw2⟩;have hnw:(w2.alloc (.cells rq0 37)).heap[w2.heap.size]? = some (.cells rq0 37 (0,0)):=by rw [heap_alloc_new]
 unfold rqV;obtain ⟨CA,hCA⟩:∃ a,a=(rqCells c).toArray:=⟨_,rfl⟩
 rw [← hCA];have hone:CA.all (·.oneCell')=true:=by rw [hCA]; exact oneR hcs
 have hinf:(Tryz.prog.info? 37).map (·.size)=some CA.size:=by rw [hCA]; exact infoR
 have hsz:rq0.size=CA.size:=by rw [hCA]; rfl
 have A3:=(Below.refl _ w2).alloc (Nat.le_refl _) (.cells CA 37);have hb3:=hb1.trans ((hw2.trans (A3.mono hw2.size)).mono hb1.size);have HB3:=hid ((HB1.out.below hw2 hl1).below A3 (Nat.lt_of_lt_of_le hl1 hw2.size));have HA3:=hid (hca.below A3);have R3:Hid ((w2.alloc (.cells CA 37)).heap[w2.heap.size]? = some (.cells CA 37 (0,0))):=show _=_ by rw [heap_alloc_new]
 have hl3:w2.heap.size < (w2.alloc (.cells CA 37)).heap.size:=by simp
 have HCA:=hid hCA;clear x0 x1 x2 x3 x4 x5 HB1 hb1 hw2 A3 hca hCA KC;obtain ⟨x0,x1,x2,x3,x4,x5⟩:=HB3.out;simp only at x0 x1 x2 x3 x4 x5;go_wp2_with (refine wpList_store_row rfl 37 (.tmp 3) _ rfl w2.heap.size CA rfl rfl _ _ hnw hinf hsz hone ?_; rw [World.setRow_alloc_new])
 refine (KD.out _ hb3).mono ?_
 rintro e w4 ⟨⟨c',hcr',rfl,hca',hcs'⟩,hw4⟩;have hnw':(w4.alloc (.cells rq0 37)).heap[w4.heap.size]? = some (.cells rq0 37 (0,0)):=by rw [heap_alloc_new]
 unfold rqV;obtain ⟨CB,hCB⟩:∃ a,a=(rqCells c').toArray:=⟨_,rfl⟩
 rw [← hCB];have hone':CB.all (·.oneCell')=true:=by rw [hCB]; exact oneR hcs'
 have hinf':(Tryz.prog.info? 37).map (·.size)=some CB.size:=by rw [hCB]; exact infoR
 have hsz':rq0.size=CB.size:=by rw [hCB]; rfl
 have A5:=(Below.refl _ w4).alloc (Nat.le_refl _) (.cells CB 37);have hb5:=hid (hb3.trans ((hw4.trans (A5.mono hw4.size)).mono hb3.size));have R5:(w4.alloc (.cells CB 37)).heap[w2.heap.size]? = some (.cells CA 37 (0,0)):=by rw [A5.block _ (Nat.lt_of_lt_of_le hl3 hw4.size),hw4.block _ hl3]; exact R3.out
 have R5':(w4.alloc (.cells CB 37)).heap[w4.heap.size]? = some (.cells CB 37 (0,0)):=by rw [heap_alloc_new]
 have KM:=hid (rsame10_any c c' (w4.alloc (.cells CB 37)) (hcr'.trans hcr.symm) ((HA3.out.below hw4).below A5) (hca'.below A5) (by rw [hcr]; exact HSR.out));unfold rqV at KM;rw [← HCA.out,← hCB] at KM;have hee:(R.2==R.2)=true:=by simp
 clear x0 x1 x2 x3 x4 x5 HB3 hb3 hw4 A5 hca' hCB HA3 R3 hl3 HCA hnw KD HSR hcs hcs' hcr hcr';go_wp2_with (first
  | (refine wpList_store_row rfl 37 (.tmp 5) _ rfl w4.heap.size CB rfl rfl _ _ hnw' hinf' hsz' hone' ?_; rw [World.setRow_alloc_new])
  | (refine wpList_load_row rfl 37 (.tmp 3) rfl w2.heap.size rfl _ _ _ _ R5 Tryz.underlying37 rfl hinf ?_)
  | (refine wpList_load_row rfl 37 (.tmp 5) rfl w4.heap.size rfl _ _ _ _ R5' Tryz.underlying37 rfl hinf' ?_)
  | (go_at_call 12; refine KM.out.mono ?_; rintro e w6 ⟨rfl,hw6⟩)
  | (go_at_call 9; refine (KW.out _).mono ?_; rintro e w7 ⟨rfl,hw7⟩))
 go_ret;exact ⟨rfl,(hb5.out.trans (hw6.mono hb5.out.size)).trans (hw7.mono (Nat.le_trans hb5.out.size hw6.size))⟩
end Go.Proofs.YtiogedceommcoaaGreatDoor
namespace Go.Proofs.YtiogedceommcoaaGreatDoor.replyReads
open Go.RowKit Sc
theorem law_walk (w:World) (v0:Value) (k0:MsgGot 1048576 w v0) :
  Calls Tryz.prog 4 #[v0] w fun e w'=>e=.returned (.bool true)∧Below w.heap.size w w':=by
 obtain ⟨m,h,rfl,hat,hsm,hcnt,_⟩:=k0;exact replyReads_of code_read awake10_any m h w hsm hsm.2.2.2.2.1 hat
end Go.Proofs.YtiogedceommcoaaGreatDoor.replyReads
