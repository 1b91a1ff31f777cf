/-
  RParse6, RSame6, LSmall10, Awake10O, RAnsL.
-/
import Derived.Test.YtiogedceommcoaaGreatDoorK28
import Derived.Test.YtiogedceommcoaaGreatDoorK35
import Derived.Laws.AppendOwnNone
set_option linter.unusedVariables false
set_option linter.unusedSimpArgs false
set_option maxRecDepth 20000
namespace Go.Proofs.YtiogedceommcoaaGreatDoor
open Go.RowKit Go.Sort Sc
set_option maxHeartbeats 4000000 in
set_option maxRecDepth 100000 in
theorem rparse_any (s:List UInt8) (w:World) (hs47:s.length≤140737488355328) :
  Calls Tryz.prog 20 #[.string ⟨s.toArray⟩] w fun e w'=>MsgRes (parseM s) w w' e∧Below w.heap.size w w':=by
 obtain ⟨i0,hi,hz0,hz1,hz2⟩:=info_parts infoHdr;have hz:=size_list s;obtain ⟨R,hRR⟩:∃ R,R=parseM s:=⟨_,rfl⟩
 rw [← hRR];have hr0:=(rowM_new w).alloc2 (.cells #[.string ⟨#[]⟩,.string ⟨#[]⟩,.int .i64 0,.string ⟨#[]⟩,.slice none 0 0,.string ⟨#[]⟩] 24);have hr1:RowIs ((w.alloc (.cells #[.string ⟨#[]⟩,.string ⟨#[]⟩,.int .i64 0,.string ⟨#[]⟩,.slice none 0 0,.string ⟨#[]⟩] 24)).alloc (.cells #[.string ⟨#[]⟩,.string ⟨#[]⟩,.int .i64 0,.string ⟨#[]⟩,.slice none 0 0,.string ⟨#[]⟩] 24)) (w.heap.size+1) 24 zeroM:=by
  have:=rowM_new (w.alloc (.cells #[.string ⟨#[]⟩,.string ⟨#[]⟩,.int .i64 0,.string ⟨#[]⟩,.slice none 0 0,.string ⟨#[]⟩] 24))
  rwa [show (w.alloc (.cells #[.string ⟨#[]⟩,.string ⟨#[]⟩,.int .i64 0,.string ⟨#[]⟩,.slice none 0 0,.string ⟨#[]⟩] 24)).heap.size=w.heap.size+1 by simp] at this
 have hb0:Below w.heap.size w ((w.alloc (.cells #[.string ⟨#[]⟩,.string ⟨#[]⟩,.int .i64 0,.string ⟨#[]⟩,.slice none 0 0,.string ⟨#[]⟩] 24)).alloc (.cells #[.string ⟨#[]⟩,.string ⟨#[]⟩,.int .i64 0,.string ⟨#[]⟩,.slice none 0 0,.string ⟨#[]⟩] 24)):=((Below.refl _ w).alloc (Nat.le_refl _) _).alloc (by simp) _;have hlt0:w.heap.size+1 < ((w.alloc (.cells #[.string ⟨#[]⟩,.string ⟨#[]⟩,.int .i64 0,.string ⟨#[]⟩,.slice none 0 0,.string ⟨#[]⟩] 24)).alloc (.cells #[.string ⟨#[]⟩,.string ⟨#[]⟩,.int .i64 0,.string ⟨#[]⟩,.slice none 0 0,.string ⟨#[]⟩] 24)).heap.size:=by simp
 obtain ⟨W,hW⟩:∃ W,(w.alloc (.cells #[.string ⟨#[]⟩,.string ⟨#[]⟩,.int .i64 0,.string ⟨#[]⟩,.slice none 0 0,.string ⟨#[]⟩] 24)).alloc (.cells #[.string ⟨#[]⟩,.string ⟨#[]⟩,.int .i64 0,.string ⟨#[]⟩,.slice none 0 0,.string ⟨#[]⟩] 24)=W:=⟨_,rfl⟩
 rw [hW] at hr0 hr1 hb0 hlt0;have hS:=store_below (Below.refl (w.heap.size+1) W) (w.heap.size+1) (Nat.le_refl _) (.string ⟨#[]⟩) (.string ⟨#[]⟩) (.int .i64 0) (.string ⟨#[]⟩) (.slice none 0 0) (.string ⟨#[]⟩);have hrS1:=row_store hr1 (.string ⟨#[]⟩) (.string ⟨#[]⟩) (.int .i64 0) (.string ⟨#[]⟩) (.slice none 0 0) (.string ⟨#[]⟩);have hrS0:=hr0.below hS (Nat.lt_succ_self _);have hbS:=store_below hb0 (w.heap.size+1) (Nat.le_succ _) (.string ⟨#[]⟩) (.string ⟨#[]⟩) (.int .i64 0) (.string ⟨#[]⟩) (.slice none 0 0) (.string ⟨#[]⟩);have hltS:=Nat.lt_of_lt_of_le hlt0 hS.size;obtain ⟨y0,y1,y2,y3,y4,y5,f0,f1,f2,f3,f4,f5⟩:=hr0.six;obtain ⟨e0,e1,e2,e3,e4,e5,b0,b1,b2,b3,b4,b5⟩:=hr1.six;clear hS hlt0 hb0 hr0 hr1;by_cases h4:4096 < s.length
 ·have h4':(4096:Int) < (s.length:Int):=by omega
  have HR:Hid (R=(noM,2)):=show _=_ by rw [hRR]; exact parse_long h4
  have hr7:=row_store hrS0 (.string ⟨#[]⟩) (.string ⟨#[]⟩) (.int .i64 0) (.string ⟨#[]⟩) (.slice none 0 0) (.string ⟨#[]⟩);have hb7:=store_below hbS w.heap.size (Nat.le_refl _) (.string ⟨#[]⟩) (.string ⟨#[]⟩) (.int .i64 0) (.string ⟨#[]⟩) (.slice none 0 0) (.string ⟨#[]⟩);clear hRR hltS hrS0 hrS1 hbS
  go_enter Tryz.func20,Tryz.ntmps20
  go_wp2;clear hW;generalize World.setCell _ _ _=w7 at hr7 hb7 ⊢;clear y0 y1 y2 y3 y4 y5 f0 f1 f2 f3 f4 f5 e0 e1 e2 e3 e4 e5 b0 b1 b2 b3 b4 b5;obtain ⟨d0,d1,d2,d3,d4,d5,_,_,_,_,_,_⟩:=hr7.six
  try simp only [Exit.inBlock,Exit.then]
  refine bodyPost_ret (v:=.tuple #[.agg #[.string ⟨#[]⟩,.string ⟨#[]⟩,.int .i64 0,.string ⟨#[]⟩,.slice none 0 0,.string ⟨#[]⟩],.int .i64 2]) (by simp [results,Tryz.results20,go_sem,d0,d1,d2,d3,d4,d5]; try rfl) rfl ?_
  exact ⟨pres_bad HR.out,hb7⟩
 have h4':¬ ((4096:Int) < (s.length:Int)):=by omega
 have KH:=hid (fun w'=>rhead_any s w' (by omega));have hno:=@parseM_none63 s h4;have hyes:=fun l r=>@parseM_some s r l h4;rw [← hRR] at hno hyes;generalize headV s=H at KH hno hyes;have HNO:=hid hno;have HYES:=hid hyes;clear hno hyes hRR
 go_enter Tryz.func20,Tryz.ntmps20
 go_wp2_with fail
 clear hW y0 y1 y2 y3 y4 y5 f0 f1 f2 f3 f4 f5 e0 e1 e2 e3 e4 e5 b0 b1 b2 b3 b4 b5;refine (KH.out _).mono ?_
 rintro e w1 ⟨hres,hw1⟩;have hr10:=hrS0.below hw1 (by omega);have hr11:=hrS1.below hw1 hltS;have hb1:=hbS.trans (hw1.mono hbS.size);have hlt1:=Nat.lt_of_lt_of_le hltS hw1.size;have hWl:=hb1.size;clear hrS0 hrS1 hbS hltS;unfold HeadRes at hres
 rcases hres with ⟨hH,rfl⟩ | ⟨Q,k,v,hH,rfl,hown,hk,hsum⟩
 ·have HR:=hid (HNO.out hH);clear HNO HYES hH;obtain ⟨y0,y1,y2,y3,y4,y5,f0,f1,f2,f3,f4,f5⟩:=hr10.six;obtain ⟨e0,e1,e2,e3,e4,e5,_,_,_,_,_,_⟩:=hr11.six;have hr7:=row_store hr10 (.string ⟨#[]⟩) (.string ⟨#[]⟩) (.int .i64 0) (.string ⟨#[]⟩) (.slice none 0 0) (.string ⟨#[]⟩);have hb7:=store_below hb1 w.heap.size (Nat.le_refl _) (.string ⟨#[]⟩) (.string ⟨#[]⟩) (.int .i64 0) (.string ⟨#[]⟩) (.slice none 0 0) (.string ⟨#[]⟩);go_wp2;generalize World.setCell _ _ _=w7 at hr7 hb7 ⊢;obtain ⟨d0,d1,d2,d3,d4,d5,_,_,_,_,_,_⟩:=hr7.six
  try simp only [Exit.inBlock,Exit.then]
  refine bodyPost_ret (v:=.tuple #[.agg #[.string ⟨#[]⟩,.string ⟨#[]⟩,.int .i64 0,.string ⟨#[]⟩,.slice none 0 0,.string ⟨#[]⟩],.int .i64 63]) (by simp [results,Tryz.results20,go_sem,d0,d1,d2,d3,d4,d5]; try rfl) rfl ?_
  exact ⟨pres_bad HR.out,hb7⟩
 have hR:=HYES.out _ _ hH;clear HYES HNO hH
 cases Q with
 | nil =>
  have HR:Hid (R=(noM,63)):=show _=_ by rw [hR,if_pos rfl]
  obtain ⟨xa,xc,hxe⟩:=hown.form;subst hxe;clear hR hown;simp only [strs,List.map_nil,List.length_nil];obtain ⟨y0,y1,y2,y3,y4,y5,f0,f1,f2,f3,f4,f5⟩:=hr10.six;obtain ⟨e0,e1,e2,e3,e4,e5,_,_,_,_,_,_⟩:=hr11.six;have hr7:=row_store hr10 (.string ⟨#[]⟩) (.string ⟨#[]⟩) (.int .i64 0) (.string ⟨#[]⟩) (.slice none 0 0) (.string ⟨#[]⟩);have hb7:=store_below hb1 w.heap.size (Nat.le_refl _) (.string ⟨#[]⟩) (.string ⟨#[]⟩) (.int .i64 0) (.string ⟨#[]⟩) (.slice none 0 0) (.string ⟨#[]⟩);go_wp2;generalize World.setCell _ _ _=w7 at hr7 hb7 ⊢;obtain ⟨d0,d1,d2,d3,d4,d5,_,_,_,_,_,_⟩:=hr7.six
  try simp only [Exit.inBlock,Exit.then]
  refine bodyPost_ret (v:=.tuple #[.agg #[.string ⟨#[]⟩,.string ⟨#[]⟩,.int .i64 0,.string ⟨#[]⟩,.slice none 0 0,.string ⟨#[]⟩],.int .i64 63]) (by simp [results,Tryz.results20,go_sem,d0,d1,d2,d3,d4,d5]; try rfl) rfl ?_
  exact ⟨pres_bad HR.out,hb7⟩
 | cons q0 Qs =>
  rw [if_neg (by simp)] at hR;simp only [List.headD_cons,List.tail_cons] at hR;obtain ⟨g,c,hve,hpc,hg,hBg,hcl⟩:=own_cells hown (by simp);subst hve;have hmem:=sumL_mem (q0 :: Qs);have hQl:(q0 :: Qs).length≤8192:=by
   have:=sumL_is (q0 :: Qs); omega
  have hq0:=hmem q0 (by simp);have KST:=hid (fun w'=>rstart_any q0 w' (by omega));have c0:=hcl 0 (by simp);simp only [List.getElem_cons_zero] at c0;have HCL:=hid hcl;have HMEM:=hid hmem;generalize startV q0=SV at hR KST;have HR0:=hid hR;clear hR hcl hmem hown;simp only [List.length_cons] at hpc hQl ⊢;have hkk:¬ ((k:Int) < 0):=by omega
  have hnz:((Qs.length:Int)+1==0)=false:=beq_eq_false_iff_ne.2 (by omega);go_wp2_with fail
  refine (KST.out _).mono ?_
  rintro e w5 ⟨hst,hw5⟩;have hr50:=hr10.below hw5 (by omega);have hr51:=hr11.below hw5 hlt1;have hb5:=hb1.trans (hw5.mono hb1.size);have hlt5:=Nat.lt_of_lt_of_le hlt1 hw5.size;have hg5:=Nat.lt_of_lt_of_le hg hw5.size;have HCL5:Hid (∀ j (hj:j < (q0 :: Qs).length),w5.cell? ⟨g,j,none⟩=some (.string ⟨((q0 :: Qs)[j]).toArray⟩)):=fun j hj=>cell_below hw5 hg (HCL.out j hj);clear hr10 hr11 hb1 hlt1 hw5 HCL c0 KST hg;unfold StartRes at hst;obtain ⟨m,ok,rfl,hmh,hmb,hVm⟩:=hst;obtain ⟨me,ta,st,re,hs0,bo0⟩:=m;simp only at hmh hmb;subst hmh hmb;unfold msgV
  simp only
  have HI:=hid (InM.new w5 me ta re st);have hr60:=HI.out.1
  cases ok with
  | false =>
   have hV:SV=none:=by
    rcases hVm with ⟨h,_⟩ | ⟨_,h⟩
    ·exact absurd h (by simp)
    ·exact h
   have HR:Hid (R=(noM,60)):=show _=_ by rw [HR0.out,hV]
   clear hVm hV HR0 HCL5 HMEM;have hrA0:=hr50.below hr60 (by omega);have hrA1:=hr51.below hr60 hlt5;have hbA:=hb5.trans (hr60.mono hb5.size);clear HI hr60 hr50 hr51 hb5;obtain ⟨y0,y1,y2,y3,y4,y5,f0,f1,f2,f3,f4,f5⟩:=hrA0.six;obtain ⟨e0,e1,e2,e3,e4,e5,_,_,_,_,_,_⟩:=hrA1.six;have hr7:=row_store hrA0 (.string ⟨#[]⟩) (.string ⟨#[]⟩) (.int .i64 0) (.string ⟨#[]⟩) (.slice none 0 0) (.string ⟨#[]⟩);have hb7:=store_below hbA w.heap.size (Nat.le_refl _) (.string ⟨#[]⟩) (.string ⟨#[]⟩) (.int .i64 0) (.string ⟨#[]⟩) (.slice none 0 0) (.string ⟨#[]⟩);go_wp2;generalize World.setCell _ _ _=w7 at hr7 hb7 ⊢;obtain ⟨d0,d1,d2,d3,d4,d5,_,_,_,_,_,_⟩:=hr7.six
   try simp only [Exit.inBlock,Exit.then]
   refine bodyPost_ret (v:=.tuple #[.agg #[.string ⟨#[]⟩,.string ⟨#[]⟩,.int .i64 0,.string ⟨#[]⟩,.slice none 0 0,.string ⟨#[]⟩],.int .i64 60]) (by simp [results,Tryz.results20,go_sem,d0,d1,d2,d3,d4,d5]; try rfl) rfl ?_
   exact ⟨pres_bad HR.out,hb7⟩
  | true =>
   have hV:SV=some ⟨me,ta,st,re,[],[]⟩:=by
    rcases hVm with ⟨_,h⟩ | ⟨h,_⟩
    ·exact h
    ·exact absurd h (by simp)
   have HR1:Hid (R=hdrG (s.drop k) ⟨me,ta,st,re,[],[]⟩ (s.length - k) false ((q0 :: Qs).drop 1)):=show _=_ by rw [HR0.out,hV]; simp
   clear hVm hV HR0 hr60;have hsk:IntKind.i64.wrap ((s.length:Int) - (k:Int))=((s.length - k:Nat):Int):=by
    simp [IntKind.wrap,IntKind.bits,IntKind.signed]; omega
   have hsk2:(s.length:Int) - (k:Int)=((s.length - k:Nat):Int):=by omega
   have HZ0:=hid (fun (w':World) (hb:Below w5.heap.size w5 w')=>hr50.below hb (by omega));have HZ1:=hid (fun (w':World) (hb:Below w5.heap.size w5 w')=>hr51.below hb hlt5);have HBB:=hid (fun (w':World) (hb:Below w5.heap.size w5 w')=>hb5.trans (hb.mono hb5.size));clear hr50 hr51 hb5;have HQN:Hid ((q0 :: Qs).length=Qs.length+1):=rfl;generalize q0 :: Qs=Q at HR1 HCL5 HMEM HQN hsum;obtain ⟨N,hN⟩:∃ N,N=Qs.length+1:=⟨_,rfl⟩
   have hN8:N≤8192:=by omega
   have hN1:1≤N:=by omega
   have hNI:((Qs.length:Int)+1)=(N:Int):=by omega
   rw [← hN] at HQN hpc ⊢
   (try rw [hNI])
   clear hNI;have hrl:(s.drop k).length=s.length - k:=List.length_drop;have HEXT:=hid (fun (size:Nat) (h:size≤s.length - k)=>show (⟨s.toArray⟩:ByteArray).extract k (k+size)=⟨((s.drop k).take size).toArray⟩ by rw [ext_list]; simp);generalize s.drop k=rest at HR1 HEXT hrl;obtain ⟨sz0,hsz0⟩:∃ z,z=s.length - k:=⟨_,rfl⟩
   rw [← hsz0] at HR1 hsk hsk2 hrl HEXT;clear hN hQl hnz;have hszf:s.length - k=sz0:=hsz0.symm;clear hsz0;go_wp2
   go_loopw [9,10,11] (fun x y i wr=>∃ (j size:Nat) (told:Bool) (l:List Hdr) (v:Value),1≤j∧j≤N∧i=.int .i64 j∧x=.int .i64 size∧size≤4096∧y=.bool told∧l.length≤64∧Hid (R=hdrG rest ⟨me,ta,st,re,l,[]⟩ size told (Q.drop j))∧Hid (InM w5 wr ⟨me,ta,st,re,l,[]⟩ v)) (fun _ _ i _=>N - (intOf i).toNat)
   case atStart=>exact ⟨1,sz0,false,[],.slice none 0 0,Nat.le_refl _,hN1,rfl,by first | rfl | (simp only [hsk,hsk2]) | go_num,by omega,rfl,by simp,HR1,HI⟩
   case round =>
    clear HI HR1;obtain ⟨j,size,told,l,v,hj1,hjN,rfl,rfl,hsz,rfl,hl64,hps,HI⟩:=hrel;by_cases hlt:j < N
    ·have hjl:j < Q.length:=by have:=HQN.out; omega
     have hc:=cell_below HI.out.1 hg5 (HCL5.out j hjl);have htl:=HMEM.out _ (List.getElem_mem hjl);have hst:R=_:=hps.out.trans (hdrG_on rest ⟨me,ta,st,re,l,[]⟩ size told hjl);clear hps;generalize Q[j]=t at hc htl hst;have q1:=cutL_len 58 t;obtain ⟨a,b,ok,hcut⟩:∃ a b ok,cutL 58 t=(a,b,ok):=⟨_,_,_,rfl⟩
     rw [hcut] at hst q1;simp only at hst q1;have KC:=hid (fun w'=>cut3_lof hcut w' (by omega));have q2:=behind_len a;have KB:=hid (fun w'=>rbehind_list a w' (by omega));generalize behindL a=nb at hst q2 KB;have q3:=long_len nb;have KL:=hid (fun w'=>rlong_list nb w' (by omega));generalize longV nb=nm at hst q3 KL;have q4:=trimL_len b;have KT:=hid (fun w'=>reftrim_list b w' (by omega));generalize trimL b=vl at hst q4 KT;have KK:=hid (fun w'=>reftoken_list nm w' (by omega));have KV:=hid (fun w'=>rvisible_list vl w' (by omega));have KE:=hid (fun w'=>rlength_list nm w' (by omega));have KN:=hid (fun w'=>refnum_list vl 4096 w' (by omega) (by omega) (by omega));have hnn:=@numV_nonneg 4096 (by decide) vl;generalize tokenB nm=tk at hst KK;generalize visB vl=vs at hst KV;generalize lengthB nm=lb at hst KE;generalize numV 4096 vl=nv at hst KN hnn;obtain ⟨nz,ne⟩:=nv;simp only at hst KN hnn;have HST:=hid hst;have HNN:=hid hnn;clear hst hnn hcut;go_wp2_with fail
     refine (KC.out _).mono ?_
     rintro e w2 ⟨rfl,hw2⟩;have HI2:=hid (HI.out.step hw2);clear HI hw2 KC hc;go_wp2_with (go_at_call 56; refine (KB.out _).mono ?_; rintro e w' ⟨rfl,hw⟩; rw [hw])
     refine (KL.out _).mono ?_
     rintro e w3 ⟨rfl,hw3⟩;have HI3:=hid (HI2.out.step hw3);clear HI2 hw3 KB KL;have hZ0:=HZ0.out _ HI3.out.1;have hZ1:=HZ1.out _ HI3.out.1;have hBB:=HBB.out _ HI3.out.1;by_cases hbad:ok=false∨tk=false∨vs=false
     ·have HR:Hid (R=(noM,61)):=show _=_ by rw [HST.out,if_pos hbad]
      clear HST HNN HI3 KE KN
      cases ok <;> cases tk <;> cases vs
      all_goals first
       | (exfalso; revert hbad; decide)
       | (
        obtain ⟨y0,y1,y2,y3,y4,y5,f0,f1,f2,f3,f4,f5⟩:=hZ0.six;obtain ⟨e0,e1,e2,e3,e4,e5,_,_,_,_,_,_⟩:=hZ1.six;have hr7:=row_store hZ0 (.string ⟨#[]⟩) (.string ⟨#[]⟩) (.int .i64 0) (.string ⟨#[]⟩) (.slice none 0 0) (.string ⟨#[]⟩);have hb7:=store_below hBB w.heap.size (Nat.le_refl _) (.string ⟨#[]⟩) (.string ⟨#[]⟩) (.int .i64 0) (.string ⟨#[]⟩) (.slice none 0 0) (.string ⟨#[]⟩);go_wp2_with (first
         | (go_at_call 57; refine (KT.out _).mono ?_; rintro e w' ⟨rfl,hw⟩; rw [hw])
         | (go_at_call 47; refine (KK.out _).mono ?_; rintro e w' ⟨rfl,hw⟩; rw [hw])
         | (go_at_call 58; refine (KV.out _).mono ?_; rintro e w' ⟨rfl,hw⟩; rw [hw]))
        generalize World.setCell _ _ _=w7 at hr7 hb7 ⊢;obtain ⟨d0,d1,d2,d3,d4,d5,_,_,_,_,_,_⟩:=hr7.six
        try simp only [Exit.inBlock,Exit.then]
        refine bodyPost_ret (v:=.tuple #[.agg #[.string ⟨#[]⟩,.string ⟨#[]⟩,.int .i64 0,.string ⟨#[]⟩,.slice none 0 0,.string ⟨#[]⟩],.int .i64 61]) (by simp [results,Tryz.results20,go_sem,d0,d1,d2,d3,d4,d5]; try rfl) rfl ?_
        exact ⟨pres_bad HR.out,hb7⟩)
     rw [if_neg hbad] at HST;simp only [not_or,Bool.not_eq_false] at hbad;obtain ⟨rfl,rfl,rfl⟩:=hbad;clear hZ0 hZ1 hBB;go_wp2_with (first
      | (go_at_call 57; refine (KT.out _).mono ?_; rintro e w' ⟨rfl,hw⟩; rw [hw])
      | (go_at_call 47; refine (KK.out _).mono ?_; rintro e w' ⟨rfl,hw⟩; rw [hw])
      | (go_at_call 58; refine (KV.out _).mono ?_; rintro e w' ⟨rfl,hw⟩; rw [hw]))
     refine (KE.out _).mono ?_
     rintro e w4 ⟨rfl,hw4⟩;have HI4:=hid (HI3.out.step hw4);clear HI3 hw4 KE KT KK KV;have hZ0:=HZ0.out _ HI4.out.1;have hZ1:=HZ1.out _ HI4.out.1;have hBB:=HBB.out _ HI4.out.1;obtain ⟨xa,xc,hxe⟩:=HI4.out.2.2.1.form;simp only at hxe;subst hxe;have hrow:=HI4.out.2.1;simp only at hrow
     cases lb with
     | false =>
      rw [if_pos rfl] at HST;by_cases h64:64≤l.length
      ·have h64':(64:Int)≤(l.length:Int):=by omega
       have HR:Hid (R=(noM,4)):=show _=_ by rw [HST.out,if_pos h64]
       clear HST HNN KN;obtain ⟨p0,p1,p2,p3,p4,p5,_,_,_,_,_,_⟩:=hrow.six;clear hrow HI4;obtain ⟨y0,y1,y2,y3,y4,y5,f0,f1,f2,f3,f4,f5⟩:=hZ0.six;obtain ⟨e0,e1,e2,e3,e4,e5,_,_,_,_,_,_⟩:=hZ1.six;have hr7:=row_store hZ0 (.string ⟨#[]⟩) (.string ⟨#[]⟩) (.int .i64 0) (.string ⟨#[]⟩) (.slice none 0 0) (.string ⟨#[]⟩);have hb7:=store_below hBB w.heap.size (Nat.le_refl _) (.string ⟨#[]⟩) (.string ⟨#[]⟩) (.int .i64 0) (.string ⟨#[]⟩) (.slice none 0 0) (.string ⟨#[]⟩);go_wp2;generalize World.setCell _ _ _=w7 at hr7 hb7 ⊢;obtain ⟨d0,d1,d2,d3,d4,d5,_,_,_,_,_,_⟩:=hr7.six
       try simp only [Exit.inBlock,Exit.then]
       refine bodyPost_ret (v:=.tuple #[.agg #[.string ⟨#[]⟩,.string ⟨#[]⟩,.int .i64 0,.string ⟨#[]⟩,.slice none 0 0,.string ⟨#[]⟩],.int .i64 4]) (by simp [results,Tryz.results20,go_sem,d0,d1,d2,d3,d4,d5]; try rfl) rfl ?_
       exact ⟨pres_bad HR.out,hb7⟩
      ·have h64':¬ ((64:Int)≤(l.length:Int)):=by omega
       have h64b:decide ((64:Int)≤(l.length:Int))=false:=decide_eq_false h64';have HR2:Hid (R=hdrG rest ⟨me,ta,st,re,l++[⟨nm,vl⟩],[]⟩ size told (Q.drop (j+1))):=show _=_ by rw [HST.out,if_neg h64]
       obtain ⟨p0,p1,p2,p3,p4,p5,_,_,_,_,_,_⟩:=hrow.six;have HNV:=hid (new_hdr w4 ⟨nm,vl⟩ 52);have HOA:=hid (fun o=>HI4.out.2.2.1.alloc o);have HBA:=hid (fun o=>(Below.refl (w5.heap.size+1) w4).alloc HI4.out.2.2.2 o);have HB1:Hid (w5.heap.size+1≤w4.heap.size):=HI4.out.2.2.2;have HROW:=hid (fun (w6:World) (hb:Below (w5.heap.size+1) w4 w6)=>(hrow.below hb (Nat.lt_succ_self _)).six);simp only at HNV;clear HST HNN KN hrow hZ0 hZ1 hBB;go_wp2_with (at_builtin; refine wp_appH _ rfl (.tmp 93) (.tmp 97) 22 rfl (w5.heap.size+1) i0 _ Tryz.underlying22 hi hz0 hz1 hz2 rfl _ l rfl (HOA.out _) ⟨_,0,none⟩ 1 ⟨nm,vl⟩ rfl (by exact HNV.out) (by omega) w4 (HBA.out _) (by have:=HB1.out; simp; omega) ?_; intro v5 w6 hown5 hb5 hjunk hB5; obtain ⟨xa5,xc5,hx5⟩:=hown5.form; rw [List.length_append] at hx5; simp only [List.length_cons,List.length_nil,Nat.zero_add] at hx5; subst hx5; obtain ⟨p0,p1,p2,p3,p4,p5,g0,g1,g2,g3,g4,g5⟩:=HROW.out w6 hb5)
       have HI7:=hid (InM.app HI4.out hb5 hown5);clear hown5 hb5 hB5 HI4 HROW HNV HOA HBA;go_roundw
       case rel=>exact ⟨j+1,size,told,l++[⟨nm,vl⟩],_,by omega,by omega,by go_num,rfl,hsz,rfl,by rw [List.length_append]; simp; omega,HR2,HI7⟩
       case measure=>simp [intOf]; omega
     | true =>
      rw [if_neg (by simp)] at HST;by_cases hne:ne ≠ 0∨told=true
      ·have HR:Hid (R=(noM,62)):=show _=_ by rw [HST.out,if_pos hne]
       clear HST HNN hrow HI4
       cases told
       ·have hne2:(ne != 0)=true:=by simpa using hne
        obtain ⟨y0,y1,y2,y3,y4,y5,f0,f1,f2,f3,f4,f5⟩:=hZ0.six;obtain ⟨e0,e1,e2,e3,e4,e5,_,_,_,_,_,_⟩:=hZ1.six;have hr7:=row_store hZ0 (.string ⟨#[]⟩) (.string ⟨#[]⟩) (.int .i64 0) (.string ⟨#[]⟩) (.slice none 0 0) (.string ⟨#[]⟩);have hb7:=store_below hBB w.heap.size (Nat.le_refl _) (.string ⟨#[]⟩) (.string ⟨#[]⟩) (.int .i64 0) (.string ⟨#[]⟩) (.slice none 0 0) (.string ⟨#[]⟩);go_wp2_with (go_at_call 60; refine (KN.out _).mono ?_; rintro e w' ⟨rfl,hw⟩; rw [hw])
        generalize World.setCell _ _ _=w7 at hr7 hb7 ⊢;obtain ⟨d0,d1,d2,d3,d4,d5,_,_,_,_,_,_⟩:=hr7.six
        try simp only [Exit.inBlock,Exit.then]
        refine bodyPost_ret (v:=.tuple #[.agg #[.string ⟨#[]⟩,.string ⟨#[]⟩,.int .i64 0,.string ⟨#[]⟩,.slice none 0 0,.string ⟨#[]⟩],.int .i64 62]) (by simp [results,Tryz.results20,go_sem,d0,d1,d2,d3,d4,d5]; try rfl) rfl ?_
        exact ⟨pres_bad HR.out,hb7⟩
       ·cases hq:(ne != 0)
        all_goals (
         obtain ⟨y0,y1,y2,y3,y4,y5,f0,f1,f2,f3,f4,f5⟩:=hZ0.six;obtain ⟨e0,e1,e2,e3,e4,e5,_,_,_,_,_,_⟩:=hZ1.six;have hr7:=row_store hZ0 (.string ⟨#[]⟩) (.string ⟨#[]⟩) (.int .i64 0) (.string ⟨#[]⟩) (.slice none 0 0) (.string ⟨#[]⟩);have hb7:=store_below hBB w.heap.size (Nat.le_refl _) (.string ⟨#[]⟩) (.string ⟨#[]⟩) (.int .i64 0) (.string ⟨#[]⟩) (.slice none 0 0) (.string ⟨#[]⟩);go_wp2_with (go_at_call 60; refine (KN.out _).mono ?_; rintro e w' ⟨rfl,hw⟩; rw [hw])
         generalize World.setCell _ _ _=w7 at hr7 hb7 ⊢;obtain ⟨d0,d1,d2,d3,d4,d5,_,_,_,_,_,_⟩:=hr7.six
         try simp only [Exit.inBlock,Exit.then]
         refine bodyPost_ret (v:=.tuple #[.agg #[.string ⟨#[]⟩,.string ⟨#[]⟩,.int .i64 0,.string ⟨#[]⟩,.slice none 0 0,.string ⟨#[]⟩],.int .i64 62]) (by simp [results,Tryz.results20,go_sem,d0,d1,d2,d3,d4,d5]; try rfl) rfl ?_
         exact ⟨pres_bad HR.out,hb7⟩)
      ·rw [if_neg hne] at HST;simp only [not_or,Decidable.not_not,Bool.not_eq_true] at hne;obtain ⟨rfl,rfl⟩:=hne;obtain ⟨z0,z1⟩:=HNN.out rfl;obtain ⟨z,rfl⟩:=Int.eq_ofNat_of_zero_le z0;have HR2:Hid (R=hdrG rest ⟨me,ta,st,re,l,[]⟩ z true (Q.drop (j+1))):=show _=_ by rw [HST.out]; simp
       clear HST HNN hrow hZ0 hZ1 hBB;go_wp2_with (go_at_call 60; refine (KN.out _).mono ?_; rintro e w' ⟨rfl,hw⟩; rw [hw])
       go_roundw
       case rel=>exact ⟨j+1,z,true,l,_,by omega,by omega,by go_num,rfl,by omega,rfl,hl64,HR2,HI4⟩
       case measure=>simp [intOf]; omega
    ·have hst:R=_:=hps.out.trans (hdrG_end rest ⟨me,ta,st,re,l,[]⟩ size told (by have:=HQN.out; omega));rw [hrl] at hst;clear hps;have hjN':¬ ((j:Int) < (N:Int)):=by omega
     have hjd:decide ((j:Int) < (N:Int))=false:=decide_eq_false hjN';have hZ0:=HZ0.out _ HI.out.1;have hZ1:=HZ1.out _ HI.out.1;have hBB:=HBB.out _ HI.out.1;by_cases hbig:sz0 < size
     ·have hbig':(sz0:Int) < (size:Int):=by omega
      have hbigd:decide ((sz0:Int) < (size:Int))=true:=decide_eq_true hbig';have HR:Hid (R=(noM,62)):=show _=_ by rw [hst,if_pos hbig]
      clear hst HI;obtain ⟨y0,y1,y2,y3,y4,y5,f0,f1,f2,f3,f4,f5⟩:=hZ0.six;obtain ⟨e0,e1,e2,e3,e4,e5,_,_,_,_,_,_⟩:=hZ1.six;have hr7:=row_store hZ0 (.string ⟨#[]⟩) (.string ⟨#[]⟩) (.int .i64 0) (.string ⟨#[]⟩) (.slice none 0 0) (.string ⟨#[]⟩);have hb7:=store_below hBB w.heap.size (Nat.le_refl _) (.string ⟨#[]⟩) (.string ⟨#[]⟩) (.int .i64 0) (.string ⟨#[]⟩) (.slice none 0 0) (.string ⟨#[]⟩);go_wp2;generalize World.setCell _ _ _=w7 at hr7 hb7 ⊢;obtain ⟨d0,d1,d2,d3,d4,d5,_,_,_,_,_,_⟩:=hr7.six
      try simp only [Exit.inBlock,Exit.then]
      refine bodyPost_ret (v:=.tuple #[.agg #[.string ⟨#[]⟩,.string ⟨#[]⟩,.int .i64 0,.string ⟨#[]⟩,.slice none 0 0,.string ⟨#[]⟩],.int .i64 62]) (by simp [results,Tryz.results20,go_sem,d0,d1,d2,d3,d4,d5]; try rfl) rfl ?_
      exact ⟨pres_bad HR.out,hb7⟩
     ·have hbig':¬ ((sz0:Int) < (size:Int)):=by omega
      have hbigd:decide ((sz0:Int) < (size:Int))=false:=decide_eq_false hbig';have hxt:=HEXT.out size (by omega);have HI8:=HI.out.body (bo':=rest.take size);have HR:Hid (R=(⟨me,ta,st,re,l,rest.take size⟩,0)):=show _=_ by rw [hst,if_neg hbig]
      generalize rest.take size=bo at hxt HI8 HR;clear hst;obtain ⟨y0,y1,y2,y3,y4,y5,f0,f1,f2,f3,f4,f5⟩:=hZ0.six;have hrow:=HI.out.2.1;simp only at hrow;obtain ⟨p0,p1,p2,p3,p4,p5,g0,g1,g2,g3,g4,g5⟩:=hrow.six;have hne:¬ (w5.heap.size=w.heap.size):=by omega
      have hne2:¬ (w.heap.size=w5.heap.size):=by omega
      have hr9:=HZ0.out _ HI8.1;have hb9:=HBB.out _ HI8.1;have HO9:=HI8.2.2.1;simp only at HO9;have hr7:=row_store hr9 (.string ⟨me.toArray⟩) (.string ⟨ta.toArray⟩) (.int .i64 st) (.string ⟨re.toArray⟩) v (.string ⟨bo.toArray⟩);have hb7:=store_below hb9 w.heap.size (Nat.le_refl _) (.string ⟨me.toArray⟩) (.string ⟨ta.toArray⟩) (.int .i64 st) (.string ⟨re.toArray⟩) v (.string ⟨bo.toArray⟩);have HO7:=OwnH.store HO9 (b:=w.heap.size) (by omega) (.string ⟨me.toArray⟩) (.string ⟨ta.toArray⟩) (.int .i64 st) (.string ⟨re.toArray⟩) v (.string ⟨bo.toArray⟩);obtain ⟨xa,xc,hxe⟩:=HI.out.2.2.1.form;simp only at hxe;subst hxe;have hks:(k:Int)+(size:Int)≤(s.length:Int):=by omega
      have hkI:((k:Int)+(size:Int)).toNat=k+size:=by omega
      have hkw:IntKind.i64.wrap ((k:Int)+(size:Int))=(k:Int)+(size:Int):=by
       simp [IntKind.wrap,IntKind.bits,IntKind.signed]; omega
      clear HI HI8 hrow hr9 hb9 HO9 hZ0 hZ1 hBB;go_wp2;generalize World.setCell _ _ _=w7 at hr7 hb7 HO7 ⊢;obtain ⟨d0,d1,d2,d3,d4,d5,_,_,_,_,_,_⟩:=hr7.six
      try simp only [Exit.inBlock,Exit.then]
      refine bodyPost_ret (v:=.tuple #[.agg #[.string ⟨me.toArray⟩,.string ⟨ta.toArray⟩,.int .i64 st,.string ⟨re.toArray⟩,.slice xa l.length xc,.string ⟨bo.toArray⟩],.int .i64 0]) (by simp [results,Tryz.results20,go_sem,d0,d1,d2,d3,d4,d5]; try rfl) rfl ?_
      exact ⟨pres_ok HR.out (OwnH.mono HO7 (by omega)),hb7⟩
theorem sumH_le (hs:List Hdr) (k:Nat):sumH (hs.take k)≤sumH hs:=by
 have:=congrArg sumH (List.take_append_drop k hs)
 unfold sumH at this ⊢;rw [List.map_append,List.sum_append] at this;omega
theorem sumH_bound {B:Nat}:∀ hs:List Hdr,(∀ p ∈ hs,p.name.length≤B∧p.value.length≤B) → sumH hs≤hs.length * (2 * B+10)
 | [],_=>by simp [sumH]
 | x :: hs,h=>by
  have ih:=sumH_bound hs (fun p hp=>h p (by simp [hp]));have hx:=h x (by simp);have e:sumH (x :: hs)=10+x.name.length+x.value.length+sumH hs:=by simp [sumH]
  rw [e,List.length_cons,Nat.add_mul]; omega
def sumQ (m:Ms):Nat:=m.method.length+m.target.length+m.body.length+sumH m.headers
theorem sumH_count:∀ hs:List Hdr,10 * hs.length≤sumH hs
 | []=>by simp [sumH]
 | x :: hs=>by
  have ih:=sumH_count hs;have e:sumH (x :: hs)=10+x.name.length+x.value.length+sumH hs:=by simp [sumH]
  rw [e,List.length_cons]; omega
theorem pieces_sum:∀ (hs:List Hdr) (nm:List UInt8),(((hs.filter fun x=>sameB x.name nm).map Hdr.value).flatMap pieceF).length≤sumH hs
 | [],nm=>by simp [sumH]
 | x :: hs,nm=>by
  have ih:=pieces_sum hs nm;have e:sumH (x :: hs)=10+x.name.length+x.value.length+sumH hs:=by simp [sumH]
  have hp:=parts_count 44 x.value;rw [e,List.filter_cons]
  split
  ·rw [List.map_cons,List.flatMap_cons,List.length_append]
   have:(pieceF x.value).length=(partsV 44 x.value).length:=by unfold pieceF; simp
   omega
  ·omega
theorem pieces_few {m:Ms} (h:sumQ m≤6000) (nm:List UInt8):(piecesV m nm).length≤1048576:=by
 have:=pieces_sum m.headers nm
 have e:piecesV m nm=((m.headers.filter fun x=>sameB x.name nm).map Hdr.value).flatMap pieceF:=rfl;rw [e];unfold sumQ at h;omega
set_option maxHeartbeats 2000000 in
set_option maxRecDepth 100000 in
theorem lsmall10 (m:Ms) (h:Value) (w:World) (hsm:SmallM 1048576 m) (h64:m.headers.length≤1048576) (hat:HdrsAt w h m.headers) :
  Calls Tryz.prog 8 #[msgV m h] w fun e w'=>e=.returned (.bool (decide (sumQ m≤6000)))∧Below w.heap.size w w':=by
 obtain ⟨ao,cap,rfl,hcell⟩:=hat.get;have HC:=hid hcell;have HBX:=hid (boxM_new w m (.slice ao m.headers.length cap));have hb0:Below w.heap.size w (w.alloc (objM m (.slice ao m.headers.length cap))):=(Below.refl _ w).alloc (Nat.le_refl _) _;have hsb:=sumH_bound m.headers hsm.2.2.2.2.2;have hmm:m.headers.length * (2 * 1048576+10)≤1048576 * (2 * 1048576+10):=Nat.mul_le_mul_right _ h64;obtain ⟨k1,k2,k3,k4,_⟩:=hsm;have hv:sumQ m=m.method.length+m.target.length+m.body.length+sumH m.headers:=rfl;clear hat hcell;obtain ⟨me,ta,st,re,hs,bo⟩:=m;unfold msgV;unfold objM at HBX hb0;simp only at HC HBX hb0 k1 k2 k3 k4 hsb hmm hv h64 ⊢;have hSB:sumH hs≤18014398509482624:=by omega
 generalize sumQ _=S at hv ⊢;have HV:=hid hv;clear hsb hmm hv;obtain ⟨n,hn⟩:∃ n,n=hs.length:=⟨_,rfl⟩
 rw [← hn] at HBX hb0 h64 ⊢;have HN:=hid hn;clear hn;obtain ⟨x0,x1,x2,x3,x4,x5⟩:=HBX.out;simp only at x0 x1 x2 x3 x4 x5;have z1:=size_list me;have z2:=size_list ta;have z4:=size_list bo;have HB0:=hid hb0;generalize hW:World.alloc w _=W at HBX hb0 HB0 x0 x1 x2 x3 x4 x5
 go_enter Tryz.func8,Tryz.ntmps8
 go_wp2;clear hW
 go_loopw [3,4] (fun x i wr=>∃ k q t:Nat,k≤n∧i=.int .i64 k∧x=.int .i64 t∧t≤27021597764222976∧Hid (t=me.length+ta.length+bo.length+sumH (hs.take k))∧wr=W.drewN q) (fun _ i _=>n - (intOf i).toNat)
 case atStart=>exact ⟨0,0,me.length+ta.length+bo.length,Nat.zero_le _,rfl,by go_num,by omega,hid (by simp [sumH]),rfl⟩
 case round =>
  obtain ⟨k,q,t,hk,rfl,rfl,ht4,ht,rfl⟩:=hrel;by_cases hlt2:k < n
  ·have hkl:k < hs.length:=by have:=HN.out; omega
   obtain ⟨a,ha,hab,h0,h1⟩:=HC.out k hkl;have d0:=cell_below HB0.out (by rw [add_block]; exact hab) h0;have d1:=cell_below HB0.out (by simp only [add_block]; exact hab) h1;have hst:=hid (sumH_step hkl);have hle:=sumH_le hs (k+1);clear hab h0 h1;subst ha;generalize hs[k]=x at d0 d1 hst;obtain ⟨xn,xv⟩:=x;simp only at d0 d1 hst;have s1:=size_list xn;have s2:=size_list xv;have hbig:t+10+xn.length+xv.length≤27021597764222976:=by have h1:=hst.out; have h2:=ht.out; omega
   have w1:IntKind.i64.wrap ((t:Int)+10)=((t+10:Nat):Int):=by
    simp [IntKind.wrap,IntKind.bits,IntKind.signed]; omega
   have w2:IntKind.i64.wrap ((t:Int)+10+(xn.length:Int))=((t+10+xn.length:Nat):Int):=by
    simp [IntKind.wrap,IntKind.bits,IntKind.signed]; omega
   have w3:IntKind.i64.wrap ((t:Int)+10+(xn.length:Int)+(xv.length:Int))=((t+10+xn.length+xv.length:Nat):Int):=by
    simp [IntKind.wrap,IntKind.bits,IntKind.signed]; omega
   have hnx:Hid (t+10+xn.length+xv.length=me.length+ta.length+bo.length+sumH (hs.take (k+1))):=show _=_ by rw [hst.out,ht.out]; omega
   clear hst ht hle;go_wp2
   go_quiet (fail)
   go_wp2;go_roundw
   case rel=>exact ⟨k+1,q+nq,t+10+xn.length+xv.length,by omega,by go_num,by first | rfl | (simp only [w3,w2,w1]; go_num) | go_num,hbig,hnx,by first | rfl | rw [World.drewN_drewN]⟩
   case measure=>simp [intOf]; omega
  ·have hv:Hid (t=S):=show _=_ by rw [ht.out,HV.out,List.take_of_length_le (by have:=HN.out; omega)]
   clear ht;go_wp2;go_ret;exact ⟨ret_bool (by rw [hv.out]; simp; omega),HB0.out.trans ((below_drewN W q).mono HB0.out.size)⟩
end Go.Proofs.YtiogedceommcoaaGreatDoor
namespace Go.Proofs.YtiogedceommcoaaGreatDoor
open Go.RowKit Sc
theorem plain_small:SmallM 1048576 plainM:=⟨by decide,by decide,by decide,by decide,by decide,by decide⟩
theorem plainA_small:SmallM 140737488355328 plainA:=⟨by decide,by decide,by decide,by decide,by decide,by decide⟩
theorem plain_sum:sumQ plainM≤6000:=by decide
set_option maxHeartbeats 4000000 in
set_option maxRecDepth 100000 in
theorem awake10_of (hA:∀ (m:Ms) (h:Value) (status:Int) (tag:List UInt8) (hm:Value) (more:List Hdr) (w:World),SmallM 1048576 m → m.headers.length≤1048576 → HdrsAt w h m.headers → status≤9223372036854775807 → -9223372036854775808≤status → tag.length≤1048576 → HdrsAt w hm more → SmallH 1048576 more → sumQ m≤6000 → sumH more≤6000 →
   Calls Tryz.prog 15 #[msgV m h,.int .i64 status,.string ⟨tag.toArray⟩,hm] w fun e w'=>e=.returned (.tuple #[.string ⟨(answerV m status tag more).1.toArray⟩,.int .i64 (answerV m status tag more).2])∧Below w.heap.size w w')
  (hC:∀ (m:Ms) (h:Value) (w:World),SmallM 1048576 m → m.headers.length≤1048576 → HdrsAt w h m.headers → sumQ m≤6000 → Calls Tryz.prog 13 #[msgV m h] w fun e w'=>ReadRes (rreadV m) w' e∧Below w.heap.size w w')
  (hR:∀ (n:Int) (w:World),n≤9223372036854775807 → -9223372036854775808≤n → Calls Tryz.prog 17 #[.int .i64 n] w fun e w'=>e=.returned (.string ⟨(reasonV n).toArray⟩)∧Below w.heap.size w w')
  (w:World):Calls Tryz.prog 9 #[] w fun e w'=>e=.returned (.bool true)∧Below w.heap.size w w':=by
 have hz:=zeroR0;have KP:=hid lplain_any;have KA:=hid (fun h w' (hh:HdrsAt w' h plainM.headers)=>hA plainM h 200 [120] (.slice none 0 0) [] w' plain_small (by decide) hh (by decide) (by decide) (by decide) (Or.inl ⟨rfl,rfl⟩) ⟨by simp,by simp⟩ plain_sum (by simp [sumH]));rw [plain_ans] at KA;have KQ:=hid (fun w'=>rparse_any plainT w' (by decide));rw [plain_parse] at KQ;unfold MsgRes at KQ;have KO:=hid (fun h w' (hh:HdrsAt w' h plainA.headers)=>rone_any plainA h toK w' plainA_small (by decide) (by decide) hh);rw [plain_to] at KO;have KC:=hid (fun h w' (hh:HdrsAt w' h plainM.headers)=>hC plainM h w' plain_small (by decide) hh plain_sum);have KR:=hid (fun w'=>hR 489 w' (by decide) (by decide));rw [plain_reason] at KR;have HPR:=hid plain_read;generalize plainT=T at KA KQ;generalize plainM=M at KP KA KC HPR;generalize rreadV M=RR at KC HPR;generalize plainA=PA at KQ KO;obtain ⟨me,ta,st,re,hs,bo⟩:=PA;unfold msgV at KQ KO;unfold toK at KO;simp only at KA KQ KO;clear hA hC hR
 go_enter Tryz.func9,Tryz.ntmps9
 go_wp2_with fail
 refine (KP.out _).mono ?_
 rintro e w1 ⟨g1,rfl,h1,hw1⟩;go_wp2_with fail
 refine (KA.out _ _ h1).mono ?_
 rintro e w2 ⟨rfl,hw2⟩;have hb2:=hw1.trans (hw2.mono hw1.size);clear h1 hw1 hw2 KA;go_wp2_with fail
 refine (KQ.out _).mono ?_
 rintro e w3 ⟨⟨h3,rfl,ho3⟩,hw3⟩;have hb3:=hb2.trans (hw3.mono hb2.size);have ht3:=OwnH.hdrsAt ho3;obtain ⟨a3,c3,hf3⟩:=ht3.form
 try simp only at hf3
 subst hf3;have A4:=(Below.refl _ w3).alloc (Nat.le_refl _) (.cells #[.string ⟨me.toArray⟩,.string ⟨ta.toArray⟩,.int .i64 st,.string ⟨re.toArray⟩,.slice a3 hs.length c3,.string ⟨bo.toArray⟩] 24);have hb4:=hb3.trans (A4.mono hb3.size);have ht4:=ht3.below A4;clear ho3 hw3 KQ hb2 ht3 A4 hb3;go_wp2_with fail
 refine (KO.out _ _ ht4).mono ?_
 rintro e w5 ⟨rfl,hw5⟩;have hb5:=hb4.trans (hw5.mono hb4.size);clear ht4 hw5 hb4 KO;go_wp2_with fail
 refine (KP.out _).mono ?_
 rintro e w6 ⟨g6,rfl,h6,hw6⟩;have hb6:=hb5.trans (hw6.mono hb5.size);clear hw6 hb5;go_wp2_with fail
 refine (KC.out _ _ h6).mono ?_
 rintro e w7 ⟨⟨c,hcr,rfl,hca,hcs⟩,hw7⟩;have hb7:=hb6.trans (hw7.mono hb6.size);obtain ⟨p1,p2,p3⟩:=HPR.out;have hnw:(w7.alloc (.cells rq0 37)).heap[w7.heap.size]? = some (.cells rq0 37 (0,0)):=by rw [heap_alloc_new]
 unfold rqV;obtain ⟨CA,hCA⟩:∃ a,a=(rqCells c).toArray:=⟨_,rfl⟩
 rw [← hCA];have hone:CA.all (·.oneCell')=true:=by rw [hCA]; exact oneR hcs
 have hinf:(Tryz.prog.info? 37).map (·.size)=some CA.size:=by rw [hCA]; exact infoR
 have hsz:rq0.size=CA.size:=by rw [hCA]; rfl
 have hr:RowIs (w7.alloc (.cells CA 37)) w7.heap.size 37 (rqCells c):=by unfold RowIs; rw [heap_alloc_new,hCA]
 have hb8:=hid (hb7.alloc hb7.size (.cells CA 37));have y7:(w7.alloc (.cells CA 37)).cell? ⟨w7.heap.size,7,none⟩=some (.string ⟨#[122,57,104,71,52,98,75,49]⟩):=by
  rw [hr.cell 7 (by rw [rq_len]; decide)]
  show some (txt c.r.branch)=_
  rw [hcr,p2]; rfl
 have y25:(w7.alloc (.cells CA 37)).cell? ⟨w7.heap.size,25,none⟩=some (.string ⟨#[49]⟩):=by
  rw [hr.cell 25 (by rw [rq_len]; decide)]
  show some (txt c.r.fromTag)=_
  rw [hcr,p3]; rfl
 rw [p1];clear hr hCA hcr hca hcs p1 p2 p3 HPR hw7 hb6 hb7 KC KP h6;go_wp2_with (first
  | (refine wpList_store_row rfl 37 (.tmp 7) _ rfl w7.heap.size CA rfl rfl _ _ hnw hinf hsz hone ?_; rw [World.setRow_alloc_new])
  | (go_at_call 17; refine (KR.out _).mono ?_; rintro e w9 ⟨rfl,hw9⟩))
 go_ret;exact ⟨rfl,hb8.out.trans (hw9.mono hb8.out.size)⟩
theorem hdrs_news {w:World} {a:Addr} {ns:List Hdr} (hc:∀ k (hk:k < ns.length),a.block < w.heap.size∧HdrAt w a k ns[k]):∀ (j:Nat) (u:Value),(hdrsCells ns)[j]? = some u → w.cell? (a.add j)=some u:=by
 intro j u hj;have hl:j < ns.length * 2:=by
  have:=(List.getElem?_eq_some_iff.1 hj).1
  rw [hdrsCells_len] at this; exact this
 have hk:j / 2 < ns.length:=by omega
 obtain ⟨c0,c1⟩:=hdrsCells_get ns (j / 2) hk;obtain ⟨_,d0,d1⟩:=hc (j / 2) hk
 rcases (show j % 2=0∨j % 2=1 by omega) with e | e
 ·have ej:j / 2 * 2=j:=by omega
  rw [ej] at c0 d0;rw [hj] at c0
  injection c0 with c0
  rw [c0]; exact d0
 ·have ej:j / 2 * 2+1=j:=by omega
  rw [ej] at c1;rw [hj] at c1
  injection c1 with c1
  rw [c1,← d1]
  congr 1
  unfold Addr.add;rw [if_neg (show ¬ j=0 by omega)]
  split
  ·simp <;> omega
  ·simp <;> omega
theorem wp_appHs {P:Program} (w:World) {ops:Array Oper} {rest:List Oper} {o:Oper} {a:Act} {Q:Exit → Act → World → Prop} (hgd:o.guard=none)
  (s x:Operand) (t:TypeId) (ho:o.op=Op.call { callee:=Callee.builtin Builtin.append,args:=#[s,x],argTypes:=#[t,t] }) (B:Nat) (i:TypeInfo)
  (z:Value) (ht:P.underlying t=some (TypeDesc.slice 52)) (hi:P.info? 52=some i) (hz:i.zero=some z) (hsize:i.size=2) (hby:i.bytes=32) (hzs:z.cells.size=2)
  (v:Value) (hs:List Hdr) (hsv:a.eval s=v) (hown:OwnH w B v hs) (va:Value) (ns:List Hdr) (hx:a.eval x=va) (hat:HdrsAt w va ns)
  (hlen:hs.length+ns.length≤4000000) (w0:World) (hb:Below B w0 w) (hB:B≤w.heap.size)
  (h:∀ (v':Value) (w':World),OwnH w' B v' (hs++ns) → Below B w0 w' → B≤w'.heap.size → wpList P ops Q rest (a.put o.dst v') w'):wpList P ops Q (o :: rest) a w:=by
 rcases hat with ⟨hv,hn⟩ | ⟨ad,cap,hv,hcap,hc⟩
 ·subst hn;rw [hv] at hx;exact wpList_append_own_none hgd s x t ho B 52 i 2 ht hi v hs.length (hdrsCells hs) hsv hown hx (h v w (by rw [List.append_nil]; exact hown) hb hB)
 ·rw [hv] at hx;refine wpList_append_own w hgd s x t ho B 52 i z 2 32 ht hi hz hsize hby hzs (by decide) v hs.length (hdrsCells hs) hsv hown ad ns.length cap (hdrsCells ns) hx (hdrsCells_len ns) (hdrs_news hc) ?_ (by unfold maxLen; omega) (by omega) hB ?_
  ·intro u hu;unfold hdrsCells at hu;rw [List.mem_flatMap] at hu;obtain ⟨p,_,hu⟩:=hu
   simp [hdrCells] at hu
   rcases hu with rfl | rfl <;> rfl
  ·intro v' w' hown' hgr _;refine h v' w' ?_ (hb.grown hgr hB (fun k hk=>(World.ownsRow.lt hown k hk).1)) (Nat.le_trans hB hgr.size)
   unfold OwnH;have e:hdrsCells (hs++ns)=hdrsCells hs++hdrsCells ns:=by simp [hdrsCells]
   rw [e,List.length_append];exact hown'
theorem reason_len (n:Int) (h:n≤9223372036854775807):(reasonV n).length≤1048576:=by
 by_cases hx:∃ k,k < 14∧(reasonsT.map Prod.fst)[k]! = n
 ·obtain ⟨k,hk,e⟩:=hx;rw [reason_at hk e]
  have:∀ k,k < 14 → ((reasonsT.map Prod.snd)[k]!).length≤1048576:=by decide
  exact this k hk
 ·rw [reason_no (fun k hk e=>hx ⟨k,hk,e⟩),List.length_append];have h1:statusK.length=7:=rfl
  split
  ·simp [h1]
  ·have:=digL_len19 (n:=n.toNat) (by omega)
   omega
def viaH (vs:List (List UInt8)):List Hdr:=vs.map fun v=>⟨rViaK,v⟩
def fourH (m:Ms) (tag:List UInt8):List Hdr:=[⟨fromK,(oneV m fromK).1⟩,⟨toK,toV m tag⟩,⟨callK,(oneV m callK).1⟩,⟨cseqK,(oneV m cseqK).1⟩]
end Go.Proofs.YtiogedceommcoaaGreatDoor
