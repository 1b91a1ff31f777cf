/-
  WReplyOrder0, WReplyOrderS.
-/
import Derived.Test.YtiogedceommcoaaGreatDoorM50
set_option linter.unusedVariables false
set_option linter.unusedSimpArgs false
set_option maxRecDepth 20000
namespace Go.Proofs.YtiogedceommcoaaGreatDoor
open Go.RowKit Sc
set_option maxHeartbeats 8000000 in
set_option maxRecDepth 100000 in
theorem replyOrder_of (PX:Ms → Prop) (hC:∀ (m:Ms) (h:Value) (w:World),PX m → HdrsAt w h m.headers → Calls Tryz.prog 13 #[msgV m h] w fun e w'=>ReadRes (rreadV m) w' e∧Below w.heap.size w w')
  (hB:∀ (m:Ms) (h:Value) (w:World),PX m → HdrsAt w h m.headers → Calls Tryz.prog 10 #[msgV m h] w fun e w'=>ReadRes (baseV m) w' e∧Below w.heap.size w w')
  (hW:∀ w:World,Calls Tryz.prog 9 #[] w fun e w'=>e=.returned (.bool true)∧Below w.heap.size w w')
  (m:Ms) (h:Value) (a1:Int) (vl:List UInt8) (w:World) (hat:HdrsAt w h m.headers) (hcnt:m.headers.length≤4398046511104)
  (hS:∀ w',HdrsAt w' h m.headers → Calls Tryz.prog 8 #[msgV m h] w' fun e w''=>(∃ b,e=.returned (.bool b)∧(m.headers.length < 64 → b=decide (sumQ m≤6000)))∧Below w'.heap.size w' w'')
  (hP:m.headers.length < 64 → sumQ m≤6000 → PX m∧∀ k,PX (putX m k vl)) (p0:0≤a1) (p1:a1≤18446744073709551615) :
  Calls Tryz.prog 6 #[msgV m h,.int .u64 a1,.string ⟨vl.toArray⟩] w fun e w'=>e=.returned (.bool true)∧Below w.heap.size w w':=by
 have hz:=zeroR0;obtain ⟨i0,hi,hz0,hz1,hz2⟩:=info_parts infoHdr;have KS:=hid (fun w' (hb:Below w.heap.size w w')=>hS w' (hat.below hb));have KW:=hid hW;have HAT:=hid hat;have HQ:=hid (fun (h1:m.headers.length < 64) (h2:sumQ m≤6000)=>hP h1 h2);have KC:=hid (fun (hp:PX m) w' (hb:Below w.heap.size w w')=>hC m h w' hp (hat.below hb));have KD:=hid (fun (hp:PX m) w' (hb:Below w.heap.size w w')=>hB m h w' hp (hat.below hb));have KC2:=hid (fun k (hp:PX (putX m k vl)) h' w' (ha:HdrsAt w' h' (putX m k vl).headers)=>hC (putX m k vl) h' w' hp ha);have KD2:=hid (fun k (hp:PX (putX m k vl)) h' w' (ha:HdrsAt w' h' (putX m k vl).headers)=>hB (putX m k vl) h' w' hp ha);have HO:Hid (∀ k,rreadV (putX m k vl)=rreadV m∧baseV (putX m k vl)=baseV m):=fun k=>order_same m k vl;have HR1:=hid (fun (hq:sumQ m≤6000)=>small_read m (pieces_few hq _) (pieces_few hq _));have HR2:=hid (small_base m);have HBX:=hid (boxM_new w m h);have hb0:Below w.heap.size w (w.alloc (objM m h)):=(Below.refl _ w).alloc (Nat.le_refl _) _;have hl0:=alloc_lt w (objM m h);obtain ⟨ao,cap,hh0⟩:=hat.form;subst hh0;clear hC hB hW hS hP hat;generalize rreadV m=R at KC HO HR1;generalize baseV m=Q at KD HO HR2;generalize sumQ m=S at KS HQ HR1;obtain ⟨me,ta,st,re,hs,bo⟩:=m;unfold msgV at KS KC KD ⊢;unfold objM at HBX hb0 hl0;simp only at KS KC KD HBX hb0 hl0 HAT HQ hcnt ⊢;obtain ⟨n,hn⟩:∃ n,n=hs.length:=⟨_,rfl⟩
 rw [← hn] at KS KC KD HBX hb0 hl0 HQ hcnt ⊢;have HN:=hid hn;clear hn;obtain ⟨x0,x1,x2,x3,x4,x5⟩:=HBX.out;simp only at x0 x1 x2 x3 x4 x5
 go_enter Tryz.func6,Tryz.ntmps6
 go_wp2_with fail
 refine (KS.out _ hb0).mono ?_
 rintro e w1 ⟨⟨b,rfl,hb64⟩,hw1⟩;have hb1:=hb0.trans (hw1.mono hb0.size);have HB1:=hid (HBX.out.below hw1 hl0);have hl1:=Nat.lt_of_lt_of_le hl0 hw1.size;have H64:=hid hb64;clear x0 x1 x2 x3 x4 x5 HBX hw1 hb0 hl0 KS hb64
 cases b with
 | false =>
  clear KC KD KC2 KD2;go_wp2_with fail
  refine (KW.out _).mono ?_
  rintro e w2 ⟨rfl,hw2⟩;go_wp2;go_ret;exact ⟨rfl,hb1.trans (hw2.mono hb1.size)⟩
 | true =>
 obtain ⟨x0,x1,x2,x3,x4,x5⟩:=HB1.out;simp only at x0 x1 x2 x3 x4 x5;by_cases hn64:n < 64
 case neg =>
  have hge:(64:Int)≤(n:Int):=by omega
  clear KC KD KC2 KD2;go_wp2_with fail
  refine (KW.out _).mono ?_
  rintro e w2 ⟨rfl,hw2⟩;go_wp2;go_ret;exact ⟨rfl,hb1.trans (hw2.mono hb1.size)⟩
 have hge:¬ (64:Int)≤(n:Int):=by omega
 have hged:decide ((64:Int)≤(n:Int))=false:=decide_eq_false hge;have hq:S≤6000:=by
  have:=H64.out hn64
  exact of_decide_eq_true this.symm
 obtain ⟨hp1,hp2⟩:=HQ.out hn64 hq;obtain ⟨c,hc⟩:∃ c:Nat,(c:Int)=a1 % ((n:Int)+1):=⟨(a1 % ((n:Int)+1)).toNat,Int.toNat_of_nonneg (Int.emod_nonneg _ (by omega))⟩
 have hcn:c≤n:=by have:=Int.emod_lt_of_pos a1 (show 0 < (n:Int)+1 by omega); omega
 have hrem:a1 % ((n:Int)+1)=(c:Int):=hc.symm;have hrem2:a1.tmod ((n:Int)+1)=(c:Int):=by rw [Int.tmod_eq_emod_of_nonneg p0]; exact hc.symm
 have q1:IntKind.u64.wrap ((n:Int)+1)=(n:Int)+1:=by simp [IntKind.wrap,IntKind.signed,IntKind.bits]; omega
 have q2:IntKind.u64.wrap (c:Int)=(c:Int):=by simp [IntKind.wrap,IntKind.signed,IntKind.bits]; omega
 have q3:IntKind.i64.wrap (c:Int)=(c:Int):=by simp [IntKind.wrap,IntKind.signed,IntKind.bits]; omega
 have q4:IntKind.i64.wrap ((n:Int)+1)=(n:Int)+1:=by simp [IntKind.wrap,IntKind.signed,IntKind.bits]; omega
 have q5:(((n:Int)+1)==0)=false:=by simp; omega
 have KC1:=hid (KC.out hp1);have KD1:=hid (KD.out hp1);have KCN:=hid (KC2.out c (hp2 c));have KDN:=hid (KD2.out c (hp2 c));obtain ⟨o1,o2⟩:=HO.out c;rw [o1] at KCN;rw [o2] at KDN;have HSR:=hid (HR1.out hq);unfold putX msgV at KCN KDN;simp only at KCN KDN;clear HQ KC KD KC2 KD2 HO hc hp1 hp2 o1 o2 H64 HR1;obtain ⟨w1b,hw1b⟩:∃ x,x=w1.heap.size+1:=⟨_,rfl⟩
 have HAT1:=hid (fun w' (hb:Below w.heap.size w w')=>HAT.out.below hb);rw [← HN.out] at HAT1;have SN:(w1.alloc (.cells #[.string ⟨me.toArray⟩,.string ⟨ta.toArray⟩,.int .i64 st,.string ⟨re.toArray⟩,.slice ao n cap,.string ⟨bo.toArray⟩] 24)).heap.size=w1.heap.size+1:=by simp
 have AN:=(Below.refl w1.heap.size w1).alloc (Nat.le_refl _) (.cells #[.string ⟨me.toArray⟩,.string ⟨ta.toArray⟩,.int .i64 st,.string ⟨re.toArray⟩,.slice ao n cap,.string ⟨bo.toArray⟩] 24);have RN:Hid (RowIs (w1.alloc (.cells #[.string ⟨me.toArray⟩,.string ⟨ta.toArray⟩,.int .i64 st,.string ⟨re.toArray⟩,.slice ao n cap,.string ⟨bo.toArray⟩] 24)) w1.heap.size 24 [.string ⟨me.toArray⟩,.string ⟨ta.toArray⟩,.int .i64 st,.string ⟨re.toArray⟩,.slice ao n cap,.string ⟨bo.toArray⟩]):=show RowIs _ _ _ _ by unfold RowIs; rw [heap_alloc_new]
 have AE:=(Below.refl _ (w1.alloc (.cells #[.string ⟨me.toArray⟩,.string ⟨ta.toArray⟩,.int .i64 st,.string ⟨re.toArray⟩,.slice ao n cap,.string ⟨bo.toArray⟩] 24))).alloc (Nat.le_refl _) (.cells #[] 52);have OE:Hid (OwnH ((w1.alloc (.cells #[.string ⟨me.toArray⟩,.string ⟨ta.toArray⟩,.int .i64 st,.string ⟨re.toArray⟩,.slice ao n cap,.string ⟨bo.toArray⟩] 24)).alloc (.cells #[] 52)) (w1.heap.size+1) (.slice (some ⟨w1.heap.size+1,0,none⟩) 0 0) []):=show OwnH _ _ _ _ from ownsRow_empty (by rw [← SN,heap_alloc_new]) (Nat.le_refl _)
 have HAE:Hid (Below (w1.heap.size+1) (w1.alloc (.cells #[.string ⟨me.toArray⟩,.string ⟨ta.toArray⟩,.int .i64 st,.string ⟨re.toArray⟩,.slice ao n cap,.string ⟨bo.toArray⟩] 24)) ((w1.alloc (.cells #[.string ⟨me.toArray⟩,.string ⟨ta.toArray⟩,.int .i64 st,.string ⟨re.toArray⟩,.slice ao n cap,.string ⟨bo.toArray⟩] 24)).alloc (.cells #[] 52))):=by rw [← SN]; exact AE
 have hbE:=hb1.trans ((AN.trans (AE.mono (by simp))).mono hb1.size);have HTK:=hid (hdrs_take (k:=c) (HAT.out.below hbE) (by rw [← HN.out]; exact hcn));have hszE:w1.heap.size+1≤((w1.alloc (.cells #[.string ⟨me.toArray⟩,.string ⟨ta.toArray⟩,.int .i64 st,.string ⟨re.toArray⟩,.slice ao n cap,.string ⟨bo.toArray⟩] 24)).alloc (.cells #[] 52)).heap.size:=by simp
 have htl:(hs.take c).length≤64:=by rw [List.length_take]; have:=HN.out; omega
 have hbN:=hb1.trans (AN.mono hb1.size);have HXN:=hid (HB1.out.below AN hl1);clear hw1b w1b AE AN SN;have hsh:ao=none∧n=0∧cap=0∨∃ a,ao=some a∧n≤cap:=by
  rcases HAT.out with ⟨e1,e2⟩ | ⟨a,c',e1,e2,_⟩
  ·simp only [Value.slice.injEq] at e1
   have:=HN.out
   rw [e2] at this;exact Or.inl ⟨e1.1,this,e1.2.2⟩
  ·simp only [Value.slice.injEq] at e1
   have:=HN.out
   exact Or.inr ⟨a,e1.1,by omega⟩
 rcases hsh with ⟨rfl,rfl,rfl⟩ | ⟨a,rfl,hcap⟩
 ·have hc0:c=0:=by omega
  subst hc0;have hs0:hs=[]:=List.eq_nil_of_length_eq_zero HN.out.symm;have HS0:=hid hs0;clear hs0
  go_upto_region 6 with (first
   | (at_builtin; refine wp_appHs _ rfl (.tmp 36) (.tmp 40) 22 rfl (w1.heap.size+1) i0 _ Tryz.underlying22 hi hz0 hz1 hz2 rfl _ [] rfl OE.out _ (hs.take 0) rfl HTK.out (by simp only [List.length_nil]; omega) _ HAE.out hszE ?_; intro v2 w2 hown2 hb2 hB2; have HO2:=hid (fun o=>OwnH.alloc hown2 o); have HBW2:=hid (fun o=>hb2.alloc hB2 o); have HNV:=hid (new_hdr w2 ⟨[88,45,79,116,104,101,114],vl⟩))
   | (at_builtin; refine wp_appH _ rfl (.tmp 41) (.tmp 44) 22 rfl (w1.heap.size+1) i0 _ Tryz.underlying22 hi hz0 hz1 hz2 rfl _ ([]++hs.take 0) rfl (HO2.out _) ⟨_,0,none⟩ 1 ⟨[88,45,79,116,104,101,114],vl⟩ rfl (by exact HNV.out _) (by simp only [List.nil_append]; omega) _ (HBW2.out _) (by simp; omega) ?_; intro v3 w3 hown3 hb3 hg3 hB3; have r3:=RN.out.below hb3 (by omega); have g4:=r3.cell 4 (by simp); have f4:=r3.frozen 4; simp only [List.getElem_cons_succ,List.getElem_cons_zero] at g4; obtain ⟨LK,hLK⟩:∃ l,[]++hs.take 0++[⟨[88,45,79,116,104,101,114],vl⟩]=l:=⟨_,rfl⟩; rw [hLK] at hown3; have HLK:=hid hLK; clear hLK; obtain ⟨oa,oc,hoe⟩:=(OwnH.hdrsAt hown3).form; subst hoe; have HO3:=hid hown3; have HB3:=hid hb3; have R3:=hid r3; clear hown3))
  have hll:LK.length≤65:=by rw [← HLK.out]; simp only [List.nil_append,List.length_append,List.length_cons,List.length_nil]; omega
  obtain ⟨l2,hl2⟩:∃ x,x=LK.length:=⟨_,rfl⟩
  rw [← hl2] at hll HO3 ⊢;have HL2:=hid hl2;clear hl2;have O4:=hid (OwnH.setC HO3.out (a:=⟨w1.heap.size,4,none⟩) (by simp) (.slice oa l2 oc));have r4:=R3.out.set 4 (.slice oa l2 oc);simp only [List.set_cons_succ,List.set_cons_zero] at r4;have hwl:w.heap.size < w1.heap.size+1:=by omega
  have X4:=hid ((HXN.out.below HB3.out hwl).setC (a:=⟨w1.heap.size,4,none⟩) (by simp; omega) (.slice oa l2 oc));have B4:=hid ((hbN.trans (HB3.out.mono (by omega))).setCell (p:=⟨w1.heap.size,4,none⟩) (by simp; omega) (.slice oa l2 oc));have S4:w1.heap.size+1≤(w3.setCell ⟨w1.heap.size,4,none⟩ (.slice oa l2 oc)).heap.size:=by simpa [World.setCell] using hB3
  have R4:=hid r4;clear HO3 HB3 R3 r3 r4 g4 f4 hb3 hg3 hB3 HO2 HBW2 HNV hown2 hb2 hB2 OE HAE HTK hszE HXN hbN hbE RN;clear x0 x1 x2 x3 x4 x5;generalize World.setCell _ _ _=w4 at O4 X4 B4 S4 R4 ⊢;have g4:=R4.out.cell 4 (by simp);simp only [List.getElem_cons_succ,List.getElem_cons_zero] at g4;have x4:=X4.out.2.2.2.2.1
  try simp only at x4
  have hdl:(hs.drop 0).length≤64:=by rw [List.length_drop]; have:=HN.out; omega
  have O4d:=hid (OwnH.below O4.out (Below.refl _ w4).drew);have S4d:w1.heap.size+1≤w4.drew.heap.size:=S4;have hl2':LK.length+(hs.drop 0).length≤4000000:=by have:=HL2.out; omega
  have HX4:=hid x4;have HG4:=hid g4;clear x4 g4
  go_cut [7] from 47 to 54 (fun s7 wx=>s7=.int .i64 0∧∃ ob od lm LM,Hid (hs.take 0++[⟨otherK,vl⟩]++hs.drop 0=LM)∧Hid (OrdIn w ⟨me,ta,st,re,hs,bo⟩ ⟨me,ta,st,re,LM,bo⟩ (.slice none 0 0) (.slice ob lm od) w1.heap.size wx))
  case first =>
   have x4:=HX4.out;have g4:=HG4.out
   ·have HDd:Hid (HdrsAt w4.drew (.slice none 0 0) (hs.drop 0)):=Or.inl ⟨rfl,by rw [HS0.out]; rfl⟩
    go_region_law (first
     | (refine step_appHs rfl (.tmp 48) (.tmp 52) 22 rfl (w1.heap.size+1) i0 _ Tryz.underlying22 hi hz0 hz1 hz2 rfl _ LK rfl O4d.out _ (hs.drop 0) rfl (by first | exact HDd.out | simpa using HDd.out) hl2' w4.drew (Below.refl _ _) S4d ?_; intro v5 w5 hown5 hb5 hB5; have r5:=(show RowIs w4.drew w1.heap.size 24 _ from R4.out).below hb5 (by omega); have h4:=r5.cell 4 (by simp); have f4:=r5.frozen 4; simp only [List.getElem_cons_succ,List.getElem_cons_zero] at h4; obtain ⟨LM,hLM⟩:∃ l,LK++hs.drop 0=l:=⟨_,rfl⟩; rw [hLM] at hown5; have HLM:=hid hLM; clear hLM; obtain ⟨ob,od,hoe⟩:=(OwnH.hdrsAt hown5).form; subst hoe; have HO5:=hid hown5; have HB5:=hid hb5; have R5:=hid r5; clear hown5 r5))
    all_goals (
     have r6:=R5.out.set 4 (.slice ob LM.length od);simp only [List.set_cons_succ,List.set_cons_zero] at r6;have O6:=OwnH.setC HO5.out (a:=⟨w1.heap.size,4,none⟩) (by simp) (.slice ob LM.length od);have X6:=((show BoxM w4.drew w.heap.size _ _ from X4.out).below HB5.out hwl).setC (a:=⟨w1.heap.size,4,none⟩) (by simp; omega) (.slice ob LM.length od);have B6:=((B4.out.drew).trans (HB5.out.mono (by omega))).setCell (p:=⟨w1.heap.size,4,none⟩) (by simp; omega) (.slice ob LM.length od);have S6:w1.heap.size+1≤(w5.setCell ⟨w1.heap.size,4,none⟩ (.slice ob LM.length od)).heap.size:=by simpa [World.setCell] using hB5
     have H6:Hid (OrdIn w ⟨me,ta,st,re,hs,bo⟩ ⟨me,ta,st,re,LM,bo⟩ (.slice none 0 0) (.slice ob LM.length od) w1.heap.size (w5.setCell ⟨w1.heap.size,4,none⟩ (.slice ob LM.length od))):=⟨X6,box_row r6,OwnH.hdrsAt O6,B6,by omega,by omega⟩
     have hL:Hid (hs.take 0++[⟨otherK,vl⟩]++hs.drop 0=LM):=show _=_ by rw [← HLM.out,← HLK.out]; rfl
     go_wp2_with fail
     go_meet
     case rel=>exact ⟨rfl,_,_,_,_,hL,H6⟩)
  case rest =>
   obtain ⟨rfl,ob,od,lm,LM,hLM,H6⟩:=hcut;rw [hLM.out] at KCN KDN;clear hLM HLK R4 X4 B4 O4 O4d HG4 HX4 HB1 HL2;have hee:(R.2==R.2)=true:=by simp
   have hqq:(Q.2==Q.2)=true:=by simp
   obtain ⟨x0,x1,x2,x3,x4,x5⟩:=H6.out.bm
   try simp only at x0 x1 x2 x3 x4 x5
   go_wp2_with fail
   refine (KC1.out _ H6.out.bw).mono ?_
   rintro e vA ⟨⟨cA,hcrA,rfl,hcaA,hcsA⟩,hvA⟩;have hnwA:(vA.alloc (.cells rq0 37)).heap[vA.heap.size]? = some (.cells rq0 37 (0,0)):=by rw [heap_alloc_new]
   unfold rqV;obtain ⟨CA,hCA⟩:∃ a,a=(rqCells cA).toArray:=⟨_,rfl⟩
   rw [← hCA];have honeA:CA.all (·.oneCell')=true:=by rw [hCA]; exact oneR hcsA
   have hinfA:(Tryz.prog.info? 37).map (·.size)=some CA.size:=by rw [hCA]; exact infoR
   have hszA:rq0.size=CA.size:=by rw [hCA]; rfl
   have AA:=(Below.refl _ vA).alloc (Nat.le_refl _) (.cells CA 37);have H7:=hid ((H6.out.below hvA).below AA);have TA:=hid (hcaA.below AA);have RA:Hid ((vA.alloc (.cells CA 37)).heap[vA.heap.size]? = some (.cells CA 37 (0,0))):=show _=_ by rw [heap_alloc_new]
   have HCA:=hid hCA;have HEA:=hid hcrA;have HYA:=hid hcsA;clear x0 x1 x2 x3 x4 x5 H6 hvA AA hcaA hCA hcrA hcsA;obtain ⟨x0,x1,x2,x3,x4,x5⟩:=H7.out.bn
   try simp only at x0 x1 x2 x3 x4 x5
   go_wp2_with (first | (refine wpList_store_row rfl 37 (.tmp 9) _ rfl vA.heap.size CA rfl rfl _ _ hnwA hinfA hszA honeA ?_; rw [World.setRow_alloc_new]))
   refine (KCN.out _ _ H7.out.hn).mono ?_
   rintro e vB ⟨⟨cB,hcrB,rfl,hcaB,hcsB⟩,hvB⟩;have hnwB:(vB.alloc (.cells rq0 37)).heap[vB.heap.size]? = some (.cells rq0 37 (0,0)):=by rw [heap_alloc_new]
   unfold rqV;obtain ⟨CB,hCB⟩:∃ a,a=(rqCells cB).toArray:=⟨_,rfl⟩
   rw [← hCB];have honeB:CB.all (·.oneCell')=true:=by rw [hCB]; exact oneR hcsB
   have hinfB:(Tryz.prog.info? 37).map (·.size)=some CB.size:=by rw [hCB]; exact infoR
   have hszB:rq0.size=CB.size:=by rw [hCB]; rfl
   have AB:=(Below.refl _ vB).alloc (Nat.le_refl _) (.cells CB 37);have H8:=hid ((H7.out.below hvB).below AB);have TB:=hid (hcaB.below AB);have RB:Hid ((vB.alloc (.cells CB 37)).heap[vB.heap.size]? = some (.cells CB 37 (0,0))):=show _=_ by rw [heap_alloc_new]
   have HCB:=hid hCB;have HEB:=hid hcrB;have HYB:=hid hcsB;replace RA:=hid (Below.one AB (Below.one hvB RA.out));replace TA:=hid ((TA.out.below hvB).below AB);clear x0 x1 x2 x3 x4 x5 H7 hvB AB hcaB hCB hcrB hcsB;obtain ⟨x0,x1,x2,x3,x4,x5⟩:=H8.out.bm
   try simp only at x0 x1 x2 x3 x4 x5
   go_wp2_with (first | (refine wpList_store_row rfl 37 (.tmp 11) _ rfl vB.heap.size CB rfl rfl _ _ hnwB hinfB hszB honeB ?_; rw [World.setRow_alloc_new]))
   refine (KD1.out _ H8.out.bw).mono ?_
   rintro e vC ⟨⟨cC,hcrC,rfl,hcaC,hcsC⟩,hvC⟩;have hnwC:(vC.alloc (.cells rq0 37)).heap[vC.heap.size]? = some (.cells rq0 37 (0,0)):=by rw [heap_alloc_new]
   unfold rqV;obtain ⟨CC,hCC⟩:∃ a,a=(rqCells cC).toArray:=⟨_,rfl⟩
   rw [← hCC];have honeC:CC.all (·.oneCell')=true:=by rw [hCC]; exact oneR hcsC
   have hinfC:(Tryz.prog.info? 37).map (·.size)=some CC.size:=by rw [hCC]; exact infoR
   have hszC:rq0.size=CC.size:=by rw [hCC]; rfl
   have AC:=(Below.refl _ vC).alloc (Nat.le_refl _) (.cells CC 37);have H9:=hid ((H8.out.below hvC).below AC);have TC:=hid (hcaC.below AC);have RC:Hid ((vC.alloc (.cells CC 37)).heap[vC.heap.size]? = some (.cells CC 37 (0,0))):=show _=_ by rw [heap_alloc_new]
   have HCC:=hid hCC;have HEC:=hid hcrC;have HYC:=hid hcsC;replace RA:=hid (Below.one AC (Below.one hvC RA.out));replace TA:=hid ((TA.out.below hvC).below AC);replace RB:=hid (Below.one AC (Below.one hvC RB.out));replace TB:=hid ((TB.out.below hvC).below AC);clear x0 x1 x2 x3 x4 x5 H8 hvC AC hcaC hCC hcrC hcsC;obtain ⟨x0,x1,x2,x3,x4,x5⟩:=H9.out.bn
   try simp only at x0 x1 x2 x3 x4 x5
   go_wp2_with (first | (refine wpList_store_row rfl 37 (.tmp 13) _ rfl vC.heap.size CC rfl rfl _ _ hnwC hinfC hszC honeC ?_; rw [World.setRow_alloc_new]))
   refine (KDN.out _ _ H9.out.hn).mono ?_
   rintro e vD ⟨⟨cD,hcrD,rfl,hcaD,hcsD⟩,hvD⟩;have hnwD:(vD.alloc (.cells rq0 37)).heap[vD.heap.size]? = some (.cells rq0 37 (0,0)):=by rw [heap_alloc_new]
   unfold rqV;obtain ⟨CD,hCD⟩:∃ a,a=(rqCells cD).toArray:=⟨_,rfl⟩
   rw [← hCD];have honeD:CD.all (·.oneCell')=true:=by rw [hCD]; exact oneR hcsD
   have hinfD:(Tryz.prog.info? 37).map (·.size)=some CD.size:=by rw [hCD]; exact infoR
   have hszD:rq0.size=CD.size:=by rw [hCD]; rfl
   have AD:=(Below.refl _ vD).alloc (Nat.le_refl _) (.cells CD 37);have H10:=hid ((H9.out.below hvD).below AD);have TD:=hid (hcaD.below AD);have RD:Hid ((vD.alloc (.cells CD 37)).heap[vD.heap.size]? = some (.cells CD 37 (0,0))):=show _=_ by rw [heap_alloc_new]
   have HCD:=hid hCD;have HED:=hid hcrD;have HYD:=hid hcsD;replace RA:=hid (Below.one AD (Below.one hvD RA.out));replace TA:=hid ((TA.out.below hvD).below AD);replace RB:=hid (Below.one AD (Below.one hvD RB.out));replace TB:=hid ((TB.out.below hvD).below AD);replace RC:=hid (Below.one AD (Below.one hvD RC.out));replace TC:=hid ((TC.out.below hvD).below AD);clear x0 x1 x2 x3 x4 x5 H9 hvD AD hcaD hCD hcrD hcsD;have KM1:=hid (rsame10_any cA cB (vD.alloc (.cells CD 37)) (HEB.out.trans HEA.out.symm) TA.out TB.out (by rw [HEA.out]; exact HSR.out));have KM2:=hid (fun w' (hb:Below (vD.alloc (.cells CD 37)).heap.size (vD.alloc (.cells CD 37)) w')=>rsame10_any cC cD w' (HED.out.trans HEC.out.symm) (TC.out.below hb) (TD.out.below hb) (by rw [HEC.out]; exact HR2.out));unfold rqV at KM1 KM2;rw [← HCA.out,← HCB.out] at KM1;rw [← HCC.out,← HCD.out] at KM2;have RA':=RA.out;have RB':=RB.out;have HRC:=hid (fun w' (hb:Below (vD.alloc (.cells CD 37)).heap.size (vD.alloc (.cells CD 37)) w')=>Below.one hb RC.out);have HRD:=hid (fun w' (hb:Below (vD.alloc (.cells CD 37)).heap.size (vD.alloc (.cells CD 37)) w')=>Below.one hb RD.out);have hbE:=H10.out.bw;clear KC1 KCN KD1 KDN TA TB TC TD H10 HEA HEB HEC HED HCA HCB HCC HCD HSR HR2 RA RB RC RD HYA HYB HYC HYD;go_wp2_with (first
    | (refine wpList_store_row rfl 37 (.tmp 15) _ rfl vD.heap.size CD rfl rfl _ _ hnwD hinfD hszD honeD ?_; rw [World.setRow_alloc_new])
    | (refine wpList_load_row rfl 37 (.tmp 9) rfl vA.heap.size rfl _ _ _ _ RA' Tryz.underlying37 rfl hinfA ?_)
    | (refine wpList_load_row rfl 37 (.tmp 11) rfl vB.heap.size rfl _ _ _ _ RB' Tryz.underlying37 rfl hinfB ?_)
    | (go_at_call_of 12 (Value.agg CA); refine KM1.out.mono ?_; rintro e wS ⟨rfl,hwS⟩; have RC':=HRC.out wS hwS; have RD':=HRD.out wS hwS; have KM3:=hid (KM2.out wS hwS))
    | (refine wpList_load_rowG rfl 37 (.tmp 13) rfl vC.heap.size rfl _ _ _ _ RC' Tryz.underlying37 rfl hinfC ?_)
    | (refine wpList_load_rowG rfl 37 (.tmp 15) rfl vD.heap.size rfl _ _ _ _ RD' Tryz.underlying37 rfl hinfD ?_)
    | (go_at_call_of 12 (Value.agg CC); refine KM3.out.mono ?_; rintro e wT ⟨rfl,hwT⟩)
    | (go_at_call 9; refine (KW.out _).mono ?_; rintro e wU ⟨rfl,hwU⟩))
   go_ret;exact ⟨rfl,((hbE.trans (hwS.mono hbE.size)).trans (hwT.mono (Nat.le_trans hbE.size hwS.size))).trans (hwU.mono (Nat.le_trans (Nat.le_trans hbE.size hwS.size) hwT.size))⟩
 ·have hcc:c≤cap:=by omega
  go_upto_region 6 with (first
   | (at_builtin; refine wp_appHs _ rfl (.tmp 36) (.tmp 40) 22 rfl (w1.heap.size+1) i0 _ Tryz.underlying22 hi hz0 hz1 hz2 rfl _ [] rfl OE.out _ (hs.take c) rfl HTK.out (by simp only [List.length_nil]; omega) _ HAE.out hszE ?_; intro v2 w2 hown2 hb2 hB2; have HO2:=hid (fun o=>OwnH.alloc hown2 o); have HBW2:=hid (fun o=>hb2.alloc hB2 o); have HNV:=hid (new_hdr w2 ⟨[88,45,79,116,104,101,114],vl⟩))
   | (at_builtin; refine wp_appH _ rfl (.tmp 41) (.tmp 44) 22 rfl (w1.heap.size+1) i0 _ Tryz.underlying22 hi hz0 hz1 hz2 rfl _ ([]++hs.take c) rfl (HO2.out _) ⟨_,0,none⟩ 1 ⟨[88,45,79,116,104,101,114],vl⟩ rfl (by exact HNV.out _) (by simp only [List.nil_append]; omega) _ (HBW2.out _) (by simp; omega) ?_; intro v3 w3 hown3 hb3 hg3 hB3; have r3:=RN.out.below hb3 (by omega); have g4:=r3.cell 4 (by simp); have f4:=r3.frozen 4; simp only [List.getElem_cons_succ,List.getElem_cons_zero] at g4; obtain ⟨LK,hLK⟩:∃ l,[]++hs.take c++[⟨[88,45,79,116,104,101,114],vl⟩]=l:=⟨_,rfl⟩; rw [hLK] at hown3; have HLK:=hid hLK; clear hLK; obtain ⟨oa,oc,hoe⟩:=(OwnH.hdrsAt hown3).form; subst hoe; have HO3:=hid hown3; have HB3:=hid hb3; have R3:=hid r3; clear hown3))
  have hll:LK.length≤65:=by rw [← HLK.out]; simp only [List.nil_append,List.length_append,List.length_cons,List.length_nil]; omega
  obtain ⟨l2,hl2⟩:∃ x,x=LK.length:=⟨_,rfl⟩
  rw [← hl2] at hll HO3 ⊢;have HL2:=hid hl2;clear hl2;have O4:=hid (OwnH.setC HO3.out (a:=⟨w1.heap.size,4,none⟩) (by simp) (.slice oa l2 oc));have r4:=R3.out.set 4 (.slice oa l2 oc);simp only [List.set_cons_succ,List.set_cons_zero] at r4;have hwl:w.heap.size < w1.heap.size+1:=by omega
  have X4:=hid ((HXN.out.below HB3.out hwl).setC (a:=⟨w1.heap.size,4,none⟩) (by simp; omega) (.slice oa l2 oc));have B4:=hid ((hbN.trans (HB3.out.mono (by omega))).setCell (p:=⟨w1.heap.size,4,none⟩) (by simp; omega) (.slice oa l2 oc));have S4:w1.heap.size+1≤(w3.setCell ⟨w1.heap.size,4,none⟩ (.slice oa l2 oc)).heap.size:=by simpa [World.setCell] using hB3
  have R4:=hid r4;clear HO3 HB3 R3 r3 r4 g4 f4 hb3 hg3 hB3 HO2 HBW2 HNV hown2 hb2 hB2 OE HAE HTK hszE HXN hbN hbE RN;clear x0 x1 x2 x3 x4 x5;generalize World.setCell _ _ _=w4 at O4 X4 B4 S4 R4 ⊢;have g4:=R4.out.cell 4 (by simp);simp only [List.getElem_cons_succ,List.getElem_cons_zero] at g4;have x4:=X4.out.2.2.2.2.1
  try simp only at x4
  have hdl:(hs.drop c).length≤64:=by rw [List.length_drop]; have:=HN.out; omega
  have O4d:=hid (OwnH.below O4.out (Below.refl _ w4).drew);have S4d:w1.heap.size+1≤w4.drew.heap.size:=S4;have hl2':LK.length+(hs.drop c).length≤4000000:=by have:=HL2.out; omega
  have HX4:=hid x4;have HG4:=hid g4;clear x4 g4
  go_cut [7] from 47 to 54 (fun s7 wx=>s7=.int .i64 c∧∃ ob od lm LM,Hid (hs.take c++[⟨otherK,vl⟩]++hs.drop c=LM)∧Hid (OrdIn w ⟨me,ta,st,re,hs,bo⟩ ⟨me,ta,st,re,LM,bo⟩ (.slice (some a) n cap) (.slice ob lm od) w1.heap.size wx))
  case first =>
   have x4:=HX4.out;have g4:=HG4.out;by_cases hcc2:cap=c
   ·have hnc:c=n:=by omega
    subst hnc;subst hcc2;have h0:hs.drop cap=[]:=List.drop_eq_nil_of_le (by have:=HN.out; omega);have HDd:Hid (HdrsAt w4.drew (.slice (some a) 0 0) (hs.drop cap)):=by
     rw [h0];exact Or.inr ⟨a,0,rfl,by simp,fun k hk=>absurd hk (by simp)⟩
    clear h0
    go_region_law (first
     | (refine step_appHs rfl (.tmp 48) (.tmp 52) 22 rfl (w1.heap.size+1) i0 _ Tryz.underlying22 hi hz0 hz1 hz2 rfl _ LK rfl O4d.out _ (hs.drop cap) rfl (by first | exact HDd.out | simpa using HDd.out) hl2' w4.drew (Below.refl _ _) S4d ?_; intro v5 w5 hown5 hb5 hB5; have r5:=(show RowIs w4.drew w1.heap.size 24 _ from R4.out).below hb5 (by omega); have h4:=r5.cell 4 (by simp); have f4:=r5.frozen 4; simp only [List.getElem_cons_succ,List.getElem_cons_zero] at h4; obtain ⟨LM,hLM⟩:∃ l,LK++hs.drop cap=l:=⟨_,rfl⟩; rw [hLM] at hown5; have HLM:=hid hLM; clear hLM; obtain ⟨ob,od,hoe⟩:=(OwnH.hdrsAt hown5).form; subst hoe; have HO5:=hid hown5; have HB5:=hid hb5; have R5:=hid r5; clear hown5 r5))
    all_goals (
     have r6:=R5.out.set 4 (.slice ob LM.length od);simp only [List.set_cons_succ,List.set_cons_zero] at r6;have O6:=OwnH.setC HO5.out (a:=⟨w1.heap.size,4,none⟩) (by simp) (.slice ob LM.length od);have X6:=((show BoxM w4.drew w.heap.size _ _ from X4.out).below HB5.out hwl).setC (a:=⟨w1.heap.size,4,none⟩) (by simp; omega) (.slice ob LM.length od);have B6:=((B4.out.drew).trans (HB5.out.mono (by omega))).setCell (p:=⟨w1.heap.size,4,none⟩) (by simp; omega) (.slice ob LM.length od);have S6:w1.heap.size+1≤(w5.setCell ⟨w1.heap.size,4,none⟩ (.slice ob LM.length od)).heap.size:=by simpa [World.setCell] using hB5
     have H6:Hid (OrdIn w ⟨me,ta,st,re,hs,bo⟩ ⟨me,ta,st,re,LM,bo⟩ (.slice (some a) cap cap) (.slice ob LM.length od) w1.heap.size (w5.setCell ⟨w1.heap.size,4,none⟩ (.slice ob LM.length od))):=⟨X6,box_row r6,OwnH.hdrsAt O6,B6,by omega,by omega⟩
     have hL:Hid (hs.take cap++[⟨otherK,vl⟩]++hs.drop cap=LM):=show _=_ by rw [← HLM.out,← HLK.out]; rfl
     go_wp2_with fail
     go_meet
     case rel=>exact ⟨rfl,_,_,_,_,hL,H6⟩)
   ·have HD:=hdrs_drop (k:=c) (HAT.out.below B4.out) (by rw [← HN.out]; exact hcn);rw [← HN.out] at HD;have HDd:=hid (HD.below (Below.refl _ w4).drew);clear HD
    go_region_law (first
     | (refine step_appHs rfl (.tmp 48) (.tmp 52) 22 rfl (w1.heap.size+1) i0 _ Tryz.underlying22 hi hz0 hz1 hz2 rfl _ LK rfl O4d.out _ (hs.drop c) rfl (by first | exact HDd.out | simpa using HDd.out) hl2' w4.drew (Below.refl _ _) S4d ?_; intro v5 w5 hown5 hb5 hB5; have r5:=(show RowIs w4.drew w1.heap.size 24 _ from R4.out).below hb5 (by omega); have h4:=r5.cell 4 (by simp); have f4:=r5.frozen 4; simp only [List.getElem_cons_succ,List.getElem_cons_zero] at h4; obtain ⟨LM,hLM⟩:∃ l,LK++hs.drop c=l:=⟨_,rfl⟩; rw [hLM] at hown5; have HLM:=hid hLM; clear hLM; obtain ⟨ob,od,hoe⟩:=(OwnH.hdrsAt hown5).form; subst hoe; have HO5:=hid hown5; have HB5:=hid hb5; have R5:=hid r5; clear hown5 r5))
    all_goals (
     have r6:=R5.out.set 4 (.slice ob LM.length od);simp only [List.set_cons_succ,List.set_cons_zero] at r6;have O6:=OwnH.setC HO5.out (a:=⟨w1.heap.size,4,none⟩) (by simp) (.slice ob LM.length od);have X6:=((show BoxM w4.drew w.heap.size _ _ from X4.out).below HB5.out hwl).setC (a:=⟨w1.heap.size,4,none⟩) (by simp; omega) (.slice ob LM.length od);have B6:=((B4.out.drew).trans (HB5.out.mono (by omega))).setCell (p:=⟨w1.heap.size,4,none⟩) (by simp; omega) (.slice ob LM.length od);have S6:w1.heap.size+1≤(w5.setCell ⟨w1.heap.size,4,none⟩ (.slice ob LM.length od)).heap.size:=by simpa [World.setCell] using hB5
     have H6:Hid (OrdIn w ⟨me,ta,st,re,hs,bo⟩ ⟨me,ta,st,re,LM,bo⟩ (.slice (some a) n cap) (.slice ob LM.length od) w1.heap.size (w5.setCell ⟨w1.heap.size,4,none⟩ (.slice ob LM.length od))):=⟨X6,box_row r6,OwnH.hdrsAt O6,B6,by omega,by omega⟩
     have hL:Hid (hs.take c++[⟨otherK,vl⟩]++hs.drop c=LM):=show _=_ by rw [← HLM.out,← HLK.out]; rfl
     go_wp2_with fail
     go_meet
     case rel=>exact ⟨rfl,_,_,_,_,hL,H6⟩)
  case rest =>
   obtain ⟨rfl,ob,od,lm,LM,hLM,H6⟩:=hcut;rw [hLM.out] at KCN KDN;clear hLM HLK R4 X4 B4 O4 O4d HG4 HX4 HB1 HL2;have hee:(R.2==R.2)=true:=by simp
   have hqq:(Q.2==Q.2)=true:=by simp
   obtain ⟨x0,x1,x2,x3,x4,x5⟩:=H6.out.bm
   try simp only at x0 x1 x2 x3 x4 x5
   go_wp2_with fail
   refine (KC1.out _ H6.out.bw).mono ?_
   rintro e vA ⟨⟨cA,hcrA,rfl,hcaA,hcsA⟩,hvA⟩;have hnwA:(vA.alloc (.cells rq0 37)).heap[vA.heap.size]? = some (.cells rq0 37 (0,0)):=by rw [heap_alloc_new]
   unfold rqV;obtain ⟨CA,hCA⟩:∃ a,a=(rqCells cA).toArray:=⟨_,rfl⟩
   rw [← hCA];have honeA:CA.all (·.oneCell')=true:=by rw [hCA]; exact oneR hcsA
   have hinfA:(Tryz.prog.info? 37).map (·.size)=some CA.size:=by rw [hCA]; exact infoR
   have hszA:rq0.size=CA.size:=by rw [hCA]; rfl
   have AA:=(Below.refl _ vA).alloc (Nat.le_refl _) (.cells CA 37);have H7:=hid ((H6.out.below hvA).below AA);have TA:=hid (hcaA.below AA);have RA:Hid ((vA.alloc (.cells CA 37)).heap[vA.heap.size]? = some (.cells CA 37 (0,0))):=show _=_ by rw [heap_alloc_new]
   have HCA:=hid hCA;have HEA:=hid hcrA;have HYA:=hid hcsA;clear x0 x1 x2 x3 x4 x5 H6 hvA AA hcaA hCA hcrA hcsA;obtain ⟨x0,x1,x2,x3,x4,x5⟩:=H7.out.bn
   try simp only at x0 x1 x2 x3 x4 x5
   go_wp2_with (first | (refine wpList_store_row rfl 37 (.tmp 9) _ rfl vA.heap.size CA rfl rfl _ _ hnwA hinfA hszA honeA ?_; rw [World.setRow_alloc_new]))
   refine (KCN.out _ _ H7.out.hn).mono ?_
   rintro e vB ⟨⟨cB,hcrB,rfl,hcaB,hcsB⟩,hvB⟩;have hnwB:(vB.alloc (.cells rq0 37)).heap[vB.heap.size]? = some (.cells rq0 37 (0,0)):=by rw [heap_alloc_new]
   unfold rqV;obtain ⟨CB,hCB⟩:∃ a,a=(rqCells cB).toArray:=⟨_,rfl⟩
   rw [← hCB];have honeB:CB.all (·.oneCell')=true:=by rw [hCB]; exact oneR hcsB
   have hinfB:(Tryz.prog.info? 37).map (·.size)=some CB.size:=by rw [hCB]; exact infoR
   have hszB:rq0.size=CB.size:=by rw [hCB]; rfl
   have AB:=(Below.refl _ vB).alloc (Nat.le_refl _) (.cells CB 37);have H8:=hid ((H7.out.below hvB).below AB);have TB:=hid (hcaB.below AB);have RB:Hid ((vB.alloc (.cells CB 37)).heap[vB.heap.size]? = some (.cells CB 37 (0,0))):=show _=_ by rw [heap_alloc_new]
   have HCB:=hid hCB;have HEB:=hid hcrB;have HYB:=hid hcsB;replace RA:=hid (Below.one AB (Below.one hvB RA.out));replace TA:=hid ((TA.out.below hvB).below AB);clear x0 x1 x2 x3 x4 x5 H7 hvB AB hcaB hCB hcrB hcsB;obtain ⟨x0,x1,x2,x3,x4,x5⟩:=H8.out.bm
   try simp only at x0 x1 x2 x3 x4 x5
   go_wp2_with (first | (refine wpList_store_row rfl 37 (.tmp 11) _ rfl vB.heap.size CB rfl rfl _ _ hnwB hinfB hszB honeB ?_; rw [World.setRow_alloc_new]))
   refine (KD1.out _ H8.out.bw).mono ?_
   rintro e vC ⟨⟨cC,hcrC,rfl,hcaC,hcsC⟩,hvC⟩;have hnwC:(vC.alloc (.cells rq0 37)).heap[vC.heap.size]? = some (.cells rq0 37 (0,0)):=by rw [heap_alloc_new]
   unfold rqV;obtain ⟨CC,hCC⟩:∃ a,a=(rqCells cC).toArray:=⟨_,rfl⟩
   rw [← hCC];have honeC:CC.all (·.oneCell')=true:=by rw [hCC]; exact oneR hcsC
   have hinfC:(Tryz.prog.info? 37).map (·.size)=some CC.size:=by rw [hCC]; exact infoR
   have hszC:rq0.size=CC.size:=by rw [hCC]; rfl
   have AC:=(Below.refl _ vC).alloc (Nat.le_refl _) (.cells CC 37);have H9:=hid ((H8.out.below hvC).below AC);have TC:=hid (hcaC.below AC);have RC:Hid ((vC.alloc (.cells CC 37)).heap[vC.heap.size]? = some (.cells CC 37 (0,0))):=show _=_ by rw [heap_alloc_new]
   have HCC:=hid hCC;have HEC:=hid hcrC;have HYC:=hid hcsC;replace RA:=hid (Below.one AC (Below.one hvC RA.out));replace TA:=hid ((TA.out.below hvC).below AC);replace RB:=hid (Below.one AC (Below.one hvC RB.out));replace TB:=hid ((TB.out.below hvC).below AC);clear x0 x1 x2 x3 x4 x5 H8 hvC AC hcaC hCC hcrC hcsC;obtain ⟨x0,x1,x2,x3,x4,x5⟩:=H9.out.bn
   try simp only at x0 x1 x2 x3 x4 x5
   go_wp2_with (first | (refine wpList_store_row rfl 37 (.tmp 13) _ rfl vC.heap.size CC rfl rfl _ _ hnwC hinfC hszC honeC ?_; rw [World.setRow_alloc_new]))
   refine (KDN.out _ _ H9.out.hn).mono ?_
   rintro e vD ⟨⟨cD,hcrD,rfl,hcaD,hcsD⟩,hvD⟩;have hnwD:(vD.alloc (.cells rq0 37)).heap[vD.heap.size]? = some (.cells rq0 37 (0,0)):=by rw [heap_alloc_new]
   unfold rqV;obtain ⟨CD,hCD⟩:∃ a,a=(rqCells cD).toArray:=⟨_,rfl⟩
   rw [← hCD];have honeD:CD.all (·.oneCell')=true:=by rw [hCD]; exact oneR hcsD
   have hinfD:(Tryz.prog.info? 37).map (·.size)=some CD.size:=by rw [hCD]; exact infoR
   have hszD:rq0.size=CD.size:=by rw [hCD]; rfl
   have AD:=(Below.refl _ vD).alloc (Nat.le_refl _) (.cells CD 37);have H10:=hid ((H9.out.below hvD).below AD);have TD:=hid (hcaD.below AD);have RD:Hid ((vD.alloc (.cells CD 37)).heap[vD.heap.size]? = some (.cells CD 37 (0,0))):=show _=_ by rw [heap_alloc_new]
   have HCD:=hid hCD;have HED:=hid hcrD;have HYD:=hid hcsD;replace RA:=hid (Below.one AD (Below.one hvD RA.out));replace TA:=hid ((TA.out.below hvD).below AD);replace RB:=hid (Below.one AD (Below.one hvD RB.out));replace TB:=hid ((TB.out.below hvD).below AD);replace RC:=hid (Below.one AD (Below.one hvD RC.out));replace TC:=hid ((TC.out.below hvD).below AD);clear x0 x1 x2 x3 x4 x5 H9 hvD AD hcaD hCD hcrD hcsD;have KM1:=hid (rsame10_any cA cB (vD.alloc (.cells CD 37)) (HEB.out.trans HEA.out.symm) TA.out TB.out (by rw [HEA.out]; exact HSR.out));have KM2:=hid (fun w' (hb:Below (vD.alloc (.cells CD 37)).heap.size (vD.alloc (.cells CD 37)) w')=>rsame10_any cC cD w' (HED.out.trans HEC.out.symm) (TC.out.below hb) (TD.out.below hb) (by rw [HEC.out]; exact HR2.out));unfold rqV at KM1 KM2;rw [← HCA.out,← HCB.out] at KM1;rw [← HCC.out,← HCD.out] at KM2;have RA':=RA.out;have RB':=RB.out;have HRC:=hid (fun w' (hb:Below (vD.alloc (.cells CD 37)).heap.size (vD.alloc (.cells CD 37)) w')=>Below.one hb RC.out);have HRD:=hid (fun w' (hb:Below (vD.alloc (.cells CD 37)).heap.size (vD.alloc (.cells CD 37)) w')=>Below.one hb RD.out);have hbE:=H10.out.bw;clear KC1 KCN KD1 KDN TA TB TC TD H10 HEA HEB HEC HED HCA HCB HCC HCD HSR HR2 RA RB RC RD HYA HYB HYC HYD;go_wp2_with (first
    | (refine wpList_store_row rfl 37 (.tmp 15) _ rfl vD.heap.size CD rfl rfl _ _ hnwD hinfD hszD honeD ?_; rw [World.setRow_alloc_new])
    | (refine wpList_load_row rfl 37 (.tmp 9) rfl vA.heap.size rfl _ _ _ _ RA' Tryz.underlying37 rfl hinfA ?_)
    | (refine wpList_load_row rfl 37 (.tmp 11) rfl vB.heap.size rfl _ _ _ _ RB' Tryz.underlying37 rfl hinfB ?_)
    | (go_at_call_of 12 (Value.agg CA); refine KM1.out.mono ?_; rintro e wS ⟨rfl,hwS⟩; have RC':=HRC.out wS hwS; have RD':=HRD.out wS hwS; have KM3:=hid (KM2.out wS hwS))
    | (refine wpList_load_rowG rfl 37 (.tmp 13) rfl vC.heap.size rfl _ _ _ _ RC' Tryz.underlying37 rfl hinfC ?_)
    | (refine wpList_load_rowG rfl 37 (.tmp 15) rfl vD.heap.size rfl _ _ _ _ RD' Tryz.underlying37 rfl hinfD ?_)
    | (go_at_call_of 12 (Value.agg CC); refine KM3.out.mono ?_; rintro e wT ⟨rfl,hwT⟩)
    | (go_at_call 9; refine (KW.out _).mono ?_; rintro e wU ⟨rfl,hwU⟩))
   go_ret;exact ⟨rfl,((hbE.trans (hwS.mono hbE.size)).trans (hwT.mono (Nat.le_trans hbE.size hwS.size))).trans (hwU.mono (Nat.le_trans (Nat.le_trans hbE.size hwS.size) hwT.size))⟩
end Go.Proofs.YtiogedceommcoaaGreatDoor
namespace Go.Proofs.YtiogedceommcoaaGreatDoor.replyOrder
open Go.RowKit Sc
def Fit (m:Ms):Prop:=SmallQ m∧m.headers.length≤1048576∧(piecesV m routeK).length≤1048576∧(piecesV m acceptK).length≤1048576
theorem sumH_mem:∀ (hs:List Hdr) (x:Hdr),x ∈ hs → x.value.length≤sumH hs
 | [],x,h=>by simp at h
 | y :: hs,x,h=>by
  have e:sumH (y :: hs)=10+y.name.length+y.value.length+sumH hs:=by simp [sumH]
  rw [e];simp only [List.mem_cons] at h
  rcases h with rfl | h
  ·omega
  ·have:=sumH_mem hs x h
   omega
theorem all_sum {m:Ms} (hq:sumQ m≤6000) (nm:List UInt8):∀ l ∈ allV m nm,l.length≤1048576:=by
 intro l hl;unfold allV at hl;simp only [List.mem_map,List.mem_filter] at hl;obtain ⟨x,⟨hx,_⟩,rfl⟩:=hl
 have:=sumH_mem m.headers x hx
 unfold sumQ at hq;omega
theorem fit_plain {m:Ms} (hsm:SmallM 140737488351232 m) (hn:m.headers.length < 64) (hq:sumQ m≤6000):Fit m :=
 ⟨⟨hsm.le (by omega),by unfold sumQ at hq; omega,fun nm _=>all_sum hq nm⟩,by omega,pieces_few hq _,pieces_few hq _⟩
theorem fit_put {m:Ms} {vl:List UInt8} (hsm:SmallM 140737488351232 m) (hn:m.headers.length < 64) (hq:sumQ m≤6000) (hv:vl.length≤140737488351232) (k:Nat):Fit (putX m k vl):=by
 have hl:(m.headers.take k++[(⟨otherK,vl⟩:Hdr)]++m.headers.drop k).length≤65:=by
  simp only [List.length_append,List.length_take,List.length_drop,List.length_cons,List.length_nil]; omega
 have ha:∀ nm ∈ names12,allV (putX m k vl) nm=allV m nm:=fun nm hnm=>all_put m k ⟨otherK,vl⟩ nm (other_no nm hnm);have hp:∀ nm ∈ [routeK,acceptK],piecesV (putX m k vl) nm=piecesV m nm:=fun nm hnm=>by
  unfold piecesV;rw [ha nm (by simp at hnm; rcases hnm with rfl | rfl <;> simp [names12])]
 have hq2:m.target.length≤1048576:=by unfold sumQ at hq; omega
 obtain ⟨h1,h2,h3,h4,h5,h6⟩:=hsm;refine ⟨⟨⟨by show m.method.length≤_; omega,by show m.target.length≤_; omega,by show m.reason.length≤_; omega,by show m.body.length≤_; omega,Nat.le_trans hl (by omega),fun p hp=>?_⟩,hq2,fun nm hnm=>?_⟩,Nat.le_trans hl (by omega),by rw [hp routeK (by simp)]; exact pieces_few hq _,by rw [hp acceptK (by simp)]; exact pieces_few hq _⟩
 ·simp only [putX,List.mem_append,List.mem_singleton] at hp
  rcases hp with (hp | hp) | hp
  ·have:=h6 p (List.mem_of_mem_take hp)
   omega
  ·subst hp; exact ⟨by simp [otherK],by show vl.length≤_; omega⟩
  ·have:=h6 p (List.mem_of_mem_drop hp)
   omega
 ·rw [ha nm hnm]; exact all_sum hq nm
theorem base_res (m:Ms) (h:Value) (w:World) (hf:Fit m) (hat:HdrsAt w h m.headers):Calls Tryz.prog 10 #[msgV m h] w fun e w'=>ReadRes (baseV m) w' e∧Below w.heap.size w w' :=
 (cbaseQ_any m h w hf.1 hf.2.1 hat).mono fun e w' x=>⟨by obtain ⟨c,h1,h2,h3⟩:=x.1; exact ⟨c,h1,h2,h3.at,h3.sl⟩,x.2⟩
theorem law_walk (w:World) (v0:Value) (a1:Int) (a2:ByteArray) (k0:MsgGot 140737488351232 w v0) (w1:(Lit.int .u64 a1).wf=true) (b2:a2.size≤140737488351232) :
  Calls Tryz.prog 6 #[v0,.int .u64 a1,.string a2] w fun e w'=>e=.returned (.bool true)∧Below w.heap.size w w':=by
 obtain ⟨m,h,rfl,hat,hsm,hcnt,_⟩:=k0;obtain ⟨⟨vl⟩⟩:=a2;have hl:vl.length≤140737488351232:=by simpa [ByteArray.size] using b2
 have hw:=u64_of w1;exact replyOrder_of Fit (fun m h w hf hat=>creadQ_any m h w hf.1 hf.2.1 hat hf.2.2.1 hf.2.2.2) base_res awake10_any m h a1 vl w hat hcnt (fun w' hat'=>lsmallQ m h w' (hsm.le (by omega)) hcnt hat') (fun h1 h2=>⟨fit_plain hsm h1 h2,fit_put hsm h1 h2 hl⟩) hw.1 hw.2
end Go.Proofs.YtiogedceommcoaaGreatDoor.replyOrder
