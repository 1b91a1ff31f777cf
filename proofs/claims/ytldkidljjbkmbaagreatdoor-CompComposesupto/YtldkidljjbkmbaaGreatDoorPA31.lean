/-
  RefParse.
-/
import Derived.Test.YtldkidljjbkmbaaGreatDoorPA30
set_option linter.unusedVariables false
set_option linter.unusedSimpArgs false
set_option maxRecDepth 20000
namespace Go.Proofs.YtldkidljjbkmbaaGreatDoor
open Go.RowKit Sc
set_option maxHeartbeats 8000000 in
set_option maxRecDepth 100000 in
theorem refparse_any (s:List UInt8) (w:World) (hs:s.length≤1048640) :
  Calls Tryz.prog 59 #[.string ⟨s.toArray⟩] w fun e w'=>∃ p h,e=.returned (.tuple #[uriV (parseV s).1 p h,.int .i64 (parseV s).2])∧OwnP w' w.heap.size p (parseV s).1.params∧OwnP w' w.heap.size h (parseV s).1.headers∧Below w.heap.size w w':=by
 have hcl:=cutL_len 58 s;obtain ⟨ca,cb,cc,hcut⟩:∃ ca cb cc,cutL 58 s=(ca,cb,cc):=⟨_,_,_,rfl⟩
 rw [hcut] at hcl;simp only at hcl;have hw0:Below w.heap.size w ((w.alloc (.cells #[.string ⟨#[]⟩,.string ⟨#[]⟩,.string ⟨#[]⟩,.int .i64 0,.slice none 0 0,.slice none 0 0] 97)).alloc (.cells #[.string ⟨#[]⟩,.string ⟨#[]⟩,.string ⟨#[]⟩,.int .i64 0,.slice none 0 0,.slice none 0 0] 97)):=((Below.refl _ w).alloc (Nat.le_refl _) _).alloc (by simp) _;have hr0:RowIs ((w.alloc (.cells #[.string ⟨#[]⟩,.string ⟨#[]⟩,.string ⟨#[]⟩,.int .i64 0,.slice none 0 0,.slice none 0 0] 97)).alloc (.cells #[.string ⟨#[]⟩,.string ⟨#[]⟩,.string ⟨#[]⟩,.int .i64 0,.slice none 0 0,.slice none 0 0] 97)) w.heap.size 97 zeroU:=(rowU_new w).alloc _
 have hn0:RowIs ((w.alloc (.cells #[.string ⟨#[]⟩,.string ⟨#[]⟩,.string ⟨#[]⟩,.int .i64 0,.slice none 0 0,.slice none 0 0] 97)).alloc (.cells #[.string ⟨#[]⟩,.string ⟨#[]⟩,.string ⟨#[]⟩,.int .i64 0,.slice none 0 0,.slice none 0 0] 97)) (w.heap.size+1) 97 zeroU:=by
  have h:=rowU_new (w.alloc (.cells #[.string ⟨#[]⟩,.string ⟨#[]⟩,.string ⟨#[]⟩,.int .i64 0,.slice none 0 0,.slice none 0 0] 97));have e:(w.alloc (.cells #[.string ⟨#[]⟩,.string ⟨#[]⟩,.string ⟨#[]⟩,.int .i64 0,.slice none 0 0,.slice none 0 0] 97)).heap.size=w.heap.size+1:=by simp
  rw [e] at h;exact h
 have hlt0:w.heap.size < ((w.alloc (.cells #[.string ⟨#[]⟩,.string ⟨#[]⟩,.string ⟨#[]⟩,.int .i64 0,.slice none 0 0,.slice none 0 0] 97)).alloc (.cells #[.string ⟨#[]⟩,.string ⟨#[]⟩,.string ⟨#[]⟩,.int .i64 0,.slice none 0 0,.slice none 0 0] 97)).heap.size:=by simp; omega
 have hlu0:w.heap.size+1 < ((w.alloc (.cells #[.string ⟨#[]⟩,.string ⟨#[]⟩,.string ⟨#[]⟩,.int .i64 0,.slice none 0 0,.slice none 0 0] 97)).alloc (.cells #[.string ⟨#[]⟩,.string ⟨#[]⟩,.string ⟨#[]⟩,.int .i64 0,.slice none 0 0,.slice none 0 0] 97)).heap.size:=by simp
 have hb0:=hw0;clear hw0;have HKC:Hid _:=fun w'=>cut3_r hcut w' (by omega);have HVA:Hid (∀ us rs ue,userV cb=(us,rs,ue) → parseV s=if cc=false∨schemeB (lowL ca)=false then (noU,30) else if ue ≠ 0 then (noU,ue) else bothV (lowL ca) us (restV rs)):=fun us rs ue h=>parseV_of hcut h;clear hcut;have hll:(lowL ca).length≤1048640:=by rw [lowL_len]; omega
 go_enter Tryz.func59,Tryz.ntmps59
 go_wp2_with fail
 refine (HKC.out _).mono ?_
 rintro e w1 ⟨rfl,hw1⟩;have hr1:=hr0.below hw1 hlt0;have hn1:=hn0.below hw1 hlu0;have hb1:=hb0.trans (hw1.mono hb0.size);have hlt1:=Nat.lt_of_lt_of_le hlt0 hw1.size;have hlu1:=Nat.lt_of_lt_of_le hlu0 hw1.size;clear hr0 hn0 hb0 hlt0 hlu0 hw1;clear HKC;go_wp2_with fail
 refine (reflower_list ca _ (by omega)).mono ?_
 rintro e w2 ⟨rfl,hw2⟩;have hr2:=hr1.below hw2 hlt1;have hn2:=hn1.below hw2 hlu1;have hb2:=hb1.trans (hw2.mono hb1.size);have hlt2:=Nat.lt_of_lt_of_le hlt1 hw2.size;have hlu2:=Nat.lt_of_lt_of_le hlu1 hw2.size;clear hr1 hn1 hb1 hlt1 hlu1 hw2;obtain ⟨c0,c1,c2,c3,c4,c5,f0,f1,f2,f3,f4,f5⟩:=hr2.six;obtain ⟨e0,e1,e2,e3,e4,e5,_,_,_,_,_,_⟩:=hn2.six
 cases cc with
 | false =>
  have hvz:Hid (parseV s=(noU,30)):=show _=_ by rw [HVA.out _ _ _ rfl,if_pos (Or.inl rfl)]
  clear HVA;go_wp2;have hr7:=row_store hr2 (.string ⟨#[]⟩) (.string ⟨#[]⟩) (.string ⟨#[]⟩) (.int .i64 0) (.slice none 0 0) (.slice none 0 0);have hb7:=store_below hb2 w.heap.size (Nat.le_refl _) (.string ⟨#[]⟩) (.string ⟨#[]⟩) (.string ⟨#[]⟩) (.int .i64 0) (.slice none 0 0) (.slice none 0 0);generalize World.setCell _ _ _=w7 at hr7 hb7 ⊢;obtain ⟨d0,d1,d2,d3,d4,d5,_,_,_,_,_,_⟩:=hr7.six
  try simp only [Exit.inBlock,Exit.then]
  refine bodyPost_ret (v:=.tuple #[.agg #[.string ⟨#[]⟩,.string ⟨#[]⟩,.string ⟨#[]⟩,.int .i64 0,.slice none 0 0,.slice none 0 0],.int .i64 30]) (by simp [results,Tryz.results59,go_sem,d0,d1,d2,d3,d4,d5]; try rfl) rfl ?_
  exact ⟨.slice none 0 0,.slice none 0 0,by rw [hvz.out]; rfl,by rw [hvz.out]; exact OwnP.nil _ _,by rw [hvz.out]; exact OwnP.nil _ _,hb7⟩
 | true =>
  cases hsc:schemeB (lowL ca) with
  | false =>
   have hvz:Hid (parseV s=(noU,30)):=show _=_ by rw [HVA.out _ _ _ rfl,if_pos (Or.inr hsc)]
   clear HVA;go_wp2_with (go_at_call 87; refine (refscheme_list _ _).mono ?_; rintro e w' ⟨rfl,rfl⟩; rw [hsc])
   have hr7:=row_store hr2 (.string ⟨#[]⟩) (.string ⟨#[]⟩) (.string ⟨#[]⟩) (.int .i64 0) (.slice none 0 0) (.slice none 0 0);have hb7:=store_below hb2 w.heap.size (Nat.le_refl _) (.string ⟨#[]⟩) (.string ⟨#[]⟩) (.string ⟨#[]⟩) (.int .i64 0) (.slice none 0 0) (.slice none 0 0);generalize World.setCell _ _ _=w7 at hr7 hb7 ⊢;obtain ⟨d0,d1,d2,d3,d4,d5,_,_,_,_,_,_⟩:=hr7.six
   try simp only [Exit.inBlock,Exit.then]
   refine bodyPost_ret (v:=.tuple #[.agg #[.string ⟨#[]⟩,.string ⟨#[]⟩,.string ⟨#[]⟩,.int .i64 0,.slice none 0 0,.slice none 0 0],.int .i64 30]) (by simp [results,Tryz.results59,go_sem,d0,d1,d2,d3,d4,d5]; try rfl) rfl ?_
   exact ⟨.slice none 0 0,.slice none 0 0,by rw [hvz.out]; rfl,by rw [hvz.out]; exact OwnP.nil _ _,by rw [hvz.out]; exact OwnP.nil _ _,hb7⟩
  | true =>
   have HVB:Hid (∀ us rs ue,userV cb=(us,rs,ue) → parseV s=if ue ≠ 0 then (noU,ue) else bothV (lowL ca) us (restV rs)):=fun us rs ue h=>by
    rw [HVA.out us rs ue h,if_neg (by simp [hsc])]
   clear HVA;have hcl4:=cutL_len 64 cb;have hch:=(cutL_has 64 cb).symm;obtain ⟨xa,xb,xc,hcut4⟩:∃ xa xb xc,cutL 64 cb=(xa,xb,xc):=⟨_,_,_,rfl⟩
   have huv:userV cb=if xc=true then (if (writtenV usersK xa).2=false∨(writtenV usersK xa).1=[]∨64 < (writtenV usersK xa).1.length then ([],[],31) else ((writtenV usersK xa).1,xb,0)) else ([],cb,0):=by
    unfold userV; simp only [hcut4]
   rw [hcut4] at hcl4 hch;simp only at hcl4 hch;have HK4:Hid _:=fun w'=>cut3_r hcut4 w' (by omega);clear hcut4
   cases xc with
   | false =>
    have hu0:userV cb=([],cb,0):=by rw [huv]; rfl
    have HV3:Hid (parseV s=bothV (lowL ca) [] (restV cb)):=show _=_ by rw [HVB.out _ _ _ hu0,if_neg (by simp)]
    clear HVB hu0 huv HK4
    go_wp2_with (first
     | (go_at_call 87; refine (refscheme_list _ _).mono ?_; rintro e w' ⟨rfl,rfl⟩; rw [hsc])
     | (go_at_call 88; refine (has3_r cb 64 _ (by omega)).mono ?_; rintro e w' ⟨rfl,rfl⟩; rw [hch])
     | (go_at_call 85; fail))
    have hr3:=hr2;have hn3:=hn2;have hb3:=hb2;have hlt3:=hlt2;have hlu3:=hlu2;clear hr2 hn2 hb2 hlt2 hlu2;have hrsl:cb.length≤1048640:=by omega
    have hcl3:=cutL_len 63 cb;obtain ⟨da,db,dc,hcut3⟩:∃ da db dc,cutL 63 cb=(da,db,dc):=⟨_,_,_,rfl⟩
    obtain ⟨p0,ps0,hp0⟩:=splitL_cons 59 da;obtain ⟨wh,wp,we,hwv⟩:∃ wh wp we,whereV p0=(wh,wp,we):=⟨_,_,_,rfl⟩
    have hvr:=rest_of hcut3 hp0 hwv;rw [hcut3] at hcl3;simp only at hcl3;have hmem:=splitL_mem_len 59 da;have hcnt:=splitL_len 59 da;have hwl:=where_len p0;rw [hwv] at hwl;simp only at hwl;rw [hp0] at hmem hcnt;have hp0l:=hmem p0 (by simp);have HMT:Hid (∀ l ∈ ps0,l.length≤1048640):=fun l hl=>by have:=hmem l (by simp [hl]); omega
    have hcnt2:ps0.length≤1048640:=by simp at hcnt; omega
    have HKC3:Hid _:=fun w'=>cut3_r hcut3 w' (by omega);have HKS:Hid _:=fun w'=>split3_of hp0 w' (by omega);have HKW:Hid _:=fun w'=>refwhere_of hwv w' (by omega);obtain ⟨q0,qs0,hq0⟩:=splitL_cons 38 db;have hmem2:=splitL_mem_len 38 db;have hcnt3:=splitL_len 38 db;rw [hq0] at hmem2 hcnt3;have HQM:Hid (∀ l ∈ q0 :: qs0,l.length≤1048640):=fun l hl=>by have:=hmem2 l hl; omega
    have hqn:(q0 :: qs0).length≤1048641:=by omega
    have HKQ:Hid _:=fun w'=>split3_of hq0 w' (by omega);have hhv:headsV true db=parsOf headersK (q0 :: qs0):=by rw [headsV,if_pos rfl,hq0]
    have HHV:Hid _:=hhv;have HVR:Hid _:=hvr;clear hmem hcnt hmem2 hcnt3 hq0 hhv hcut3 hp0 hwv hvr;go_wp2_with fail
    refine (HKC3.out _).mono ?_
    rintro e w4 ⟨rfl,hw4⟩;have hr4:=hr3.below hw4 hlt3;have hn4:=hn3.below hw4 hlu3;have hb4:=hb3.trans (hw4.mono hb3.size);have hlt4:=Nat.lt_of_lt_of_le hlt3 hw4.size;have hlu4:=Nat.lt_of_lt_of_le hlu3 hw4.size;clear hr3 hn3 hb3 hlt3 hlu3 hw4;clear HKC3;go_wp2_with fail
    refine (HKS.out _).mono ?_
    rintro e w5 ⟨g,cap,rfl,hcap,hgl,hcells,hw5⟩;have hg0:=hcells 0 (by simp);simp only [List.getElem_cons_zero] at hg0;have HC:Hid _:=hcells;clear hcells;have hr5:=hr4.below hw5 hlt4;have hn5:=hn4.below hw5 hlu4;have hb5:=hb4.trans (hw5.mono hb4.size);have hlt5:=Nat.lt_of_lt_of_le hlt4 hw5.size;have hlu5:=Nat.lt_of_lt_of_le hlu4 hw5.size;clear hr4 hn4 hb4 hlt4 hlu4 hw5;clear HKS;go_wp2_with fail
    refine (HKW.out _).mono ?_
    rintro e w5b ⟨rfl,hw5b⟩;have HSA:Hid (StrsAt w5b (.slice (some ⟨g,1,none⟩) ps0.length (cap - 1)) ps0):=strs_tail HC.out hgl hw5b;have HSB:Hid (ps0=[] → StrsAt w5b (.slice (some ⟨g,0,none⟩) ps0.length 0) ps0):=fun h=>by subst h; exact strs_none _ _ _
    have hr5b:=hr5.below hw5b hlt5;have hn5b:=hn5.below hw5b hlu5;have hb5b:=hb5.trans (hw5b.mono hb5.size);have hlt5b:=Nat.lt_of_lt_of_le hlt5 hw5b.size;have hlu5b:=Nat.lt_of_lt_of_le hlu5 hw5b.size;clear hr5 hn5 hb5 hlt5 hlu5 hw5b;clear HKW hg0 HC hgl c0 c1 c2 c3 c4 c5 f0 f1 f2 f3 f4 f5 e0 e1 e2 e3 e4 e5;obtain ⟨c0,c1,c2,c3,c4,c5,f0,f1,f2,f3,f4,f5⟩:=hr5b.six;obtain ⟨e0,e1,e2,e3,e4,e5,_,_,_,_,_,_⟩:=hn5b.six;by_cases hwe:we=0
    ·subst hwe;have hvv:Hid (restV cb=fillV (wh,wp,0) (parsOf paramsK ps0) (headsV dc db)):=show _=_ by rw [HVR.out,if_neg (by simp)]
     clear HVR;go_wp2_with fail
     all_goals (
      refine (params_of _ ps0 paramsK w5b (by decide) (by omega) HMT.out ?hstr).mono ?_
      case hstr=>first | with_reducible exact HSA.out | exact HSB.out (List.eq_nil_of_length_eq_zero (by omega))
      rintro e w6 ⟨v1,b1,rfl,hres,hw6⟩;have hr6:=hr5b.below hw6 hlt5b;have hn6:=hn5b.below hw6 hlu5b;have hb6:=hb5b.trans (hw6.mono hb5b.size);have hlt6:=Nat.lt_of_lt_of_le hlt5b hw6.size;have hlu6:=Nat.lt_of_lt_of_le hlu5b hw6.size;have hlu5b2:=hlu5b;clear hr5b hn5b hb5b hlt5b hlu5b hw6;clear c0 c1 c2 c3 c4 c5 f0 f1 f2 f3 f4 f5 e0 e1 e2 e3 e4 e5;obtain ⟨c0,c1,c2,c3,c4,c5,f0,f1,f2,f3,f4,f5⟩:=hr6.six;obtain ⟨e0,e1,e2,e3,e4,e5,_,_,_,_,_,_⟩:=hn6.six
      rcases hres with ⟨ps1,hp1,rfl,hown1⟩ | ⟨hp1,rfl,rfl⟩
      ·obtain ⟨a1,k1,rfl⟩:=hown1.parsAt.form;have sm1:=smallP_of hp1 (by omega) HMT.out;have ho1:Hid (OwnP w6 (w.heap.size+2) (.slice a1 ps1.length k1) ps1):=OwnP.mono hown1 (by omega);clear hown1
       cases dc with
       | false =>
        have hvv:Hid (restV cb=(⟨[],[],wh,wp,ps1,[]⟩,0)):=show _=_ by rw [hvv.out,hp1]; rfl
        have sm2:=smallP_nil;have ho2:Hid (OwnP w6 (w.heap.size+2) (.slice none 0 0) []):=OwnP.nil _ _;clear hp1;obtain ⟨u',hu'⟩:∃ u':Uri,u'=⟨lowL ca,[],wh,wp,ps1,[]⟩:=⟨_,rfl⟩
        have HV2:Hid (parseV s=endV u'):=show _=_ by rw [HV3.out,hvv.out,bothV,if_neg (by simp),hu']
        have hsm:SmallU 140737488355328 u':=by rw [hu']; exact ⟨by show (lowL ca).length≤_; omega,by simp,by show wh.length≤_; omega,sm1,sm2⟩
        have q4:u'.params=ps1:=by rw [hu']
        have q5:u'.headers=[]:=by rw [hu']
        have HCK:Hid _:=fun w' (y1:ParsAt w' (.slice a1 ps1.length k1) u'.params) (y2:ParsAt w' (.slice none 0 0) u'.headers)=>refcheck_any u' (.slice a1 ps1.length k1) (.slice none 0 0) w' hsm y1 y2;rw [q4,q5] at HCK;unfold uriV at HCK;have hv':Hid (∀ c,checkV u'=c → parseV s=if c ≠ 0 then (noU,c) else (⟨lowL ca,[],wh,wp,ps1,[]⟩,0)):=fun c hc=>by rw [HV2.out,endV,hc,hu']
        obtain ⟨ck,hck⟩:∃ ck,checkV u'=ck:=⟨_,rfl⟩
        have hvc:=hv'.out ck hck;rw [hck,hu'] at HCK;simp only at HCK;have HVC:Hid _:=hvc;clear hvc hv' HV3 HV2 hvv q4 q5 hsm hck hu' u' sm1 sm2;have hbox:=box_new w6 ⟨lowL ca,[],wh,wp,ps1,[]⟩ (.slice a1 ps1.length k1) (.slice none 0 0);have hbA:Below w6.heap.size w6 (w6.alloc (.cells #[.string ⟨(lowL ca).toArray⟩,.string ⟨#[]⟩,.string ⟨wh.toArray⟩,.int .i64 wp,(.slice a1 ps1.length k1),(.slice none 0 0)] 97)):=(Below.refl _ w6).alloc (Nat.le_refl _) _;go_wp2_with fail
        refine (HCK.out _ (ho1.out.below hbA).parsAt (ho2.out.below hbA).parsAt).mono ?_
        rintro e w8 ⟨rfl,hw8⟩;have hbx:w6.heap.size < (w6.alloc (.cells #[.string ⟨(lowL ca).toArray⟩,.string ⟨#[]⟩,.string ⟨wh.toArray⟩,.int .i64 wp,(.slice a1 ps1.length k1),(.slice none 0 0)] 97)).heap.size:=by simp
        have hB8:=hbox.below hw8 hbx;have hb48:Below w6.heap.size w6 w8:=hbA.trans (hw8.mono hbA.size);have hblt:w6.heap.size < w8.heap.size:=Nat.lt_of_lt_of_le hbx hw8.size;have hr8:=hr6.below hb48 hlt6;have hn8:=hn6.below hb48 hlu6;have hb8:=hb6.trans (hb48.mono hb6.size);have p8:Hid (OwnP w8 (w.heap.size+2) (.slice a1 ps1.length k1) ps1):=ho1.out.below hb48;have q8:Hid (OwnP w8 (w.heap.size+2) (.slice none 0 0) []):=ho2.out.below hb48;have hne0:w.heap.size+1 < w6.heap.size:=hlu6;clear hw8 hb48 hbA hbx hbox hr6 hn6 hb6 hlt6 hlu6 ho1 ho2 c0 c1 c2 c3 c4 c5 f0 f1 f2 f3 f4 f5 e0 e1 e2 e3 e4 e5;obtain ⟨c0,c1,c2,c3,c4,c5,f0,f1,f2,f3,f4,f5⟩:=hr8.six;obtain ⟨e0,e1,e2,e3,e4,e5,_,_,_,_,_,_⟩:=hn8.six;obtain ⟨g0,g1,g2,g3,g4,g5⟩:=hB8;have HB8:Hid (BoxU w8 w6.heap.size ⟨lowL ca,[],wh,wp,ps1,[]⟩ (.slice a1 ps1.length k1) (.slice none 0 0)):=⟨g0,g1,g2,g3,g4,g5⟩
        by_cases hck:ck=0
        ·subst hck;have hvz:Hid (parseV s=(⟨lowL ca,[],wh,wp,ps1,[]⟩,0)):=show _=_ by rw [HVC.out,if_neg (by simp)]
         clear HVC HB8;go_wp2;have hr9:=row_store hr8 (.string ⟨(lowL ca).toArray⟩) (.string ⟨#[]⟩) (.string ⟨wh.toArray⟩) (.int .i64 wp) (.slice a1 ps1.length k1) (.slice none 0 0);have hb9:=store_below hb8 w.heap.size (Nat.le_refl _) (.string ⟨(lowL ca).toArray⟩) (.string ⟨#[]⟩) (.string ⟨wh.toArray⟩) (.int .i64 wp) (.slice a1 ps1.length k1) (.slice none 0 0);have p9:=(OwnP.store p8.out (by omega:w.heap.size < w.heap.size+2) (.string ⟨(lowL ca).toArray⟩) (.string ⟨#[]⟩) (.string ⟨wh.toArray⟩) (.int .i64 wp) (.slice a1 ps1.length k1) (.slice none 0 0)).mono (by omega:w.heap.size≤w.heap.size+2);have q9:=(OwnP.store q8.out (by omega:w.heap.size < w.heap.size+2) (.string ⟨(lowL ca).toArray⟩) (.string ⟨#[]⟩) (.string ⟨wh.toArray⟩) (.int .i64 wp) (.slice a1 ps1.length k1) (.slice none 0 0)).mono (by omega:w.heap.size≤w.heap.size+2);generalize World.setCell _ _ _=w9 at hr9 hb9 p9 q9 ⊢;obtain ⟨d0,d1,d2,d3,d4,d5,_,_,_,_,_,_⟩:=hr9.six
         try simp only [Exit.inBlock,Exit.then]
         refine bodyPost_ret (v:=.tuple #[.agg #[.string ⟨(lowL ca).toArray⟩,.string ⟨#[]⟩,.string ⟨wh.toArray⟩,.int .i64 wp,(.slice a1 ps1.length k1),(.slice none 0 0)],.int .i64 0]) (by simp [results,Tryz.results59,go_sem,d0,d1,d2,d3,d4,d5]; try rfl) rfl ?_
         exact ⟨_,_,by rw [hvz.out]; rfl,by rw [hvz.out]; exact p9,by rw [hvz.out]; exact q9,hb9⟩
        ·have hue1:(ck != 0)=true:=by simpa using hck
         have hue2:(ck==0)=false:=by simpa using hck
         have hvz:Hid (parseV s=(noU,ck)):=show _=_ by rw [HVC.out,if_pos hck]
         clear HVC;go_wp2;have hr8d:RowIs w8.drew w.heap.size 97 zeroU:=hr8;have hn8d:RowIs w8.drew (w.heap.size+1) 97 zeroU:=hn8;have hb8d:=hb8.drew;have hlt8:w.heap.size < w8.drew.heap.size:=by show w.heap.size < w8.heap.size; omega
         have hlu8:w.heap.size+1 < w8.drew.heap.size:=by show w.heap.size+1 < w8.heap.size; omega
         have P8:Hid (ParsAt w8.drew (.slice a1 ps1.length k1) ps1):=p8.out.parsAt;have Q8:Hid (ParsAt w8.drew (.slice none 0 0) []):=q8.out.parsAt;have HR8:Hid _:=hr8d;have HN8:Hid _:=hn8d;clear hr8 hn8 hr8d hn8d hb8 p8 q8 HB8
         go_region_law (go_simp; go_at_call 93; refine (HCK.out _ ?ya ?yb).mono ?_; (case ya=>exact P8.out); (case yb=>exact Q8.out); rintro e wX ⟨rfl,hwX⟩; have hrX:=RowIs.below HR8.out hwX hlt8; have hnX:=RowIs.below HN8.out hwX hlu8; have hbX:=hb8d.trans (hwX.mono hb8d.size); obtain ⟨c0,c1,c2,c3,c4,c5,f0,f1,f2,f3,f4,f5⟩:=hrX.six; obtain ⟨e0,e1,e2,e3,e4,e5,_,_,_,_,_,_⟩:=hnX.six)
         all_goals (
          go_wp2;have hr7:=row_store hrX (.string ⟨#[]⟩) (.string ⟨#[]⟩) (.string ⟨#[]⟩) (.int .i64 0) (.slice none 0 0) (.slice none 0 0);have hb7:=store_below hbX w.heap.size (Nat.le_refl _) (.string ⟨#[]⟩) (.string ⟨#[]⟩) (.string ⟨#[]⟩) (.int .i64 0) (.slice none 0 0) (.slice none 0 0);generalize World.setCell _ _ _=w7 at hr7 hb7 ⊢;obtain ⟨d0,d1,d2,d3,d4,d5,_,_,_,_,_,_⟩:=hr7.six
          try simp only [Exit.inBlock,Exit.then]
          refine bodyPost_ret (v:=.tuple #[.agg #[.string ⟨#[]⟩,.string ⟨#[]⟩,.string ⟨#[]⟩,.int .i64 0,.slice none 0 0,.slice none 0 0],.int .i64 ck]) (by simp [results,Tryz.results59,go_sem,d0,d1,d2,d3,d4,d5]; try rfl) rfl ?_
          exact ⟨.slice none 0 0,.slice none 0 0,by rw [hvz.out]; rfl,by rw [hvz.out]; exact OwnP.nil _ _,by rw [hvz.out]; exact OwnP.nil _ _,hb7⟩)
       | true =>
        rw [HHV.out,hp1] at hvv;go_wp2_with fail
        refine (HKQ.out _).mono ?_
        rintro e w7 ⟨g2,cap2,rfl,hcap2,hgl2,hcells2,hw7⟩;have ho7:Hid _:=OwnP.below ho1.out hw7;have hs7:Hid (StrsAt w7 (.slice (some ⟨g2,0,none⟩) (qs0.length+1) cap2) (q0 :: qs0)):=strs_all hcells2 hgl2;clear hcells2 hgl2 ho1 HKQ;have hr7:=hr6.below hw7 hlt6;have hn7:=hn6.below hw7 hlu6;have hb7:=hb6.trans (hw7.mono hb6.size);have hlt7:=Nat.lt_of_lt_of_le hlt6 hw7.size;have hlu7:=Nat.lt_of_lt_of_le hlu6 hw7.size;clear hr6 hn6 hb6 hlt6 hlu6 hw7;go_wp2_with fail
        refine (params_of _ (q0 :: qs0) headersK w7 (by decide) hqn HQM.out hs7.out).mono ?_
        rintro e w8b ⟨v2,b2,rfl,hres2,hw8b⟩;have ho1:Hid (OwnP w8b (w.heap.size+2) (.slice a1 ps1.length k1) ps1):=OwnP.below ho7.out hw8b;have hlu72:=hlu7;clear ho7 hs7;have hr8b:=hr7.below hw8b hlt7;have hn8b:=hn7.below hw8b hlu7;have hb8b:=hb7.trans (hw8b.mono hb7.size);have hlt8b:=Nat.lt_of_lt_of_le hlt7 hw8b.size;have hlu8b:=Nat.lt_of_lt_of_le hlu7 hw8b.size;clear hr7 hn7 hb7 hlt7 hlu7 hw8b;clear c0 c1 c2 c3 c4 c5 f0 f1 f2 f3 f4 f5 e0 e1 e2 e3 e4 e5;obtain ⟨c0,c1,c2,c3,c4,c5,f0,f1,f2,f3,f4,f5⟩:=hr8b.six;obtain ⟨e0,e1,e2,e3,e4,e5,_,_,_,_,_,_⟩:=hn8b.six
        rcases hres2 with ⟨ps2,hp2,rfl,hown2⟩ | ⟨hp2,rfl,rfl⟩
        ·obtain ⟨a2,k2,rfl⟩:=hown2.parsAt.form;have sm2:=smallP_of hp2 hqn HQM.out;have ho2:Hid (OwnP w8b (w.heap.size+2) (.slice a2 ps2.length k2) ps2):=OwnP.mono hown2 (by omega);have hvv:Hid (restV cb=(⟨[],[],wh,wp,ps1,ps2⟩,0)):=show _=_ by rw [hvv.out,hp2]; rfl
         clear hp1 hp2 HHV hown2;obtain ⟨u',hu'⟩:∃ u':Uri,u'=⟨lowL ca,[],wh,wp,ps1,ps2⟩:=⟨_,rfl⟩
         have HV2:Hid (parseV s=endV u'):=show _=_ by rw [HV3.out,hvv.out,bothV,if_neg (by simp),hu']
         have hsm:SmallU 140737488355328 u':=by rw [hu']; exact ⟨by show (lowL ca).length≤_; omega,by simp,by show wh.length≤_; omega,sm1,sm2⟩
         have q4:u'.params=ps1:=by rw [hu']
         have q5:u'.headers=ps2:=by rw [hu']
         have HCK:Hid _:=fun w' (y1:ParsAt w' (.slice a1 ps1.length k1) u'.params) (y2:ParsAt w' (.slice a2 ps2.length k2) u'.headers)=>refcheck_any u' (.slice a1 ps1.length k1) (.slice a2 ps2.length k2) w' hsm y1 y2;rw [q4,q5] at HCK;unfold uriV at HCK;have hv':Hid (∀ c,checkV u'=c → parseV s=if c ≠ 0 then (noU,c) else (⟨lowL ca,[],wh,wp,ps1,ps2⟩,0)):=fun c hc=>by rw [HV2.out,endV,hc,hu']
         obtain ⟨ck,hck⟩:∃ ck,checkV u'=ck:=⟨_,rfl⟩
         have hvc:=hv'.out ck hck;rw [hck,hu'] at HCK;simp only at HCK;have HVC:Hid _:=hvc;clear hvc hv' HV3 HV2 hvv q4 q5 hsm hck hu' u' sm1 sm2;have hbox:=box_new w8b ⟨lowL ca,[],wh,wp,ps1,ps2⟩ (.slice a1 ps1.length k1) (.slice a2 ps2.length k2);have hbA:Below w8b.heap.size w8b (w8b.alloc (.cells #[.string ⟨(lowL ca).toArray⟩,.string ⟨#[]⟩,.string ⟨wh.toArray⟩,.int .i64 wp,(.slice a1 ps1.length k1),(.slice a2 ps2.length k2)] 97)):=(Below.refl _ w8b).alloc (Nat.le_refl _) _;go_wp2_with fail
         refine (HCK.out _ (ho1.out.below hbA).parsAt (ho2.out.below hbA).parsAt).mono ?_
         rintro e w8 ⟨rfl,hw8⟩;have hbx:w8b.heap.size < (w8b.alloc (.cells #[.string ⟨(lowL ca).toArray⟩,.string ⟨#[]⟩,.string ⟨wh.toArray⟩,.int .i64 wp,(.slice a1 ps1.length k1),(.slice a2 ps2.length k2)] 97)).heap.size:=by simp
         have hB8:=hbox.below hw8 hbx;have hb48:Below w8b.heap.size w8b w8:=hbA.trans (hw8.mono hbA.size);have hblt:w8b.heap.size < w8.heap.size:=Nat.lt_of_lt_of_le hbx hw8.size;have hr8:=hr8b.below hb48 hlt8b;have hn8:=hn8b.below hb48 hlu8b;have hb8:=hb8b.trans (hb48.mono hb8b.size);have p8:Hid (OwnP w8 (w.heap.size+2) (.slice a1 ps1.length k1) ps1):=ho1.out.below hb48;have q8:Hid (OwnP w8 (w.heap.size+2) (.slice a2 ps2.length k2) ps2):=ho2.out.below hb48;have hne0:w.heap.size+1 < w8b.heap.size:=hlu8b;clear hw8 hb48 hbA hbx hbox hr8b hn8b hb8b hlt8b hlu8b ho1 ho2 c0 c1 c2 c3 c4 c5 f0 f1 f2 f3 f4 f5 e0 e1 e2 e3 e4 e5;obtain ⟨c0,c1,c2,c3,c4,c5,f0,f1,f2,f3,f4,f5⟩:=hr8.six;obtain ⟨e0,e1,e2,e3,e4,e5,_,_,_,_,_,_⟩:=hn8.six;obtain ⟨g0,g1,g2,g3,g4,g5⟩:=hB8;have HB8:Hid (BoxU w8 w8b.heap.size ⟨lowL ca,[],wh,wp,ps1,ps2⟩ (.slice a1 ps1.length k1) (.slice a2 ps2.length k2)):=⟨g0,g1,g2,g3,g4,g5⟩
         by_cases hck:ck=0
         ·subst hck;have hvz:Hid (parseV s=(⟨lowL ca,[],wh,wp,ps1,ps2⟩,0)):=show _=_ by rw [HVC.out,if_neg (by simp)]
          clear HVC HB8;go_wp2;have hr9:=row_store hr8 (.string ⟨(lowL ca).toArray⟩) (.string ⟨#[]⟩) (.string ⟨wh.toArray⟩) (.int .i64 wp) (.slice a1 ps1.length k1) (.slice a2 ps2.length k2);have hb9:=store_below hb8 w.heap.size (Nat.le_refl _) (.string ⟨(lowL ca).toArray⟩) (.string ⟨#[]⟩) (.string ⟨wh.toArray⟩) (.int .i64 wp) (.slice a1 ps1.length k1) (.slice a2 ps2.length k2);have p9:=(OwnP.store p8.out (by omega:w.heap.size < w.heap.size+2) (.string ⟨(lowL ca).toArray⟩) (.string ⟨#[]⟩) (.string ⟨wh.toArray⟩) (.int .i64 wp) (.slice a1 ps1.length k1) (.slice a2 ps2.length k2)).mono (by omega:w.heap.size≤w.heap.size+2);have q9:=(OwnP.store q8.out (by omega:w.heap.size < w.heap.size+2) (.string ⟨(lowL ca).toArray⟩) (.string ⟨#[]⟩) (.string ⟨wh.toArray⟩) (.int .i64 wp) (.slice a1 ps1.length k1) (.slice a2 ps2.length k2)).mono (by omega:w.heap.size≤w.heap.size+2);generalize World.setCell _ _ _=w9 at hr9 hb9 p9 q9 ⊢;obtain ⟨d0,d1,d2,d3,d4,d5,_,_,_,_,_,_⟩:=hr9.six
          try simp only [Exit.inBlock,Exit.then]
          refine bodyPost_ret (v:=.tuple #[.agg #[.string ⟨(lowL ca).toArray⟩,.string ⟨#[]⟩,.string ⟨wh.toArray⟩,.int .i64 wp,(.slice a1 ps1.length k1),(.slice a2 ps2.length k2)],.int .i64 0]) (by simp [results,Tryz.results59,go_sem,d0,d1,d2,d3,d4,d5]; try rfl) rfl ?_
          exact ⟨_,_,by rw [hvz.out]; rfl,by rw [hvz.out]; exact p9,by rw [hvz.out]; exact q9,hb9⟩
         ·have hue1:(ck != 0)=true:=by simpa using hck
          have hue2:(ck==0)=false:=by simpa using hck
          have hvz:Hid (parseV s=(noU,ck)):=show _=_ by rw [HVC.out,if_pos hck]
          clear HVC;go_wp2;have hr8d:RowIs w8.drew w.heap.size 97 zeroU:=hr8;have hn8d:RowIs w8.drew (w.heap.size+1) 97 zeroU:=hn8;have hb8d:=hb8.drew;have hlt8:w.heap.size < w8.drew.heap.size:=by show w.heap.size < w8.heap.size; omega
          have hlu8:w.heap.size+1 < w8.drew.heap.size:=by show w.heap.size+1 < w8.heap.size; omega
          have P8:Hid (ParsAt w8.drew (.slice a1 ps1.length k1) ps1):=p8.out.parsAt;have Q8:Hid (ParsAt w8.drew (.slice a2 ps2.length k2) ps2):=q8.out.parsAt;have HR8:Hid _:=hr8d;have HN8:Hid _:=hn8d;clear hr8 hn8 hr8d hn8d hb8 p8 q8 HB8
          go_region_law (go_simp; go_at_call 93; refine (HCK.out _ ?ya ?yb).mono ?_; (case ya=>exact P8.out); (case yb=>exact Q8.out); rintro e wX ⟨rfl,hwX⟩; have hrX:=RowIs.below HR8.out hwX hlt8; have hnX:=RowIs.below HN8.out hwX hlu8; have hbX:=hb8d.trans (hwX.mono hb8d.size); obtain ⟨c0,c1,c2,c3,c4,c5,f0,f1,f2,f3,f4,f5⟩:=hrX.six; obtain ⟨e0,e1,e2,e3,e4,e5,_,_,_,_,_,_⟩:=hnX.six)
          all_goals (
           go_wp2;have hr7:=row_store hrX (.string ⟨#[]⟩) (.string ⟨#[]⟩) (.string ⟨#[]⟩) (.int .i64 0) (.slice none 0 0) (.slice none 0 0);have hb7:=store_below hbX w.heap.size (Nat.le_refl _) (.string ⟨#[]⟩) (.string ⟨#[]⟩) (.string ⟨#[]⟩) (.int .i64 0) (.slice none 0 0) (.slice none 0 0);generalize World.setCell _ _ _=w7 at hr7 hb7 ⊢;obtain ⟨d0,d1,d2,d3,d4,d5,_,_,_,_,_,_⟩:=hr7.six
           try simp only [Exit.inBlock,Exit.then]
           refine bodyPost_ret (v:=.tuple #[.agg #[.string ⟨#[]⟩,.string ⟨#[]⟩,.string ⟨#[]⟩,.int .i64 0,.slice none 0 0,.slice none 0 0],.int .i64 ck]) (by simp [results,Tryz.results59,go_sem,d0,d1,d2,d3,d4,d5]; try rfl) rfl ?_
           exact ⟨.slice none 0 0,.slice none 0 0,by rw [hvz.out]; rfl,by rw [hvz.out]; exact OwnP.nil _ _,by rw [hvz.out]; exact OwnP.nil _ _,hb7⟩)
        ·have hvz:Hid (parseV s=(noU,34)):=show _=_ by rw [HV3.out,hvv.out,hp2]; rfl
         clear hp1 hvv hp2 HHV HV3;go_wp2;have hr7:=row_store hr8b (.string ⟨#[]⟩) (.string ⟨#[]⟩) (.string ⟨#[]⟩) (.int .i64 0) (.slice none 0 0) (.slice none 0 0);have hb7:=store_below hb8b w.heap.size (Nat.le_refl _) (.string ⟨#[]⟩) (.string ⟨#[]⟩) (.string ⟨#[]⟩) (.int .i64 0) (.slice none 0 0) (.slice none 0 0);generalize World.setCell _ _ _=w7 at hr7 hb7 ⊢;obtain ⟨d0,d1,d2,d3,d4,d5,_,_,_,_,_,_⟩:=hr7.six
         try simp only [Exit.inBlock,Exit.then]
         refine bodyPost_ret (v:=.tuple #[.agg #[.string ⟨#[]⟩,.string ⟨#[]⟩,.string ⟨#[]⟩,.int .i64 0,.slice none 0 0,.slice none 0 0],.int .i64 34]) (by simp [results,Tryz.results59,go_sem,d0,d1,d2,d3,d4,d5]; try rfl) rfl ?_
         exact ⟨.slice none 0 0,.slice none 0 0,by rw [hvz.out]; rfl,by rw [hvz.out]; exact OwnP.nil _ _,by rw [hvz.out]; exact OwnP.nil _ _,hb7⟩
      ·have hvz:Hid (parseV s=(noU,34)):=show _=_ by rw [HV3.out,hvv.out,hp1]; rfl
       clear hp1 hvv HV3
       cases dc with
       | false =>
        go_wp2;have hr7:=row_store hr6 (.string ⟨#[]⟩) (.string ⟨#[]⟩) (.string ⟨#[]⟩) (.int .i64 0) (.slice none 0 0) (.slice none 0 0);have hb7:=store_below hb6 w.heap.size (Nat.le_refl _) (.string ⟨#[]⟩) (.string ⟨#[]⟩) (.string ⟨#[]⟩) (.int .i64 0) (.slice none 0 0) (.slice none 0 0);generalize World.setCell _ _ _=w7 at hr7 hb7 ⊢;obtain ⟨d0,d1,d2,d3,d4,d5,_,_,_,_,_,_⟩:=hr7.six
        try simp only [Exit.inBlock,Exit.then]
        refine bodyPost_ret (v:=.tuple #[.agg #[.string ⟨#[]⟩,.string ⟨#[]⟩,.string ⟨#[]⟩,.int .i64 0,.slice none 0 0,.slice none 0 0],.int .i64 34]) (by simp [results,Tryz.results59,go_sem,d0,d1,d2,d3,d4,d5]; try rfl) rfl ?_
        exact ⟨.slice none 0 0,.slice none 0 0,by rw [hvz.out]; rfl,by rw [hvz.out]; exact OwnP.nil _ _,by rw [hvz.out]; exact OwnP.nil _ _,hb7⟩
       | true =>
        go_wp2_with fail
        refine (HKQ.out _).mono ?_
        rintro e w7 ⟨g2,cap2,rfl,hcap2,hgl2,hcells2,hw7⟩;have hs7:Hid (StrsAt w7 (.slice (some ⟨g2,0,none⟩) (qs0.length+1) cap2) (q0 :: qs0)):=strs_all hcells2 hgl2;clear hcells2 hgl2 HKQ;have hr7:=hr6.below hw7 hlt6;have hn7:=hn6.below hw7 hlu6;have hb7:=hb6.trans (hw7.mono hb6.size);have hlt7:=Nat.lt_of_lt_of_le hlt6 hw7.size;have hlu7:=Nat.lt_of_lt_of_le hlu6 hw7.size;clear hr6 hn6 hb6 hlt6 hlu6 hw7;go_wp2_with fail
        refine (params_of _ (q0 :: qs0) headersK w7 (by decide) hqn HQM.out hs7.out).mono ?_
        rintro e w8b ⟨v2,b2,rfl,hres2,hw8b⟩;clear hs7 hres2;have hr8b:=hr7.below hw8b hlt7;have hn8b:=hn7.below hw8b hlu7;have hb8b:=hb7.trans (hw8b.mono hb7.size);have hlt8b:=Nat.lt_of_lt_of_le hlt7 hw8b.size;have hlu8b:=Nat.lt_of_lt_of_le hlu7 hw8b.size;clear hr7 hn7 hb7 hlt7 hlu7 hw8b;clear c0 c1 c2 c3 c4 c5 f0 f1 f2 f3 f4 f5 e0 e1 e2 e3 e4 e5;obtain ⟨c0,c1,c2,c3,c4,c5,f0,f1,f2,f3,f4,f5⟩:=hr8b.six;obtain ⟨e0,e1,e2,e3,e4,e5,_,_,_,_,_,_⟩:=hn8b.six;go_wp2;have hr7:=row_store hr8b (.string ⟨#[]⟩) (.string ⟨#[]⟩) (.string ⟨#[]⟩) (.int .i64 0) (.slice none 0 0) (.slice none 0 0);have hb7:=store_below hb8b w.heap.size (Nat.le_refl _) (.string ⟨#[]⟩) (.string ⟨#[]⟩) (.string ⟨#[]⟩) (.int .i64 0) (.slice none 0 0) (.slice none 0 0);generalize World.setCell _ _ _=w7 at hr7 hb7 ⊢;obtain ⟨d0,d1,d2,d3,d4,d5,_,_,_,_,_,_⟩:=hr7.six
        try simp only [Exit.inBlock,Exit.then]
        refine bodyPost_ret (v:=.tuple #[.agg #[.string ⟨#[]⟩,.string ⟨#[]⟩,.string ⟨#[]⟩,.int .i64 0,.slice none 0 0,.slice none 0 0],.int .i64 34]) (by simp [results,Tryz.results59,go_sem,d0,d1,d2,d3,d4,d5]; try rfl) rfl ?_
        exact ⟨.slice none 0 0,.slice none 0 0,by rw [hvz.out]; rfl,by rw [hvz.out]; exact OwnP.nil _ _,by rw [hvz.out]; exact OwnP.nil _ _,hb7⟩)
    ·have hwe1:(we != 0)=true:=by simpa using hwe
     have hwe2:(we==0)=false:=by simpa using hwe
     have hvz:Hid (parseV s=(noU,we)):=show _=_ by rw [HV3.out,HVR.out,if_pos hwe,bothV,if_pos hwe]
     clear HVR HV3;go_wp2;have hr7:=row_store hr5b (.string ⟨#[]⟩) (.string ⟨#[]⟩) (.string ⟨#[]⟩) (.int .i64 0) (.slice none 0 0) (.slice none 0 0);have hb7:=store_below hb5b w.heap.size (Nat.le_refl _) (.string ⟨#[]⟩) (.string ⟨#[]⟩) (.string ⟨#[]⟩) (.int .i64 0) (.slice none 0 0) (.slice none 0 0);generalize World.setCell _ _ _=w7 at hr7 hb7 ⊢;obtain ⟨d0,d1,d2,d3,d4,d5,_,_,_,_,_,_⟩:=hr7.six
     try simp only [Exit.inBlock,Exit.then]
     refine bodyPost_ret (v:=.tuple #[.agg #[.string ⟨#[]⟩,.string ⟨#[]⟩,.string ⟨#[]⟩,.int .i64 0,.slice none 0 0,.slice none 0 0],.int .i64 we]) (by simp [results,Tryz.results59,go_sem,d0,d1,d2,d3,d4,d5]; try rfl) rfl ?_
     exact ⟨.slice none 0 0,.slice none 0 0,by rw [hvz.out]; rfl,by rw [hvz.out]; exact OwnP.nil _ _,by rw [hvz.out]; exact OwnP.nil _ _,hb7⟩
   | true =>
    rw [if_pos rfl] at huv;obtain ⟨t1,tb,hwr⟩:∃ t1 tb,writtenV usersK xa=(t1,tb):=⟨_,_,rfl⟩
    rw [hwr] at huv;simp only at huv;have HKW4:Hid _:=fun w'=>written_of hwr w' (by omega) (by decide);clear hwr
    go_wp2_with (first
     | (go_at_call 87; refine (refscheme_list _ _).mono ?_; rintro e w' ⟨rfl,rfl⟩; rw [hsc])
     | (go_at_call 88; refine (has3_r cb 64 _ (by omega)).mono ?_; rintro e w' ⟨rfl,rfl⟩; rw [hch])
     | (go_at_call 85; fail))
    refine (HK4.out _).mono ?_
    rintro e w2b ⟨rfl,hw2b⟩;have hr2b:=hr2.below hw2b hlt2;have hn2b:=hn2.below hw2b hlu2;have hb2b:=hb2.trans (hw2b.mono hb2.size);have hlt2b:=Nat.lt_of_lt_of_le hlt2 hw2b.size;have hlu2b:=Nat.lt_of_lt_of_le hlu2 hw2b.size;clear hr2 hn2 hb2 hlt2 hlu2 hw2b;clear HK4;go_wp2_with fail
    refine (HKW4.out _).mono ?_
    rintro e w3 ⟨rfl,hw3⟩;have hr3:=hr2b.below hw3 hlt2b;have hn3:=hn2b.below hw3 hlu2b;have hb3:=hb2b.trans (hw3.mono hb2b.size);have hlt3:=Nat.lt_of_lt_of_le hlt2b hw3.size;have hlu3:=Nat.lt_of_lt_of_le hlu2b hw3.size;clear hr2b hn2b hb2b hlt2b hlu2b hw3;clear HKW4 c0 c1 c2 c3 c4 c5 f0 f1 f2 f3 f4 f5 e0 e1 e2 e3 e4 e5;obtain ⟨c0,c1,c2,c3,c4,c5,f0,f1,f2,f3,f4,f5⟩:=hr3.six;obtain ⟨e0,e1,e2,e3,e4,e5,_,_,_,_,_,_⟩:=hn3.six
    cases tb with
    | false =>
     have hvz:Hid (parseV s=(noU,31)):=show _=_ by rw [HVB.out [] [] 31 (by rw [huv]; simp),if_pos (by decide)]
     clear HVB huv;go_wp2;have hr7:=row_store hr3 (.string ⟨#[]⟩) (.string ⟨#[]⟩) (.string ⟨#[]⟩) (.int .i64 0) (.slice none 0 0) (.slice none 0 0);have hb7:=store_below hb3 w.heap.size (Nat.le_refl _) (.string ⟨#[]⟩) (.string ⟨#[]⟩) (.string ⟨#[]⟩) (.int .i64 0) (.slice none 0 0) (.slice none 0 0);generalize World.setCell _ _ _=w7 at hr7 hb7 ⊢;obtain ⟨d0,d1,d2,d3,d4,d5,_,_,_,_,_,_⟩:=hr7.six
     try simp only [Exit.inBlock,Exit.then]
     refine bodyPost_ret (v:=.tuple #[.agg #[.string ⟨#[]⟩,.string ⟨#[]⟩,.string ⟨#[]⟩,.int .i64 0,.slice none 0 0,.slice none 0 0],.int .i64 31]) (by simp [results,Tryz.results59,go_sem,d0,d1,d2,d3,d4,d5]; try rfl) rfl ?_
     exact ⟨.slice none 0 0,.slice none 0 0,by rw [hvz.out]; rfl,by rw [hvz.out]; exact OwnP.nil _ _,by rw [hvz.out]; exact OwnP.nil _ _,hb7⟩
    | true =>
     have z:=size_list t1;by_cases h0:t1=[]
     ·subst h0;have hvz:Hid (parseV s=(noU,31)):=show _=_ by rw [HVB.out [] [] 31 (by rw [huv]; simp),if_pos (by decide)]
      clear HVB huv;go_wp2;have hr7:=row_store hr3 (.string ⟨#[]⟩) (.string ⟨#[]⟩) (.string ⟨#[]⟩) (.int .i64 0) (.slice none 0 0) (.slice none 0 0);have hb7:=store_below hb3 w.heap.size (Nat.le_refl _) (.string ⟨#[]⟩) (.string ⟨#[]⟩) (.string ⟨#[]⟩) (.int .i64 0) (.slice none 0 0) (.slice none 0 0);generalize World.setCell _ _ _=w7 at hr7 hb7 ⊢;obtain ⟨d0,d1,d2,d3,d4,d5,_,_,_,_,_,_⟩:=hr7.six
      try simp only [Exit.inBlock,Exit.then]
      refine bodyPost_ret (v:=.tuple #[.agg #[.string ⟨#[]⟩,.string ⟨#[]⟩,.string ⟨#[]⟩,.int .i64 0,.slice none 0 0,.slice none 0 0],.int .i64 31]) (by simp [results,Tryz.results59,go_sem,d0,d1,d2,d3,d4,d5]; try rfl) rfl ?_
      exact ⟨.slice none 0 0,.slice none 0 0,by rw [hvz.out]; rfl,by rw [hvz.out]; exact OwnP.nil _ _,by rw [hvz.out]; exact OwnP.nil _ _,hb7⟩
     ·have he:t1.isEmpty=false:=by simpa using h0
      by_cases h64:64 < t1.length
      ·have hvz:Hid (parseV s=(noU,31)):=show _=_ by rw [HVB.out [] [] 31 (by rw [huv,if_pos (Or.inr (Or.inr h64))]),if_pos (by decide)]
       clear HVB huv;go_wp2;have hr7:=row_store hr3 (.string ⟨#[]⟩) (.string ⟨#[]⟩) (.string ⟨#[]⟩) (.int .i64 0) (.slice none 0 0) (.slice none 0 0);have hb7:=store_below hb3 w.heap.size (Nat.le_refl _) (.string ⟨#[]⟩) (.string ⟨#[]⟩) (.string ⟨#[]⟩) (.int .i64 0) (.slice none 0 0) (.slice none 0 0);generalize World.setCell _ _ _=w7 at hr7 hb7 ⊢;obtain ⟨d0,d1,d2,d3,d4,d5,_,_,_,_,_,_⟩:=hr7.six
       try simp only [Exit.inBlock,Exit.then]
       refine bodyPost_ret (v:=.tuple #[.agg #[.string ⟨#[]⟩,.string ⟨#[]⟩,.string ⟨#[]⟩,.int .i64 0,.slice none 0 0,.slice none 0 0],.int .i64 31]) (by simp [results,Tryz.results59,go_sem,d0,d1,d2,d3,d4,d5]; try rfl) rfl ?_
       exact ⟨.slice none 0 0,.slice none 0 0,by rw [hvz.out]; rfl,by rw [hvz.out]; exact OwnP.nil _ _,by rw [hvz.out]; exact OwnP.nil _ _,hb7⟩
      ·have HV3:Hid (parseV s=bothV (lowL ca) t1 (restV xb)):=show _=_ by rw [HVB.out t1 xb 0 (by rw [huv,if_neg (by simp [h0]; omega)]),if_neg (by simp)]
       have hrl:xb.length≤cb.length:=by omega
       have hul:t1.length≤64:=by omega
       clear HVB huv h0 h64;generalize xb=rs at *;generalize t1=us at *;have hrsl:rs.length≤1048640:=by omega
       have hcl3:=cutL_len 63 rs;obtain ⟨da,db,dc,hcut3⟩:∃ da db dc,cutL 63 rs=(da,db,dc):=⟨_,_,_,rfl⟩
       obtain ⟨p0,ps0,hp0⟩:=splitL_cons 59 da;obtain ⟨wh,wp,we,hwv⟩:∃ wh wp we,whereV p0=(wh,wp,we):=⟨_,_,_,rfl⟩
       have hvr:=rest_of hcut3 hp0 hwv;rw [hcut3] at hcl3;simp only at hcl3;have hmem:=splitL_mem_len 59 da;have hcnt:=splitL_len 59 da;have hwl:=where_len p0;rw [hwv] at hwl;simp only at hwl;rw [hp0] at hmem hcnt;have hp0l:=hmem p0 (by simp);have HMT:Hid (∀ l ∈ ps0,l.length≤1048640):=fun l hl=>by have:=hmem l (by simp [hl]); omega
       have hcnt2:ps0.length≤1048640:=by simp at hcnt; omega
       have HKC3:Hid _:=fun w'=>cut3_r hcut3 w' (by omega);have HKS:Hid _:=fun w'=>split3_of hp0 w' (by omega);have HKW:Hid _:=fun w'=>refwhere_of hwv w' (by omega);obtain ⟨q0,qs0,hq0⟩:=splitL_cons 38 db;have hmem2:=splitL_mem_len 38 db;have hcnt3:=splitL_len 38 db;rw [hq0] at hmem2 hcnt3;have HQM:Hid (∀ l ∈ q0 :: qs0,l.length≤1048640):=fun l hl=>by have:=hmem2 l hl; omega
       have hqn:(q0 :: qs0).length≤1048641:=by omega
       have HKQ:Hid _:=fun w'=>split3_of hq0 w' (by omega);have hhv:headsV true db=parsOf headersK (q0 :: qs0):=by rw [headsV,if_pos rfl,hq0]
       have HHV:Hid _:=hhv;have HVR:Hid _:=hvr;clear hmem hcnt hmem2 hcnt3 hq0 hhv hcut3 hp0 hwv hvr;go_wp2_with fail
       refine (HKC3.out _).mono ?_
       rintro e w4 ⟨rfl,hw4⟩;have hr4:=hr3.below hw4 hlt3;have hn4:=hn3.below hw4 hlu3;have hb4:=hb3.trans (hw4.mono hb3.size);have hlt4:=Nat.lt_of_lt_of_le hlt3 hw4.size;have hlu4:=Nat.lt_of_lt_of_le hlu3 hw4.size;clear hr3 hn3 hb3 hlt3 hlu3 hw4;clear HKC3;go_wp2_with fail
       refine (HKS.out _).mono ?_
       rintro e w5 ⟨g,cap,rfl,hcap,hgl,hcells,hw5⟩;have hg0:=hcells 0 (by simp);simp only [List.getElem_cons_zero] at hg0;have HC:Hid _:=hcells;clear hcells;have hr5:=hr4.below hw5 hlt4;have hn5:=hn4.below hw5 hlu4;have hb5:=hb4.trans (hw5.mono hb4.size);have hlt5:=Nat.lt_of_lt_of_le hlt4 hw5.size;have hlu5:=Nat.lt_of_lt_of_le hlu4 hw5.size;clear hr4 hn4 hb4 hlt4 hlu4 hw5;clear HKS;go_wp2_with fail
       refine (HKW.out _).mono ?_
       rintro e w5b ⟨rfl,hw5b⟩;have HSA:Hid (StrsAt w5b (.slice (some ⟨g,1,none⟩) ps0.length (cap - 1)) ps0):=strs_tail HC.out hgl hw5b;have HSB:Hid (ps0=[] → StrsAt w5b (.slice (some ⟨g,0,none⟩) ps0.length 0) ps0):=fun h=>by subst h; exact strs_none _ _ _
       have hr5b:=hr5.below hw5b hlt5;have hn5b:=hn5.below hw5b hlu5;have hb5b:=hb5.trans (hw5b.mono hb5.size);have hlt5b:=Nat.lt_of_lt_of_le hlt5 hw5b.size;have hlu5b:=Nat.lt_of_lt_of_le hlu5 hw5b.size;clear hr5 hn5 hb5 hlt5 hlu5 hw5b;clear HKW hg0 HC hgl c0 c1 c2 c3 c4 c5 f0 f1 f2 f3 f4 f5 e0 e1 e2 e3 e4 e5;obtain ⟨c0,c1,c2,c3,c4,c5,f0,f1,f2,f3,f4,f5⟩:=hr5b.six;obtain ⟨e0,e1,e2,e3,e4,e5,_,_,_,_,_,_⟩:=hn5b.six;by_cases hwe:we=0
       ·subst hwe;have hvv:Hid (restV rs=fillV (wh,wp,0) (parsOf paramsK ps0) (headsV dc db)):=show _=_ by rw [HVR.out,if_neg (by simp)]
        clear HVR;go_wp2_with fail
        all_goals (
         refine (params_of _ ps0 paramsK w5b (by decide) (by omega) HMT.out ?hstr).mono ?_
         case hstr=>first | with_reducible exact HSA.out | exact HSB.out (List.eq_nil_of_length_eq_zero (by omega))
         rintro e w6 ⟨v1,b1,rfl,hres,hw6⟩;have hr6:=hr5b.below hw6 hlt5b;have hn6:=hn5b.below hw6 hlu5b;have hb6:=hb5b.trans (hw6.mono hb5b.size);have hlt6:=Nat.lt_of_lt_of_le hlt5b hw6.size;have hlu6:=Nat.lt_of_lt_of_le hlu5b hw6.size;have hlu5b2:=hlu5b;clear hr5b hn5b hb5b hlt5b hlu5b hw6;clear c0 c1 c2 c3 c4 c5 f0 f1 f2 f3 f4 f5 e0 e1 e2 e3 e4 e5;obtain ⟨c0,c1,c2,c3,c4,c5,f0,f1,f2,f3,f4,f5⟩:=hr6.six;obtain ⟨e0,e1,e2,e3,e4,e5,_,_,_,_,_,_⟩:=hn6.six
         rcases hres with ⟨ps1,hp1,rfl,hown1⟩ | ⟨hp1,rfl,rfl⟩
         ·obtain ⟨a1,k1,rfl⟩:=hown1.parsAt.form;have sm1:=smallP_of hp1 (by omega) HMT.out;have ho1:Hid (OwnP w6 (w.heap.size+2) (.slice a1 ps1.length k1) ps1):=OwnP.mono hown1 (by omega);clear hown1
          cases dc with
          | false =>
           have hvv:Hid (restV rs=(⟨[],[],wh,wp,ps1,[]⟩,0)):=show _=_ by rw [hvv.out,hp1]; rfl
           have sm2:=smallP_nil;have ho2:Hid (OwnP w6 (w.heap.size+2) (.slice none 0 0) []):=OwnP.nil _ _;clear hp1;obtain ⟨u',hu'⟩:∃ u':Uri,u'=⟨lowL ca,us,wh,wp,ps1,[]⟩:=⟨_,rfl⟩
           have HV2:Hid (parseV s=endV u'):=show _=_ by rw [HV3.out,hvv.out,bothV,if_neg (by simp),hu']
           have hsm:SmallU 140737488355328 u':=by rw [hu']; exact ⟨by show (lowL ca).length≤_; omega,by show us.length≤_; omega,by show wh.length≤_; omega,sm1,sm2⟩
           have q4:u'.params=ps1:=by rw [hu']
           have q5:u'.headers=[]:=by rw [hu']
           have HCK:Hid _:=fun w' (y1:ParsAt w' (.slice a1 ps1.length k1) u'.params) (y2:ParsAt w' (.slice none 0 0) u'.headers)=>refcheck_any u' (.slice a1 ps1.length k1) (.slice none 0 0) w' hsm y1 y2;rw [q4,q5] at HCK;unfold uriV at HCK;have hv':Hid (∀ c,checkV u'=c → parseV s=if c ≠ 0 then (noU,c) else (⟨lowL ca,us,wh,wp,ps1,[]⟩,0)):=fun c hc=>by rw [HV2.out,endV,hc,hu']
           obtain ⟨ck,hck⟩:∃ ck,checkV u'=ck:=⟨_,rfl⟩
           have hvc:=hv'.out ck hck;rw [hck,hu'] at HCK;simp only at HCK;have HVC:Hid _:=hvc;clear hvc hv' HV3 HV2 hvv q4 q5 hsm hck hu' u' sm1 sm2;have hbox:=box_new w6 ⟨lowL ca,us,wh,wp,ps1,[]⟩ (.slice a1 ps1.length k1) (.slice none 0 0);have hbA:Below w6.heap.size w6 (w6.alloc (.cells #[.string ⟨(lowL ca).toArray⟩,.string ⟨us.toArray⟩,.string ⟨wh.toArray⟩,.int .i64 wp,(.slice a1 ps1.length k1),(.slice none 0 0)] 97)):=(Below.refl _ w6).alloc (Nat.le_refl _) _;go_wp2_with fail
           refine (HCK.out _ (ho1.out.below hbA).parsAt (ho2.out.below hbA).parsAt).mono ?_
           rintro e w8 ⟨rfl,hw8⟩;have hbx:w6.heap.size < (w6.alloc (.cells #[.string ⟨(lowL ca).toArray⟩,.string ⟨us.toArray⟩,.string ⟨wh.toArray⟩,.int .i64 wp,(.slice a1 ps1.length k1),(.slice none 0 0)] 97)).heap.size:=by simp
           have hB8:=hbox.below hw8 hbx;have hb48:Below w6.heap.size w6 w8:=hbA.trans (hw8.mono hbA.size);have hblt:w6.heap.size < w8.heap.size:=Nat.lt_of_lt_of_le hbx hw8.size;have hr8:=hr6.below hb48 hlt6;have hn8:=hn6.below hb48 hlu6;have hb8:=hb6.trans (hb48.mono hb6.size);have p8:Hid (OwnP w8 (w.heap.size+2) (.slice a1 ps1.length k1) ps1):=ho1.out.below hb48;have q8:Hid (OwnP w8 (w.heap.size+2) (.slice none 0 0) []):=ho2.out.below hb48;have hne0:w.heap.size+1 < w6.heap.size:=hlu6;clear hw8 hb48 hbA hbx hbox hr6 hn6 hb6 hlt6 hlu6 ho1 ho2 c0 c1 c2 c3 c4 c5 f0 f1 f2 f3 f4 f5 e0 e1 e2 e3 e4 e5;obtain ⟨c0,c1,c2,c3,c4,c5,f0,f1,f2,f3,f4,f5⟩:=hr8.six;obtain ⟨e0,e1,e2,e3,e4,e5,_,_,_,_,_,_⟩:=hn8.six;obtain ⟨g0,g1,g2,g3,g4,g5⟩:=hB8;have HB8:Hid (BoxU w8 w6.heap.size ⟨lowL ca,us,wh,wp,ps1,[]⟩ (.slice a1 ps1.length k1) (.slice none 0 0)):=⟨g0,g1,g2,g3,g4,g5⟩
           by_cases hck:ck=0
           ·subst hck;have hvz:Hid (parseV s=(⟨lowL ca,us,wh,wp,ps1,[]⟩,0)):=show _=_ by rw [HVC.out,if_neg (by simp)]
            clear HVC HB8;go_wp2;have hr9:=row_store hr8 (.string ⟨(lowL ca).toArray⟩) (.string ⟨us.toArray⟩) (.string ⟨wh.toArray⟩) (.int .i64 wp) (.slice a1 ps1.length k1) (.slice none 0 0);have hb9:=store_below hb8 w.heap.size (Nat.le_refl _) (.string ⟨(lowL ca).toArray⟩) (.string ⟨us.toArray⟩) (.string ⟨wh.toArray⟩) (.int .i64 wp) (.slice a1 ps1.length k1) (.slice none 0 0);have p9:=(OwnP.store p8.out (by omega:w.heap.size < w.heap.size+2) (.string ⟨(lowL ca).toArray⟩) (.string ⟨us.toArray⟩) (.string ⟨wh.toArray⟩) (.int .i64 wp) (.slice a1 ps1.length k1) (.slice none 0 0)).mono (by omega:w.heap.size≤w.heap.size+2);have q9:=(OwnP.store q8.out (by omega:w.heap.size < w.heap.size+2) (.string ⟨(lowL ca).toArray⟩) (.string ⟨us.toArray⟩) (.string ⟨wh.toArray⟩) (.int .i64 wp) (.slice a1 ps1.length k1) (.slice none 0 0)).mono (by omega:w.heap.size≤w.heap.size+2);generalize World.setCell _ _ _=w9 at hr9 hb9 p9 q9 ⊢;obtain ⟨d0,d1,d2,d3,d4,d5,_,_,_,_,_,_⟩:=hr9.six
            try simp only [Exit.inBlock,Exit.then]
            refine bodyPost_ret (v:=.tuple #[.agg #[.string ⟨(lowL ca).toArray⟩,.string ⟨us.toArray⟩,.string ⟨wh.toArray⟩,.int .i64 wp,(.slice a1 ps1.length k1),(.slice none 0 0)],.int .i64 0]) (by simp [results,Tryz.results59,go_sem,d0,d1,d2,d3,d4,d5]; try rfl) rfl ?_
            exact ⟨_,_,by rw [hvz.out]; rfl,by rw [hvz.out]; exact p9,by rw [hvz.out]; exact q9,hb9⟩
           ·have hue1:(ck != 0)=true:=by simpa using hck
            have hue2:(ck==0)=false:=by simpa using hck
            have hvz:Hid (parseV s=(noU,ck)):=show _=_ by rw [HVC.out,if_pos hck]
            clear HVC;go_wp2;have hr8d:RowIs w8.drew w.heap.size 97 zeroU:=hr8;have hn8d:RowIs w8.drew (w.heap.size+1) 97 zeroU:=hn8;have hb8d:=hb8.drew;have hlt8:w.heap.size < w8.drew.heap.size:=by show w.heap.size < w8.heap.size; omega
            have hlu8:w.heap.size+1 < w8.drew.heap.size:=by show w.heap.size+1 < w8.heap.size; omega
            have P8:Hid (ParsAt w8.drew (.slice a1 ps1.length k1) ps1):=p8.out.parsAt;have Q8:Hid (ParsAt w8.drew (.slice none 0 0) []):=q8.out.parsAt;have HR8:Hid _:=hr8d;have HN8:Hid _:=hn8d;clear hr8 hn8 hr8d hn8d hb8 p8 q8 HB8
            go_region_law (go_simp; go_at_call 93; refine (HCK.out _ ?ya ?yb).mono ?_; (case ya=>exact P8.out); (case yb=>exact Q8.out); rintro e wX ⟨rfl,hwX⟩; have hrX:=RowIs.below HR8.out hwX hlt8; have hnX:=RowIs.below HN8.out hwX hlu8; have hbX:=hb8d.trans (hwX.mono hb8d.size); obtain ⟨c0,c1,c2,c3,c4,c5,f0,f1,f2,f3,f4,f5⟩:=hrX.six; obtain ⟨e0,e1,e2,e3,e4,e5,_,_,_,_,_,_⟩:=hnX.six)
            all_goals (
             go_wp2;have hr7:=row_store hrX (.string ⟨#[]⟩) (.string ⟨#[]⟩) (.string ⟨#[]⟩) (.int .i64 0) (.slice none 0 0) (.slice none 0 0);have hb7:=store_below hbX w.heap.size (Nat.le_refl _) (.string ⟨#[]⟩) (.string ⟨#[]⟩) (.string ⟨#[]⟩) (.int .i64 0) (.slice none 0 0) (.slice none 0 0);generalize World.setCell _ _ _=w7 at hr7 hb7 ⊢;obtain ⟨d0,d1,d2,d3,d4,d5,_,_,_,_,_,_⟩:=hr7.six
             try simp only [Exit.inBlock,Exit.then]
             refine bodyPost_ret (v:=.tuple #[.agg #[.string ⟨#[]⟩,.string ⟨#[]⟩,.string ⟨#[]⟩,.int .i64 0,.slice none 0 0,.slice none 0 0],.int .i64 ck]) (by simp [results,Tryz.results59,go_sem,d0,d1,d2,d3,d4,d5]; try rfl) rfl ?_
             exact ⟨.slice none 0 0,.slice none 0 0,by rw [hvz.out]; rfl,by rw [hvz.out]; exact OwnP.nil _ _,by rw [hvz.out]; exact OwnP.nil _ _,hb7⟩)
          | true =>
           rw [HHV.out,hp1] at hvv;go_wp2_with fail
           refine (HKQ.out _).mono ?_
           rintro e w7 ⟨g2,cap2,rfl,hcap2,hgl2,hcells2,hw7⟩;have ho7:Hid _:=OwnP.below ho1.out hw7;have hs7:Hid (StrsAt w7 (.slice (some ⟨g2,0,none⟩) (qs0.length+1) cap2) (q0 :: qs0)):=strs_all hcells2 hgl2;clear hcells2 hgl2 ho1 HKQ;have hr7:=hr6.below hw7 hlt6;have hn7:=hn6.below hw7 hlu6;have hb7:=hb6.trans (hw7.mono hb6.size);have hlt7:=Nat.lt_of_lt_of_le hlt6 hw7.size;have hlu7:=Nat.lt_of_lt_of_le hlu6 hw7.size;clear hr6 hn6 hb6 hlt6 hlu6 hw7;go_wp2_with fail
           refine (params_of _ (q0 :: qs0) headersK w7 (by decide) hqn HQM.out hs7.out).mono ?_
           rintro e w8b ⟨v2,b2,rfl,hres2,hw8b⟩;have ho1:Hid (OwnP w8b (w.heap.size+2) (.slice a1 ps1.length k1) ps1):=OwnP.below ho7.out hw8b;have hlu72:=hlu7;clear ho7 hs7;have hr8b:=hr7.below hw8b hlt7;have hn8b:=hn7.below hw8b hlu7;have hb8b:=hb7.trans (hw8b.mono hb7.size);have hlt8b:=Nat.lt_of_lt_of_le hlt7 hw8b.size;have hlu8b:=Nat.lt_of_lt_of_le hlu7 hw8b.size;clear hr7 hn7 hb7 hlt7 hlu7 hw8b;clear c0 c1 c2 c3 c4 c5 f0 f1 f2 f3 f4 f5 e0 e1 e2 e3 e4 e5;obtain ⟨c0,c1,c2,c3,c4,c5,f0,f1,f2,f3,f4,f5⟩:=hr8b.six;obtain ⟨e0,e1,e2,e3,e4,e5,_,_,_,_,_,_⟩:=hn8b.six
           rcases hres2 with ⟨ps2,hp2,rfl,hown2⟩ | ⟨hp2,rfl,rfl⟩
           ·obtain ⟨a2,k2,rfl⟩:=hown2.parsAt.form;have sm2:=smallP_of hp2 hqn HQM.out;have ho2:Hid (OwnP w8b (w.heap.size+2) (.slice a2 ps2.length k2) ps2):=OwnP.mono hown2 (by omega);have hvv:Hid (restV rs=(⟨[],[],wh,wp,ps1,ps2⟩,0)):=show _=_ by rw [hvv.out,hp2]; rfl
            clear hp1 hp2 HHV hown2;obtain ⟨u',hu'⟩:∃ u':Uri,u'=⟨lowL ca,us,wh,wp,ps1,ps2⟩:=⟨_,rfl⟩
            have HV2:Hid (parseV s=endV u'):=show _=_ by rw [HV3.out,hvv.out,bothV,if_neg (by simp),hu']
            have hsm:SmallU 140737488355328 u':=by rw [hu']; exact ⟨by show (lowL ca).length≤_; omega,by show us.length≤_; omega,by show wh.length≤_; omega,sm1,sm2⟩
            have q4:u'.params=ps1:=by rw [hu']
            have q5:u'.headers=ps2:=by rw [hu']
            have HCK:Hid _:=fun w' (y1:ParsAt w' (.slice a1 ps1.length k1) u'.params) (y2:ParsAt w' (.slice a2 ps2.length k2) u'.headers)=>refcheck_any u' (.slice a1 ps1.length k1) (.slice a2 ps2.length k2) w' hsm y1 y2;rw [q4,q5] at HCK;unfold uriV at HCK;have hv':Hid (∀ c,checkV u'=c → parseV s=if c ≠ 0 then (noU,c) else (⟨lowL ca,us,wh,wp,ps1,ps2⟩,0)):=fun c hc=>by rw [HV2.out,endV,hc,hu']
            obtain ⟨ck,hck⟩:∃ ck,checkV u'=ck:=⟨_,rfl⟩
            have hvc:=hv'.out ck hck;rw [hck,hu'] at HCK;simp only at HCK;have HVC:Hid _:=hvc;clear hvc hv' HV3 HV2 hvv q4 q5 hsm hck hu' u' sm1 sm2;have hbox:=box_new w8b ⟨lowL ca,us,wh,wp,ps1,ps2⟩ (.slice a1 ps1.length k1) (.slice a2 ps2.length k2);have hbA:Below w8b.heap.size w8b (w8b.alloc (.cells #[.string ⟨(lowL ca).toArray⟩,.string ⟨us.toArray⟩,.string ⟨wh.toArray⟩,.int .i64 wp,(.slice a1 ps1.length k1),(.slice a2 ps2.length k2)] 97)):=(Below.refl _ w8b).alloc (Nat.le_refl _) _;go_wp2_with fail
            refine (HCK.out _ (ho1.out.below hbA).parsAt (ho2.out.below hbA).parsAt).mono ?_
            rintro e w8 ⟨rfl,hw8⟩;have hbx:w8b.heap.size < (w8b.alloc (.cells #[.string ⟨(lowL ca).toArray⟩,.string ⟨us.toArray⟩,.string ⟨wh.toArray⟩,.int .i64 wp,(.slice a1 ps1.length k1),(.slice a2 ps2.length k2)] 97)).heap.size:=by simp
            have hB8:=hbox.below hw8 hbx;have hb48:Below w8b.heap.size w8b w8:=hbA.trans (hw8.mono hbA.size);have hblt:w8b.heap.size < w8.heap.size:=Nat.lt_of_lt_of_le hbx hw8.size;have hr8:=hr8b.below hb48 hlt8b;have hn8:=hn8b.below hb48 hlu8b;have hb8:=hb8b.trans (hb48.mono hb8b.size);have p8:Hid (OwnP w8 (w.heap.size+2) (.slice a1 ps1.length k1) ps1):=ho1.out.below hb48;have q8:Hid (OwnP w8 (w.heap.size+2) (.slice a2 ps2.length k2) ps2):=ho2.out.below hb48;have hne0:w.heap.size+1 < w8b.heap.size:=hlu8b;clear hw8 hb48 hbA hbx hbox hr8b hn8b hb8b hlt8b hlu8b ho1 ho2 c0 c1 c2 c3 c4 c5 f0 f1 f2 f3 f4 f5 e0 e1 e2 e3 e4 e5;obtain ⟨c0,c1,c2,c3,c4,c5,f0,f1,f2,f3,f4,f5⟩:=hr8.six;obtain ⟨e0,e1,e2,e3,e4,e5,_,_,_,_,_,_⟩:=hn8.six;obtain ⟨g0,g1,g2,g3,g4,g5⟩:=hB8;have HB8:Hid (BoxU w8 w8b.heap.size ⟨lowL ca,us,wh,wp,ps1,ps2⟩ (.slice a1 ps1.length k1) (.slice a2 ps2.length k2)):=⟨g0,g1,g2,g3,g4,g5⟩
            by_cases hck:ck=0
            ·subst hck;have hvz:Hid (parseV s=(⟨lowL ca,us,wh,wp,ps1,ps2⟩,0)):=show _=_ by rw [HVC.out,if_neg (by simp)]
             clear HVC HB8;go_wp2;have hr9:=row_store hr8 (.string ⟨(lowL ca).toArray⟩) (.string ⟨us.toArray⟩) (.string ⟨wh.toArray⟩) (.int .i64 wp) (.slice a1 ps1.length k1) (.slice a2 ps2.length k2);have hb9:=store_below hb8 w.heap.size (Nat.le_refl _) (.string ⟨(lowL ca).toArray⟩) (.string ⟨us.toArray⟩) (.string ⟨wh.toArray⟩) (.int .i64 wp) (.slice a1 ps1.length k1) (.slice a2 ps2.length k2);have p9:=(OwnP.store p8.out (by omega:w.heap.size < w.heap.size+2) (.string ⟨(lowL ca).toArray⟩) (.string ⟨us.toArray⟩) (.string ⟨wh.toArray⟩) (.int .i64 wp) (.slice a1 ps1.length k1) (.slice a2 ps2.length k2)).mono (by omega:w.heap.size≤w.heap.size+2);have q9:=(OwnP.store q8.out (by omega:w.heap.size < w.heap.size+2) (.string ⟨(lowL ca).toArray⟩) (.string ⟨us.toArray⟩) (.string ⟨wh.toArray⟩) (.int .i64 wp) (.slice a1 ps1.length k1) (.slice a2 ps2.length k2)).mono (by omega:w.heap.size≤w.heap.size+2);generalize World.setCell _ _ _=w9 at hr9 hb9 p9 q9 ⊢;obtain ⟨d0,d1,d2,d3,d4,d5,_,_,_,_,_,_⟩:=hr9.six
             try simp only [Exit.inBlock,Exit.then]
             refine bodyPost_ret (v:=.tuple #[.agg #[.string ⟨(lowL ca).toArray⟩,.string ⟨us.toArray⟩,.string ⟨wh.toArray⟩,.int .i64 wp,(.slice a1 ps1.length k1),(.slice a2 ps2.length k2)],.int .i64 0]) (by simp [results,Tryz.results59,go_sem,d0,d1,d2,d3,d4,d5]; try rfl) rfl ?_
             exact ⟨_,_,by rw [hvz.out]; rfl,by rw [hvz.out]; exact p9,by rw [hvz.out]; exact q9,hb9⟩
            ·have hue1:(ck != 0)=true:=by simpa using hck
             have hue2:(ck==0)=false:=by simpa using hck
             have hvz:Hid (parseV s=(noU,ck)):=show _=_ by rw [HVC.out,if_pos hck]
             clear HVC;go_wp2;have hr8d:RowIs w8.drew w.heap.size 97 zeroU:=hr8;have hn8d:RowIs w8.drew (w.heap.size+1) 97 zeroU:=hn8;have hb8d:=hb8.drew;have hlt8:w.heap.size < w8.drew.heap.size:=by show w.heap.size < w8.heap.size; omega
             have hlu8:w.heap.size+1 < w8.drew.heap.size:=by show w.heap.size+1 < w8.heap.size; omega
             have P8:Hid (ParsAt w8.drew (.slice a1 ps1.length k1) ps1):=p8.out.parsAt;have Q8:Hid (ParsAt w8.drew (.slice a2 ps2.length k2) ps2):=q8.out.parsAt;have HR8:Hid _:=hr8d;have HN8:Hid _:=hn8d;clear hr8 hn8 hr8d hn8d hb8 p8 q8 HB8
             go_region_law (go_simp; go_at_call 93; refine (HCK.out _ ?ya ?yb).mono ?_; (case ya=>exact P8.out); (case yb=>exact Q8.out); rintro e wX ⟨rfl,hwX⟩; have hrX:=RowIs.below HR8.out hwX hlt8; have hnX:=RowIs.below HN8.out hwX hlu8; have hbX:=hb8d.trans (hwX.mono hb8d.size); obtain ⟨c0,c1,c2,c3,c4,c5,f0,f1,f2,f3,f4,f5⟩:=hrX.six; obtain ⟨e0,e1,e2,e3,e4,e5,_,_,_,_,_,_⟩:=hnX.six)
             all_goals (
              go_wp2;have hr7:=row_store hrX (.string ⟨#[]⟩) (.string ⟨#[]⟩) (.string ⟨#[]⟩) (.int .i64 0) (.slice none 0 0) (.slice none 0 0);have hb7:=store_below hbX w.heap.size (Nat.le_refl _) (.string ⟨#[]⟩) (.string ⟨#[]⟩) (.string ⟨#[]⟩) (.int .i64 0) (.slice none 0 0) (.slice none 0 0);generalize World.setCell _ _ _=w7 at hr7 hb7 ⊢;obtain ⟨d0,d1,d2,d3,d4,d5,_,_,_,_,_,_⟩:=hr7.six
              try simp only [Exit.inBlock,Exit.then]
              refine bodyPost_ret (v:=.tuple #[.agg #[.string ⟨#[]⟩,.string ⟨#[]⟩,.string ⟨#[]⟩,.int .i64 0,.slice none 0 0,.slice none 0 0],.int .i64 ck]) (by simp [results,Tryz.results59,go_sem,d0,d1,d2,d3,d4,d5]; try rfl) rfl ?_
              exact ⟨.slice none 0 0,.slice none 0 0,by rw [hvz.out]; rfl,by rw [hvz.out]; exact OwnP.nil _ _,by rw [hvz.out]; exact OwnP.nil _ _,hb7⟩)
           ·have hvz:Hid (parseV s=(noU,34)):=show _=_ by rw [HV3.out,hvv.out,hp2]; rfl
            clear hp1 hvv hp2 HHV HV3;go_wp2;have hr7:=row_store hr8b (.string ⟨#[]⟩) (.string ⟨#[]⟩) (.string ⟨#[]⟩) (.int .i64 0) (.slice none 0 0) (.slice none 0 0);have hb7:=store_below hb8b w.heap.size (Nat.le_refl _) (.string ⟨#[]⟩) (.string ⟨#[]⟩) (.string ⟨#[]⟩) (.int .i64 0) (.slice none 0 0) (.slice none 0 0);generalize World.setCell _ _ _=w7 at hr7 hb7 ⊢;obtain ⟨d0,d1,d2,d3,d4,d5,_,_,_,_,_,_⟩:=hr7.six
            try simp only [Exit.inBlock,Exit.then]
            refine bodyPost_ret (v:=.tuple #[.agg #[.string ⟨#[]⟩,.string ⟨#[]⟩,.string ⟨#[]⟩,.int .i64 0,.slice none 0 0,.slice none 0 0],.int .i64 34]) (by simp [results,Tryz.results59,go_sem,d0,d1,d2,d3,d4,d5]; try rfl) rfl ?_
            exact ⟨.slice none 0 0,.slice none 0 0,by rw [hvz.out]; rfl,by rw [hvz.out]; exact OwnP.nil _ _,by rw [hvz.out]; exact OwnP.nil _ _,hb7⟩
         ·have hvz:Hid (parseV s=(noU,34)):=show _=_ by rw [HV3.out,hvv.out,hp1]; rfl
          clear hp1 hvv HV3
          cases dc with
          | false =>
           go_wp2;have hr7:=row_store hr6 (.string ⟨#[]⟩) (.string ⟨#[]⟩) (.string ⟨#[]⟩) (.int .i64 0) (.slice none 0 0) (.slice none 0 0);have hb7:=store_below hb6 w.heap.size (Nat.le_refl _) (.string ⟨#[]⟩) (.string ⟨#[]⟩) (.string ⟨#[]⟩) (.int .i64 0) (.slice none 0 0) (.slice none 0 0);generalize World.setCell _ _ _=w7 at hr7 hb7 ⊢;obtain ⟨d0,d1,d2,d3,d4,d5,_,_,_,_,_,_⟩:=hr7.six
           try simp only [Exit.inBlock,Exit.then]
           refine bodyPost_ret (v:=.tuple #[.agg #[.string ⟨#[]⟩,.string ⟨#[]⟩,.string ⟨#[]⟩,.int .i64 0,.slice none 0 0,.slice none 0 0],.int .i64 34]) (by simp [results,Tryz.results59,go_sem,d0,d1,d2,d3,d4,d5]; try rfl) rfl ?_
           exact ⟨.slice none 0 0,.slice none 0 0,by rw [hvz.out]; rfl,by rw [hvz.out]; exact OwnP.nil _ _,by rw [hvz.out]; exact OwnP.nil _ _,hb7⟩
          | true =>
           go_wp2_with fail
           refine (HKQ.out _).mono ?_
           rintro e w7 ⟨g2,cap2,rfl,hcap2,hgl2,hcells2,hw7⟩;have hs7:Hid (StrsAt w7 (.slice (some ⟨g2,0,none⟩) (qs0.length+1) cap2) (q0 :: qs0)):=strs_all hcells2 hgl2;clear hcells2 hgl2 HKQ;have hr7:=hr6.below hw7 hlt6;have hn7:=hn6.below hw7 hlu6;have hb7:=hb6.trans (hw7.mono hb6.size);have hlt7:=Nat.lt_of_lt_of_le hlt6 hw7.size;have hlu7:=Nat.lt_of_lt_of_le hlu6 hw7.size;clear hr6 hn6 hb6 hlt6 hlu6 hw7;go_wp2_with fail
           refine (params_of _ (q0 :: qs0) headersK w7 (by decide) hqn HQM.out hs7.out).mono ?_
           rintro e w8b ⟨v2,b2,rfl,hres2,hw8b⟩;clear hs7 hres2;have hr8b:=hr7.below hw8b hlt7;have hn8b:=hn7.below hw8b hlu7;have hb8b:=hb7.trans (hw8b.mono hb7.size);have hlt8b:=Nat.lt_of_lt_of_le hlt7 hw8b.size;have hlu8b:=Nat.lt_of_lt_of_le hlu7 hw8b.size;clear hr7 hn7 hb7 hlt7 hlu7 hw8b;clear c0 c1 c2 c3 c4 c5 f0 f1 f2 f3 f4 f5 e0 e1 e2 e3 e4 e5;obtain ⟨c0,c1,c2,c3,c4,c5,f0,f1,f2,f3,f4,f5⟩:=hr8b.six;obtain ⟨e0,e1,e2,e3,e4,e5,_,_,_,_,_,_⟩:=hn8b.six;go_wp2;have hr7:=row_store hr8b (.string ⟨#[]⟩) (.string ⟨#[]⟩) (.string ⟨#[]⟩) (.int .i64 0) (.slice none 0 0) (.slice none 0 0);have hb7:=store_below hb8b w.heap.size (Nat.le_refl _) (.string ⟨#[]⟩) (.string ⟨#[]⟩) (.string ⟨#[]⟩) (.int .i64 0) (.slice none 0 0) (.slice none 0 0);generalize World.setCell _ _ _=w7 at hr7 hb7 ⊢;obtain ⟨d0,d1,d2,d3,d4,d5,_,_,_,_,_,_⟩:=hr7.six
           try simp only [Exit.inBlock,Exit.then]
           refine bodyPost_ret (v:=.tuple #[.agg #[.string ⟨#[]⟩,.string ⟨#[]⟩,.string ⟨#[]⟩,.int .i64 0,.slice none 0 0,.slice none 0 0],.int .i64 34]) (by simp [results,Tryz.results59,go_sem,d0,d1,d2,d3,d4,d5]; try rfl) rfl ?_
           exact ⟨.slice none 0 0,.slice none 0 0,by rw [hvz.out]; rfl,by rw [hvz.out]; exact OwnP.nil _ _,by rw [hvz.out]; exact OwnP.nil _ _,hb7⟩)
       ·have hwe1:(we != 0)=true:=by simpa using hwe
        have hwe2:(we==0)=false:=by simpa using hwe
        have hvz:Hid (parseV s=(noU,we)):=show _=_ by rw [HV3.out,HVR.out,if_pos hwe,bothV,if_pos hwe]
        clear HVR HV3;go_wp2;have hr7:=row_store hr5b (.string ⟨#[]⟩) (.string ⟨#[]⟩) (.string ⟨#[]⟩) (.int .i64 0) (.slice none 0 0) (.slice none 0 0);have hb7:=store_below hb5b w.heap.size (Nat.le_refl _) (.string ⟨#[]⟩) (.string ⟨#[]⟩) (.string ⟨#[]⟩) (.int .i64 0) (.slice none 0 0) (.slice none 0 0);generalize World.setCell _ _ _=w7 at hr7 hb7 ⊢;obtain ⟨d0,d1,d2,d3,d4,d5,_,_,_,_,_,_⟩:=hr7.six
        try simp only [Exit.inBlock,Exit.then]
        refine bodyPost_ret (v:=.tuple #[.agg #[.string ⟨#[]⟩,.string ⟨#[]⟩,.string ⟨#[]⟩,.int .i64 0,.slice none 0 0,.slice none 0 0],.int .i64 we]) (by simp [results,Tryz.results59,go_sem,d0,d1,d2,d3,d4,d5]; try rfl) rfl ?_
        exact ⟨.slice none 0 0,.slice none 0 0,by rw [hvz.out]; rfl,by rw [hvz.out]; exact OwnP.nil _ _,by rw [hvz.out]; exact OwnP.nil _ _,hb7⟩
end Go.Proofs.YtldkidljjbkmbaaGreatDoor
