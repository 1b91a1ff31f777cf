/-
  UParse, SWho, SHost, PR4, Re5, PC2, PC3.
-/
import Derived.Test.YtldkidljjbkmbaaGreatDoorPX13
import Derived.Lib.QuietBelow
set_option linter.unusedVariables false
set_option linter.unusedSimpArgs false
set_option maxRecDepth 20000
namespace Go.Proofs.YtldkidljjbkmbaaGreatDoor
open Go.RowKit Sc
set_option maxHeartbeats 2000000 in
set_option maxRecDepth 100000 in
theorem parse_any (s:List UInt8) (w:World) (hs:s.length≤1048640) :
  Calls Tryz.prog 51 #[.string ⟨s.toArray⟩] w fun e w'=>∃ p h,e=.returned (.tuple #[uriV (parseV s).1 p h,.int .i64 (parseV s).2])∧OwnP w' w.heap.size p (parseV s).1.params∧OwnP w' w.heap.size h (parseV s).1.headers∧Below w.heap.size w w':=by
 have hcl:=cutL_len 58 s;obtain ⟨ca,cb,cc,hcut⟩:∃ ca cb cc,cutL 58 s=(ca,cb,cc):=⟨_,_,_,rfl⟩
 obtain ⟨us,rs,ue,hus⟩:∃ us rs ue,userV cb=(us,rs,ue):=⟨_,_,_,rfl⟩
 have hv:=parseV_of hcut hus;rw [hcut] at hcl;simp only at hcl;have hul:=user_small cb;have hrl:=user_rest cb;rw [hus] at hul hrl;simp only at hul hrl;have hr0:=rowU_new w;have hb0:Below w.heap.size w (w.alloc (.cells #[.string ⟨#[]⟩,.string ⟨#[]⟩,.string ⟨#[]⟩,.int .i64 0,.slice none 0 0,.slice none 0 0] 97)):=(Below.refl _ w).alloc (Nat.le_refl _) _;have hlt0:w.heap.size < (w.alloc (.cells #[.string ⟨#[]⟩,.string ⟨#[]⟩,.string ⟨#[]⟩,.int .i64 0,.slice none 0 0,.slice none 0 0] 97)).heap.size:=by simp
 have HKC:Hid _:=fun w'=>strCut_of hcut w' (by omega);have HKU:Hid _:=fun w'=>cutUser_of hus w' (by omega);clear hcut hus;have HV:Hid _:=hv; clear hv
 have hll:(lowL ca).length≤1048640:=by rw [lowL_len]; omega
 go_enter Tryz.func51,Tryz.ntmps51
 go_wp2_with fail
 refine (HKC.out _).mono ?_
 rintro e w1 ⟨rfl,hw1⟩;have hr1:=hr0.below hw1 hlt0;have hb1:=hb0.trans (hw1.mono hb0.size);have hlt1:=Nat.lt_of_lt_of_le hlt0 hw1.size;clear hr0 hb0 hlt0 hw1 HKC;go_wp2_with fail
 refine (lower_list ca _ (by omega)).mono ?_
 rintro e w2 ⟨rfl,hw2⟩;have hr2:=hr1.below hw2 hlt1;have hb2:=hb1.trans (hw2.mono hb1.size);have hlt2:=Nat.lt_of_lt_of_le hlt1 hw2.size;clear hr1 hb1 hlt1 hw2;obtain ⟨c0,c1,c2,c3,c4,c5,f0,f1,f2,f3,f4,f5⟩:=hr2.six
 cases cc with
 | false =>
  have hvv:Hid (parseV s=(noU,30)):=show _=_ by rw [HV.out,if_pos (Or.inl rfl)]
  clear HV HKU;go_wp2;have hr7:=row_store hr2 (.string ⟨#[]⟩) (.string ⟨#[]⟩) (.string ⟨#[]⟩) (.int .i64 0) (.slice none 0 0) (.slice none 0 0);have hb7:=store_below hb2 w.heap.size (Nat.le_refl _) (.string ⟨#[]⟩) (.string ⟨#[]⟩) (.string ⟨#[]⟩) (.int .i64 0) (.slice none 0 0) (.slice none 0 0);generalize World.setCell _ _ _=w7 at hr7 hb7 ⊢;obtain ⟨d0,d1,d2,d3,d4,d5,_,_,_,_,_,_⟩:=hr7.six
  try simp only [Exit.inBlock,Exit.then]
  refine bodyPost_ret (v:=.tuple #[.agg #[.string ⟨#[]⟩,.string ⟨#[]⟩,.string ⟨#[]⟩,.int .i64 0,.slice none 0 0,.slice none 0 0],.int .i64 30]) (by simp [results,Tryz.results51,go_sem,d0,d1,d2,d3,d4,d5]; try rfl) rfl ?_
  exact ⟨.slice none 0 0,.slice none 0 0,by rw [hvv.out]; rfl,by rw [hvv.out]; exact OwnP.nil _ _,by rw [hvv.out]; exact OwnP.nil _ _,hb7⟩
 | true =>
  cases hsc:schemeB (lowL ca) with
  | false =>
   have hvv:Hid (parseV s=(noU,30)):=show _=_ by rw [HV.out,if_pos (Or.inr hsc)]
   clear HV HKU;go_wp2_with (go_at_call 76; refine (scheme_list _ _).mono ?_; rintro e w' ⟨rfl,rfl⟩; rw [hsc])
   have hr7:=row_store hr2 (.string ⟨#[]⟩) (.string ⟨#[]⟩) (.string ⟨#[]⟩) (.int .i64 0) (.slice none 0 0) (.slice none 0 0);have hb7:=store_below hb2 w.heap.size (Nat.le_refl _) (.string ⟨#[]⟩) (.string ⟨#[]⟩) (.string ⟨#[]⟩) (.int .i64 0) (.slice none 0 0) (.slice none 0 0);generalize World.setCell _ _ _=w7 at hr7 hb7 ⊢;obtain ⟨d0,d1,d2,d3,d4,d5,_,_,_,_,_,_⟩:=hr7.six
   try simp only [Exit.inBlock,Exit.then]
   refine bodyPost_ret (v:=.tuple #[.agg #[.string ⟨#[]⟩,.string ⟨#[]⟩,.string ⟨#[]⟩,.int .i64 0,.slice none 0 0,.slice none 0 0],.int .i64 30]) (by simp [results,Tryz.results51,go_sem,d0,d1,d2,d3,d4,d5]; try rfl) rfl ?_
   exact ⟨.slice none 0 0,.slice none 0 0,by rw [hvv.out]; rfl,by rw [hvv.out]; exact OwnP.nil _ _,by rw [hvv.out]; exact OwnP.nil _ _,hb7⟩
  | true =>
   rw [if_neg (by simp [hsc])] at HV
   go_wp2_with (first
    | (go_at_call 76; refine (scheme_list _ _).mono ?_; rintro e w' ⟨rfl,rfl⟩; rw [hsc])
    | (go_at_call 77; fail))
   refine (HKU.out _).mono ?_
   rintro e w3 ⟨rfl,hw3⟩;have hr3:=hr2.below hw3 hlt2;have hb3:=hb2.trans (hw3.mono hb2.size);have hlt3:=Nat.lt_of_lt_of_le hlt2 hw3.size;clear hr2 hb2 hlt2 hw3 HKU c0 c1 c2 c3 c4 c5 f0 f1 f2 f3 f4 f5;obtain ⟨c0,c1,c2,c3,c4,c5,f0,f1,f2,f3,f4,f5⟩:=hr3.six;by_cases hue:ue=0
   ·subst hue;rw [if_neg (by simp)] at HV;have hrs:rs.length≤1048640:=by omega
    obtain ⟨sm1,sm2,sm3⟩:=rest_small hrs;obtain ⟨u,re,hre⟩:∃ u re,restV rs=(u,re):=⟨_,_,rfl⟩
    rw [hre] at HV sm1 sm2 sm3;simp only at sm1 sm2 sm3;obtain ⟨u0,u1,u2,u3,u4,u5⟩:=u;simp only at sm1 sm2 sm3;have HKR:Hid _:=fun w'=>readRest_of hre w' hrs;clear hre;go_wp2_with fail
    refine (HKR.out _).mono ?_
    rintro e w4 ⟨p,h,rfl,hop,hoh,hw4⟩;obtain ⟨a1,k1,rfl⟩:=hop.parsAt.form;obtain ⟨a2,k2,rfl⟩:=hoh.parsAt.form;unfold uriV
    simp only
    have hr4:=hr3.below hw4 hlt3;have hb4:=hb3.trans (hw4.mono hb3.size);have hlt4:=Nat.lt_of_lt_of_le hlt3 hw4.size;have ho1:Hid (OwnP w4 (w.heap.size+1) (.slice a1 u4.length k1) u4):=OwnP.mono hop (by omega);have ho2:Hid (OwnP w4 (w.heap.size+1) (.slice a2 u5.length k2) u5):=OwnP.mono hoh (by omega);clear hr3 hb3 hlt3 hw4 HKR c0 c1 c2 c3 c4 c5 f0 f1 f2 f3 f4 f5 hop hoh;obtain ⟨c0,c1,c2,c3,c4,c5,f0,f1,f2,f3,f4,f5⟩:=hr4.six;by_cases hre:re=0
    ·subst hre;obtain ⟨u',hu'⟩:∃ u':Uri,u'=⟨lowL ca,us,u2,u3,u4,u5⟩:=⟨_,rfl⟩
     have HV2:Hid (parseV s=endV u'):=show _=_ by rw [HV.out,bothV,if_neg (by simp),hu']
     have hsm:SmallU 140737488355328 u':=by rw [hu']; exact ⟨by show (lowL ca).length≤_; omega,by show us.length≤_; omega,by show u2.length≤_; omega,sm2,sm3⟩
     have e4:u'.params=u4:=by rw [hu']
     have e5:u'.headers=u5:=by rw [hu']
     have hbox:=box_new w4 u' (.slice a1 u4.length k1) (.slice a2 u5.length k2);have hp4:=ho1.out.parsAt;have hh4:=ho2.out.parsAt;rw [← e4] at hp4;rw [← e5] at hh4;have HCK:Hid _:=fun w' hb=>check_any u' (.slice a1 u'.params.length k1) (.slice a2 u'.headers.length k2) w' hsm (hp4.below hb) (hh4.below hb);rw [e4,e5] at HCK;unfold uriV at HCK;rw [hu'] at hbox;have hv':Hid (∀ c,checkV u'=c → parseV s=if c ≠ 0 then (noU,c) else (⟨lowL ca,us,u2,u3,u4,u5⟩,0)):=fun c hc=>by rw [HV2.out,endV,hc,hu']
     obtain ⟨ck,hck⟩:∃ ck,checkV u'=ck:=⟨_,rfl⟩
     have hvc:=hv'.out ck hck;rw [hck,hu'] at HCK;simp only at HCK;have HVC:Hid _:=hvc;clear hvc hv' HV HV2 hp4 hh4 e4 e5 hsm hck hu' u';go_wp2_with fail
     have hbA:Below w4.heap.size w4 (w4.alloc (.cells #[.string ⟨(lowL ca).toArray⟩,.string ⟨us.toArray⟩,.string ⟨u2.toArray⟩,.int .i64 u3,.slice a1 u4.length k1,.slice a2 u5.length k2] 97)):=(Below.refl _ w4).alloc (Nat.le_refl _) _;refine (HCK.out _ hbA).mono ?_
     rintro e w5 ⟨rfl,hw5⟩;have hbx:w4.heap.size < (w4.alloc (.cells #[.string ⟨(lowL ca).toArray⟩,.string ⟨us.toArray⟩,.string ⟨u2.toArray⟩,.int .i64 u3,.slice a1 u4.length k1,.slice a2 u5.length k2] 97)).heap.size:=by simp
     obtain ⟨g0,g1,g2,g3,g4,g5⟩:=hbox.below hw5 hbx;simp only at g0 g1 g2 g3 g4 g5;have hb45:Below w4.heap.size w4 w5:=hbA.trans (hw5.mono hbA.size);have hr5:=hr4.below hb45 hlt4;have hb5:=hb4.trans (hb45.mono hb4.size);have p5:Hid (OwnP w5 (w.heap.size+1) (.slice a1 u4.length k1) u4):=ho1.out.below hb45;have q5:Hid (OwnP w5 (w.heap.size+1) (.slice a2 u5.length k2) u5):=ho2.out.below hb45;clear hw5 hb45 hbA hbx hbox HCK hr4 ho1 ho2 c0 c1 c2 c3 c4 c5 f0 f1 f2 f3 f4 f5;obtain ⟨c0,c1,c2,c3,c4,c5,f0,f1,f2,f3,f4,f5⟩:=hr5.six;by_cases hck:ck=0
     ·subst hck;have hvv:Hid (parseV s=(⟨lowL ca,us,u2,u3,u4,u5⟩,0)):=show _=_ by rw [HVC.out,if_neg (by simp)]
      clear HVC;go_wp2;have hr7:=row_store hr5 (.string ⟨(lowL ca).toArray⟩) (.string ⟨us.toArray⟩) (.string ⟨u2.toArray⟩) (.int .i64 u3) (.slice a1 u4.length k1) (.slice a2 u5.length k2);have hb7:=store_below hb5 w.heap.size (Nat.le_refl _) (.string ⟨(lowL ca).toArray⟩) (.string ⟨us.toArray⟩) (.string ⟨u2.toArray⟩) (.int .i64 u3) (.slice a1 u4.length k1) (.slice a2 u5.length k2);have p7:=(OwnP.store p5.out (Nat.lt_succ_self _) (.string ⟨(lowL ca).toArray⟩) (.string ⟨us.toArray⟩) (.string ⟨u2.toArray⟩) (.int .i64 u3) (.slice a1 u4.length k1) (.slice a2 u5.length k2)).mono (Nat.le_succ w.heap.size);have q7:=(OwnP.store q5.out (Nat.lt_succ_self _) (.string ⟨(lowL ca).toArray⟩) (.string ⟨us.toArray⟩) (.string ⟨u2.toArray⟩) (.int .i64 u3) (.slice a1 u4.length k1) (.slice a2 u5.length k2)).mono (Nat.le_succ w.heap.size);generalize World.setCell _ _ _=w7 at hr7 hb7 p7 q7 ⊢;obtain ⟨d0,d1,d2,d3,d4,d5,_,_,_,_,_,_⟩:=hr7.six
      try simp only [Exit.inBlock,Exit.then]
      refine bodyPost_ret (v:=.tuple #[.agg #[.string ⟨(lowL ca).toArray⟩,.string ⟨us.toArray⟩,.string ⟨u2.toArray⟩,.int .i64 u3,.slice a1 u4.length k1,.slice a2 u5.length k2],.int .i64 0]) (by simp [results,Tryz.results51,go_sem,d0,d1,d2,d3,d4,d5]; try rfl) rfl ?_
      exact ⟨_,_,by rw [hvv.out]; rfl,by rw [hvv.out]; exact p7,by rw [hvv.out]; exact q7,hb7⟩
     ·have hue1:(ck != 0)=true:=by simpa using hck
      have hue2:(ck==0)=false:=by simpa using hck
      have hvv:Hid (parseV s=(noU,ck)):=show _=_ by rw [HVC.out,if_pos hck]
      clear HVC;go_wp2;have hr7:=row_store hr5 (.string ⟨#[]⟩) (.string ⟨#[]⟩) (.string ⟨#[]⟩) (.int .i64 0) (.slice none 0 0) (.slice none 0 0);have hb7:=store_below hb5 w.heap.size (Nat.le_refl _) (.string ⟨#[]⟩) (.string ⟨#[]⟩) (.string ⟨#[]⟩) (.int .i64 0) (.slice none 0 0) (.slice none 0 0);generalize World.setCell _ _ _=w7 at hr7 hb7 ⊢;obtain ⟨d0,d1,d2,d3,d4,d5,_,_,_,_,_,_⟩:=hr7.six
      try simp only [Exit.inBlock,Exit.then]
      refine bodyPost_ret (v:=.tuple #[.agg #[.string ⟨#[]⟩,.string ⟨#[]⟩,.string ⟨#[]⟩,.int .i64 0,.slice none 0 0,.slice none 0 0],.int .i64 ck]) (by simp [results,Tryz.results51,go_sem,d0,d1,d2,d3,d4,d5]; try rfl) rfl ?_
      exact ⟨.slice none 0 0,.slice none 0 0,by rw [hvv.out]; rfl,by rw [hvv.out]; exact OwnP.nil _ _,by rw [hvv.out]; exact OwnP.nil _ _,hb7⟩
    ·have hue1:(re != 0)=true:=by simpa using hre
     have hue2:(re==0)=false:=by simpa using hre
     have hvv:Hid (parseV s=(noU,re)):=show _=_ by rw [HV.out,bothV,if_pos hre]
     clear HV;go_wp2;have hr7:=(row_store hr4 (.string ⟨#[]⟩) (.string ⟨#[]⟩) (.string ⟨#[]⟩) (.int .i64 0) (.slice none 0 0) (.slice none 0 0)).alloc (.cells #[.string ⟨u0.toArray⟩,.string ⟨u1.toArray⟩,.string ⟨u2.toArray⟩,.int .i64 u3,.slice a1 u4.length k1,.slice a2 u5.length k2] 97);have hb6:=store_below hb4 w.heap.size (Nat.le_refl _) (.string ⟨#[]⟩) (.string ⟨#[]⟩) (.string ⟨#[]⟩) (.int .i64 0) (.slice none 0 0) (.slice none 0 0);have hb7:=hb6.alloc hb6.size (.cells #[.string ⟨u0.toArray⟩,.string ⟨u1.toArray⟩,.string ⟨u2.toArray⟩,.int .i64 u3,.slice a1 u4.length k1,.slice a2 u5.length k2] 97);clear hb6;generalize World.alloc _ _=w7 at hr7 hb7 ⊢;obtain ⟨d0,d1,d2,d3,d4,d5,_,_,_,_,_,_⟩:=hr7.six
     try simp only [Exit.inBlock,Exit.then]
     refine bodyPost_ret (v:=.tuple #[.agg #[.string ⟨#[]⟩,.string ⟨#[]⟩,.string ⟨#[]⟩,.int .i64 0,.slice none 0 0,.slice none 0 0],.int .i64 re]) (by simp [results,Tryz.results51,go_sem,d0,d1,d2,d3,d4,d5]; try rfl) rfl ?_
     exact ⟨.slice none 0 0,.slice none 0 0,by rw [hvv.out]; rfl,by rw [hvv.out]; exact OwnP.nil _ _,by rw [hvv.out]; exact OwnP.nil _ _,hb7⟩
   ·have hue1:(ue != 0)=true:=by simpa using hue
    have hue2:(ue==0)=false:=by simpa using hue
    have hvv:Hid (parseV s=(noU,ue)):=show _=_ by rw [HV.out,if_pos hue]
    clear HV;go_wp2;have hr7:=row_store hr3 (.string ⟨#[]⟩) (.string ⟨#[]⟩) (.string ⟨#[]⟩) (.int .i64 0) (.slice none 0 0) (.slice none 0 0);have hb7:=store_below hb3 w.heap.size (Nat.le_refl _) (.string ⟨#[]⟩) (.string ⟨#[]⟩) (.string ⟨#[]⟩) (.int .i64 0) (.slice none 0 0) (.slice none 0 0);generalize World.setCell _ _ _=w7 at hr7 hb7 ⊢;obtain ⟨d0,d1,d2,d3,d4,d5,_,_,_,_,_,_⟩:=hr7.six
    try simp only [Exit.inBlock,Exit.then]
    refine bodyPost_ret (v:=.tuple #[.agg #[.string ⟨#[]⟩,.string ⟨#[]⟩,.string ⟨#[]⟩,.int .i64 0,.slice none 0 0,.slice none 0 0],.int .i64 ue]) (by simp [results,Tryz.results51,go_sem,d0,d1,d2,d3,d4,d5]; try rfl) rfl ?_
    exact ⟨.slice none 0 0,.slice none 0 0,by rw [hvv.out]; rfl,by rw [hvv.out]; exact OwnP.nil _ _,by rw [hvv.out]; exact OwnP.nil _ _,hb7⟩
set_option maxHeartbeats 400000 in
theorem slPrefix4 (s:ByteArray) (w:World) (h4:4≤s.size) (he:(s.extract 0 4).toList=[115,105,112,58]) :
  Calls Tryz.prog 145 #[.string s,.string ⟨#[115,105,112,58]⟩] w fun e w'=>e=.returned (.bool true)∧w'=w:=by
 have h0:(ByteArray.mk #[115,105,112,58]).size=4:=rfl;have HE:=hid he;clear he
 go_enter Tryz.func145,Tryz.ntmps145
 go_wp2;go_ret;refine ⟨ret_bool ?_,rfl⟩
 rw [HE.out]
 simp
set_option maxHeartbeats 400000 in
theorem slTrim4 (s:ByteArray) (w:World) (h4:4≤s.size) (he:(s.extract 0 4).toList=[115,105,112,58]) :
  Calls Tryz.prog 117 #[.string s,.string ⟨#[115,105,112,58]⟩] w fun e w'=>e=.returned (.string (s.extract 4 s.size))∧w'=w:=by
 have h0:(ByteArray.mk #[115,105,112,58]).size=4:=rfl;have K:=hid (slPrefix4 s w h4 he);clear he
 go_enter Tryz.func117,Tryz.ntmps117
 go_wp2_with fail
 refine K.out.mono ?_
 rintro e w1 ⟨rfl,rfl⟩;go_wp2;go_ret;exact ⟨rfl,rfl⟩
theorem size_app4 (l:List UInt8):(ByteArray.mk ([115,105,112,58]++l).toArray).size=l.length+4:=by rw [size_list]; simp
set_option maxHeartbeats 400000 in
theorem trim4_of (s:ByteArray) (l:List UInt8) (w:World) (h4:4≤s.size) (e1:(s.extract 0 4).toList=[115,105,112,58]) (e2:s.extract 4 s.size=⟨l.toArray⟩) :
  Calls Tryz.prog 81 #[.string s,.string ⟨#[115,105,112,58]⟩] w fun e w'=>e=.returned (.string ⟨l.toArray⟩)∧w'=w:=by
 have K:=hid (slTrim4 s w h4 e1);rw [e2] at K;clear e1 e2
 go_enter Tryz.func81,Tryz.ntmps81
 go_wp2_with fail
 refine K.out.mono ?_
 rintro e w1 ⟨rfl,rfl⟩;go_wp2;go_ret;exact ⟨rfl,rfl⟩
theorem trim4_any (l:List UInt8) (w:World) :
  Calls Tryz.prog 81 #[.string ⟨([115,105,112,58]++l).toArray⟩,.string ⟨#[115,105,112,58]⟩] w fun e w'=>e=.returned (.string ⟨l.toArray⟩)∧w'=w:=by
 have h4:4≤(ByteArray.mk ([115,105,112,58]++l).toArray).size:=by rw [size_app4]; exact Nat.le_add_left _ _
 have e1:((ByteArray.mk ([115,105,112,58]++l).toArray).extract 0 4).toList=[115,105,112,58]:=by
  rw [ByteArray.toList_eq,ext_list]; simp
 have e2:(ByteArray.mk ([115,105,112,58]++l).toArray).extract 4 (ByteArray.mk ([115,105,112,58]++l).toArray).size=⟨l.toArray⟩:=by
  rw [size_app4,ext_list]; simp
 exact trim4_of _ l w h4 e1 e2
theorem ret_who {r:List UInt8 × Int} {t:List UInt8} {n:Int} (h:r=(t,n)):Ending.returned (.tuple #[.string ⟨t.toArray⟩,.int .i64 n])=.returned (.tuple #[.string ⟨r.1.toArray⟩,.int .i64 r.2]):=by rw [h]
theorem small_name {u:Uri} (sch:List UInt8) (hs:sch.length≤4) (h:SmallU 140737488355328 u):SmallU 140737488355328 (nameU sch u) :=
 ⟨by simp only [nameU]; omega,h.2.1,h.2.2.1,⟨by simp [nameU],by simp [nameU]⟩,⟨by simp [nameU],by simp [nameU]⟩⟩
theorem printName {u:Uri} (hsm:SmallU 140737488355328 u) (h:checkV u=0) (hu:u.user ≠ []) (w:World) :
  Calls Tryz.prog 80 #[.agg #[.string ⟨#[115,105,112]⟩,.string ⟨u.user.toArray⟩,.string ⟨u.host.toArray⟩,.int .i64 0,.slice none 0 0,.slice none 0 0]] w fun e w'=>e=.returned (.tuple #[.string ⟨([115,105,112,58]++whoT u).toArray⟩,.int .i64 0])∧Below w.heap.size w w':=by
 have k:=print_any (nameU sipK u) (.slice none 0 0) (.slice none 0 0) w (small_name sipK (by decide) hsm) (Or.inl ⟨rfl,rfl⟩) (Or.inl ⟨rfl,rfl⟩);rw [print_name h hu] at k;exact k
set_option maxHeartbeats 1000000 in
set_option maxRecDepth 100000 in
theorem who_any (u:Uri) (p h:Value) (w:World) (hsm:SmallU 140737488355328 u) (hp:ParsAt w p u.params) (hh:ParsAt w h u.headers) :
  Calls Tryz.prog 52 #[uriV u p h] w fun e w'=>e=.returned (.tuple #[.string ⟨(whoV u).1.toArray⟩,.int .i64 (whoV u).2])∧Below w.heap.size w w':=by
 have hbox:=box_new w u p h;have hbw:Below w.heap.size w (w.alloc (.cells #[.string ⟨u.scheme.toArray⟩,.string ⟨u.user.toArray⟩,.string ⟨u.host.toArray⟩,.int .i64 u.port,p,h] 97)):=(Below.refl _ w).alloc (Nat.le_refl _) _;have hws:=alloc_lt w (.cells #[.string ⟨u.scheme.toArray⟩,.string ⟨u.user.toArray⟩,.string ⟨u.host.toArray⟩,.int .i64 u.port,p,h] 97);have K1:=hid (fun w' (hb:Below w.heap.size w w')=>check_any u p h w' hsm (hp.below hb) (hh.below hb));have K2:=hid (@printName u hsm);obtain ⟨a1,c1,rfl⟩:=hp.form;obtain ⟨a2,c2,rfl⟩:=hh.form;have hwv:whoV u=whoV u:=rfl
 conv at hwv=>rhs; unfold whoV
 obtain ⟨n,hn⟩:∃ n,checkV u=n:=⟨_,rfl⟩
 rw [hn] at K1 K2 hwv;clear hn hp hh hsm;unfold uriV at K1 ⊢;by_cases e1:n=0
 ·subst e1;rw [if_neg (by simp)] at hwv;by_cases eu:u.user=[]
  ·have hue:u.user.isEmpty=true:=by simp [eu]
   rw [if_pos eu] at hwv;have HV:=hid hwv;clear hwv eu K2
   go_enter Tryz.func52,Tryz.ntmps52
   go_wp2_with fail
   refine (K1.out _ hbw).mono ?_
   rintro e w2 ⟨rfl,hw2⟩;have hb2:=hbw.trans (hw2.mono hbw.size);obtain ⟨g0,g1,g2,g3,g4,g5⟩:=hbox.below hw2 hws;clear hbox hbw hws hw2;go_wp2;go_ret2;exact ⟨ret_who HV.out,hb2⟩
  ·have hue:u.user.isEmpty=false:=by simpa using eu
   rw [if_neg eu] at hwv;have HV:=hid hwv;have K3:=hid (fun w'=>K2.out rfl eu w');clear hwv eu K2
   go_enter Tryz.func52,Tryz.ntmps52
   go_wp2_with fail
   refine (K1.out _ hbw).mono ?_
   rintro e w2 ⟨rfl,hw2⟩;have hb2:=hbw.trans (hw2.mono hbw.size);obtain ⟨g0,g1,g2,g3,g4,g5⟩:=hbox.below hw2 hws;clear hbox hbw hws hw2;go_wp2_with fail
   refine (K3.out _).mono ?_
   rintro e w3 ⟨rfl,hw3⟩;have hb3:=hb2.trans (hw3.mono hb2.size);clear g0 g1 g2 g3 g4 g5 hw3 hb2;have K4:=hid (trim4_any (whoT u) w3);generalize ([115,105,112,58]++whoT u).toArray=sa at K4 ⊢;go_wp2_with fail
   refine K4.out.mono ?_
   rintro e w4 ⟨rfl,rfl⟩;go_wp2;go_ret2;exact ⟨ret_who HV.out,hb3⟩
 ·have e1a:(n != 0)=true:=by simpa using e1
  have e1b:(n==0)=false:=by simpa using e1
  rw [if_pos e1] at hwv;have HV:=hid hwv;clear hwv K2
  go_enter Tryz.func52,Tryz.ntmps52
  go_wp2_with fail
  refine (K1.out _ hbw).mono ?_
  rintro e w2 ⟨rfl,hw2⟩;have hb2:=hbw.trans (hw2.mono hbw.size);clear hbox hbw hws hw2;go_wp2;go_ret2;exact ⟨ret_who HV.out,hb2⟩
theorem small_of_check {u:Uri} (h:checkV u=0):SmallU 140737488355328 u:=by
 obtain ⟨k1,k2,k3,k4,k5,k6,k7,k8⟩:=check_ok h;have e1:=schemeB_ok k1;have e3:=hostB_ok k3;obtain ⟨e4,e5⟩:=listB_ok k6;obtain ⟨e6,e7⟩:=listB_ok k7;refine ⟨by omega,by omega,by omega,⟨by omega,fun p hp=>?_⟩,⟨by omega,fun p hp=>?_⟩⟩
 ·have:=parB_ok (e5 p hp); omega
 ·have:=parB_ok (e7 p hp); omega
theorem host_bad {l:List UInt8} {u:Uri} {er:Int} (h:parseV ([115,105,112,58]++l)=(u,er)) (he:er ≠ 0):hostV l=([],er):=by
 rw [hostV,h]; simp only; rw [if_pos he]
theorem host_yes {l t:List UInt8} {u:Uri} (h:parseV ([115,105,112,58]++l)=(u,0)) (hw:whoV u=(l,0)):hostV l=(u.host,0):=by
 rw [hostV,h]; simp only; rw [if_neg (by simp),if_pos hw]
theorem host_no {l:List UInt8} {u:Uri} (h:parseV ([115,105,112,58]++l)=(u,0)) (hw:¬ whoV u=(l,0)):hostV l=([],31):=by
 rw [hostV,h]; simp only; rw [if_neg (by simp),if_neg hw]
theorem parse4 {l:List UInt8} {u:Uri} {er:Int} (h:parseV ([115,105,112,58]++l)=(u,er)) (w:World) (hs:l.length+4≤1048640) :
  Calls Tryz.prog 51 #[.string (⟨#[115,105,112,58]⟩++⟨l.toArray⟩)] w fun e w'=>∃ a1 k1 a2 k2,e=.returned (.tuple #[.agg #[.string ⟨u.scheme.toArray⟩,.string ⟨u.user.toArray⟩,.string ⟨u.host.toArray⟩,.int .i64 u.port,.slice a1 u.params.length k1,.slice a2 u.headers.length k2],.int .i64 er])∧ParsAt w' (.slice a1 u.params.length k1) u.params∧ParsAt w' (.slice a2 u.headers.length k2) u.headers∧Below w.heap.size w w':=by
 have k:=parse_any ([115,105,112,58]++l) w (by simp; omega);rw [h,← appL] at k;refine k.mono ?_
 rintro e w' ⟨p,q,rfl,hp,hq,hb⟩;have hp2:=hp.parsAt;have hq2:=hq.parsAt;obtain ⟨a1,k1,e1⟩:=hp2.form;obtain ⟨a2,k2,e2⟩:=hq2.form;simp only at e1 e2 hp2 hq2;subst e1 e2;exact ⟨a1,k1,a2,k2,rfl,hp2,hq2,hb⟩
set_option maxHeartbeats 1000000 in
set_option maxRecDepth 100000 in
theorem samehost_any (l:List UInt8) (w:World) (hs:l.length+4≤1048640) :
  Calls Tryz.prog 31 #[.string ⟨l.toArray⟩] w fun e w'=>e=.returned (.tuple #[.string ⟨(hostV l).1.toArray⟩,.int .i64 (hostV l).2])∧Below w.heap.size w w':=by
 obtain ⟨u,er,hpv⟩:∃ u er,parseV ([115,105,112,58]++l)=(u,er):=⟨_,_,rfl⟩
 have K1:=hid (parse4 hpv w hs);by_cases her:er=0
 ·subst her;have hcz:=parse_checked hpv;have hsm:=small_of_check hcz;obtain ⟨t,n,hwv⟩:∃ t n,whoV u=(t,n):=⟨_,_,rfl⟩
  have K2:=hid (fun (w':World) (p h:Value)=>who_any u p h w' hsm);rw [hwv] at K2;unfold uriV at K2;simp only at K2;by_cases hn:n=0
  ·subst hn;by_cases ht:t=l
   ·subst ht;have HV:=hid (host_yes (t:=t) hpv hwv);clear hpv hwv hcz hsm
    go_enter Tryz.func31,Tryz.ntmps31
    go_wp2_with fail
    refine K1.out.mono ?_
    rintro e w1 ⟨a1,k1,a2,k2,rfl,hp,hq,hw1⟩;have hb1:=hw1.alloc hw1.size (.cells #[.string ⟨u.scheme.toArray⟩,.string ⟨u.user.toArray⟩,.string ⟨u.host.toArray⟩,.int .i64 u.port,.slice a1 u.params.length k1,.slice a2 u.headers.length k2] 97);have hx:=box_new w1 u (.slice a1 u.params.length k1) (.slice a2 u.headers.length k2);have hlx:=alloc_lt w1 (.cells #[.string ⟨u.scheme.toArray⟩,.string ⟨u.user.toArray⟩,.string ⟨u.host.toArray⟩,.int .i64 u.port,.slice a1 u.params.length k1,.slice a2 u.headers.length k2] 97);have HX:=hid hx;have HP:=hid (hp.alloc (.cells #[.string ⟨u.scheme.toArray⟩,.string ⟨u.user.toArray⟩,.string ⟨u.host.toArray⟩,.int .i64 u.port,.slice a1 u.params.length k1,.slice a2 u.headers.length k2] 97));have HQ:=hid (hq.alloc (.cells #[.string ⟨u.scheme.toArray⟩,.string ⟨u.user.toArray⟩,.string ⟨u.host.toArray⟩,.int .i64 u.port,.slice a1 u.params.length k1,.slice a2 u.headers.length k2] 97));obtain ⟨g0,g1,g2,g3,g4,g5⟩:=hx;clear hp hq hw1 K1;go_wp2_with fail
    refine (K2.out _ _ _ HP.out HQ.out).mono ?_
    rintro e w2 ⟨rfl,hw2⟩;have hb2:=hb1.trans (hw2.mono hb1.size);clear g0 g1 g2 g3 g4 g5;obtain ⟨g0,g1,g2,g3,g4,g5⟩:=HX.out.below hw2 hlx;clear hw2 HP HQ HX hlx;go_wp2;go_ret2;exact ⟨ret_who HV.out,hb2⟩
   ·have HV:=hid (host_no hpv (by rw [hwv]; simp [ht]));have ht2:(t==l)=false:=by simpa using ht
    clear hpv hwv hcz hsm
    go_enter Tryz.func31,Tryz.ntmps31
    go_wp2_with fail
    refine K1.out.mono ?_
    rintro e w1 ⟨a1,k1,a2,k2,rfl,hp,hq,hw1⟩;have hb1:=hw1.alloc hw1.size (.cells #[.string ⟨u.scheme.toArray⟩,.string ⟨u.user.toArray⟩,.string ⟨u.host.toArray⟩,.int .i64 u.port,.slice a1 u.params.length k1,.slice a2 u.headers.length k2] 97);have hx:=box_new w1 u (.slice a1 u.params.length k1) (.slice a2 u.headers.length k2);have HP:=hid (hp.alloc (.cells #[.string ⟨u.scheme.toArray⟩,.string ⟨u.user.toArray⟩,.string ⟨u.host.toArray⟩,.int .i64 u.port,.slice a1 u.params.length k1,.slice a2 u.headers.length k2] 97));have HQ:=hid (hq.alloc (.cells #[.string ⟨u.scheme.toArray⟩,.string ⟨u.user.toArray⟩,.string ⟨u.host.toArray⟩,.int .i64 u.port,.slice a1 u.params.length k1,.slice a2 u.headers.length k2] 97));obtain ⟨g0,g1,g2,g3,g4,g5⟩:=hx;clear hp hq hw1 K1;go_wp2_with fail
    refine (K2.out _ _ _ HP.out HQ.out).mono ?_
    rintro e w2 ⟨rfl,hw2⟩;have hb2:=hb1.trans (hw2.mono hb1.size);clear g0 g1 g2 g3 g4 g5 hw2 HP HQ;go_wp2;go_ret2;exact ⟨ret_who HV.out,hb2⟩
  ·have HV:=hid (host_no hpv (by rw [hwv]; simp [hn]));have hn1:(n != 0)=true:=by simpa using hn
   have hn2:(n==0)=false:=by simpa using hn
   clear hpv hwv hcz hsm
   go_enter Tryz.func31,Tryz.ntmps31
   go_wp2_with fail
   refine K1.out.mono ?_
   rintro e w1 ⟨a1,k1,a2,k2,rfl,hp,hq,hw1⟩;have hb1:=hw1.alloc hw1.size (.cells #[.string ⟨u.scheme.toArray⟩,.string ⟨u.user.toArray⟩,.string ⟨u.host.toArray⟩,.int .i64 u.port,.slice a1 u.params.length k1,.slice a2 u.headers.length k2] 97);have hx:=box_new w1 u (.slice a1 u.params.length k1) (.slice a2 u.headers.length k2);have HP:=hid (hp.alloc (.cells #[.string ⟨u.scheme.toArray⟩,.string ⟨u.user.toArray⟩,.string ⟨u.host.toArray⟩,.int .i64 u.port,.slice a1 u.params.length k1,.slice a2 u.headers.length k2] 97));have HQ:=hid (hq.alloc (.cells #[.string ⟨u.scheme.toArray⟩,.string ⟨u.user.toArray⟩,.string ⟨u.host.toArray⟩,.int .i64 u.port,.slice a1 u.params.length k1,.slice a2 u.headers.length k2] 97));obtain ⟨g0,g1,g2,g3,g4,g5⟩:=hx;clear hp hq hw1 K1;go_wp2_with fail
   refine (K2.out _ _ _ HP.out HQ.out).mono ?_
   rintro e w2 ⟨rfl,hw2⟩;have hb2:=hb1.trans (hw2.mono hb1.size);clear g0 g1 g2 g3 g4 g5 hw2 HP HQ;go_wp2;go_ret2;exact ⟨ret_who HV.out,hb2⟩
 ·have HV:=hid (host_bad hpv her);have he1:(er != 0)=true:=by simpa using her
  have he2:(er==0)=false:=by simpa using her
  clear hpv
  go_enter Tryz.func31,Tryz.ntmps31
  go_wp2_with fail
  refine K1.out.mono ?_
  rintro e w1 ⟨a1,k1,a2,k2,rfl,hp,hq,hw1⟩;have hb1:=hw1.alloc hw1.size (.cells #[.string ⟨u.scheme.toArray⟩,.string ⟨u.user.toArray⟩,.string ⟨u.host.toArray⟩,.int .i64 u.port,.slice a1 u.params.length k1,.slice a2 u.headers.length k2] 97);clear hp hq hw1 K1;go_wp2;go_ret2;exact ⟨ret_who HV.out,hb1⟩
theorem distinctT_snoc (t:Tu):∀ l:List Tu,distinctT (l++[t])=(distinctT l && l.all (fun q=>!(q.id==t.id)))
 | []=>rfl
 | q :: l=>by
  rw [List.cons_append,distinctT,distinctT,distinctT_snoc t l,List.all_append,List.all_cons,List.all_cons,List.all_nil];have e:(t.id==q.id)=(q.id==t.id):=BEq.comm;rw [e]
  cases l.all (fun q_1=>!(q_1.id==q.id)) <;> cases distinctT l <;> cases (q.id==t.id) <;> cases l.all (fun q=>!(q.id==t.id)) <;> rfl
theorem distinctT_front:∀ a b:List Tu,distinctT (a++b)=true → distinctT a=true
 | [],b,_=>rfl
 | t :: a,b,h=>by
  rw [List.cons_append,distinctT,List.all_append] at h;simp only [Bool.and_eq_true] at h;rw [distinctT,distinctT_front a b h.2,h.1.1]; rfl
def tupsOk (l:List Tu):Bool:=l.all tupP && distinctT l
theorem tups_snoc {l:List Tu} {j:Nat} (hj:j < l.length) (ha:tupsOk (l.take j)=true) (h1:tupP l[j]=true) (h2:(l.take j).all (fun q=>!(q.id==l[j].id))=true):tupsOk (l.take (j+1))=true:=by
 simp only [tupsOk,Bool.and_eq_true] at ha ⊢;rw [List.take_succ_eq_append_getElem hj,List.all_append,distinctT_snoc,ha.1,ha.2,h2]
 simp [h1]
theorem chkD_is {d:Dc} (h1:(hostV d.entity).2=0) (h2:d.tuples.length≤16) (h3:d.notes.length≤16):checkD d=if (tupsOk d.tuples && d.notes.all noteP)=true then 0 else 140:=by
 unfold checkD tupsOk;rw [if_neg (by simp [h1]; omega),Bool.and_assoc]
theorem tups_bad {l:List Tu} {j:Nat} (hj:j < l.length) (h1:tupP l[j]=false):tupsOk l=false:=by
 unfold tupsOk
 have:l.all tupP=false:=by
  rw [List.all_eq_false];exact ⟨l[j],List.getElem_mem hj,by rw [h1]; simp⟩
 rw [this]; rfl
theorem tups_twice {l:List Tu} {j m:Nat} (hj:j < l.length) (hm:m < j) (h1:((l[m]'(by omega)).id==l[j].id)=true):tupsOk l=false:=by
 unfold tupsOk
 have:distinctT l=false:=by
  cases hd:distinctT l with
  | false=>rfl
  | true =>
   exfalso
   have e:l=l.take (j+1)++l.drop (j+1):=by simp
   rw [e] at hd;have h2:=distinctT_front _ _ hd;rw [List.take_succ_eq_append_getElem hj,distinctT_snoc] at h2;simp only [Bool.and_eq_true,List.all_eq_true] at h2;have h3:=h2.2 (l[m]'(by omega)) (by rw [List.mem_take_iff_getElem]; exact ⟨m,by omega,rfl⟩);rw [h1] at h3
   simp at h3
 rw [this]; simp
end Go.Proofs.YtldkidljjbkmbaaGreatDoor
namespace Go.Proofs.YtldkidljjbkmbaaGreatDoor
open Go.RowKit Go.Sort Go.Lib
theorem below_re5 {w W:World} (h:Below w.heap.size w W) (d:Nat) (os:Array Obj):Below w.heap.size w (grow (redrawn W d) os):=h.trans ((below_regrown W d os).mono h.size)
theorem followsMixed5:Tryz.prog.follows .mixedOrders=true:=by kernel_rfl
end Go.Proofs.YtldkidljjbkmbaaGreatDoor
namespace Go.Proofs.YtldkidljjbkmbaaGreatDoor
open Go.RowKit Sc
set_option maxHeartbeats 1000000 in
set_option maxRecDepth 100000 in
theorem pmay_any (t:Tu) (w:World) (hsm:SmallT 140737488355328 t) :
  Calls Tryz.prog 53 #[tuV t] w fun e w'=>e=.returned (.bool (tupP t))∧Below w.heap.size w w':=by
 obtain ⟨hi,hc,hn,hp⟩:=hsm;have hp:=i64_of hp;have KI:=hid (fun w'=>pident_list t.id w' hi);have KC:=hid (fun w'=>ptext_any t.contact w' hc);have KN:=hid (fun w'=>ptext_any t.note w' hn);have hv:tupP t=(identP t.id && (textP t.contact && (textP t.note && (decide (-1≤t.prio) && (decide (t.prio≤1000) && (!t.contact.isEmpty || t.prio==-1)))))):=rfl;generalize tupP t=R at hv ⊢;obtain ⟨ti,tb,tk,tp,tn⟩:=t;unfold tuV;simp only at KI KC KN hv hp ⊢;have hr:=rc_row5 w (.string ⟨ti.toArray⟩) (.bool tb) (.string ⟨tk.toArray⟩) (.int .i64 tp) (.string ⟨tn.toArray⟩) 48;have hbn:Below w.heap.size w (w.alloc (.cells #[.string ⟨ti.toArray⟩,.bool tb,.string ⟨tk.toArray⟩,.int .i64 tp,.string ⟨tn.toArray⟩] 48)):=(Below.refl _ w).alloc (Nat.le_refl _) _;have hlt:=alloc_lt w (.cells #[.string ⟨ti.toArray⟩,.bool tb,.string ⟨tk.toArray⟩,.int .i64 tp,.string ⟨tn.toArray⟩] 48);have HV:=hid hv;clear hv
 go_enter Tryz.func53,Tryz.ntmps53
 go_wp2_with fail
 generalize World.alloc w _=W1 at hr hbn hlt ⊢;refine (KI.out _).mono ?_
 rintro e w1 ⟨rfl,hw1⟩;have hb1:=hbn.trans (hw1.mono hbn.size);have hr1:=hr.below hw1 hlt;have hlt1:=Nat.lt_of_lt_of_le hlt hw1.size;clear KI hr hbn hlt hw1;obtain ⟨a0,a1,a2,a3,a4,_,_,_,_,_⟩:=hr1.rc5
 cases hI:identP ti with
 | false =>
  have hR:Hid (R=false):=show _=_ by rw [HV.out,hI]; rfl
  clear HV;go_wp2;go_ret;exact ⟨ret_bool hR.out.symm,hb1⟩
 | true =>
  go_wp2_with fail
  refine (KC.out _).mono ?_
  rintro e w2 ⟨rfl,hw2⟩;have hb2:=hb1.trans (hw2.mono hb1.size);have hr2:=hr1.below hw2 hlt1;have hlt2:=Nat.lt_of_lt_of_le hlt1 hw2.size;clear KC hr1 hb1 hlt1 hw2 a0 a1 a2 a3 a4;obtain ⟨a0,a1,a2,a3,a4,_,_,_,_,_⟩:=hr2.rc5
  cases hC:textP tk with
  | false =>
   have hR:Hid (R=false):=show _=_ by rw [HV.out,hI,hC]; rfl
   clear HV;go_wp2;go_ret;exact ⟨ret_bool hR.out.symm,hb2⟩
  | true =>
   go_wp2_with fail
   refine (KN.out _).mono ?_
   rintro e w3 ⟨rfl,hw3⟩;have hb3:=hb2.trans (hw3.mono hb2.size);have hr3:=hr2.below hw3 hlt2;clear KN hr2 hb2 hlt2 hw3 a0 a1 a2 a3 a4;obtain ⟨a0,a1,a2,a3,a4,_,_,_,_,_⟩:=hr3.rc5
   cases hN:textP tn with
   | false =>
    have hR:Hid (R=false):=show _=_ by rw [HV.out,hI,hC,hN]; rfl
    clear HV;go_wp2;go_ret;exact ⟨ret_bool hR.out.symm,hb3⟩
   | true =>
    have hR:R=(decide (-1≤tp) && (decide (tp≤1000) && (!tk.isEmpty || tp==-1))):=by rw [HV.out,hI,hC,hN]; rfl
    clear HV
    cases hE:tk.isEmpty with
    | true =>
     have e:tk=[]:=by cases tk <;> simp_all
     subst e
     have hR2:Hid (R=(tp==-1)):=show _=_ by
      rw [hR];by_cases h:tp=-1
      ·subst h; rfl
      ·have:(tp==-1)=false:=by rw [beq_eq_false_iff_ne]; exact h
       rw [this]; simp
     clear hR;go_wp2;go_ret;exact ⟨ret_bool hR2.out.symm,hb3⟩
    | false =>
     have hne:(tk==[])=false:=by cases tk <;> simp_all
     rw [hE] at hR;by_cases h1:-1≤tp
     ·have hR2:Hid (R=decide (tp≤1000)):=show _=_ by rw [hR,decide_eq_true h1]; simp
      clear hR;go_wp2;go_ret;exact ⟨ret_bool hR2.out.symm,hb3⟩
     ·have hR2:Hid (R=false):=show _=_ by rw [hR,decide_eq_false h1]; rfl
      have q1:decide (-1≤tp)=false:=decide_eq_false h1;clear hR;go_wp2;go_ret;exact ⟨ret_bool hR2.out.symm,hb3⟩
def hasT (x:List UInt8) (l:List Tu):Bool:=l.any (fun q=>q.id==x)
theorem hasT_not (x:List UInt8) (l:List Tu):l.all (fun q=>!(q.id==x))=!hasT x l:=by
 unfold hasT
 induction l with
 | nil=>rfl
 | cons a l ih=>rw [List.all_cons,List.any_cons,ih]; cases (a.id==x) <;> rfl
set_option maxHeartbeats 1000000 in
set_option maxRecDepth 100000 in
theorem phas_any (v:Value) (ts:List Tu) (x:List UInt8) (w:World) (hz:ts.length≤1000) (hv:TusAt w v ts) :
  Calls Tryz.prog 54 #[v,.string ⟨x.toArray⟩] w fun e w'=>e=.returned (.bool (hasT x ts))∧Below w.heap.size w w':=by
 obtain ⟨ao,cap,rfl,hc⟩:=hv;have HC:=hid hc
 have HS:Hid (∀ j (hj:j < ts.length),hasT x (ts.take j)=false → (ts[j].id==x)=false → hasT x (ts.take (j+1))=false):=fun j hj h1 h2=>by
  unfold hasT at *;rw [List.take_succ_eq_append_getElem hj,List.any_append,h1]
  simp [h2]
 have HB:Hid (∀ j (hj:j < ts.length),(ts[j].id==x)=true → hasT x ts=true):=fun j hj h=>by
  unfold hasT;exact List.any_eq_true.2 ⟨_,List.getElem_mem hj,h⟩
 have HT:Hid (∀ j,ts.length≤j → hasT x (ts.take j)=false → hasT x ts=false):=fun j hj h=>by rw [List.take_of_length_le hj] at h; exact h
 generalize hasT x ts=R at HB HT ⊢;obtain ⟨tn,htn⟩:∃ tn,tn=ts.length:=⟨_,rfl⟩
 rw [← htn] at hz HT ⊢;have HTN:=hid htn;clear hc htn
 go_enter Tryz.func54,Tryz.ntmps54
 go_wp2
 go_loopw [9] (fun i wr=>∃ j:Nat,j≤tn∧i=.int .i64 j∧Hid (hasT x (ts.take j)=false)∧Below w.heap.size w wr) (fun i _=>tn - (intOf i).toNat)
 case atStart=>exact ⟨0,Nat.zero_le _,rfl,show _=_ from rfl,Below.refl _ _⟩
 case round =>
  obtain ⟨j,hjn,rfl,ha,hb⟩:=hrel;by_cases hlt:j < tn
  ·have hjl:j < ts.length:=by have:=HTN.out; omega
   obtain ⟨ad,hao,hab,c⟩:=HC.out j hjl;subst hao;have c:=c.below hb hab;have h1:=hid (HS.out j hjl ha.out);have h2:=hid (HB.out j hjl);have hbn:=fun o=>hb.alloc (o:=o) hb.size;clear HS HB HT HC ha;generalize ts[j]=T at c h1 h2;obtain ⟨ti,tb,tk,tp,tnn⟩:=T;obtain ⟨c0,c1,c2,c3,c4⟩:=c;simp only at c0 c1 c2 c3 c4 h1 h2;have q6:(j:Int) < (tn:Int):=by omega
   cases hx:(ti==x) with
   | true =>
    have hR:Hid (R=true):=h2.out hx;clear h1 h2;go_wp2;go_ret;exact ⟨ret_bool hR.out.symm,hb.alloc hb.size _⟩
   | false =>
    have hA:Hid (hasT x (ts.take (j+1))=false):=h1.out hx;clear h1 h2;go_wp2;go_roundw
    case rel=>exact ⟨j+1,by omega,by go_num,hA,hb.alloc hb.size _⟩
    case measure=>simp [intOf]; omega
  ·have hR:Hid (R=false):=HT.out j (by omega) ha.out;have q6:¬ (j:Int) < (tn:Int):=by omega
   clear HS HB HT HC ha;go_wp2;go_ret;exact ⟨ret_bool hR.out.symm,hb⟩
theorem tusAt_take {w:World} {ao:Option Addr} {n cap:Nat} {ts:List Tu} (hn:n=ts.length) (h:TusAt w (.slice ao n cap) ts) (k cap':Nat) (hk:k≤n):TusAt w (.slice ao k cap') (ts.take k):=by
 obtain ⟨a,c,e,hc⟩:=h;have ea:ao=a:=by injection e
 subst ea;refine ⟨ao,cap',by rw [List.length_take,Nat.min_eq_left (by omega)],fun j hj=>?_⟩
 rw [List.length_take] at hj;obtain ⟨ad,h1,h2,h3⟩:=hc j (by omega);exact ⟨ad,h1,h2,by rw [List.getElem_take]; exact h3⟩
end Go.Proofs.YtldkidljjbkmbaaGreatDoor
namespace Go.Proofs.YtldkidljjbkmbaaGreatDoor
open Go.RowKit Go.Sort Go.Lib Sc
def CapTu (v:Value):Prop:=∀ a n c,v=.slice a n c → n≤c
end Go.Proofs.YtldkidljjbkmbaaGreatDoor
