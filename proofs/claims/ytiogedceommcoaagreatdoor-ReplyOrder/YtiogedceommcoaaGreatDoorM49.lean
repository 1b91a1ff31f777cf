/-
  CReadQ1, CHopQ, CBaseQ, CReadQ2.
-/
import Derived.Test.YtiogedceommcoaaGreatDoorK30
import Derived.Test.YtiogedceommcoaaGreatDoorK41
import Derived.Test.YtiogedceommcoaaGreatDoorM48
set_option linter.unusedVariables false
set_option linter.unusedSimpArgs false
set_option maxRecDepth 20000
namespace Go.Proofs.YtiogedceommcoaaGreatDoor
open Go.RowKit Sc
set_option maxHeartbeats 8000000 in
set_option maxRecDepth 100000 in
theorem readListsQ_any {B0:Nat} (m:Ms) (h:Value) (b:Nat) (c:RqC) (w0 w1 w:World) (hsm:SmallQ m) (hhl:m.headers.length≤1048576) (hat:HdrsAt w0 h m.headers) (h01:Below w0.heap.size w0 w1) (H:RmIn B0 w1 b c w) (hp1:(piecesV m routeK).length≤1048576) (hp2:(piecesV m acceptK).length≤1048576) :
  Calls Tryz.prog 82 #[msgV m h,.pointer (some ⟨b,0,none⟩)] w fun e w'=>e=.returned (.int .i64 (listsE m))∧∃ v v',RmIn B0 w1 b ((c.rou (piecesV m routeK) v).acc (piecesV m acceptK) v') w'∧Upd b ((c.rou (piecesV m routeK) v).acc (piecesV m acceptK) v') w w':=by
 have hbl:=row_lt H.row;have KP1:=hid (fun w' (hb:Below w0.heap.size w0 w')=>ctextsQ_any m h routeK w' hsm.1 (hsm.all routeK (by simp [names12])) hhl (by decide) (hat.below hb) hp1);have KP2:=hid (fun w' (hb:Below w0.heap.size w0 w')=>ctextsQ_any m h acceptK w' hsm.1 (hsm.all acceptK (by simp [names12])) hhl (by decide) (hat.below hb) hp2);have HRL:=hid (piecesQ_small (hsm.all routeK (by simp [names12])));have HV:Hid (listsE m=if routesE (piecesV m routeK) ≠ 0 then routesE (piecesV m routeK) else if 16 < (piecesV m routeK).length∨16 < (piecesV m acceptK).length then 4 else 0):=show _=_ from rfl
 have hw0:Below w0.heap.size w0 w:=h01.trans (H.b1.mono h01.size);obtain ⟨ao,cap,hh0,_⟩:=hat.get;subst hh0;have A1:=(Below.refl w.heap.size w).alloc (Nat.le_refl _) (objM m (.slice ao m.headers.length cap));have HBX:=hid (boxM_new w m (.slice ao m.headers.length cap));have hb1:=hw0.trans (A1.mono hw0.size);have HM:=hid (H.below A1);have HA:=hid A1;generalize listsE m=R at HV ⊢;generalize piecesV m routeK=rts at KP1 HRL HV hp1 ⊢;generalize piecesV m acceptK=acs at KP2 HV hp2 ⊢;have hz:=hid (fun (W:World) (hW:Below w.heap.size w W)=>hw0.trans (hW.mono hw0.size));clear hsm hhl hat h01 H A1 hw0;obtain ⟨me,ta,st,re,hs,bo⟩:=m;unfold msgV at KP1 KP2 ⊢;unfold objM at HBX hb1 HA HM;unfold routeK at KP1;unfold acceptK at KP2;simp only at KP1 KP2 HBX hb1 HA HM ⊢;obtain ⟨W1,hW1⟩:∃ W,W=w.alloc (.cells #[.string ⟨me.toArray⟩,.string ⟨ta.toArray⟩,.int .i64 st,.string ⟨re.toArray⟩,.slice ao hs.length cap,.string ⟨bo.toArray⟩] 24):=⟨_,rfl⟩
 have hl1:w.heap.size < W1.heap.size:=by rw [hW1]; simp
 rw [← hW1] at HBX hb1 HA HM;have HW1:=hid hW1;clear hW1;have HXD:Hid (∀ W,Below W1.heap.size W1 W → BoxM W w.heap.size ⟨me,ta,st,re,hs,bo⟩ (.slice ao hs.length cap)):=fun W hb=>HBX.out.below hb hl1;obtain ⟨x0,x1,x2,x3,x4,x5⟩:=HXD.out W1.drew (Below.refl _ W1).drew;simp only at x0 x1 x2 x3 x4 x5;have HWD:Hid (∀ W,Below W1.heap.size W1 W → Below w0.heap.size w0 W):=fun W hb=>hb1.trans (hb.mono hb1.size)
 go_enter Tryz.func82,Tryz.ntmps82
 go_wp2;rw [← HW1.out]
 go_region_law (first
  | (go_simp; go_at_call_of 135 (Value.string ⟨#[82,101,99,111,114,100,45,82,111,117,116,101]⟩); refine (KP1.out _ (HWD.out _ (Below.refl _ W1).drew)).mono ?_; rintro e w2 ⟨v1,rfl,hown1,hw2⟩; replace hw2:=(show Below W1.heap.size W1 w2 from (Below.refl W1.heap.size W1).drew.trans hw2); have HO1:=hid hown1; have HW2:=hid hw2; obtain ⟨y0,y1,y2,y3,y4,y5⟩:=HXD.out w2 hw2; simp only at y0 y1 y2 y3 y4 y5; clear hown1)
  | (go_simp; go_at_call_of 135 (Value.string ⟨#[65,99,99,101,112,116]⟩); refine (KP2.out _ (HWD.out _ HW2.out)).mono ?_; rintro e w3 ⟨v2,rfl,hown2,hw3⟩; have HO2:=hid hown2; have HW3:=hid hw3; have hm3:=(HM.out.below HW2.out).below hw3; have r33:=hm3.row.cell 33 (by rw [rq_len]; decide); have f33:=hm3.row.frozen 33; have r34:=hm3.row.cell 34 (by rw [rq_len]; decide); have f34:=hm3.row.frozen 34; have HM3:=hid hm3; obtain ⟨va,vc,hve⟩:=(HO1.out).form; obtain ⟨ua,uc,hue⟩:=(HO2.out).form; subst hve; subst hue; clear hown2 hm3))
 all_goals (
  have hu4:=((Upd.refl HM3.out.row).rou rts (.slice va (strs rts).length vc)).acc acs (.slice ua (strs acs).length uc);have hbw3:Below w.heap.size w w3:=(HA.out.trans (HW2.out.mono HA.out.size)).trans (HW3.out.mono (Nat.le_trans HA.out.size HW2.out.size));have o1:=(HO1.out.below HW3.out).upd hu4 (show b < W1.drew.heap.size from Nat.lt_trans hbl hl1);have o2:=HO2.out.upd hu4 (show b < w2.heap.size from Nat.lt_of_lt_of_le (Nat.lt_trans hbl hl1) HW2.out.size);have H4:=hid (HM3.out.lists hu4 (o1.mono (show b+1≤W1.drew.heap.size from Nat.lt_trans hbl hl1)) (o2.mono (show b+1≤w2.heap.size from Nat.lt_of_lt_of_le (Nat.lt_trans hbl hl1) HW2.out.size)));have U4:=hid (Upd.after hbw3 hu4);clear HM3 HO1 HO2 HM HA HW1 HXD HWD hu4 hbw3 o1 o2 KP1 KP2 HBX hb1 x0 x1 x2 x3 x4 x5 y0 y1 y2 y3 y4 y5 r33 f33 r34 f34 HW2 HW3 hz;obtain ⟨n,hn⟩:∃ n,n=(strs rts).length:=⟨_,rfl⟩
  obtain ⟨n2,hn2⟩:∃ n,n=(strs acs).length:=⟨_,rfl⟩
  rw [← hn,← hn2] at H4 U4 ⊢;have hnl:n=rts.length:=by rw [hn,strs_length]
  have hnl2:n2=acs.length:=by rw [hn2,strs_length]
  have HN:=hid hnl;have HN2:=hid hnl2;rw [← hnl] at hp1;rw [← hnl2] at hp2;clear hn hn2 hnl hnl2;generalize World.setCell (World.setCell _ _ _) _ _=w4 at H4 U4 ⊢;have q33:w4.cell? ⟨b,33,none⟩=some (.slice va n vc):=H4.out.row.cell 33 (by rw [rq_len]; decide);go_wp2
  go_loopw [24] (fun i wr=>∃ k:Nat,k≤n∧i=.int .i64 k∧Hid (RmIn B0 w1 b ((c.rou rts (.slice va n vc)).acc acs (.slice ua n2 uc)) wr)∧Hid (Upd b ((c.rou rts (.slice va n vc)).acc acs (.slice ua n2 uc)) w wr)∧Hid (routesE rts=routesE (rts.drop k))) (fun i _=>n - (intOf i).toNat)
  case atStart=>exact ⟨0,Nat.zero_le _,rfl,H4,U4,rfl⟩
  case round =>
   clear H4 U4 q33;obtain ⟨k,hk,rfl,HM,HU,HE⟩:=hrel;by_cases hlt:k < n
   ·have hkl:k < rts.length:=by have:=HN.out; omega
    have hro:Own wr (b+1) 9 (.slice va n vc) (strs rts):=HM.out.ro;obtain ⟨aq,cq,he,hcs⟩:=hro.txts;simp only [Value.slice.injEq] at he;obtain ⟨a,hao,hab,hcell⟩:=hcs k hkl;have hva:va=some a:=by rw [he.1,hao]
    subst hva;have hll:=HRL.out _ (List.getElem_mem hkl);have HST:=hid (routes_step hkl);have KQ:=hid (fun w'=>aparse_any rts[k] w' hll);clear he hcs hao hab hro;generalize rts[k]=s at hcell KQ HST hll;generalize parseA s=pr at KQ HST;obtain ⟨⟨ad,⟨us,uu,uh,up,upp,uhh⟩,app⟩,pn⟩:=pr;unfold ParseRes adrV at KQ;simp only at KQ HST;go_wp2_with fail
    refine (KQ.out _).mono ?_
    rintro e w5 ⟨⟨p,h,q,rfl,hp,hh,hq⟩,hw5⟩;obtain ⟨a1,k1,e1⟩:=hp.parsAt.form;obtain ⟨a2,k2,e2⟩:=hh.parsAt.form;obtain ⟨a3,k3,e3⟩:=hq.parsAt.form;subst e1 e2 e3;have A6:=(Below.refl _ w5).alloc (Nat.le_refl _) (.cells #[.string ⟨ad.toArray⟩,.string ⟨us.toArray⟩,.string ⟨uu.toArray⟩,.string ⟨uh.toArray⟩,.int .i64 up,.slice a1 upp.length k1,.slice a2 uhh.length k2,.slice a3 app.length k3] 31);have HM6:=hid ((HM.out.below hw5).below A6);have HU6:=hid ((HU.out.below hw5).below A6);clear HM HU hw5 A6 KQ hp hh hq hcell;by_cases hpn:pn=0
    ·subst hpn;have HE6:Hid (routesE rts=routesE (rts.drop (k+1))):=show _=_ by rw [HE.out,HST.out,if_neg (by simp)]
     clear HE HST;go_wp2;go_roundw
     case rel=>exact ⟨k+1,by omega,by go_num,HM6,HU6,HE6⟩
     case measure=>simp [intOf]; omega
    ·have hne:(pn != 0)=true:=by simpa using hpn
     have hR:R=pn:=by
      have e:routesE rts=pn:=by rw [HE.out,HST.out,if_pos hpn]
      rw [HV.out,e,if_pos hpn]
     subst hR;clear HV HE HST;go_wp2;go_ret;exact ⟨rfl,_,_,HM6.out,HU6.out⟩
   ·have hkl:rts.length≤k:=by have:=HN.out; omega
    have he0:routesE rts=0:=by rw [HE.out,List.drop_eq_nil_of_le hkl]; rfl
    rw [he0,if_neg (by simp),← HN.out,← HN2.out] at HV;have q33:wr.cell? ⟨b,33,none⟩=some (.slice va n vc):=HM.out.row.cell 33 (by rw [rq_len]; decide);have q34:wr.cell? ⟨b,34,none⟩=some (.slice ua n2 uc):=HM.out.row.cell 34 (by rw [rq_len]; decide);clear HE he0;by_cases g1:16 < n
    ·have hR:=HV.out;rw [if_pos (Or.inl g1)] at hR;subst hR;have g1':(16:Int) < (n:Int):=by omega
     clear HV;go_wp2;go_ret;exact ⟨rfl,_,_,HM.out,HU.out⟩
    ·have g1':¬ (16:Int) < (n:Int):=by omega
     have g1d:decide ((16:Int) < (n:Int))=false:=decide_eq_false g1';by_cases g2:16 < n2
     ·have hR:=HV.out;rw [if_pos (Or.inr g2)] at hR;subst hR;have g2':(16:Int) < (n2:Int):=by omega
      clear HV;go_wp2;go_ret;exact ⟨rfl,_,_,HM.out,HU.out⟩
     ·have g2':¬ (16:Int) < (n2:Int):=by omega
      have g2d:decide ((16:Int) < (n2:Int))=false:=decide_eq_false g2';have hR:=HV.out;rw [if_neg (by omega)] at hR;subst hR;clear HV;go_wp2;go_ret;exact ⟨rfl,_,_,HM.out,HU.out⟩)
set_option maxHeartbeats 2000000 in
set_option maxRecDepth 100000 in
theorem readHopQ_any (m:Ms) (h:Value) (b:Nat) (c:RqC) (w0 w:World) (hsm:SmallQ m) (hhl:m.headers.length≤1048576) (hat:HdrsAt w0 h m.headers) (hw0:Below w0.heap.size w0 w) (hb:w0.heap.size≤b) (hr:RowIs w b 37 (rqCells c)) :
  Calls Tryz.prog 22 #[msgV m h,.pointer (some ⟨b,0,none⟩)] w fun e w'=>e=.returned (.int .i64 (hopE m))∧Upd b (hopC m c) w w':=by
 have hbl:=row_lt hr;have hsm2:SmallM 140737488355328 m:=hsm.1;have KL:=hid (fun w' (hb:Below w0.heap.size w0 w')=>vlist_any m _ w' hsm2 (by omega) (hat.below hb) (hsm.all rViaK (by simp [names12])));have HS:=hid (hopsV_small (allV m rViaK));have HNE:=hid (@hops_some (allV m rViaK));obtain ⟨hl,hn,E1⟩:∃ hl hn,hopsV (allV m rViaK)=(hl,hn):=⟨_,_,rfl⟩
 have E1':hopsV (allV m viaK)=(hl,hn):=E1;rw [E1'] at KL;rw [E1] at HS HNE;simp only at HS HNE KL;have HV:Hid (hopE m=if hn ≠ 0 then hn else if (brV (hl.headD noH).params).2=false then 70 else 0):=show _=_ by
  unfold hopE hop0;rw [E1]
 have HVC:Hid (hopC m c=if hopE m=0 then c.hop (brV (hl.headD noH).params).1 (whoH (hl.headD noH)) else c):=show _=_ by
  unfold hopC hop0;rw [E1]
 generalize hopC m c=RC at HVC ⊢;generalize hopE m=R at HV HVC ⊢;obtain ⟨ao,cap,hh0,_⟩:=hat.get;subst hh0;have A1:=(Below.refl w.heap.size w).alloc (Nat.le_refl _) (objM m (.slice ao m.headers.length cap));have HBX:=hid (boxM_new w m (.slice ao m.headers.length cap));have hb1:=hw0.trans (A1.mono hw0.size);have HR:=hid hr;have HA:=hid A1;clear E1 E1' hsm hsm2 hat hr A1;obtain ⟨me,ta,st,re,hs,bo⟩:=m;simp only at hhl;unfold msgV at KL ⊢;unfold objM at HBX hb1 HA;simp only at KL HBX hb1 HA ⊢;obtain ⟨x0,x1,x2,x3,x4,x5⟩:=HBX.out;simp only at x0 x1 x2 x3 x4 x5
 go_enter Tryz.func22,Tryz.ntmps22
 go_wp2_with fail
 refine (KL.out _ hb1).mono ?_
 rintro e w1 ⟨⟨v,cs,rfl,hcs,hown⟩,hw1⟩;simp only at hcs;have hbw:Below w.heap.size w w1:=HA.out.trans (hw1.mono HA.out.size);have hlo:w.heap.size < w1.heap.size:=Nat.lt_of_lt_of_le (by simp) hw1.size;obtain ⟨va,vc,hve⟩:=hown.form;clear x0 x1 x2 x3 x4 x5 HBX KL hb1;by_cases hn0:hn=0
 case neg =>
  have hne:(hn != 0)=true:=by simpa using hn0
  rw [if_pos hn0] at HV;have hR:=HV.out;subst hR;rw [if_neg hn0] at HVC;subst hve;clear hown HNE HS;go_wp2;go_ret;exact ⟨rfl,by rw [HVC.out]; exact Upd.of HR.out hbw⟩
 subst hn0;have hln:=HNE.out rfl;have hsv:=HS.out.1
 cases cs with
 | nil=>exact absurd (show hl=[] by rw [← hcs]; rfl) hln
 | cons c0 cs' =>
 have hhd:hl.headD noH=c0.h:=by rw [← hcs]; rfl
 have hsc:SmallV 140737488355328 c0.h:=hsv _ (by rw [← hcs]; simp);rw [hhd] at HV HVC;rw [if_neg (by simp)] at HV;have hat0:=(hown.2 c0 (by simp)).at
 rcases hown.1.2 with ⟨_,h0⟩ | ⟨g,cap2,cur,hv2,hcc⟩
 ·simp at h0
 rw [hv2] at hve
 injection hve with e1 e2 e3
 subst e1;subst hv2;have cel:∀ j (u:Value),(hpCells c0)[j]? = some u → w1.cell? ⟨g,j,none⟩=some u:=fun j u hj=>by
  have:=World.ownsRow.cells hown.1 (g:=g) rfl j u (by have:=hopsCells_get (c0 :: cs') 0 (by simp) j u hj; simpa using this)
  unfold Addr.add at this
  split at this <;> simp_all
 obtain ⟨h0,q0⟩:=c0;obtain ⟨qa,qc,hq0⟩:=hat0.1.form;simp only at hq0;subst hq0;have y0:=cel 0 _ rfl;have y1:=cel 1 _ rfl;have y2:=cel 2 _ rfl;have hgl:=block_lt_of_cell y0;simp only at hgl;have KB:=hid (vbranch_any ⟨h0,.slice qa h0.params.length qc⟩ w1 hsc hat0);have KY:=hid (fun w' (x:HopC.At w' ⟨h0,.slice qa h0.params.length qc⟩)=>vby_any ⟨h0,.slice qa h0.params.length qc⟩ w' hsc x);have HAT:=hid hat0;clear hown cel hcs hln hsv HNE HS hcc e2 e3 hhd hat0;unfold hpV at KB KY;simp only at KB KY HV HVC;generalize whoH h0=sby at KY HVC;generalize brV h0.params=br at KB HV HVC;obtain ⟨bt,bb⟩:=br;simp only at KB HV HVC;go_wp2_with fail
 refine KB.out.mono ?_
 rintro e w2 ⟨rfl,hw2⟩;have hbw2:=hbw.trans (hw2.mono hbw.size);have z0:=cell_below hw2 (by simpa using hgl) y0;have z1:=cell_below hw2 (by simpa using hgl) y1;have z2:=cell_below hw2 (by simpa using hgl) y2;have HA2:=hid (HAT.out.below hw2);clear y0 y1 y2 KB hbw hw2
 cases bb with
 | false =>
  have hR:=HV.out;rw [if_pos rfl] at hR;subst hR;rw [if_neg (by decide)] at HVC;go_wp2;go_ret;exact ⟨rfl,by rw [HVC.out]; exact Upd.of HR.out hbw2⟩
 | true =>
  have hR:=HV.out;rw [if_neg (by simp)] at hR;subst hR;rw [if_pos rfl] at HVC;go_wp2_with fail
  refine (KY.out _ HA2.out).mono ?_
  rintro e w3 ⟨rfl,hw3⟩;have hbw3:=hbw2.trans (hw3.mono hbw2.size);have hr3:=HR.out.below hbw3 hbl;have y7:=hr3.cell 7 (by rw [rq_len]; decide);have f7:=hr3.frozen 7;have y8:=hr3.cell 8 (by rw [rq_len]; decide);have f8:=hr3.frozen 8;have HU:=hid ((Upd.refl hr3).hop bt sby);clear z0 z1 z2 KY;go_wp2;generalize World.setCell _ _ _=w7 at HU ⊢;go_ret;exact ⟨rfl,by rw [HVC.out]; exact Upd.after hbw3 HU.out⟩
theorem needQ_calls (w:World) (m:Ms) (h:Value) (gm g:Nat) (hsm:SmallQ m):∀ k (hk:k < (needL gm g).length) wr,NdIn w m h gm g k wr → (oneV m (needL gm g)[k].nm).2=true →
  Calls Tryz.prog (needL gm g)[k].fn (#[.string ⟨(oneV m (needL gm g)[k].nm).1.toArray⟩]++(needL gm g)[k].cap) wr fun e w'=>e=.returned (.int .i64 (needE m k))∧(∃ c',Upd (w.heap.size+1+1) c' wr w')∧(needE m k=0 → NdIn w m h gm g (k+1) w'):=by
 intro k hk wr ⟨c,H,hc,ht,hp⟩ ho;have n1:=txt_ne ht H.row;have n2:=ptr_ne hp H.row
 match k,hk with
 | 0,hk =>
  refine (need1_any (oneV m fromK).1 (w.heap.size+1+1) g c wr (hsm.one fromK (by simp [names12])) hp H.row).mono ?_
  rintro e w' ⟨rfl,a,ha,hao,hu⟩;refine ⟨rfl,⟨_,hu⟩,fun _=>⟨c.frmC a,H.frm hu hao,?_,hu.one ht n1,hu.one hp n2⟩⟩
  show { c.r with frm:=a.a }=pre1 m
  rw [hc,ha,← addressV_one (nm:=fromK) ho]
  rfl
 | 1,hk =>
  refine (need2_any (oneV m toK).1 (w.heap.size+1+1) g c wr (hsm.one toK (by simp [names12])) hp H.row).mono ?_
  rintro e w' ⟨rfl,a,ha,hao,hu⟩;refine ⟨rfl,⟨_,hu⟩,fun _=>⟨c.tooC a,H.too hu hao,?_,hu.one ht n1,hu.one hp n2⟩⟩
  show { c.r with too:=a.a }=pre2 m
  rw [hc,ha,← addressV_one (nm:=toK) ho]
  rfl
 | 2,hk =>
  refine (need3_any (oneV m callK).1 (w.heap.size+1+1) g c wr (hsm.one callK (by simp [names12])) hp H.row).mono ?_
  rintro e w' ⟨rfl,hu⟩;refine ⟨rfl,⟨_,hu⟩,fun h0=>?_⟩
  have hb:callB (oneV m callK).1=true:=by
   cases hx:callB (oneV m callK).1 with
   | true=>rfl
   | false=>simp [needE,hx] at h0
  rw [if_pos hb] at hu;refine ⟨c.cid (oneV m callK).1,H.cid hu,?_,hu.one ht n1,hu.one hp n2⟩
  show { c.r with callID:=(oneV m callK).1 }=pre3 m
  rw [hc]
  rfl
 | 3,hk =>
  refine (need4_any (oneV m cseqK).1 m.method (w.heap.size+1+1) g gm c wr (hsm.one cseqK (by simp [names12])) ht hp H.row).mono ?_
  rintro e w' ⟨rfl,hu⟩;refine ⟨rfl,⟨_,hu⟩,fun h0=>?_⟩
  have hb:¬ ((seqV (oneV m cseqK).1).2.2 ≠ 0∨(seqV (oneV m cseqK).1).2.1 ≠ m.method):=fun hx=>by
   have:needE m 3=80:=by show (if _ then _ else _)=_; rw [if_pos hx]
   rw [this] at h0
   simp at h0
  rw [if_neg hb] at hu;refine ⟨c.seqC (seqV (oneV m cseqK).1).1,H.seq hu,?_,hu.one ht n1,hu.one hp n2⟩
  show { c.r with seq:=(seqV (oneV m cseqK).1).1 }=pre4 m
  rw [hc]
  rfl
 | k+4,hk=>exact absurd hk (by simp [needL])
theorem readNeededQ_base (m:Ms) (h:Value) (w W:World) (c:RqC) (gm g bl:Nat) (hsm:SmallQ m) (hhl:m.headers.length≤1048576) (hat:HdrsAt w h m.headers) (H:CbIn w m h c W) (hc:c.r=preB m 0) (ht:TxtAt W gm m.method) (hp:PtrAt W g (w.heap.size+1+1))
  (hrow:RowIs W bl 104 (singCells (needL gm g))) :
  Calls Tryz.prog 23 #[msgV m h,.slice (some ⟨bl,0,none⟩) 4 4] W fun e w'=>∃ x,e=.returned (.int .i64 x)∧FirstE (needF m (needL gm g) (needE m)) 4 x∧(x=0 → NdIn w m h gm g 4 w')∧∃ c',Upd (w.heap.size+1+1) c' W w':=by
 have hne:bl ≠ w.heap.size+1+1:=by
  rintro rfl
  have:=H.row
  unfold RowIs at this hrow;rw [hrow] at this
  simp at this
 exact readNeeded_any m h (needL gm g) bl (w.heap.size+1+1) c w W (NdIn w m h gm g) (needE m) hsm.1 (by omega) hat H.b (by omega) (need_enters gm g) (by intro s hs; simp [needL] at hs; rcases hs with rfl | rfl | rfl | rfl <;> simp [fromK,toK,callK,cseqK]) (by simp [needL]) hrow hne H.row
  (fun k wr w' h1 h2=>h1.below h2) ⟨c,H,hc,ht,hp⟩ (needQ_calls w m h gm g hsm)
set_option maxHeartbeats 8000000 in
set_option maxRecDepth 100000 in
theorem cbaseQ_any (m:Ms) (h:Value) (w:World) (hsm:SmallQ m) (hhl:m.headers.length≤1048576) (hat:HdrsAt w h m.headers) :
  Calls Tryz.prog 10 #[msgV m h] w fun e w'=>BaseRes (baseV m) w.heap.size w' e∧Below w.heap.size w w':=by
 have hz:=zeroR0;have hb0:=buildR0;have hb1:=buildR1;have H0:=hid (base_in w m h);have HA:=hid (cb_in w m h);obtain ⟨ao,cap,hh0,_⟩:=hat.get;subst hh0;have hge:=H0.out.bx;have N0:((w.alloc (objM m (.slice ao m.headers.length cap))).alloc (.cells rq0 37)).heap[w.heap.size+1]? = some (.cells rq0 37 (0,0)):=by
  rw [show w.heap.size+1=(w.alloc (objM m (.slice ao m.headers.length cap))).heap.size by simp,heap_alloc_new]
 have B0:Below w.heap.size w ((w.alloc (objM m (.slice ao m.headers.length cap))).alloc (.cells rq0 37)):=((Below.refl w.heap.size w).alloc (Nat.le_refl _) (objM m (.slice ao m.headers.length cap))).alloc (by simp) _;have X0:=(boxM_new w m (.slice ao m.headers.length cap)).below ((Below.refl _ (w.alloc (objM m (.slice ao m.headers.length cap)))).alloc (Nat.le_refl _) (.cells rq0 37)) (by simp);by_cases hme:m.method=[]
 ·have HR:Hid (baseV m=(noR,1)):=show _=_ by unfold baseV; rw [if_pos hme]
  generalize baseV m=R at HR ⊢;obtain ⟨me,ta,st,re,hs,bo⟩:=m;simp only at hme;subst hme;clear H0 HA hge;unfold msgV;unfold objM at N0 B0 X0;simp only at N0 B0 X0 ⊢;obtain ⟨x0,x1,x2,x3,x4,x5⟩:=X0;simp only at x0 x1 x2 x3 x4 x5
  go_enter Tryz.func10,Tryz.ntmps10
  go_wp2_with (first
   | (refine wpList_store_row rfl 37 (.tmp 2) _ rfl (w.heap.size+1) rq0 rfl rfl _ _ N0 infoR0 rfl oneR0 ?_; rw [setRow_self _ _ _ _ _ N0]))
  have hld:=run_loadVar_row (P:=Tryz.prog) _ _ _ 37 _ _ _ N0 Tryz.underlying37 rfl infoR0
  try simp only [Exit.inBlock,Exit.then]
  refine bodyPost_ret (v:=.tuple #[.agg rq0,.int .i64 1]) (by simp [results,Tryz.results10,asAddr,hld]; try rfl) rfl ?_
  exact ⟨base_none HR.out,B0⟩
 ·have hme1:(m.method==[])=false:=by cases hm:m.method with | nil=>exact absurd hm hme | cons a b=>rfl
  have hme2:m.method.isEmpty=false:=by cases hm:m.method with | nil=>exact absurd hm hme | cons a b=>rfl
  have KH:=hid (fun W (H:CbIn w m (.slice ao m.headers.length cap) cE W)=>readHopQ_any m (.slice ao m.headers.length cap) (w.heap.size+1+1) cE w W hsm hhl hat H.b (by omega) H.row);have HBH:=hid (@base_hop m hme);have HHO:Hid (∀ W w',CbIn w m (.slice ao m.headers.length cap) cE W → hopE m=0 → Upd (w.heap.size+1+1) (hopC m cE) W w' → ∃ c,CbIn w m (.slice ao m.headers.length cap) c w'∧c.r=preB m 0):=fun W w' H h0 hu=>by
   unfold hopC at hu;rw [if_pos h0] at hu;exact ⟨_,H.hop hu,rfl⟩
  have KN:=hid (fun W=>needed_any m.method (w.heap.size+1+1) W);have KR:=hid (fun W c gm g bl=>readNeededQ_base m (.slice ao m.headers.length cap) w W c gm g bl hsm hhl hat);have HBF:=hid (fun gm g x h0=>@base_first m gm g x hme h0);have HWH:=hid (fun c=>@base_whole m c);have HSP:Hid (∀ c:RqC,c.r=preB m 4 → SmallP 140737488355328 c.r.frm.params∧SmallP 140737488355328 c.r.too.params):=fun c hc=>by
   rw [hc];exact ⟨(@adr_small m fromK).2.2,(@adr_small m toK).2.2⟩
  have KC1:=hid (fun w'=>clone_list m.method w' (by have:=hsm.1.1; omega));have KC2:=hid (fun w'=>clone_list m.body w' (by have:=hsm.1.2.2.2.1; omega));have hset:(((w.alloc (objM m (.slice ao m.headers.length cap))).alloc (.cells rq0 37)).alloc (.cells rq0 37)).setRow (w.heap.size+1+1) rq1=((w.alloc (objM m (.slice ao m.headers.length cap))).alloc (.cells rq0 37)).alloc (.cells rq1 37):=by
   rw [show w.heap.size+1+1=((w.alloc (objM m (.slice ao m.headers.length cap))).alloc (.cells rq0 37)).heap.size by simp];exact World.setRow_alloc_new _ _ _ _
  have N1:=H0.out.no;obtain ⟨R,hR⟩:∃ R,baseV m=R:=⟨_,rfl⟩
  rw [hR] at HBH HBF ⊢;obtain ⟨hn,hhn⟩:∃ n,hopE m=n:=⟨_,rfl⟩
  rw [hhn] at KH HBH HHO HBF;have XA:=HA.out.bx;clear hsm hhl hat hR hhn H0 hge B0 N0;obtain ⟨me,ta,st,re,hs,bo⟩:=m;simp only at hme hme1 hme2;unfold msgV at KH KR ⊢;unfold objM at HA hset N1 X0 XA;simp only at KH KR KN KC1 KC2 HA hset N1 X0 XA ⊢;obtain ⟨x0,x1,x2,x3,x4,x5⟩:=X0;simp only at x0 x1 x2 x3 x4 x5;obtain ⟨z0,z1,z2,z3,z4,z5⟩:=XA;simp only at z0 z1 z2 z3 z4 z5
  go_enter Tryz.func10,Tryz.ntmps10
  go_wp2_with (first
   | (refine wpList_store_row rfl 37 (.tmp 4) _ rfl (w.heap.size+1+1) rq1 rfl rfl _ _ N1 infoR1 rfl oneR1 ?_; rw [hset]))
  refine (KH.out _ HA.out).mono ?_
  rintro e w1 ⟨rfl,hu1⟩;have rs1:=hu1.one HA.out.rs (by omega);have hbw1:=hu1.outer0 HA.out.b (by omega);have HO:=hid (fun h0=>HHO.out _ _ HA.out h0 hu1);clear x0 x1 x2 x3 x4 x5 z0 z1 z2 z3 z4 z5 HA hu1 hset N1 KH HHO;by_cases hn0:hn=0
  case neg =>
   have HR:Hid (R=(noR,hn)):=HBH.out hn0;have hne:(hn != 0)=true:=by simpa using hn0
   have hld:=run_loadVar_row (P:=Tryz.prog) _ _ _ 37 _ _ _ rs1 Tryz.underlying37 rfl infoR0;clear HBH HBF HO KN KR;go_wp2_with (first
    | (refine wpList_store_row rfl 37 (.tmp 2) _ rfl (w.heap.size+1) rq0 rfl rfl _ _ rs1 infoR0 rfl oneR0 ?_; rw [setRow_self _ _ _ _ _ rs1]))
   try simp only [Exit.inBlock,Exit.then]
   refine bodyPost_ret (v:=.tuple #[.agg rq0,.int .i64 hn]) (by simp [results,Tryz.results10,asAddr,hld]; try rfl) rfl ?_
   exact ⟨base_none HR.out,hbw1⟩
  subst hn0;obtain ⟨c1,hc1,hr1⟩:=HO.out rfl;have HX:=hid (fun w' (hb:Below w1.heap.size w1 w')=>hc1.below hb);have HR1:=hid hr1;obtain ⟨x0,x1,x2,x3,x4,x5⟩:=hc1.bx;simp only at x0 x1 x2 x3 x4 x5;have hlt1:=hc1.lt;clear HO HBH rs1 hbw1 hc1 hr1;go_wp2
  go_region_law (first
   | (go_simp; go_at_call 24; refine (KN.out _).mono ?_; rintro e w2 ⟨rfl,hw2,ht2,hp2,hrow2⟩; replace hw2:=(show Below w1.heap.size w1 w2 from (Below.refl w1.heap.size w1).drew.trans hw2); have HC2:=hid (HX.out w2 hw2); have HT2:=hid ht2; have HP2:=hid hp2; have HW2:=hid hrow2; obtain ⟨q0,q1,q2,q3,q4,q5⟩:=HC2.out.bx; simp only at q0 q1 q2 q3 q4 q5; clear ht2 hp2 hrow2)
   | (go_simp; go_at_call 23; refine (KR.out _ _ _ _ _ HC2.out HR1.out HT2.out HP2.out HW2.out).mono ?_; rintro e w3 ⟨x,rfl,hfx,hnx,⟨cq,hu3⟩⟩))
  all_goals (
   have rs3:=hu3.one HC2.out.rs (by omega);have hbw3:=hu3.outer0 HC2.out.b (by omega);have HF:=hid (HBF.out _ _ x (by first | rfl | trivial) hfx);have HNX:=hid hnx;clear x0 x1 x2 x3 x4 x5 q0 q1 q2 q3 q4 q5 HC2 HT2 HP2 HW2 hu3 hfx hnx HX HR1 KN KR HBF;by_cases hx:x=0
   case neg =>
    have HR:Hid (R=(noR,x)):=show _=_ by rw [HF.out,if_pos hx]
    have hne:(x != 0)=true:=by simpa using hx
    have hld:=run_loadVar_row (P:=Tryz.prog) _ _ _ 37 _ _ _ rs3 Tryz.underlying37 rfl infoR0;clear HF HNX;go_wp2_with (first
     | (refine wpList_store_row rfl 37 (.tmp 2) _ rfl (w.heap.size+1) rq0 rfl rfl _ _ rs3 infoR0 rfl oneR0 ?_; rw [setRow_self _ _ _ _ _ rs3]))
    try simp only [Exit.inBlock,Exit.then]
    refine bodyPost_ret (v:=.tuple #[.agg rq0,.int .i64 x]) (by simp [results,Tryz.results10,asAddr,hld]; try rfl) rfl ?_
    exact ⟨base_none HR.out,hbw3⟩
   subst hx;rw [if_neg (by simp)] at HF;obtain ⟨c4,hc4,hr4,_,_⟩:=HNX.out rfl;have HC4:=hid hc4;obtain ⟨sp1,sp2⟩:=HSP.out c4 hr4;have HWR:=hid (HWH.out c4 hr4);have KG1:=hid (fun w' (x:AdrC.At w' ⟨c4.r.frm,c4.fp,c4.fh,c4.fq⟩)=>tag_any ⟨c4.r.frm,c4.fp,c4.fh,c4.fq⟩ w' sp1 x);have KG2:=hid (fun w' (x:AdrC.At w' ⟨c4.r.too,c4.op,c4.oh,c4.oq⟩)=>tag_any ⟨c4.r.too,c4.op,c4.oh,c4.oq⟩ w' sp2 x);unfold adrV at KG1 KG2;simp only at KG1 KG2;generalize (valV c4.r.frm.params [116,97,103]).1=ft at KG1 HWR;generalize (valV c4.r.too.params [116,97,103]).1=tt at KG2 HWR;have cF:=hid (fun (d:Nat) (os:Array Obj)=>Calls.regrown_of (KG1.out (Sort.grow (redrawn w3 d) os) (HC4.out.rq.frm.below (below_regrown w3 d os)).at));have cT:=hid (fun (d:Nat) (os:Array Obj)=>Calls.regrown_of (KG2.out (Sort.grow (redrawn w3 d) os) (HC4.out.rq.too.below (below_regrown w3 d os)).at));have y9:w3.cell? ⟨w.heap.size+1+1,9,none⟩=some (.string ⟨c4.r.frm.display.toArray⟩):=HC4.out.row.cell 9 (by rw [rq_len]; decide);have y10:w3.cell? ⟨w.heap.size+1+1,10,none⟩=some (.string ⟨c4.r.frm.uri.scheme.toArray⟩):=HC4.out.row.cell 10 (by rw [rq_len]; decide);have y11:w3.cell? ⟨w.heap.size+1+1,11,none⟩=some (.string ⟨c4.r.frm.uri.user.toArray⟩):=HC4.out.row.cell 11 (by rw [rq_len]; decide);have y12:w3.cell? ⟨w.heap.size+1+1,12,none⟩=some (.string ⟨c4.r.frm.uri.host.toArray⟩):=HC4.out.row.cell 12 (by rw [rq_len]; decide);have y13:w3.cell? ⟨w.heap.size+1+1,13,none⟩=some (.int .i64 c4.r.frm.uri.port):=HC4.out.row.cell 13 (by rw [rq_len]; decide);have y14:w3.cell? ⟨w.heap.size+1+1,14,none⟩=some (c4.fp):=HC4.out.row.cell 14 (by rw [rq_len]; decide);have y15:w3.cell? ⟨w.heap.size+1+1,15,none⟩=some (c4.fh):=HC4.out.row.cell 15 (by rw [rq_len]; decide);have y16:w3.cell? ⟨w.heap.size+1+1,16,none⟩=some (c4.fq):=HC4.out.row.cell 16 (by rw [rq_len]; decide);have y17:w3.cell? ⟨w.heap.size+1+1,17,none⟩=some (.string ⟨c4.r.too.display.toArray⟩):=HC4.out.row.cell 17 (by rw [rq_len]; decide);have y18:w3.cell? ⟨w.heap.size+1+1,18,none⟩=some (.string ⟨c4.r.too.uri.scheme.toArray⟩):=HC4.out.row.cell 18 (by rw [rq_len]; decide);have y19:w3.cell? ⟨w.heap.size+1+1,19,none⟩=some (.string ⟨c4.r.too.uri.user.toArray⟩):=HC4.out.row.cell 19 (by rw [rq_len]; decide);have y20:w3.cell? ⟨w.heap.size+1+1,20,none⟩=some (.string ⟨c4.r.too.uri.host.toArray⟩):=HC4.out.row.cell 20 (by rw [rq_len]; decide);have y21:w3.cell? ⟨w.heap.size+1+1,21,none⟩=some (.int .i64 c4.r.too.uri.port):=HC4.out.row.cell 21 (by rw [rq_len]; decide);have y22:w3.cell? ⟨w.heap.size+1+1,22,none⟩=some (c4.op):=HC4.out.row.cell 22 (by rw [rq_len]; decide);have y23:w3.cell? ⟨w.heap.size+1+1,23,none⟩=some (c4.oh):=HC4.out.row.cell 23 (by rw [rq_len]; decide);have y24:w3.cell? ⟨w.heap.size+1+1,24,none⟩=some (c4.oq):=HC4.out.row.cell 24 (by rw [rq_len]; decide);clear hc4 hr4 sp1 sp2 KG1 KG2 rs3 hbw3 HNX HSP HWH;go_wp2;replace y9:=cell_regrown y9;replace y10:=cell_regrown y10;replace y11:=cell_regrown y11;replace y12:=cell_regrown y12;replace y13:=cell_regrown y13;replace y14:=cell_regrown y14;replace y15:=cell_regrown y15;replace y16:=cell_regrown y16;replace y17:=cell_regrown y17;replace y18:=cell_regrown y18;replace y19:=cell_regrown y19;replace y20:=cell_regrown y20;replace y21:=cell_regrown y21;replace y22:=cell_regrown y22;replace y23:=cell_regrown y23;replace y24:=cell_regrown y24;refine wp_region_tailC_of 7 followsMixed10 (by kernel_rfl) (by kernel_rfl) ?_
   intro T HT;replace HT:=hid HT;simp only [List.take_succ_cons,List.take_zero]
   repeat (go_big_quiet_step (first | with_reducible exact cF.out _ _ | with_reducible exact cT.out _ _))
   refine wpQuiet_nil (HT.out _ ?_)
   clear HT cF cT y9 y10 y11 y12 y13 y14 y15 y16 y17 y18 y19 y20 y21 y22 y23 y24;intro _ hw';obtain ⟨⟨dq,osq⟩,hw''⟩:=hw';subst hw'';have hq:=below_regrown w3 dq osq;generalize Sort.grow _ _=wx5 at hq ⊢;have HC5:=hid (HC4.out.below hq);have HS5:=hid (HC5.out.tags ft tt);have p1:=HC5.out.row.cell 25 (by rw [rq_len]; decide);have p2:=HC5.out.row.frozen 25;have p3:=HC5.out.row.set 25 (.string ⟨ft.toArray⟩);clear HC4;refine wpAny_go (f:=2) 7 _ (by kernel_rfl) rfl rfl ?_
   refine wp_store_cell 9 _ _ rfl (w.heap.size+1+1) 25 (.string ⟨ft.toArray⟩) rfl rfl _ rfl rfl info_str10 p1 p2 ?_
   refine wpAny_go (f:=1) 8 _ (by kernel_rfl) rfl rfl ?_
   refine wp_field_op 37 (.tmp 4) 7 rfl (.pointer (some ⟨w.heap.size+1+1,26,none⟩)) (by rfl) ?_
   refine wpAny_go (f:=0) 9 _ (by kernel_rfl) rfl rfl ?_
   refine wp_store_cell 9 _ _ rfl (w.heap.size+1+1) 26 (.string ⟨tt.toArray⟩) rfl rfl _ rfl rfl info_str10 (p3.cell 26 (by simp [rqCells])) (p3.frozen 26) ?_
   refine wpAny_end (by kernel_rfl) ?_
   clear p1 p2 p3 hq HC5;generalize World.setCell (World.setCell _ _ _) _ _=w5 at HS5 ⊢;obtain ⟨x0,_,_,_,_,x5⟩:=HS5.out.bx;simp only at x0 x5;have cA:=hid (fun (d:Nat) (os:Array Obj)=>Calls.regrown_of (KC1.out (Sort.grow (redrawn w5 d) os)));have cB:=hid (fun (d:Nat) (os:Array Obj)=>Calls.regrown_of (KC2.out (Sort.grow (redrawn w5 d) os)));go_wp2;replace x0:=cell_regrown x0;replace x5:=cell_regrown x5;refine wp_region_tailC_of 7 followsMixed10 (by kernel_rfl) (by kernel_rfl) ?_
   intro T HT;replace HT:=hid HT;simp only [List.take_succ_cons,List.take_zero]
   repeat (go_big_quiet_step (first | with_reducible exact cA.out _ _ | with_reducible exact cB.out _ _))
   refine wpQuiet_nil (HT.out _ ?_)
   clear HT cA cB x0 x5;intro _ hw';obtain ⟨⟨dq,osq⟩,hw''⟩:=hw';subst hw'';have hq:=below_regrown w5 dq osq;generalize Sort.grow _ _=wx7 at hq ⊢;have HC7:=hid (HS5.out.below hq);have HS7:=hid (HC7.out.whole me bo);have p1:=HC7.out.row.cell 0 (by rw [rq_len]; decide);have p2:=HC7.out.row.frozen 0;have p3:=HC7.out.row.set 0 (.string ⟨me.toArray⟩);clear HS5;refine wpAny_go (f:=2) 7 _ (by kernel_rfl) rfl rfl ?_
   refine wp_store_cell 9 _ _ rfl (w.heap.size+1+1) 0 (.string ⟨me.toArray⟩) rfl rfl _ rfl rfl info_str10 p1 p2 ?_
   refine wpAny_go (f:=1) 8 _ (by kernel_rfl) rfl rfl ?_
   refine wp_field_op 37 (.tmp 4) 17 rfl (.pointer (some ⟨w.heap.size+1+1,37,none⟩)) (by rfl) ?_
   refine wpAny_go (f:=0) 9 _ (by kernel_rfl) rfl rfl ?_
   refine wp_store_cell 9 _ _ rfl (w.heap.size+1+1) 37 (.string ⟨bo.toArray⟩) rfl rfl _ rfl rfl info_str10 (p3.cell 37 (by simp [rqCells])) (p3.frozen 37) ?_
   refine wpAny_end (by kernel_rfl) ?_
   clear p1 p2 p3 hq HC7;generalize World.setCell (World.setCell _ _ _) _ _=w7 at HS7 ⊢;have HO:=hid (cb_out (R:=R) HS7.out (by rw [HF.out,HWR.out]));have hlo:_=_:=HS7.out.row;unfold RowIs at hlo;have hst:=HS7.out.rs;have hone:=oneR HS7.out.rq.sl;have hinf:(Tryz.prog.info? 37).map (·.size)=some (rqCells ((c4.tags ft tt).whole me bo)).toArray.size:=infoR;generalize (rqCells ((c4.tags ft tt).whole me bo)).toArray=CA at hlo hone HO hinf;have hsz:rq0.size=CA.size:=by have:=infoR0; rw [hinf] at this; injection this with this; exact this.symm
   clear HS7 HF HWR KC1 KC2;go_wp2_with (first
    | (refine wpList_load_row rfl 37 (.tmp 4) rfl (w.heap.size+1+1) rfl _ _ _ _ hlo Tryz.underlying37 rfl hinf ?_)
    | (refine wpList_store_row rfl 37 (.tmp 2) _ rfl (w.heap.size+1) CA rfl rfl _ _ hst hinf hsz hone ?_))
   obtain ⟨HO1,HO2⟩:=HO.out;generalize World.setRow _ _ _=wE at HO1 HO2 ⊢;have hld:=run_loadVar_row (P:=Tryz.prog) _ _ _ 37 _ _ _ HO2 Tryz.underlying37 rfl hinf
   try simp only [Exit.inBlock,Exit.then]
   refine bodyPost_ret (v:=.tuple #[.agg CA,.int .i64 0]) (by simp [results,Tryz.results10,asAddr,hld]; try rfl) rfl ?_
   exact HO1)
set_option maxHeartbeats 8000000 in
set_option maxRecDepth 100000 in
theorem readMoreQ_any {B0:Nat} (m:Ms) (h:Value) (b:Nat) (c:RqC) (w0 w1 w:World) (hsm:SmallQ m) (hhl:m.headers.length≤1048576) (hat:HdrsAt w0 h m.headers) (h01:Below w0.heap.size w0 w1) (H:RmIn B0 w1 b c w) (hB:baseV m=(c.r,0)) (hp1:(piecesV m routeK).length≤1048576) (hp2:(piecesV m acceptK).length≤1048576) :
  Calls Tryz.prog 39 #[msgV m h,.pointer (some ⟨b,0,none⟩)] w fun e w'=>∃ x c',e=.returned (.int .i64 x)∧Upd b c' w w'∧(x ≠ 0 → rreadV m=(noR,x))∧(x=0 → rreadV m=(c'.r,0)∧RmIn B0 w1 b c' w'):=by
 have hbl:=row_lt H.row;have KU:=hid (fun w'=>parse_any m.target w' hsm.2.1);have KA:=hid (fun W=>allowed_any b W);have KF:=hid (fun W c' (H':RmIn B0 w1 b c' W) g bl (hp:PtrAt W g b) hrow=>readAllowedQ_more m h w0 w1 W b c' g bl hsm hhl hat h01 H' hp hrow);have KL:=hid (fun W c' (H':RmIn B0 w1 b c' W)=>readListsQ_any m h b c' w0 w1 W hsm hhl hat h01 H' hp1 hp2);have HFT:=hid (fun u=>fields_tgt m c.r u);have HV:=hid (rread_is hB);obtain ⟨⟨us,uu,uh,up,upp,uhh⟩,un,E2⟩:∃ a b,parseV m.target=(a,b):=⟨_,_,rfl⟩
 obtain ⟨fr,fn,E3⟩:∃ a b,fieldsR m c.r=(a,b):=⟨_,_,rfl⟩
 rw [E2,E3] at HV;rw [E2] at KU;rw [E3] at HFT;simp only at HV KU HFT;obtain ⟨ao,cap,hh0⟩:=hat.form;subst hh0;have A1:=(Below.refl w.heap.size w).alloc (Nat.le_refl _) (objM m (.slice ao m.headers.length cap));have HBX:=hid (boxM_new w m (.slice ao m.headers.length cap));have HM:=hid (H.below A1);have HA:=hid A1;have HCC:Hid (∃ c0,c0=c):=⟨_,rfl⟩
 clear hsm hhl hat h01 H A1 E2 E3 hB hp1 hp2;generalize rreadV m=R at HV ⊢;generalize listsE m=le at HV KL;generalize piecesV m routeK=rts at HV KL;generalize piecesV m acceptK=acs at HV KL;generalize fieldsR m=FR at HFT KF;obtain ⟨me,ta,st,re,hs,bo⟩:=m;unfold msgV at KF KL ⊢;unfold objM at HBX HA HM;unfold uriV at KU;simp only at KU KF KL HBX HA HM ⊢;obtain ⟨W1,hW1⟩:∃ W,W=w.alloc (.cells #[.string ⟨me.toArray⟩,.string ⟨ta.toArray⟩,.int .i64 st,.string ⟨re.toArray⟩,.slice ao hs.length cap,.string ⟨bo.toArray⟩] 24):=⟨_,rfl⟩
 have hl1:w.heap.size < W1.heap.size:=by rw [hW1]; simp
 rw [← hW1] at HBX HA HM;obtain ⟨x0,x1,x2,x3,x4,x5⟩:=HBX.out;simp only at x0 x1 x2 x3 x4 x5;rw [hW1] at x1;have HW1:=hid hW1;clear hW1 x0 x2 x3 x4 x5
 go_enter Tryz.func39,Tryz.ntmps39
 go_wp2_with fail
 rw [← HW1.out];refine (KU.out _).mono ?_
 rintro e w2 ⟨p,q,rfl,hp,hq,hw2⟩;obtain ⟨pa,pc,hpe⟩:=hp.parsAt.form;obtain ⟨qa,qc,hqe⟩:=hq.parsAt.form;subst hpe;subst hqe;have A3:=(Below.refl _ w2).alloc (Nat.le_refl _) (.cells #[.string ⟨us.toArray⟩,.string ⟨uu.toArray⟩,.string ⟨uh.toArray⟩,.int .i64 up,.slice pa upp.length pc,.slice qa uhh.length qc] 29);have hb12:Below W1.heap.size W1 w2:=hw2;have hb3:=hw2.trans (A3.mono hw2.size);have HM3:=hid ((HM.out.below hw2).below A3);have HBw:Hid (Below w.heap.size w (w2.alloc (.cells #[.string ⟨us.toArray⟩,.string ⟨uu.toArray⟩,.string ⟨uh.toArray⟩,.int .i64 up,.slice pa upp.length pc,.slice qa uhh.length qc] 29))):=HA.out.trans (hb3.mono HA.out.size);have HX3:=hid (HBX.out.below hb3 hl1);have U3:Hid (RowIs (w2.alloc (.cells #[.string ⟨us.toArray⟩,.string ⟨uu.toArray⟩,.string ⟨uh.toArray⟩,.int .i64 up,.slice pa upp.length pc,.slice qa uhh.length qc] 29)) w2.heap.size 29 [.string ⟨us.toArray⟩,.string ⟨uu.toArray⟩,.string ⟨uh.toArray⟩,.int .i64 up,.slice pa upp.length pc,.slice qa uhh.length qc]):=show RowIs _ _ _ _ by unfold RowIs; rw [heap_alloc_new]
 have P3:=hid (OwnP.below hp A3);have Q3:=hid (OwnP.below hq A3);have hlt3:w.heap.size < (w2.alloc (.cells #[.string ⟨us.toArray⟩,.string ⟨uu.toArray⟩,.string ⟨uh.toArray⟩,.int .i64 up,.slice pa upp.length pc,.slice qa uhh.length qc] 29)).heap.size:=Nat.lt_of_lt_of_le hl1 hb3.size;clear x1 HW1 hw2 hp hq HM HA HBX hb12 hb3 A3 KU;by_cases hun:un=0
 case neg =>
  have HR:Hid (R=(noR,un)):=show _=_ by rw [HV.out,if_pos hun]
  have hne:(un != 0)=true:=by simpa using hun
  clear HV KA KF KL HFT;go_wp2;go_ret;exact ⟨un,c,rfl,Upd.of (show RowIs w b _ _ from by have:=HM3.out.row; unfold RowIs at this ⊢; rw [HBw.out.block b hbl] at this; exact this) HBw.out,fun _=>HR.out,fun e=>absurd e hun⟩
 subst hun;rw [if_neg (by simp)] at HV;have r3:=HM3.out.row;have y1:=r3.cell 1 (by rw [rq_len]; decide);have f1:=r3.frozen 1;have y2:=r3.cell 2 (by rw [rq_len]; decide);have f2:=r3.frozen 2;have y3:=r3.cell 3 (by rw [rq_len]; decide);have f3:=r3.frozen 3;have y4:=r3.cell 4 (by rw [rq_len]; decide);have f4:=r3.frozen 4;have y5:=r3.cell 5 (by rw [rq_len]; decide);have f5:=r3.frozen 5;have y6:=r3.cell 6 (by rw [rq_len]; decide);have f6:=r3.frozen 6;obtain ⟨u0,u1,u2,u3,u4,u5,_,_,_,_,_,_⟩:=U3.out.six;have hu4:=(Upd.refl r3).tgt ⟨us,uu,uh,up,upp,uhh⟩ (.slice pa upp.length pc) (.slice qa uhh.length qc);have hbW:b+1≤W1.heap.size:=Nat.lt_trans hbl hl1;have HM4:=hid (HM3.out.tgt hu4 (OwnP.mono (P3.out.upd hu4 (by omega)) hbW) (OwnP.mono (Q3.out.upd hu4 (by omega)) hbW));have HU4:=hid (Upd.after HBw.out hu4);have HX4:=hid (HX3.out.upd hu4 hlt3 (by omega));have hlt4:w.heap.size < (set16 (w2.alloc (.cells #[.string ⟨us.toArray⟩,.string ⟨uu.toArray⟩,.string ⟨uh.toArray⟩,.int .i64 up,.slice pa upp.length pc,.slice qa uhh.length qc] 29)) b ⟨us,uu,uh,up,upp,uhh⟩ (.slice pa upp.length pc) (.slice qa uhh.length qc)).heap.size:=Nat.lt_of_lt_of_le hlt3 hu4.size;have hnb:¬ b=w2.heap.size:=by
  have:b < w2.heap.size:=Nat.lt_of_lt_of_le hbl (by have:=HBw.out.size; simp at this hlt3; omega)
  omega
 have hnb':¬ w2.heap.size=b:=fun e=>hnb e.symm;unfold set16 at HM4 HU4 HX4 hlt4;simp only at HM4 HU4 HX4 hlt4;clear r3 hu4 HM3 HX3 HBw U3 P3 Q3 hlt3
 go_upto_region 5 with fail
 generalize World.setCell _ _ _=w4 at HM4 HU4 HX4 hlt4 ⊢;clear y1 f1 y2 f2 y3 f3 y4 f4 y5 f5 y6 f6 u0 u1 u2 u3 u4 u5 hnb hnb';have HFTU:=hid (HFT.out ⟨us,uu,uh,up,upp,uhh⟩);obtain ⟨ft,hft⟩:∃ ft,c.r.fromTag=ft:=⟨_,rfl⟩
 have y25:w4.cell? ⟨b,25,none⟩=some (.string ⟨c.r.fromTag.toArray⟩):=HM4.out.row.cell 25 (by rw [rq_len]; decide);rw [hft] at y25 HV;have HFTG:=hid hft;clear hft HFT;by_cases hft0:ft=[]
 case pos =>
  have HR:Hid (R=(noR,100)):=show _=_ by rw [HV.out,if_pos hft0]
  subst hft0;clear HV KA KF KL;go_wp2;go_ret;exact ⟨100,_,rfl,HU4.out,fun _=>HR.out,fun e=>absurd e (by decide)⟩
 rw [if_neg hft0] at HV;have hf1:(ft==[])=false:=by cases ft with | nil=>exact absurd rfl hft0 | cons a b=>rfl
 have hf2:ft.isEmpty=false:=by cases ft with | nil=>exact absurd rfl hft0 | cons a b=>rfl
 obtain ⟨x0,x1,x2,x3,x4,x5⟩:=HX4.out;simp only at x0 x1 x2 x3 x4 x5;go_wp2
 go_region_law (first
  | (go_simp; go_at_call 81; refine (KA.out _).mono ?_; rintro e w5 ⟨rfl,hw5,hp5,hrow5⟩; replace hw5:=(show Below w4.heap.size w4 w5 from (Below.refl w4.heap.size w4).drew.trans hw5); have HM5:=hid (HM4.out.below hw5); have HU5:=hid (HU4.out.below hw5); have HX5:=hid (HX4.out.below hw5 hlt4); have hlt5:=Nat.lt_of_lt_of_le hlt4 hw5.size; have HP5:=hid hp5; have HR5:=hid hrow5; obtain ⟨q0,q1,q2,q3,q4,q5⟩:=HX5.out; simp only at q0 q1 q2 q3 q4 q5; clear hp5 hrow5 hw5)
  | (go_simp; go_at_call 80; refine (KF.out _ _ HM5.out _ _ HP5.out HR5.out).mono ?_; rintro e w6 ⟨x,rfl,hfx,hnx,⟨cq,hu6⟩⟩))
 all_goals (
  have HU6:=hid (HU5.out.trans hu6);have HX6:=hid (HX5.out.upd hu6 hlt5 (by omega));have HNX:=hid hnx;have hfn:fn=x:=by
   rw [← hfx];exact (congrArg Prod.snd HFTU.out).symm
  subst hfn;clear x0 x1 x2 x3 x4 x5 q0 q1 q2 q3 q4 q5 hfx hnx HM5 HU5 HX5 HP5 HR5 hu6 KA KF HM4 HU4 HX4 y25;by_cases hx:fn=0
  case neg =>
   have HR:Hid (R=(noR,fn)):=show _=_ by rw [HV.out,if_pos hx]
   have hne:(fn != 0)=true:=by simpa using hx
   clear HV KL HNX;go_wp2;go_ret;exact ⟨fn,cq,rfl,HU6.out,fun _=>HR.out,fun e=>absurd e hx⟩
  subst hx;rw [if_neg (by simp)] at HV;obtain ⟨c6,hm6,hf6⟩:=HNX.out rfl;have HM6:=hid hm6;have hc6:c6.r={ fr with target:=⟨us,uu,uh,up,upp,uhh⟩ }:=by
   have e:=HFTU.out.symm.trans hf6;exact (congrArg Prod.fst e).symm
  have HC6:=hid hc6;obtain ⟨x0,x1,x2,x3,x4,x5⟩:=HX6.out;simp only at x0 x1 x2 x3 x4 x5;clear hm6 hf6 hc6 HNX HFTU;go_wp2_with fail
  refine (KL.out _ _ HM6.out).mono ?_
  rintro e w7 ⟨rfl,v,v',hm7,hu7⟩;have HM7:=hid hm7;have HU7:=hid (HU6.out.trans hu7);clear hm7 hu7 x0 x1 x2 x3 x4 x5 KL;go_wp2;go_ret;refine ⟨le,_,rfl,HU7.out,fun hl=>by rw [HV.out,if_pos hl],fun hl=>⟨?_,HM7.out⟩⟩
  rw [HV.out,if_neg (by simp [hl])];rw [show ((c6.rou rts v).acc acs v').r={ c6.r with routes:=rts,accept:=acs } from rfl,HC6.out])
end Go.Proofs.YtiogedceommcoaaGreatDoor
