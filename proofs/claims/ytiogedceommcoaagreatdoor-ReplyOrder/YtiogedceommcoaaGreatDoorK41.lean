/-
  CTexts, CRead1, CRead2, Awake10.
-/
import Derived.Test.YtiogedceommcoaaGreatDoorK40
set_option linter.unusedVariables false
set_option linter.unusedSimpArgs false
set_option maxRecDepth 20000
namespace Go.Proofs.YtiogedceommcoaaGreatDoor
open Go.RowKit Sc
set_option maxHeartbeats 2000000 in
set_option maxRecDepth 100000 in
theorem ctexts_any (m:Ms) (h:Value) (nm:List UInt8) (w:World) (hsm:SmallM 1048576 m) (hhl:m.headers.length≤1048576) (hnl:nm.length≤140737488355328) (hat:HdrsAt w h m.headers) (hpl:(piecesV m nm).length≤1048576) :
  Calls Tryz.prog 135 #[msgV m h,.string ⟨nm.toArray⟩] w fun e w'=>∃ v,e=.returned v∧Own w' w.heap.size 9 v (strs (piecesV m nm))∧Below w.heap.size w w':=by
 obtain ⟨i0,hi,hz0,hz1,hz2⟩:=info_parts info9;have KA:=hid (fun w' (hb:Below w.heap.size w w')=>fall_any m h nm w' (hsm.le (by omega)) (by omega) hnl (hat.below hb));have HVL:=hid (all_small hsm nm);have HBX:=hid (boxM_new w m h);have hb0:Below w.heap.size w (w.alloc (objM m h)):=(Below.refl _ w).alloc (Nat.le_refl _) _;have hcn:(allV m nm).length≤1048576:=by unfold allV; rw [List.length_map]; exact Nat.le_trans (List.length_filter_le _ _) hhl
 have HPV:Hid (piecesV m nm=(allV m nm).flatMap pieceF):=show _=_ from rfl
 obtain ⟨ah,ch,rfl⟩:=hat.form;clear hsm hhl hat;obtain ⟨me,ta,st,re,hs,bo⟩:=m;unfold msgV at KA ⊢;unfold objM at HBX hb0;simp only at KA HBX hb0 ⊢;generalize piecesV _ nm=R at HPV hpl ⊢;generalize allV _ nm=vals at KA HVL HPV hcn;rw [HPV.out] at hpl;obtain ⟨n,hn⟩:∃ n,n=vals.length:=⟨_,rfl⟩
 rw [← hn] at hcn;have HN:=hid hn;have HL:=hid hpl;clear hn hpl;obtain ⟨x0,x1,x2,x3,x4,x5⟩:=HBX.out;simp only at x0 x1 x2 x3 x4 x5
 go_enter Tryz.func135,Tryz.ntmps135
 go_wp2_with fail
 refine (KA.out _ hb0).mono ?_
 rintro e w1 ⟨v0,rfl,hov,hw1⟩;have hb1:=hb0.trans (hw1.mono hb0.size);obtain ⟨va,vc,hve,hvc⟩:=hov.txts;subst hve;rw [← HN.out];have HC:=hid hvc;clear hvc KA hov hw1 hb0 HBX x0 x1 x2 x3 x4 x5;go_wp2
 go_loopw [5,14] (fun x i wr=>∃ (k:Nat),k≤n∧i=.int .i64 k∧Hid (Own wr w1.heap.size 9 x (strs ((vals.take k).flatMap pieceF)))∧Below w1.heap.size w1 wr) (fun _ i _=>n - (intOf i).toNat)
 case atStart=>exact ⟨0,by omega,rfl,hid (Own.nil _ _ _),Below.refl _ _⟩
 case round =>
  obtain ⟨k,hkn,rfl,hown,hb⟩:=hrel;obtain ⟨acc,hacc⟩:∃ a,(vals.take k).flatMap pieceF=a:=⟨_,rfl⟩
  rw [hacc] at hown;have HAC:=hid hacc;obtain ⟨xa,xc,hxe⟩:=hown.out.form;subst hxe;by_cases hlt:k < n
  ·have hkl:k < vals.length:=by have:=HN.out; omega
   obtain ⟨a,hao,hab,hcell⟩:=HC.out k hkl;subst hao;have hcell2:=cell_below hb (by rw [add_block]; exact hab) hcell;have hll:=HVL.out _ (List.getElem_mem hkl);obtain ⟨qs,hqs⟩:∃ qs,partsV 44 vals[k]=qs:=⟨_,rfl⟩
   have KP:=hid (fun w'=>parts_own hqs w' hll);have HQL:Hid (∀ l ∈ qs,l.length≤1048576):=fun l hl=>by have:=p_mem_len 44 vals[k] l (by rw [hqs]; exact hl); omega
   have hst:=fm_take pieceF vals k hkl;have hle:=fm_le pieceF vals (k+1);have hpf:pieceF vals[k]=qs.map trimL:=by unfold pieceF; rw [hqs]
   rw [hst,hpf,List.length_append,List.length_map] at hle;rw [hacc] at hst hle;have hq2:acc.length+qs.length≤1048576:=Nat.le_trans hle HL.out;rw [hpf] at hst;have HST:=hid hst;clear hcell hqs hll hst hle hpf hacc HAC;go_wp2_with fail
   refine (KP.out _).mono ?_
   rintro e w2 ⟨pa,pc,rfl,hop,hw2⟩;have HP:=hid (PcIn.begin hown.out hb hw2 hop);clear hown hop hb hw2 KP hcell2;obtain ⟨n2,hn2⟩:∃ n2,n2=qs.length:=⟨_,rfl⟩
   rw [← hn2] at hq2 ⊢;have HN2:=hid hn2;clear hn2;go_wp2
   go_loopw [5,21] (fun x i wr=>∃ (j:Nat),j≤n2∧i=.int .i64 j∧Hid (PcIn w1 pa qs x (acc++(qs.take j).map trimL) wr)) (fun _ i _=>n2 - (intOf i).toNat)
   case atStart=>exact ⟨0,by omega,rfl,by simpa using HP⟩
   case round =>
    clear HP;obtain ⟨j,hjn,rfl,hp⟩:=hrel;obtain ⟨xa,xc,hxe⟩:=hp.out.own.form;subst hxe;by_cases hlt2:j < n2
    ·have hjl:j < qs.length:=by have:=HN2.out; omega
     obtain ⟨a,hao,hab,hcell,hnb⟩:=hp.out.ps j hjl;subst hao;have hll:=HQL.out _ (List.getElem_mem hjl);have KT:=hid (fun w'=>trim_list qs[j] w' (by omega));have hnx:acc++(qs.take (j+1)).map trimL=(acc++(qs.take j).map trimL)++[trimL qs[j]]:=by rw [List.take_succ_eq_append_getElem hjl,List.map_append,← List.append_assoc]; rfl
     have hln:(acc++(qs.take j).map trimL).length+1≤8796093022208:=by simp; omega
     have HNX:=hid hnx;clear hnx hll hab hnb;generalize acc++(qs.take j).map trimL=cur at hp HNX hln;generalize qs[j]=q at hcell KT HNX;have hsz:=hp.out.b.size;go_wp2_with fail
     refine (KT.out _).mono ?_
     rintro e w3 ⟨rfl,hw3⟩;have HP3:=hid (hp.out.below hw3);have hP3:=hid (fun o=>HP3.out.below ((Below.refl _ w3).alloc (Nat.le_refl _) o));have HNV:=hid (one_new w3 9 (.string ⟨(trimL q).toArray⟩) 0 _ rfl);have hsz3:=Nat.le_trans hsz hw3.size;clear hp KT hw3 hcell;go_wp2_with (at_builtin; refine wp_appAt _ rfl (.tmp 25) (.tmp 28) 35 rfl w1.heap.size 9 i0 (.string .empty) Tryz.underlying35 hi hz0 hz1 hz2 rfl _ cur rfl (hP3.out _).own ⟨_,0,none⟩ 1 (trimL q) rfl HNV.out hln (by simp; omega) ?_; intro v5 w5 hown5 hgr5 hat5)
     have HP5:=hid ((hP3.out _).app hown5 hgr5 hat5);rw [← HNX.out] at HP5;clear hown5 hgr5 hat5 hP3 HP3;go_wp2;go_roundw
     case rel=>exact ⟨j+1,by omega,by go_num,HP5⟩
     case measure=>simp [intOf]; omega
    ·have hjq:j=qs.length:=by have:=HN2.out; omega
     have HO2:Hid (Own wr w1.heap.size 9 (.slice xa (strs (acc++(qs.take j).map trimL)).length xc) (strs ((vals.take (k+1)).flatMap pieceF))):=by
      have:=hp.out.own
      rw [HST.out];rw [hjq,List.take_length] at this ⊢;exact this
     have hb2:=hp.out.b;clear hp;go_wp2;go_roundw
     case rel=>exact ⟨k+1,by omega,by go_num,HO2,hb2⟩
     case measure=>simp [intOf]; omega
  ·have hkl:vals.length≤k:=by have:=HN.out; omega
   have he:acc=R:=by rw [← HAC.out,List.take_of_length_le hkl,HPV.out]
   subst he;clear hacc HAC HPV;go_wp2;go_ret;exact ⟨_,rfl,hown.out.mono hb1.size,hb1.trans (hb.mono hb1.size)⟩
def listsE (m:Ms):Int:=if routesE (piecesV m routeK) ≠ 0 then routesE (piecesV m routeK) else if 16 < (piecesV m routeK).length∨16 < (piecesV m acceptK).length then 4 else 0
set_option maxHeartbeats 8000000 in
set_option maxRecDepth 100000 in
theorem readLists_any {B0:Nat} (m:Ms) (h:Value) (b:Nat) (c:RqC) (w0 w1 w:World) (hsm:SmallM 1048576 m) (hhl:m.headers.length≤1048576) (hat:HdrsAt w0 h m.headers) (h01:Below w0.heap.size w0 w1) (H:RmIn B0 w1 b c w) (hp1:(piecesV m routeK).length≤1048576) (hp2:(piecesV m acceptK).length≤1048576) :
  Calls Tryz.prog 82 #[msgV m h,.pointer (some ⟨b,0,none⟩)] w fun e w'=>e=.returned (.int .i64 (listsE m))∧∃ v v',RmIn B0 w1 b ((c.rou (piecesV m routeK) v).acc (piecesV m acceptK) v') w'∧Upd b ((c.rou (piecesV m routeK) v).acc (piecesV m acceptK) v') w w':=by
 have hbl:=row_lt H.row;have KP1:=hid (fun w' (hb:Below w0.heap.size w0 w')=>ctexts_any m h routeK w' hsm hhl (by decide) (hat.below hb) hp1);have KP2:=hid (fun w' (hb:Below w0.heap.size w0 w')=>ctexts_any m h acceptK w' hsm hhl (by decide) (hat.below hb) hp2);have HRL:=hid (pieces_small (nm:=routeK) hsm);have HV:Hid (listsE m=if routesE (piecesV m routeK) ≠ 0 then routesE (piecesV m routeK) else if 16 < (piecesV m routeK).length∨16 < (piecesV m acceptK).length then 4 else 0):=show _=_ from rfl
 have hw0:Below w0.heap.size w0 w:=h01.trans (H.b1.mono h01.size);obtain ⟨ao,cap,hh0,_⟩:=hat.get;subst hh0;have A1:=(Below.refl w.heap.size w).alloc (Nat.le_refl _) (objM m (.slice ao m.headers.length cap));have HBX:=hid (boxM_new w m (.slice ao m.headers.length cap));have hb1:=hw0.trans (A1.mono hw0.size);have HM:=hid (H.below A1);have HA:=hid A1;generalize listsE m=R at HV ⊢;generalize piecesV m routeK=rts at KP1 HRL HV hp1 ⊢;generalize piecesV m acceptK=acs at KP2 HV hp2 ⊢;have hz:=hid (fun (W:World) (hW:Below w.heap.size w W)=>hw0.trans (hW.mono hw0.size));clear hsm hhl hat h01 H A1 hw0;obtain ⟨me,ta,st,re,hs,bo⟩:=m;unfold msgV at KP1 KP2 ⊢;unfold objM at HBX hb1 HA HM;unfold routeK at KP1;unfold acceptK at KP2;simp only at KP1 KP2 HBX hb1 HA HM ⊢;obtain ⟨W1,hW1⟩:∃ W,W=w.alloc (.cells #[.string ⟨me.toArray⟩,.string ⟨ta.toArray⟩,.int .i64 st,.string ⟨re.toArray⟩,.slice ao hs.length cap,.string ⟨bo.toArray⟩] 24):=⟨_,rfl⟩
 have hl1:w.heap.size < W1.heap.size:=by rw [hW1]; simp
 rw [← hW1] at HBX hb1 HA HM;have HW1:=hid hW1;clear hW1;have HXD:Hid (∀ W,Below W1.heap.size W1 W → BoxM W w.heap.size ⟨me,ta,st,re,hs,bo⟩ (.slice ao hs.length cap)):=fun W hb=>HBX.out.below hb hl1;obtain ⟨x0,x1,x2,x3,x4,x5⟩:=HXD.out W1.drew (Below.refl _ W1).drew;simp only at x0 x1 x2 x3 x4 x5;have HWD:Hid (∀ W,Below W1.heap.size W1 W → Below w0.heap.size w0 W):=fun W hb=>hb1.trans (hb.mono hb1.size)
 go_enter Tryz.func82,Tryz.ntmps82
 go_wp2;rw [← HW1.out]
 go_region_law (first
  | (go_simp; go_at_call_of 135 (Value.string ⟨#[82,101,99,111,114,100,45,82,111,117,116,101]⟩); refine (KP1.out _ (HWD.out _ (Below.refl _ W1).drew)).mono ?_; rintro e w2 ⟨v1,rfl,hown1,hw2⟩; replace hw2:=(show Below W1.heap.size W1 w2 from (Below.refl W1.heap.size W1).drew.trans hw2); have HO1:=hid hown1; have HW2:=hid hw2; obtain ⟨y0,y1,y2,y3,y4,y5⟩:=HXD.out w2 hw2; simp only at y0 y1 y2 y3 y4 y5; clear hown1)
  | (go_simp; go_at_call_of 135 (Value.string ⟨#[65,99,99,101,112,116]⟩); refine (KP2.out _ (HWD.out _ HW2.out)).mono ?_; rintro e w3 ⟨v2,rfl,hown2,hw3⟩; have HO2:=hid hown2; have HW3:=hid hw3; have hm3:=(HM.out.below HW2.out).below hw3; have r33:=hm3.row.cell 33 (by rw [rq_len]; decide); have f33:=hm3.row.frozen 33; have r34:=hm3.row.cell 34 (by rw [rq_len]; decide); have f34:=hm3.row.frozen 34; have HM3:=hid hm3; obtain ⟨va,vc,hve⟩:=(HO1.out).form; obtain ⟨ua,uc,hue⟩:=(HO2.out).form; subst hve; subst hue; clear hown2 hm3))
 all_goals (
  have hu4:=((Upd.refl HM3.out.row).rou rts (.slice va (strs rts).length vc)).acc acs (.slice ua (strs acs).length uc);have hbw3:Below w.heap.size w w3:=(HA.out.trans (HW2.out.mono HA.out.size)).trans (HW3.out.mono (Nat.le_trans HA.out.size HW2.out.size));have o1:=(HO1.out.below HW3.out).upd hu4 (show b < W1.drew.heap.size from Nat.lt_trans hbl hl1);have o2:=HO2.out.upd hu4 (show b < w2.heap.size from Nat.lt_of_lt_of_le (Nat.lt_trans hbl hl1) HW2.out.size);have H4:=hid (HM3.out.lists hu4 (o1.mono (show b+1≤W1.drew.heap.size from Nat.lt_trans hbl hl1)) (o2.mono (show b+1≤w2.heap.size from Nat.lt_of_lt_of_le (Nat.lt_trans hbl hl1) HW2.out.size)));have U4:=hid (Upd.after hbw3 hu4);clear HM3 HO1 HO2 HM HA HW1 HXD HWD hu4 hbw3 o1 o2 KP1 KP2 HBX hb1 x0 x1 x2 x3 x4 x5 y0 y1 y2 y3 y4 y5 r33 f33 r34 f34 HW2 HW3 hz;obtain ⟨n,hn⟩:∃ n,n=(strs rts).length:=⟨_,rfl⟩
  obtain ⟨n2,hn2⟩:∃ n,n=(strs acs).length:=⟨_,rfl⟩
  rw [← hn,← hn2] at H4 U4 ⊢;have hnl:n=rts.length:=by rw [hn,strs_length]
  have hnl2:n2=acs.length:=by rw [hn2,strs_length]
  have HN:=hid hnl;have HN2:=hid hnl2;rw [← hnl] at hp1;rw [← hnl2] at hp2;clear hn hn2 hnl hnl2;generalize World.setCell (World.setCell _ _ _) _ _=w4 at H4 U4 ⊢;have q33:w4.cell? ⟨b,33,none⟩=some (.slice va n vc):=H4.out.row.cell 33 (by rw [rq_len]; decide);go_wp2
  go_loopw [24] (fun i wr=>∃ k:Nat,k≤n∧i=.int .i64 k∧Hid (RmIn B0 w1 b ((c.rou rts (.slice va n vc)).acc acs (.slice ua n2 uc)) wr)∧Hid (Upd b ((c.rou rts (.slice va n vc)).acc acs (.slice ua n2 uc)) w wr)∧Hid (routesE rts=routesE (rts.drop k))) (fun i _=>n - (intOf i).toNat)
  case atStart=>exact ⟨0,Nat.zero_le _,rfl,H4,U4,rfl⟩
  case round =>
   clear H4 U4 q33;obtain ⟨k,hk,rfl,HM,HU,HE⟩:=hrel;by_cases hlt:k < n
   ·have hkl:k < rts.length:=by have:=HN.out; omega
    have hro:Own wr (b+1) 9 (.slice va n vc) (strs rts):=HM.out.ro;obtain ⟨aq,cq,he,hcs⟩:=hro.txts;simp only [Value.slice.injEq] at he;obtain ⟨a,hao,hab,hcell⟩:=hcs k hkl;have hva:va=some a:=by rw [he.1,hao]
    subst hva;have hll:=HRL.out _ (List.getElem_mem hkl);have HST:=hid (routes_step hkl);have KQ:=hid (fun w'=>aparse_any rts[k] w' hll);clear he hcs hao hab hro;generalize rts[k]=s at hcell KQ HST hll;generalize parseA s=pr at KQ HST;obtain ⟨⟨ad,⟨us,uu,uh,up,upp,uhh⟩,app⟩,pn⟩:=pr;unfold ParseRes adrV at KQ;simp only at KQ HST;go_wp2_with fail
    refine (KQ.out _).mono ?_
    rintro e w5 ⟨⟨p,h,q,rfl,hp,hh,hq⟩,hw5⟩;obtain ⟨a1,k1,e1⟩:=hp.parsAt.form;obtain ⟨a2,k2,e2⟩:=hh.parsAt.form;obtain ⟨a3,k3,e3⟩:=hq.parsAt.form;subst e1 e2 e3;have A6:=(Below.refl _ w5).alloc (Nat.le_refl _) (.cells #[.string ⟨ad.toArray⟩,.string ⟨us.toArray⟩,.string ⟨uu.toArray⟩,.string ⟨uh.toArray⟩,.int .i64 up,.slice a1 upp.length k1,.slice a2 uhh.length k2,.slice a3 app.length k3] 31);have HM6:=hid ((HM.out.below hw5).below A6);have HU6:=hid ((HU.out.below hw5).below A6);clear HM HU hw5 A6 KQ hp hh hq hcell;by_cases hpn:pn=0
    ·subst hpn;have HE6:Hid (routesE rts=routesE (rts.drop (k+1))):=show _=_ by rw [HE.out,HST.out,if_neg (by simp)]
     clear HE HST;go_wp2;go_roundw
     case rel=>exact ⟨k+1,by omega,by go_num,HM6,HU6,HE6⟩
     case measure=>simp [intOf]; omega
    ·have hne:(pn != 0)=true:=by simpa using hpn
     have hR:R=pn:=by
      have e:routesE rts=pn:=by rw [HE.out,HST.out,if_pos hpn]
      rw [HV.out,e,if_pos hpn]
     subst hR;clear HV HE HST;go_wp2;go_ret;exact ⟨rfl,_,_,HM6.out,HU6.out⟩
   ·have hkl:rts.length≤k:=by have:=HN.out; omega
    have he0:routesE rts=0:=by rw [HE.out,List.drop_eq_nil_of_le hkl]; rfl
    rw [he0,if_neg (by simp),← HN.out,← HN2.out] at HV;have q33:wr.cell? ⟨b,33,none⟩=some (.slice va n vc):=HM.out.row.cell 33 (by rw [rq_len]; decide);have q34:wr.cell? ⟨b,34,none⟩=some (.slice ua n2 uc):=HM.out.row.cell 34 (by rw [rq_len]; decide);clear HE he0;by_cases g1:16 < n
    ·have hR:=HV.out;rw [if_pos (Or.inl g1)] at hR;subst hR;have g1':(16:Int) < (n:Int):=by omega
     clear HV;go_wp2;go_ret;exact ⟨rfl,_,_,HM.out,HU.out⟩
    ·have g1':¬ (16:Int) < (n:Int):=by omega
     have g1d:decide ((16:Int) < (n:Int))=false:=decide_eq_false g1';by_cases g2:16 < n2
     ·have hR:=HV.out;rw [if_pos (Or.inr g2)] at hR;subst hR;have g2':(16:Int) < (n2:Int):=by omega
      clear HV;go_wp2;go_ret;exact ⟨rfl,_,_,HM.out,HU.out⟩
     ·have g2':¬ (16:Int) < (n2:Int):=by omega
      have g2d:decide ((16:Int) < (n2:Int))=false:=decide_eq_false g2';have hR:=HV.out;rw [if_neg (by omega)] at hR;subst hR;clear HV;go_wp2;go_ret;exact ⟨rfl,_,_,HM.out,HU.out⟩)
theorem rread_is {m:Ms} {br:Rq} (h:baseV m=(br,0)):rreadV m=if (parseV m.target).2 ≠ 0 then (noR,(parseV m.target).2) else if br.fromTag=[] then (noR,100) else if (fieldsR m br).2 ≠ 0 then (noR,(fieldsR m br).2) else if listsE m ≠ 0 then (noR,listsE m)
  else ({ (fieldsR m br).1 with target:=(parseV m.target).1,routes:=piecesV m routeK,accept:=piecesV m acceptK },0):=by
 unfold rreadV listsE;rw [h];by_cases h1:(parseV m.target).2=0 <;> by_cases h2:br.fromTag=[] <;> by_cases h3:(fieldsR m br).2=0 <;> by_cases h4:routesE (piecesV m routeK)=0 <;> by_cases h5:16 < (piecesV m routeK).length∨16 < (piecesV m acceptK).length <;> simp [h1,h2,h3,h4,h5]
set_option maxHeartbeats 8000000 in
set_option maxRecDepth 100000 in
theorem readMore_any {B0:Nat} (m:Ms) (h:Value) (b:Nat) (c:RqC) (w0 w1 w:World) (hsm:SmallM 1048576 m) (hhl:m.headers.length≤1048576) (hat:HdrsAt w0 h m.headers) (h01:Below w0.heap.size w0 w1) (H:RmIn B0 w1 b c w) (hB:baseV m=(c.r,0)) (hp1:(piecesV m routeK).length≤1048576) (hp2:(piecesV m acceptK).length≤1048576) :
  Calls Tryz.prog 39 #[msgV m h,.pointer (some ⟨b,0,none⟩)] w fun e w'=>∃ x c',e=.returned (.int .i64 x)∧Upd b c' w w'∧(x ≠ 0 → rreadV m=(noR,x))∧(x=0 → rreadV m=(c'.r,0)∧RmIn B0 w1 b c' w'):=by
 have hbl:=row_lt H.row;have KU:=hid (fun w'=>parse_any m.target w' hsm.2.1);have KA:=hid (fun W=>allowed_any b W);have KF:=hid (fun W c' (H':RmIn B0 w1 b c' W) g bl (hp:PtrAt W g b) hrow=>readAllowed_more m h w0 w1 W b c' g bl hsm hhl hat h01 H' hp hrow);have KL:=hid (fun W c' (H':RmIn B0 w1 b c' W)=>readLists_any m h b c' w0 w1 W hsm hhl hat h01 H' hp1 hp2);have HFT:=hid (fun u=>fields_tgt m c.r u);have HV:=hid (rread_is hB);obtain ⟨⟨us,uu,uh,up,upp,uhh⟩,un,E2⟩:∃ a b,parseV m.target=(a,b):=⟨_,_,rfl⟩
 obtain ⟨fr,fn,E3⟩:∃ a b,fieldsR m c.r=(a,b):=⟨_,_,rfl⟩
 rw [E2,E3] at HV;rw [E2] at KU;rw [E3] at HFT;simp only at HV KU HFT;obtain ⟨ao,cap,hh0⟩:=hat.form;subst hh0;have A1:=(Below.refl w.heap.size w).alloc (Nat.le_refl _) (objM m (.slice ao m.headers.length cap));have HBX:=hid (boxM_new w m (.slice ao m.headers.length cap));have HM:=hid (H.below A1);have HA:=hid A1;have HCC:Hid (∃ c0,c0=c):=⟨_,rfl⟩
 clear hsm hhl hat h01 H A1 E2 E3 hB hp1 hp2;generalize rreadV m=R at HV ⊢;generalize listsE m=le at HV KL;generalize piecesV m routeK=rts at HV KL;generalize piecesV m acceptK=acs at HV KL;generalize fieldsR m=FR at HFT KF;obtain ⟨me,ta,st,re,hs,bo⟩:=m;unfold msgV at KF KL ⊢;unfold objM at HBX HA HM;unfold uriV at KU;simp only at KU KF KL HBX HA HM ⊢;obtain ⟨W1,hW1⟩:∃ W,W=w.alloc (.cells #[.string ⟨me.toArray⟩,.string ⟨ta.toArray⟩,.int .i64 st,.string ⟨re.toArray⟩,.slice ao hs.length cap,.string ⟨bo.toArray⟩] 24):=⟨_,rfl⟩
 have hl1:w.heap.size < W1.heap.size:=by rw [hW1]; simp
 rw [← hW1] at HBX HA HM;obtain ⟨x0,x1,x2,x3,x4,x5⟩:=HBX.out;simp only at x0 x1 x2 x3 x4 x5;rw [hW1] at x1;have HW1:=hid hW1;clear hW1 x0 x2 x3 x4 x5
 go_enter Tryz.func39,Tryz.ntmps39
 go_wp2_with fail
 rw [← HW1.out];refine (KU.out _).mono ?_
 rintro e w2 ⟨p,q,rfl,hp,hq,hw2⟩;obtain ⟨pa,pc,hpe⟩:=hp.parsAt.form;obtain ⟨qa,qc,hqe⟩:=hq.parsAt.form;subst hpe;subst hqe;have A3:=(Below.refl _ w2).alloc (Nat.le_refl _) (.cells #[.string ⟨us.toArray⟩,.string ⟨uu.toArray⟩,.string ⟨uh.toArray⟩,.int .i64 up,.slice pa upp.length pc,.slice qa uhh.length qc] 29);have hb12:Below W1.heap.size W1 w2:=hw2;have hb3:=hw2.trans (A3.mono hw2.size);have HM3:=hid ((HM.out.below hw2).below A3);have HBw:Hid (Below w.heap.size w (w2.alloc (.cells #[.string ⟨us.toArray⟩,.string ⟨uu.toArray⟩,.string ⟨uh.toArray⟩,.int .i64 up,.slice pa upp.length pc,.slice qa uhh.length qc] 29))):=HA.out.trans (hb3.mono HA.out.size);have HX3:=hid (HBX.out.below hb3 hl1);have U3:Hid (RowIs (w2.alloc (.cells #[.string ⟨us.toArray⟩,.string ⟨uu.toArray⟩,.string ⟨uh.toArray⟩,.int .i64 up,.slice pa upp.length pc,.slice qa uhh.length qc] 29)) w2.heap.size 29 [.string ⟨us.toArray⟩,.string ⟨uu.toArray⟩,.string ⟨uh.toArray⟩,.int .i64 up,.slice pa upp.length pc,.slice qa uhh.length qc]):=show RowIs _ _ _ _ by unfold RowIs; rw [heap_alloc_new]
 have P3:=hid (OwnP.below hp A3);have Q3:=hid (OwnP.below hq A3);have hlt3:w.heap.size < (w2.alloc (.cells #[.string ⟨us.toArray⟩,.string ⟨uu.toArray⟩,.string ⟨uh.toArray⟩,.int .i64 up,.slice pa upp.length pc,.slice qa uhh.length qc] 29)).heap.size:=Nat.lt_of_lt_of_le hl1 hb3.size;clear x1 HW1 hw2 hp hq HM HA HBX hb12 hb3 A3 KU;by_cases hun:un=0
 case neg =>
  have HR:Hid (R=(noR,un)):=show _=_ by rw [HV.out,if_pos hun]
  have hne:(un != 0)=true:=by simpa using hun
  clear HV KA KF KL HFT;go_wp2;go_ret;exact ⟨un,c,rfl,Upd.of (show RowIs w b _ _ from by have:=HM3.out.row; unfold RowIs at this ⊢; rw [HBw.out.block b hbl] at this; exact this) HBw.out,fun _=>HR.out,fun e=>absurd e hun⟩
 subst hun;rw [if_neg (by simp)] at HV;have r3:=HM3.out.row;have y1:=r3.cell 1 (by rw [rq_len]; decide);have f1:=r3.frozen 1;have y2:=r3.cell 2 (by rw [rq_len]; decide);have f2:=r3.frozen 2;have y3:=r3.cell 3 (by rw [rq_len]; decide);have f3:=r3.frozen 3;have y4:=r3.cell 4 (by rw [rq_len]; decide);have f4:=r3.frozen 4;have y5:=r3.cell 5 (by rw [rq_len]; decide);have f5:=r3.frozen 5;have y6:=r3.cell 6 (by rw [rq_len]; decide);have f6:=r3.frozen 6;obtain ⟨u0,u1,u2,u3,u4,u5,_,_,_,_,_,_⟩:=U3.out.six;have hu4:=(Upd.refl r3).tgt ⟨us,uu,uh,up,upp,uhh⟩ (.slice pa upp.length pc) (.slice qa uhh.length qc);have hbW:b+1≤W1.heap.size:=Nat.lt_trans hbl hl1;have HM4:=hid (HM3.out.tgt hu4 (OwnP.mono (P3.out.upd hu4 (by omega)) hbW) (OwnP.mono (Q3.out.upd hu4 (by omega)) hbW));have HU4:=hid (Upd.after HBw.out hu4);have HX4:=hid (HX3.out.upd hu4 hlt3 (by omega));have hlt4:w.heap.size < (set16 (w2.alloc (.cells #[.string ⟨us.toArray⟩,.string ⟨uu.toArray⟩,.string ⟨uh.toArray⟩,.int .i64 up,.slice pa upp.length pc,.slice qa uhh.length qc] 29)) b ⟨us,uu,uh,up,upp,uhh⟩ (.slice pa upp.length pc) (.slice qa uhh.length qc)).heap.size:=Nat.lt_of_lt_of_le hlt3 hu4.size;have hnb:¬ b=w2.heap.size:=by
  have:b < w2.heap.size:=Nat.lt_of_lt_of_le hbl (by have:=HBw.out.size; simp at this hlt3; omega)
  omega
 have hnb':¬ w2.heap.size=b:=fun e=>hnb e.symm;unfold set16 at HM4 HU4 HX4 hlt4;simp only at HM4 HU4 HX4 hlt4;clear r3 hu4 HM3 HX3 HBw U3 P3 Q3 hlt3
 go_upto_region 5 with fail
 generalize World.setCell _ _ _=w4 at HM4 HU4 HX4 hlt4 ⊢;clear y1 f1 y2 f2 y3 f3 y4 f4 y5 f5 y6 f6 u0 u1 u2 u3 u4 u5 hnb hnb';have HFTU:=hid (HFT.out ⟨us,uu,uh,up,upp,uhh⟩);obtain ⟨ft,hft⟩:∃ ft,c.r.fromTag=ft:=⟨_,rfl⟩
 have y25:w4.cell? ⟨b,25,none⟩=some (.string ⟨c.r.fromTag.toArray⟩):=HM4.out.row.cell 25 (by rw [rq_len]; decide);rw [hft] at y25 HV;have HFTG:=hid hft;clear hft HFT;by_cases hft0:ft=[]
 case pos =>
  have HR:Hid (R=(noR,100)):=show _=_ by rw [HV.out,if_pos hft0]
  subst hft0;clear HV KA KF KL;go_wp2;go_ret;exact ⟨100,_,rfl,HU4.out,fun _=>HR.out,fun e=>absurd e (by decide)⟩
 rw [if_neg hft0] at HV;have hf1:(ft==[])=false:=by cases ft with | nil=>exact absurd rfl hft0 | cons a b=>rfl
 have hf2:ft.isEmpty=false:=by cases ft with | nil=>exact absurd rfl hft0 | cons a b=>rfl
 obtain ⟨x0,x1,x2,x3,x4,x5⟩:=HX4.out;simp only at x0 x1 x2 x3 x4 x5;go_wp2
 go_region_law (first
  | (go_simp; go_at_call 81; refine (KA.out _).mono ?_; rintro e w5 ⟨rfl,hw5,hp5,hrow5⟩; replace hw5:=(show Below w4.heap.size w4 w5 from (Below.refl w4.heap.size w4).drew.trans hw5); have HM5:=hid (HM4.out.below hw5); have HU5:=hid (HU4.out.below hw5); have HX5:=hid (HX4.out.below hw5 hlt4); have hlt5:=Nat.lt_of_lt_of_le hlt4 hw5.size; have HP5:=hid hp5; have HR5:=hid hrow5; obtain ⟨q0,q1,q2,q3,q4,q5⟩:=HX5.out; simp only at q0 q1 q2 q3 q4 q5; clear hp5 hrow5 hw5)
  | (go_simp; go_at_call 80; refine (KF.out _ _ HM5.out _ _ HP5.out HR5.out).mono ?_; rintro e w6 ⟨x,rfl,hfx,hnx,⟨cq,hu6⟩⟩))
 all_goals (
  have HU6:=hid (HU5.out.trans hu6);have HX6:=hid (HX5.out.upd hu6 hlt5 (by omega));have HNX:=hid hnx;have hfn:fn=x:=by
   rw [← hfx];exact (congrArg Prod.snd HFTU.out).symm
  subst hfn;clear x0 x1 x2 x3 x4 x5 q0 q1 q2 q3 q4 q5 hfx hnx HM5 HU5 HX5 HP5 HR5 hu6 KA KF HM4 HU4 HX4 y25;by_cases hx:fn=0
  case neg =>
   have HR:Hid (R=(noR,fn)):=show _=_ by rw [HV.out,if_pos hx]
   have hne:(fn != 0)=true:=by simpa using hx
   clear HV KL HNX;go_wp2;go_ret;exact ⟨fn,cq,rfl,HU6.out,fun _=>HR.out,fun e=>absurd e hx⟩
  subst hx;rw [if_neg (by simp)] at HV;obtain ⟨c6,hm6,hf6⟩:=HNX.out rfl;have HM6:=hid hm6;have hc6:c6.r={ fr with target:=⟨us,uu,uh,up,upp,uhh⟩ }:=by
   have e:=HFTU.out.symm.trans hf6;exact (congrArg Prod.fst e).symm
  have HC6:=hid hc6;obtain ⟨x0,x1,x2,x3,x4,x5⟩:=HX6.out;simp only at x0 x1 x2 x3 x4 x5;clear hm6 hf6 hc6 HNX HFTU;go_wp2_with fail
  refine (KL.out _ _ HM6.out).mono ?_
  rintro e w7 ⟨rfl,v,v',hm7,hu7⟩;have HM7:=hid hm7;have HU7:=hid (HU6.out.trans hu7);clear hm7 hu7 x0 x1 x2 x3 x4 x5 KL;go_wp2;go_ret;refine ⟨le,_,rfl,HU7.out,fun hl=>by rw [HV.out,if_pos hl],fun hl=>⟨?_,HM7.out⟩⟩
  rw [HV.out,if_neg (by simp [hl])];rw [show ((c6.rou rts v).acc acs v').r={ c6.r with routes:=rts,accept:=acs } from rfl,HC6.out])
theorem read_rm {w1:World} {c:RqC} {B0:Nat} (hb:RqB B0 c w1):RmIn B0 w1 w1.heap.size c (w1.alloc (.cells (rqCells c).toArray 37)):=by
 have A:=(Below.refl _ w1).alloc (Nat.le_refl _) (.cells (rqCells c).toArray 37);refine ⟨by unfold RowIs; rw [heap_alloc_new],A,Nat.le_refl _,hb.frm,hb.too,?_,?_,?_,⟨[],?_,by rw [hb.l.1]; rfl⟩,?_,?_,hb.sl⟩
 ·rw [hb.tp,hb.t]; exact OwnP.nil _ _
 ·rw [hb.th,hb.t]; exact OwnP.nil _ _
 ·rw [hb.eq,hb.e]; exact OwnP.nil _ _
 ·rw [hb.co]; exact OwnA.nil _ _
 ·rw [hb.ro,hb.l.2.1]; exact Own.nil _ _ _
 ·rw [hb.ac,hb.l.2.2]; exact Own.nil _ _ _
theorem RmIn.out {w1 wr:World} {c:RqC} {B0 b g:Nat} (H:RmIn B0 w1 b c wr) (hg:g < B0) (hB:B0≤w1.heap.size) (cs:Array Value):c.At (wr.setRow g cs):=by
 obtain ⟨ds,h1,h2⟩:=H.co;have lo:=H.lo;have g1:g < b+1:=by omega
 have fr:=H.frm.below H.b1;have to:=H.too.below H.b1;have ev:=OwnP.setRow H.ev g1 cs;exact ⟨(OwnP.setRow H.tp g1 _).parsAt,(OwnP.setRow H.th g1 _).parsAt,AdrC.Own.at (B:=B0) ⟨OwnP.setRow fr.1 hg _,OwnP.setRow fr.2.1 hg _,OwnP.setRow fr.2.2 hg _⟩,AdrC.Own.at (B:=B0) ⟨OwnP.setRow to.1 hg _,OwnP.setRow to.2.1 hg _,OwnP.setRow to.2.2 hg _⟩,⟨ev.parsAt,ev.cap⟩,⟨ds,(OwnA.setRow h1 g1 _).adrsAt,h2⟩,⟨_,Own.setR H.ro g1 _⟩,⟨_,Own.setR H.ac g1 _⟩⟩
set_option maxHeartbeats 8000000 in
set_option maxRecDepth 100000 in
theorem cread_any (m:Ms) (h:Value) (w:World) (hsm:SmallM 1048576 m) (hhl:m.headers.length≤1048576) (hat:HdrsAt w h m.headers) (hp1:(piecesV m routeK).length≤1048576) (hp2:(piecesV m acceptK).length≤1048576) :
  Calls Tryz.prog 13 #[msgV m h] w fun e w'=>ReadRes (rreadV m) w' e∧Below w.heap.size w w':=by
 have hz:=zeroR0;have hb0:=buildR0;obtain ⟨ao,cap,hh0⟩:=hat.form;subst hh0;have KB:=hid (fun w' (hb:Below w.heap.size w w')=>cbase_any m _ w' hsm hhl (hat.below hb));have KM:=hid (fun b c w1 W (h01:Below w.heap.size w w1) (H:RmIn (w.heap.size+1+1) w1 b c W) (hB:baseV m=(c.r,0))=>readMore_any m (.slice ao m.headers.length cap) b c w w1 W hsm hhl hat h01 H hB hp1 hp2);have HRB:Hid ((baseV m).2 ≠ 0 → rreadV m=(noR,(baseV m).2)):=fun hx=>by unfold rreadV; rw [if_pos hx]
 have N0:((w.alloc (objM m (.slice ao m.headers.length cap))).alloc (.cells rq0 37)).heap[w.heap.size+1]? = some (.cells rq0 37 (0,0)):=by
  rw [show w.heap.size+1=(w.alloc (objM m (.slice ao m.headers.length cap))).heap.size by simp,heap_alloc_new]
 have B0:Below w.heap.size w ((w.alloc (objM m (.slice ao m.headers.length cap))).alloc (.cells rq0 37)):=((Below.refl w.heap.size w).alloc (Nat.le_refl _) (objM m (.slice ao m.headers.length cap))).alloc (by simp) _;have X0:=(boxM_new w m (.slice ao m.headers.length cap)).below ((Below.refl _ (w.alloc (objM m (.slice ao m.headers.length cap)))).alloc (Nat.le_refl _) (.cells rq0 37)) (by simp);obtain ⟨W,hW⟩:∃ W,W=(w.alloc (objM m (.slice ao m.headers.length cap))).alloc (.cells rq0 37):=⟨_,rfl⟩
 have hWs:W.heap.size=w.heap.size+1+1:=by rw [hW]; simp
 have HXX:=hid X0;have HN0:=hid N0;have HB0:=hid B0;rw [← hW] at HXX HN0 HB0;clear N0 B0 hsm hhl hat;generalize rreadV m=R at KM HRB ⊢;generalize baseV m=bv at KB KM HRB;obtain ⟨br,bn⟩:=bv;obtain ⟨me,ta,st,re,hs,bo⟩:=m;unfold msgV at KB KM ⊢;unfold objM at hW X0;unfold BaseRes rqV at KB;simp only at KB KM HRB hW X0 ⊢;obtain ⟨x0,x1,x2,x3,x4,x5⟩:=X0;simp only at x0 x1 x2 x3 x4 x5;have HW:=hid hW;clear hW
 go_enter Tryz.func13,Tryz.ntmps13
 go_wp2_with fail
 rw [← HW.out];refine (KB.out _ HB0.out).mono ?_
 rintro e w1 ⟨⟨c,hcr,rfl,hrb⟩,hw1⟩;rw [hWs] at hrb;have HM:=hid (read_rm hrb);have hnw:(w1.alloc (.cells rq0 37)).heap[w1.heap.size]? = some (.cells rq0 37 (0,0)):=by rw [heap_alloc_new]
 have hlw:w.heap.size+1+1≤w1.heap.size:=by rw [← hWs]; exact hw1.size
 have hb1:=HB0.out.trans (hw1.mono HB0.out.size);have rs1:w1.heap[w.heap.size+1]? = some (.cells rq0 37 (0,0)):=by rw [hw1.block _ (by rw [hWs]; omega)]; exact HN0.out
 have A1:=(Below.refl _ w1).alloc (Nat.le_refl _) (.cells (rqCells c).toArray 37);have HX1:=hid ((HXX.out.below hw1 (by rw [hWs]; omega)).below A1 (by omega));have rs2:=Below.one A1 rs1;have hb2:=hb1.trans (A1.mono hb1.size);obtain ⟨CA,hCA⟩:∃ a,a=(rqCells c).toArray:=⟨_,rfl⟩
 rw [← hCA] at HM HX1 rs2 hb2 ⊢;have hone:CA.all (·.oneCell')=true:=by rw [hCA]; exact oneR hrb.sl
 have hinf:(Tryz.prog.info? 37).map (·.size)=some CA.size:=by rw [hCA]; exact infoR
 have hsz:rq0.size=CA.size:=by rw [hCA]; rfl
 clear x0 x1 x2 x3 x4 x5 HXX HN0 hw1 A1 hCA hrb KB HW HB0 rs1;by_cases hbn:bn=0
 case neg =>
  have HR:Hid (R=(noR,bn)):=HRB.out hbn;have hne:(bn != 0)=true:=by simpa using hbn
  have hld:=run_loadVar_row (P:=Tryz.prog) _ _ _ 37 _ _ _ rs2 Tryz.underlying37 rfl infoR0;clear KM HRB HM HX1;go_wp2_with (first
   | (refine wpList_store_row rfl 37 (.tmp 2) _ rfl (w.heap.size+1) rq0 rfl rfl _ _ rs2 infoR0 rfl oneR0 ?_; rw [setRow_self _ _ _ _ _ rs2])
   | (refine wpList_store_row rfl 37 (.tmp 4) _ rfl w1.heap.size CA rfl rfl _ _ hnw hinf hsz hone ?_; rw [World.setRow_alloc_new]))
  try simp only [Exit.inBlock,Exit.then]
  refine bodyPost_ret (v:=.tuple #[.agg rq0,.int .i64 bn]) (by simp [results,Tryz.results13,asAddr,hld]; try rfl) rfl ?_
  exact ⟨read_none HR.out,hb2⟩
 subst hbn;have KX:=hid (KM.out _ _ _ _ hb1 HM.out (by rw [hcr]));obtain ⟨x0,x1,x2,x3,x4,x5⟩:=HX1.out;simp only at x0 x1 x2 x3 x4 x5;clear KM HRB;go_wp2_with (first
  | (refine wpList_store_row rfl 37 (.tmp 4) _ rfl w1.heap.size CA rfl rfl _ _ hnw hinf hsz hone ?_; rw [World.setRow_alloc_new]))
 refine KX.out.mono ?_
 rintro e w3 ⟨x,c3,rfl,hu3,hx1,hx2⟩;have rs3:=hu3.one rs2 (by omega);have hb3:=hu3.outer0 hb2 (by omega);have HX1':=hid hx1;have HX2':=hid hx2;have HU3:=hid hu3;clear x0 x1 x2 x3 x4 x5 HX1 KX hx1 hx2 rs2 HM hu3;by_cases hx:x=0
 case neg =>
  have HR:=hid (HX1'.out hx);have hne:(x != 0)=true:=by simpa using hx
  have hld:=run_loadVar_row (P:=Tryz.prog) _ _ _ 37 _ _ _ rs3 Tryz.underlying37 rfl infoR0;clear HX1' HX2';go_wp2_with (first
   | (refine wpList_store_row rfl 37 (.tmp 2) _ rfl (w.heap.size+1) rq0 rfl rfl _ _ rs3 infoR0 rfl oneR0 ?_; rw [setRow_self _ _ _ _ _ rs3]))
  try simp only [Exit.inBlock,Exit.then]
  refine bodyPost_ret (v:=.tuple #[.agg rq0,.int .i64 x]) (by simp [results,Tryz.results13,asAddr,hld]; try rfl) rfl ?_
  exact ⟨read_none HR.out,hb3⟩
 subst hx;obtain ⟨hR,hm3⟩:=HX2'.out rfl;have hlo:_=_:=hm3.row;unfold RowIs at hlo;have hone3:=oneR hm3.sl;have hinf3:(Tryz.prog.info? 37).map (·.size)=some (rqCells c3).toArray.size:=infoR;have HO:Hid ((ReadRes R (w3.setRow (w.heap.size+1) (rqCells c3).toArray) (.returned (.tuple #[.agg (rqCells c3).toArray,.int .i64 0]))∧Below w.heap.size w (w3.setRow (w.heap.size+1) (rqCells c3).toArray))∧(w3.setRow (w.heap.size+1) (rqCells c3).toArray).heap[w.heap.size+1]? = some (.cells (rqCells c3).toArray 37 (0,0))) :=
  show _∧_ from ⟨⟨⟨c3,by rw [hR],by rw [hR]; rfl,hm3.out (by omega) hlw _,hm3.sl⟩,below_setRow hb3 (by omega) _⟩,setRow_heap _ _ _ _ _ _ rs3⟩
 generalize (rqCells c3).toArray=CB at hlo hone3 HO hinf3;have hsz3:rq0.size=CB.size:=by have:=infoR0; rw [hinf3] at this; injection this with this; exact this.symm
 clear HX1' HX2' HU3 hR hm3 hb3;go_wp2_with (first
  | (refine wpList_load_row rfl 37 (.tmp 4) rfl w1.heap.size rfl _ _ _ _ hlo Tryz.underlying37 rfl hinf3 ?_)
  | (refine wpList_store_row rfl 37 (.tmp 2) _ rfl (w.heap.size+1) CB rfl rfl _ _ rs3 hinf3 hsz3 hone3 ?_))
 obtain ⟨HO1,HO2⟩:=HO.out;generalize World.setRow _ _ _=wE at HO1 HO2 ⊢;have hld:=run_loadVar_row (P:=Tryz.prog) _ _ _ 37 _ _ _ HO2 Tryz.underlying37 rfl hinf3
 try simp only [Exit.inBlock,Exit.then]
 refine bodyPost_ret (v:=.tuple #[.agg CB,.int .i64 0]) (by simp [results,Tryz.results13,asAddr,hld]; try rfl) rfl ?_
 exact HO1
theorem code_answer (m:Ms) (h:Value) (status:Int) (tag:List UInt8) (hm:Value) (more:List Hdr) (w:World) (hsm:SmallM 1048576 m) (hhl:m.headers.length≤1048576) (hat:HdrsAt w h m.headers) (h1:status≤9223372036854775807) (h0:-9223372036854775808≤status) (htg:tag.length≤1048576) (hmo:HdrsAt w hm more) (hms:SmallH 1048576 more) (hq:sumQ m≤6000) (hq2:sumH more≤6000) :
  Calls Tryz.prog 15 #[msgV m h,.int .i64 status,.string ⟨tag.toArray⟩,hm] w fun e w'=>e=.returned (.tuple #[.string ⟨(answerV m status tag more).1.toArray⟩,.int .i64 (answerV m status tag more).2])∧Below w.heap.size w w' :=
 canswer_any m h status tag hm more w hsm (by have:=sumH_count m.headers; unfold sumQ at hq; omega) hat h1 h0 htg hmo hms
theorem code_read (m:Ms) (h:Value) (w:World) (hsm:SmallM 1048576 m) (hhl:m.headers.length≤1048576) (hat:HdrsAt w h m.headers) (hq:sumQ m≤6000):Calls Tryz.prog 13 #[msgV m h] w fun e w'=>ReadRes (rreadV m) w' e∧Below w.heap.size w w' :=
 cread_any m h w hsm hhl hat (pieces_few hq _) (pieces_few hq _)
theorem awake10_any (w:World):Calls Tryz.prog 9 #[] w fun e w'=>e=.returned (.bool true)∧Below w.heap.size w w' :=
 awake10_of code_answer code_read (fun n w h1 h0=>creason_any n w h1 h0) w
end Go.Proofs.YtiogedceommcoaaGreatDoor
