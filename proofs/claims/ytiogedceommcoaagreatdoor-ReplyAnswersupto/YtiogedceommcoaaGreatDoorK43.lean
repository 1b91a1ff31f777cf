/-
  RAnswer, WReplyAnswers0, OpenHdrs, WReplyAnswers.
-/
import Derived.Test.YtiogedceommcoaaGreatDoorK29
import Derived.Test.YtiogedceommcoaaGreatDoorK41
import Derived.Test.YtiogedceommcoaaGreatDoorK31
set_option linter.unusedVariables false
set_option linter.unusedSimpArgs false
set_option maxRecDepth 20000
namespace Go.Proofs.YtiogedceommcoaaGreatDoor
open Go.RowKit Sc
set_option maxHeartbeats 8000000 in
set_option maxRecDepth 100000 in
theorem ranswer_any (m:Ms) (h:Value) (status:Int) (tag:List UInt8) (hm:Value) (more:List Hdr) (w:World) (hsm:SmallM 1048576 m) (hhl:m.headers.length≤1048576) (hat:HdrsAt w h m.headers) (hst1:status≤9223372036854775807) (htg:tag.length≤1048576)
  (hmo:HdrsAt w hm more) (hms:SmallH 1048576 more) :
  Calls Tryz.prog 16 #[msgV m h,.int .i64 status,.string ⟨tag.toArray⟩,hm] w fun e w'=>e=.returned (.tuple #[.string ⟨(answerV m status tag more).1.toArray⟩,.int .i64 (answerV m status tag more).2])∧Below w.heap.size w w':=by
 obtain ⟨i0,hi,hz0,hz1,hz2⟩:=info_parts infoHdr;have hz:=zeroR0;have hge:=boxM_new w m h;have hb0:Below w.heap.size w (w.alloc (objM m h)):=(Below.refl _ w).alloc (Nat.le_refl _) _;have hl0:=alloc_lt w (objM m h);have HG:=hid hge;have HB0:=hid hb0;obtain ⟨ao,cap,hh0⟩:=hat.form;subst hh0;have hsm2:SmallM 140737488355328 m:=hsm.le (by omega);have KB:=hid (fun w' (hb:Below w.heap.size w w')=>rbase_any m _ w' hsm hhl (hat.below hb));have KA:=hid (fun w' (hb:Below w.heap.size w w')=>rall_any m _ rViaK w' hsm2 (by omega) (by decide) (hat.below hb));have KO:=hid (fun nm (hn:nm.length≤140737488355328) w' (hb:Below w.heap.size w w')=>rone_any m _ nm w' hsm2 (by omega) hn (hat.below hb));have KT:=hid (fun w'=>reftoken_list tag w' (by omega));have KR:=hid (fun w'=>rreason_any status w' hst1);have HMO:=hid (fun w' (hb:Below w.heap.size w w')=>hmo.below hb);have hvn:(allV m rViaK).length≤1048576:=by unfold allV; rw [List.length_map]; exact Nat.le_trans (List.length_filter_le _ _) hhl
 have HVS:=hid (all_small hsm rViaK);have HOS:=hid (fun nm=>one_small hsm nm);have hmn:=hms.1;have HMS:=hid hms.2;have HRS:Hid ((reasonV status).length≤1048576):=reason_len status hst1;obtain ⟨bn,E1⟩:∃ b,(baseV m).2=b:=⟨_,rfl⟩
 have HV:Hid (answerV m status tag more=if bn ≠ 0 then ([],bn) else if status < 100∨699 < status∨(tag ≠ []∧tokenB tag=false) then ([],1) else printM ⟨[],[],status,reasonV status,viaH (allV m rViaK)++fourH m tag++more,[]⟩):=show _=_ by
  unfold answerV;rw [E1]
  rfl
 obtain ⟨v1,o1,E2⟩:∃ a b,oneV m fromK=(a,b):=⟨_,_,rfl⟩
 obtain ⟨v2,o2,E3⟩:∃ a b,oneV m toK=(a,b):=⟨_,_,rfl⟩
 obtain ⟨v3,o3,E4⟩:∃ a b,oneV m callK=(a,b):=⟨_,_,rfl⟩
 obtain ⟨v4,o4,E5⟩:∃ a b,oneV m cseqK=(a,b):=⟨_,_,rfl⟩
 have KO1:=hid (KO.out fromK (by decide));have KO2:=hid (KO.out toK (by decide));have KO3:=hid (KO.out callK (by decide));have KO4:=hid (KO.out cseqK (by decide));have hl2:=HOS.out toK;have hl1:=HOS.out fromK;have hl3:=HOS.out callK;have hl4:=HOS.out cseqK;rw [E2] at KO1 hl1;rw [E3] at KO2 hl2;rw [E4] at KO3 hl3;rw [E5] at KO4 hl4;obtain ⟨tt,ETT⟩:∃ t,(baseV m).1.toTag=t:=⟨_,rfl⟩
 obtain ⟨tv,ETV⟩:∃ t,t=if tt=[]∧tag ≠ [] then v2++([59]++tagK++[61]++tag) else v2:=⟨_,rfl⟩
 have hfour:fourH m tag=[⟨fromK,v1⟩,⟨toK,tv⟩,⟨callK,v3⟩,⟨cseqK,v4⟩]:=by
  unfold fourH toV;rw [E2,E3,E4,E5,ETT,ETV]
 rw [hfour] at HV;have HTV:=hid ETV;simp only at KO1 KO2 KO3 KO4 hl1 hl2 hl3 hl4;have hltv:tv.length≤4194304:=by
  rw [ETV]
  split
  ·simp [tagK]; omega
  ·omega
 have HTT:=hid ETT;have HE1:=hid E1;clear E1 E2 E3 E4 E5 ETT ETV hfour KO HOS hsm hsm2 hat hge hb0 hmo hms;generalize answerV m status tag more=R at HV ⊢;generalize allV m rViaK=vs at KA HV hvn HVS;generalize baseV m=bv at KB HTT HE1;obtain ⟨br,bn'⟩:=bv;simp only at HTT HE1;have hbn':=HE1.out;subst hbn';obtain ⟨me,ta,st,re,hs,bo⟩:=m;simp only at hhl;unfold msgV at KB KA KO1 KO2 KO3 KO4 ⊢;unfold objM at HG HB0 hl0;unfold rViaK at KA;unfold fromK at KO1;unfold toK at KO2;unfold callK at KO3;unfold cseqK at KO4;simp only at KB KA KO1 KO2 KO3 KO4 HG HB0 hl0 ⊢;obtain ⟨ma,mc,hme⟩:=(HMO.out w (Below.refl _ _)).form;subst hme;obtain ⟨x0,x1,x2,x3,x4,x5⟩:=HG.out;simp only at x0 x1 x2 x3 x4 x5;unfold BaseRes rqV at KB;simp only at KB
 go_enter Tryz.func16,Tryz.ntmps16
 go_wp2_with fail
 refine (KB.out _ HB0.out).mono ?_
 rintro e w1 ⟨⟨c,hcr,rfl,hrb⟩,hw1⟩;have hnw:(w1.alloc (.cells rq0 37)).heap[w1.heap.size]? = some (.cells rq0 37 (0,0)):=by rw [heap_alloc_new]
 have hb1:=HB0.out.trans (hw1.mono HB0.out.size);have A1:=(Below.refl _ w1).alloc (Nat.le_refl _) (.cells (rqCells c).toArray 37);have hlw1:=Nat.lt_of_lt_of_le hl0 hw1.size;have H1:Hid (AnIn w w1 ⟨me,ta,st,re,hs,bo⟩ (.slice ao hs.length cap) (rqCells c).toArray (w1.alloc (.cells (rqCells c).toArray 37))):=⟨(HG.out.below hw1 hl0).below A1 hlw1,by rw [heap_alloc_new],hb1.trans (A1.mono hb1.size),hlw1,by simp⟩
 obtain ⟨CA,hCA⟩:∃ a,a=(rqCells c).toArray:=⟨_,rfl⟩
 rw [← hCA] at H1 ⊢;have hone:CA.all (·.oneCell')=true:=by rw [hCA]; exact oneR hrb.sl
 have hinf:(Tryz.prog.info? 37).map (·.size)=some CA.size:=by rw [hCA]; exact infoR
 have hsz:rq0.size=CA.size:=by rw [hCA]; rfl
 have h26:CA[26]? = some (.string ⟨tt.toArray⟩):=by rw [hCA,← HTT.out,← hcr]; rfl
 clear x0 x1 x2 x3 x4 x5 HG HB0 hl0 hw1 hb1 A1 hlw1 KB hCA hrb HTT HE1 hcr;by_cases hbn:bn'=0
 case neg =>
  have HR:Hid (R=([],bn')):=show _=_ by rw [HV.out,if_pos hbn]
  have hne:(bn' != 0)=true:=by simpa using hbn
  have hbE:=H1.out.b;clear HV KA KO1 KO2 KO3 KO4 KT KR H1;go_wp2_with (refine wpList_store_row rfl 37 (.tmp 10) _ rfl w1.heap.size CA rfl rfl _ _ hnw hinf hsz hone ?_; rw [World.setRow_alloc_new])
  go_ret2;exact ⟨by rw [HR.out]; rfl,hbE⟩
 subst hbn;rw [if_neg (by simp)] at HV;by_cases hs1:status < 100
 case pos =>
  have HR:Hid (R=([],1)):=show _=_ by rw [HV.out,if_pos (Or.inl hs1)]
  have hbE:=H1.out.b;clear HV KA KO1 KO2 KO3 KO4 KT KR H1;go_wp2_with (refine wpList_store_row rfl 37 (.tmp 10) _ rfl w1.heap.size CA rfl rfl _ _ hnw hinf hsz hone ?_; rw [World.setRow_alloc_new])
  go_ret2;exact ⟨by rw [HR.out]; rfl,hbE⟩
 by_cases hs2:699 < status
 case pos =>
  have HR:Hid (R=([],1)):=show _=_ by rw [HV.out,if_pos (Or.inr (Or.inl hs2))]
  have hbE:=H1.out.b;clear HV KA KO1 KO2 KO3 KO4 KT KR H1;go_wp2_with (refine wpList_store_row rfl 37 (.tmp 10) _ rfl w1.heap.size CA rfl rfl _ _ hnw hinf hsz hone ?_; rw [World.setRow_alloc_new])
  go_ret2;exact ⟨by rw [HR.out]; rfl,hbE⟩
 by_cases htn:tag=[]
 ·subst htn;rw [if_neg (by rintro (h | h | h); exact hs1 h; exact hs2 h; exact h.1 rfl)] at HV;clear KT;obtain ⟨x0,x1,x2,x3,x4,x5⟩:=H1.out.bx;simp only at x0 x1 x2 x3 x4 x5;go_wp2_with (first | (refine wpList_store_row rfl 37 (.tmp 10) _ rfl w1.heap.size CA rfl rfl _ _ hnw hinf hsz hone ?_; rw [World.setRow_alloc_new]))
  refine (KA.out _ H1.out.b).mono ?_
  rintro e w2 ⟨v0,rfl,hov,hw2⟩;have H2:=hid (H1.out.below H1.out.lt hw2);obtain ⟨va,vc,hve,hvc⟩:=hov.txts;subst hve;obtain ⟨n,hn⟩:∃ n,n=vs.length:=⟨_,rfl⟩
  rw [← hn] at hvn ⊢;have HN:=hid hn;have HC:=hid hvc;clear x0 x1 x2 x3 x4 x5 hov hw2 hvc H1 KA hnw hone hinf hsz hn;go_wp2
  go_loopw [12,14] (fun x i wr=>∃ k:Nat,k≤n∧i=.int .i64 k∧Hid (OwnH wr w2.heap.size x (viaH (vs.take k)))∧Hid (Below w2.heap.size w2 wr)) (fun _ i _=>n - (intOf i).toNat)
  case atStart=>exact ⟨0,by omega,rfl,hid (OwnH.nil _ _),hid (Below.refl _ _)⟩
  case round =>
   obtain ⟨k,hkn,rfl,HO,HB⟩:=hrel;obtain ⟨xa,xc,hxe⟩:=(OwnH.hdrsAt HO.out).form;have hvl:(viaH (vs.take k)).length≤1048576:=by unfold viaH; simp; omega
   by_cases hlt:k < n
   ·have hkl:k < vs.length:=by have:=HN.out; omega
    obtain ⟨a,hao,hab,hcell⟩:=HC.out k hkl;have hcell2:=cell_below HB.out (by rw [add_block]; exact hab) hcell;have HST:=hid (viaH_take hkl);have HVA:=hid hao;subst hao;generalize vs[k]=s at hcell2 HST;subst hxe;have hbs:=HB.out.size;have HNV:=hid (new_hdr (wr.alloc (.cells #[.string ⟨#[86,105,97]⟩,.string ⟨s.toArray⟩] 52)) ⟨[86,105,97],s⟩);have HNV2:=hid (new_hdr wr ⟨[86,105,97],s⟩);have HOX:=hid (fun o=>OwnH.alloc HO.out o);have HBX:=hid (fun o=>HB.out.alloc HB.out.size o);clear hcell hab;go_wp2_with (at_builtin; refine wp_appH _ rfl (.tmp 50) (.tmp 56) 22 rfl w2.heap.size i0 _ Tryz.underlying22 hi hz0 hz1 hz2 rfl _ (viaH (vs.take k)) rfl (HOX.out _) ⟨_,0,none⟩ 1 ⟨[86,105,97],s⟩ rfl (by exact HNV2.out _) (by omega) w2 (HBX.out _) (by simp; omega) ?_; intro v5 w5 hown5 hb5 _ hB5)
    have HO5:Hid (OwnH w5 w2.heap.size v5 (viaH (vs.take (k+1)))):=show OwnH _ _ _ _ by rw [HST.out]; exact hown5
    clear hown5;go_wp2;go_roundw
    case rel=>exact ⟨k+1,by omega,by go_num,HO5,hid hb5⟩
    case measure=>simp [intOf]; omega
   ·have hvk:vs.take k=vs:=List.take_of_length_le (by have:=HN.out; omega);rw [hvk] at HO hvl hxe;subst hxe;have hAN:=(Below.refl _ wr).alloc (Nat.le_refl _) (.cells ansNames 9);have HO2:=hid (OwnH.below HO.out hAN);have HB2:=hid (HB.out.trans (hAN.mono HB.out.size));have hNN:=hid (heap_alloc_new wr (.cells ansNames 9));have hgeN:w2.heap.size≤wr.heap.size:=HB.out.size;have hltN:=H2.out.lt;clear HO HB hAN;go_wp2;generalize wr.heap.size=bN at hNN hgeN ⊢
    go_loopw [12,16] (fun x i w'=>∃ k:Nat,k≤4∧i=.int .i64 k∧Hid (OwnH w' w2.heap.size x (viaH vs++[⟨fromK,v1⟩,⟨toK,tv⟩,⟨callK,v3⟩,⟨cseqK,v4⟩].take k))∧Hid (w'.heap[bN]? = some (.cells ansNames 9 (0,0)))∧Hid (Below w2.heap.size w2 w')) (fun _ i _=>4 - (intOf i).toNat)
    case atStart=>exact ⟨0,by omega,rfl,by rw [List.take_zero,List.append_nil]; exact HO2,hNN,HB2⟩
    case round =>
     clear HO2 HB2 hNN;obtain ⟨j,hj,rfl,HO,HNM,HB⟩:=hrel;obtain ⟨LK,hLK⟩:∃ l,viaH vs++([⟨fromK,v1⟩,⟨toK,tv⟩,⟨callK,v3⟩,⟨cseqK,v4⟩]:List Hdr).take j=l:=⟨_,rfl⟩
     rw [hLK] at HO;have hlk:LK.length≤1048580:=by rw [← hLK,List.length_append,List.length_take]; simp only [List.length_cons,List.length_nil]; omega
     have HLK:=hid hLK;clear hLK;have HX:=hid ((OwnH.hdrsAt HO.out).form);obtain ⟨xa,xc,hxe⟩:=HX.out;have HD:=hid ((H2.out.below hltN HB.out).below (H2.out.below hltN HB.out).lt (Below.refl _ wr).drew)
     rcases (show j=0∨j=1∨j=2∨j=3∨j=4 by omega) with rfl | rfl | rfl | rfl | rfl
     ·have c1:=arr_cell (w:=wr.drew) HNM.out (k:=0) (v:=.string ⟨#[70,114,111,109]⟩) rfl;obtain ⟨x0,x1,x2,x3,x4,x5⟩:=HD.out.bx;simp only at x0 x1 x2 x3 x4 x5;have OD:=hid (OwnH.below HO.out (Below.refl _ wr).drew);have BD:=hid (HB.out.trans ((Below.refl _ wr).drew.mono HB.out.size));have ND:Hid (wr.drew.heap[bN]? = some (.cells ansNames 9 (0,0))):=HNM.out;subst hxe;clear HO HNM HB HX;go_wp2
      go_region_law (go_simp; go_at_call 21; refine (KO1.out _ HD.out.b).mono ?_; rintro e w3 ⟨rfl,hw3⟩)
      all_goals (
       have O3:=hid (OwnH.below OD.out hw3);have B3:=hid (BD.out.trans (hw3.mono BD.out.size));have N3:Hid (w3.heap[bN]? = some (.cells ansNames 9 (0,0))):=show _=_ by rw [hw3.block _ (Array.getElem?_eq_some_iff.1 ND.out).1]; exact ND.out
       have hrow:=HD.out.row;have hlt3:=HD.out.lt;have hrow3:=hid ((hw3.block _ hlt3).trans hrow);have c3:=arr_cell N3.out (k:=0) (v:=.string ⟨#[70,114,111,109]⟩) rfl;clear x0 x1 x2 x3 x4 x5 c1 OD BD ND hw3 HD hrow hlt3;have HNV:=hid (new_hdr w3 ⟨[70,114,111,109],v1⟩);have HOX:=hid (fun o=>OwnH.alloc O3.out o);have HBX:=hid (fun o=>B3.out.alloc B3.out.size o);have hbs:=B3.out.size;go_wp2_with (at_builtin; refine wp_appH _ rfl (.tmp 87) (.tmp 94) 22 rfl w2.heap.size i0 _ Tryz.underlying22 hi hz0 hz1 hz2 rfl _ LK rfl (HOX.out _) ⟨_,0,none⟩ 1 ⟨[70,114,111,109],v1⟩ rfl (by exact HNV.out _) (by omega) w2 (HBX.out _) (by simp; omega) ?_; intro v5 w5 hown5 hb5 hg5 hB5)
       have HN5:Hid (w5.heap[bN]? = some (.cells ansNames 9 (0,0))):=show _=_ by
        rw [hg5.block _ (Nat.lt_of_lt_of_le (Array.getElem?_eq_some_iff.1 N3.out).1 (by simp)) (fun e=>ownH_ne O3.out N3.out e.symm),Below.heap_alloc _ _ _ (Array.getElem?_eq_some_iff.1 N3.out).1];exact N3.out
       have HO5:Hid (OwnH w5 w2.heap.size v5 (viaH vs++[⟨fromK,v1⟩,⟨toK,tv⟩,⟨callK,v3⟩,⟨cseqK,v4⟩].take 1)):=show OwnH _ _ _ _ by
        rw [← HLK.out,List.append_assoc] at hown5; exact hown5
       clear hown5 hg5;go_wp2;go_roundw
       case rel=>exact ⟨1,by omega,by go_num,HO5,HN5,hid hb5⟩
       case measure=>simp [intOf])
     ·have c1:=arr_cell (w:=wr.drew) HNM.out (k:=1) (v:=.string ⟨#[84,111]⟩) rfl;obtain ⟨x0,x1,x2,x3,x4,x5⟩:=HD.out.bx;simp only at x0 x1 x2 x3 x4 x5;have OD:=hid (OwnH.below HO.out (Below.refl _ wr).drew);have BD:=hid (HB.out.trans ((Below.refl _ wr).drew.mono HB.out.size));have ND:Hid (wr.drew.heap[bN]? = some (.cells ansNames 9 (0,0))):=HNM.out;subst hxe;clear HO HNM HB HX;go_wp2
      go_region_law (go_simp; go_at_call 21; refine (KO2.out _ HD.out.b).mono ?_; rintro e w3 ⟨rfl,hw3⟩)
      all_goals (
       have O3:=hid (OwnH.below OD.out hw3);have B3:=hid (BD.out.trans (hw3.mono BD.out.size));have N3:Hid (w3.heap[bN]? = some (.cells ansNames 9 (0,0))):=show _=_ by rw [hw3.block _ (Array.getElem?_eq_some_iff.1 ND.out).1]; exact ND.out
       have hrow:=HD.out.row;have hlt3:=HD.out.lt;have hrow3:=hid ((hw3.block _ hlt3).trans hrow);have c3:=arr_cell N3.out (k:=1) (v:=.string ⟨#[84,111]⟩) rfl;clear x0 x1 x2 x3 x4 x5 c1 OD BD ND hw3 HD hrow hlt3;have y26:=arr_cell hrow3.out h26;have htv:tv=v2:=by rw [HTV.out,if_neg (by simp)]
       cases htt:tt with
       | nil =>
        subst htt;have HNV:=hid (new_hdr w3 ⟨[84,111],v2⟩);have HOX:=hid (fun o=>OwnH.alloc O3.out o);have HBX:=hid (fun o=>B3.out.alloc B3.out.size o);have hbs:=B3.out.size;go_wp2_with (at_builtin; refine wp_appH _ rfl (.tmp 87) (.tmp 94) 22 rfl w2.heap.size i0 _ Tryz.underlying22 hi hz0 hz1 hz2 rfl _ LK rfl (HOX.out _) ⟨_,0,none⟩ 1 ⟨[84,111],v2⟩ rfl (by exact HNV.out _) (by omega) w2 (HBX.out _) (by simp; omega) ?_; intro v5 w5 hown5 hb5 hg5 hB5)
        have HN5:Hid (w5.heap[bN]? = some (.cells ansNames 9 (0,0))):=show _=_ by
         rw [hg5.block _ (Nat.lt_of_lt_of_le (Array.getElem?_eq_some_iff.1 N3.out).1 (by simp)) (fun e=>ownH_ne O3.out N3.out e.symm),Below.heap_alloc _ _ _ (Array.getElem?_eq_some_iff.1 N3.out).1];exact N3.out
        have HO5:Hid (OwnH w5 w2.heap.size v5 (viaH vs++[⟨fromK,v1⟩,⟨toK,tv⟩,⟨callK,v3⟩,⟨cseqK,v4⟩].take 2)):=show OwnH _ _ _ _ by
         rw [← HLK.out,List.append_assoc] at hown5; rw [htv]; exact hown5
        clear hown5 hg5;go_wp2;go_roundw
        case rel=>exact ⟨2,by omega,by go_num,HO5,HN5,hid hb5⟩
        case measure=>simp [intOf]
       | cons t0 ts =>
        have hte:((t0 :: ts)==([]:List UInt8))=false:=rfl;rw [htt] at y26;have HNV:=hid (new_hdr w3 ⟨[84,111],v2⟩);have HOX:=hid (fun o=>OwnH.alloc O3.out o);have HBX:=hid (fun o=>B3.out.alloc B3.out.size o);have hbs:=B3.out.size;go_wp2_with (at_builtin; refine wp_appH _ rfl (.tmp 87) (.tmp 94) 22 rfl w2.heap.size i0 _ Tryz.underlying22 hi hz0 hz1 hz2 rfl _ LK rfl (HOX.out _) ⟨_,0,none⟩ 1 ⟨[84,111],v2⟩ rfl (by exact HNV.out _) (by omega) w2 (HBX.out _) (by simp; omega) ?_; intro v5 w5 hown5 hb5 hg5 hB5)
        have HN5:Hid (w5.heap[bN]? = some (.cells ansNames 9 (0,0))):=show _=_ by
         rw [hg5.block _ (Nat.lt_of_lt_of_le (Array.getElem?_eq_some_iff.1 N3.out).1 (by simp)) (fun e=>ownH_ne O3.out N3.out e.symm),Below.heap_alloc _ _ _ (Array.getElem?_eq_some_iff.1 N3.out).1];exact N3.out
        have HO5:Hid (OwnH w5 w2.heap.size v5 (viaH vs++[⟨fromK,v1⟩,⟨toK,tv⟩,⟨callK,v3⟩,⟨cseqK,v4⟩].take 2)):=show OwnH _ _ _ _ by
         rw [← HLK.out,List.append_assoc] at hown5; rw [htv]; exact hown5
        clear hown5 hg5;go_wp2;go_roundw
        case rel=>exact ⟨2,by omega,by go_num,HO5,HN5,hid hb5⟩
        case measure=>simp [intOf])
     ·have c1:=arr_cell (w:=wr.drew) HNM.out (k:=2) (v:=.string ⟨#[67,97,108,108,45,73,68]⟩) rfl;obtain ⟨x0,x1,x2,x3,x4,x5⟩:=HD.out.bx;simp only at x0 x1 x2 x3 x4 x5;have OD:=hid (OwnH.below HO.out (Below.refl _ wr).drew);have BD:=hid (HB.out.trans ((Below.refl _ wr).drew.mono HB.out.size));have ND:Hid (wr.drew.heap[bN]? = some (.cells ansNames 9 (0,0))):=HNM.out;subst hxe;clear HO HNM HB HX;go_wp2
      go_region_law (go_simp; go_at_call 21; refine (KO3.out _ HD.out.b).mono ?_; rintro e w3 ⟨rfl,hw3⟩)
      all_goals (
       have O3:=hid (OwnH.below OD.out hw3);have B3:=hid (BD.out.trans (hw3.mono BD.out.size));have N3:Hid (w3.heap[bN]? = some (.cells ansNames 9 (0,0))):=show _=_ by rw [hw3.block _ (Array.getElem?_eq_some_iff.1 ND.out).1]; exact ND.out
       have hrow:=HD.out.row;have hlt3:=HD.out.lt;have hrow3:=hid ((hw3.block _ hlt3).trans hrow);have c3:=arr_cell N3.out (k:=2) (v:=.string ⟨#[67,97,108,108,45,73,68]⟩) rfl;clear x0 x1 x2 x3 x4 x5 c1 OD BD ND hw3 HD hrow hlt3;have HNV:=hid (new_hdr w3 ⟨[67,97,108,108,45,73,68],v3⟩);have HOX:=hid (fun o=>OwnH.alloc O3.out o);have HBX:=hid (fun o=>B3.out.alloc B3.out.size o);have hbs:=B3.out.size;go_wp2_with (at_builtin; refine wp_appH _ rfl (.tmp 87) (.tmp 94) 22 rfl w2.heap.size i0 _ Tryz.underlying22 hi hz0 hz1 hz2 rfl _ LK rfl (HOX.out _) ⟨_,0,none⟩ 1 ⟨[67,97,108,108,45,73,68],v3⟩ rfl (by exact HNV.out _) (by omega) w2 (HBX.out _) (by simp; omega) ?_; intro v5 w5 hown5 hb5 hg5 hB5)
       have HN5:Hid (w5.heap[bN]? = some (.cells ansNames 9 (0,0))):=show _=_ by
        rw [hg5.block _ (Nat.lt_of_lt_of_le (Array.getElem?_eq_some_iff.1 N3.out).1 (by simp)) (fun e=>ownH_ne O3.out N3.out e.symm),Below.heap_alloc _ _ _ (Array.getElem?_eq_some_iff.1 N3.out).1];exact N3.out
       have HO5:Hid (OwnH w5 w2.heap.size v5 (viaH vs++[⟨fromK,v1⟩,⟨toK,tv⟩,⟨callK,v3⟩,⟨cseqK,v4⟩].take 3)):=show OwnH _ _ _ _ by
        rw [← HLK.out,List.append_assoc] at hown5; exact hown5
       clear hown5 hg5;go_wp2;go_roundw
       case rel=>exact ⟨3,by omega,by go_num,HO5,HN5,hid hb5⟩
       case measure=>simp [intOf])
     ·have c1:=arr_cell (w:=wr.drew) HNM.out (k:=3) (v:=.string ⟨#[67,83,101,113]⟩) rfl;obtain ⟨x0,x1,x2,x3,x4,x5⟩:=HD.out.bx;simp only at x0 x1 x2 x3 x4 x5;have OD:=hid (OwnH.below HO.out (Below.refl _ wr).drew);have BD:=hid (HB.out.trans ((Below.refl _ wr).drew.mono HB.out.size));have ND:Hid (wr.drew.heap[bN]? = some (.cells ansNames 9 (0,0))):=HNM.out;subst hxe;clear HO HNM HB HX;go_wp2
      go_region_law (go_simp; go_at_call 21; refine (KO4.out _ HD.out.b).mono ?_; rintro e w3 ⟨rfl,hw3⟩)
      all_goals (
       have O3:=hid (OwnH.below OD.out hw3);have B3:=hid (BD.out.trans (hw3.mono BD.out.size));have N3:Hid (w3.heap[bN]? = some (.cells ansNames 9 (0,0))):=show _=_ by rw [hw3.block _ (Array.getElem?_eq_some_iff.1 ND.out).1]; exact ND.out
       have hrow:=HD.out.row;have hlt3:=HD.out.lt;have hrow3:=hid ((hw3.block _ hlt3).trans hrow);have c3:=arr_cell N3.out (k:=3) (v:=.string ⟨#[67,83,101,113]⟩) rfl;clear x0 x1 x2 x3 x4 x5 c1 OD BD ND hw3 HD hrow hlt3;have HNV:=hid (new_hdr w3 ⟨[67,83,101,113],v4⟩);have HOX:=hid (fun o=>OwnH.alloc O3.out o);have HBX:=hid (fun o=>B3.out.alloc B3.out.size o);have hbs:=B3.out.size;go_wp2_with (at_builtin; refine wp_appH _ rfl (.tmp 87) (.tmp 94) 22 rfl w2.heap.size i0 _ Tryz.underlying22 hi hz0 hz1 hz2 rfl _ LK rfl (HOX.out _) ⟨_,0,none⟩ 1 ⟨[67,83,101,113],v4⟩ rfl (by exact HNV.out _) (by omega) w2 (HBX.out _) (by simp; omega) ?_; intro v5 w5 hown5 hb5 hg5 hB5)
       have HN5:Hid (w5.heap[bN]? = some (.cells ansNames 9 (0,0))):=show _=_ by
        rw [hg5.block _ (Nat.lt_of_lt_of_le (Array.getElem?_eq_some_iff.1 N3.out).1 (by simp)) (fun e=>ownH_ne O3.out N3.out e.symm),Below.heap_alloc _ _ _ (Array.getElem?_eq_some_iff.1 N3.out).1];exact N3.out
       have HO5:Hid (OwnH w5 w2.heap.size v5 (viaH vs++[⟨fromK,v1⟩,⟨toK,tv⟩,⟨callK,v3⟩,⟨cseqK,v4⟩].take 4)):=show OwnH _ _ _ _ by
        rw [← HLK.out,List.append_assoc] at hown5; exact hown5
       clear hown5 hg5;go_wp2;go_roundw
       case rel=>exact ⟨4,by omega,by go_num,HO5,HN5,hid hb5⟩
       case measure=>simp [intOf])
     ·subst hxe;have HMO2:=hid (HMO.out wr (H2.out.below hltN HB.out).b);have hbs:=HB.out.size;clear HD HX HNM;go_wp2_with (at_builtin; refine wp_appHs _ rfl (.tmp 96) (.tmp 97) 22 rfl w2.heap.size i0 _ Tryz.underlying22 hi hz0 hz1 hz2 rfl _ LK rfl HO.out _ more rfl HMO2.out (by omega) w2 HB.out hbs ?_; intro v5 w5 hown5 hb5 hB5)
      have hLK4:viaH vs++[⟨fromK,v1⟩,⟨toK,tv⟩,⟨callK,v3⟩,⟨cseqK,v4⟩]=LK:=HLK.out;obtain ⟨LM,hLM⟩:∃ l,LK++more=l:=⟨_,rfl⟩
      rw [hLM] at hown5;have hR:R=printM ⟨[],[],status,reasonV status,LM,[]⟩:=by rw [HV.out,hLK4,hLM]
      have hsmall:SmallM 140737488355328 ⟨[],[],status,reasonV status,LM,[]⟩:=hLM ▸ ans_small (HRS.out) hLK4 HVS.out hvl hl1 hltv hl3 hl4 hmn HMS.out;have HAT:=hid (OwnH.hdrsAt hown5);have KP:=hid (fun w' (hb:Below w5.heap.size w5 w')=>rprint_any ⟨[],[],status,reasonV status,LM,[]⟩ v5 w' hsmall (HAT.out.below hb));obtain ⟨va5,vc5,hve5⟩:=HAT.out.form;subst hve5;unfold msgV at KP;simp only at KP;rw [← hR] at KP;have HB5:=hid ((H2.out.b).trans (hb5.mono H2.out.b.size));clear hown5 hb5 HAT hsmall hLM hLK4 HLK HV HTV HMO HMO2 HO HB KO1 KO2 KO3 KO4 H2 HC HVS HMS;generalize reasonV status=rs at KP KR HRS;clear hR;refine (KR.out _).mono ?_
      rintro e w6 ⟨rfl,hw6⟩;go_wp2_with fail
      refine (KP.out _ hw6).mono ?_
      rintro e w7 ⟨rfl,hw7⟩;go_wp2;go_ret2;exact ⟨rfl,(HB5.out.trans (hw6.mono HB5.out.size)).trans (hw7.mono (Nat.le_trans HB5.out.size hw6.size))⟩
 ·have ht1:(tag==[])=false:=by simpa using htn
  have ht2:tag.isEmpty=false:=by simpa using htn
  have ht3:(tag != [])=true:=by simpa using htn
  cases htk:tokenB tag with
  | false =>
   have HR:Hid (R=([],1)):=show _=_ by rw [HV.out,if_pos (Or.inr (Or.inr ⟨htn,htk⟩))]
   rw [htk] at KT;have hbE:=H1.out.b;clear HV KA KO1 KO2 KO3 KO4 KR H1;go_wp2_with (first | (refine wpList_store_row rfl 37 (.tmp 10) _ rfl w1.heap.size CA rfl rfl _ _ hnw hinf hsz hone ?_; rw [World.setRow_alloc_new]) | (go_at_call 47; refine (KT.out _).mono ?_; rintro e wt ⟨rfl,hwt⟩; rw [hwt]; clear hwt))
   go_ret2;exact ⟨by rw [HR.out]; rfl,hbE⟩
  | true =>
   rw [if_neg (by rintro (h | h | h); exact hs1 h; exact hs2 h; rw [htk] at h; exact absurd h.2 (by simp))] at HV;rw [htk] at KT;obtain ⟨x0,x1,x2,x3,x4,x5⟩:=H1.out.bx;simp only at x0 x1 x2 x3 x4 x5;go_wp2_with (first | (refine wpList_store_row rfl 37 (.tmp 10) _ rfl w1.heap.size CA rfl rfl _ _ hnw hinf hsz hone ?_; rw [World.setRow_alloc_new]) | (go_at_call 47; refine (KT.out _).mono ?_; rintro e wt ⟨rfl,hwt⟩; rw [hwt]; clear hwt))
   refine (KA.out _ H1.out.b).mono ?_
   rintro e w2 ⟨v0,rfl,hov,hw2⟩;have H2:=hid (H1.out.below H1.out.lt hw2);obtain ⟨va,vc,hve,hvc⟩:=hov.txts;subst hve;obtain ⟨n,hn⟩:∃ n,n=vs.length:=⟨_,rfl⟩
   rw [← hn] at hvn ⊢;have HN:=hid hn;have HC:=hid hvc;clear x0 x1 x2 x3 x4 x5 hov hw2 hvc H1 KA hnw hone hinf hsz hn KT;go_wp2
   go_loopw [12,14] (fun x i wr=>∃ k:Nat,k≤n∧i=.int .i64 k∧Hid (OwnH wr w2.heap.size x (viaH (vs.take k)))∧Hid (Below w2.heap.size w2 wr)) (fun _ i _=>n - (intOf i).toNat)
   case atStart=>exact ⟨0,by omega,rfl,hid (OwnH.nil _ _),hid (Below.refl _ _)⟩
   case round =>
    obtain ⟨k,hkn,rfl,HO,HB⟩:=hrel;obtain ⟨xa,xc,hxe⟩:=(OwnH.hdrsAt HO.out).form;have hvl:(viaH (vs.take k)).length≤1048576:=by unfold viaH; simp; omega
    by_cases hlt:k < n
    ·have hkl:k < vs.length:=by have:=HN.out; omega
     obtain ⟨a,hao,hab,hcell⟩:=HC.out k hkl;have hcell2:=cell_below HB.out (by rw [add_block]; exact hab) hcell;have HST:=hid (viaH_take hkl);have HVA:=hid hao;subst hao;generalize vs[k]=s at hcell2 HST;subst hxe;have hbs:=HB.out.size;have HNV:=hid (new_hdr (wr.alloc (.cells #[.string ⟨#[86,105,97]⟩,.string ⟨s.toArray⟩] 52)) ⟨[86,105,97],s⟩);have HNV2:=hid (new_hdr wr ⟨[86,105,97],s⟩);have HOX:=hid (fun o=>OwnH.alloc HO.out o);have HBX:=hid (fun o=>HB.out.alloc HB.out.size o);clear hcell hab;go_wp2_with (at_builtin; refine wp_appH _ rfl (.tmp 50) (.tmp 56) 22 rfl w2.heap.size i0 _ Tryz.underlying22 hi hz0 hz1 hz2 rfl _ (viaH (vs.take k)) rfl (HOX.out _) ⟨_,0,none⟩ 1 ⟨[86,105,97],s⟩ rfl (by exact HNV2.out _) (by omega) w2 (HBX.out _) (by simp; omega) ?_; intro v5 w5 hown5 hb5 _ hB5)
     have HO5:Hid (OwnH w5 w2.heap.size v5 (viaH (vs.take (k+1)))):=show OwnH _ _ _ _ by rw [HST.out]; exact hown5
     clear hown5;go_wp2;go_roundw
     case rel=>exact ⟨k+1,by omega,by go_num,HO5,hid hb5⟩
     case measure=>simp [intOf]; omega
    ·have hvk:vs.take k=vs:=List.take_of_length_le (by have:=HN.out; omega);rw [hvk] at HO hvl hxe;subst hxe;have hAN:=(Below.refl _ wr).alloc (Nat.le_refl _) (.cells ansNames 9);have HO2:=hid (OwnH.below HO.out hAN);have HB2:=hid (HB.out.trans (hAN.mono HB.out.size));have hNN:=hid (heap_alloc_new wr (.cells ansNames 9));have hgeN:w2.heap.size≤wr.heap.size:=HB.out.size;have hltN:=H2.out.lt;clear HO HB hAN;go_wp2;generalize wr.heap.size=bN at hNN hgeN ⊢
     go_loopw [12,16] (fun x i w'=>∃ k:Nat,k≤4∧i=.int .i64 k∧Hid (OwnH w' w2.heap.size x (viaH vs++[⟨fromK,v1⟩,⟨toK,tv⟩,⟨callK,v3⟩,⟨cseqK,v4⟩].take k))∧Hid (w'.heap[bN]? = some (.cells ansNames 9 (0,0)))∧Hid (Below w2.heap.size w2 w')) (fun _ i _=>4 - (intOf i).toNat)
     case atStart=>exact ⟨0,by omega,rfl,by rw [List.take_zero,List.append_nil]; exact HO2,hNN,HB2⟩
     case round =>
      clear HO2 HB2 hNN;obtain ⟨j,hj,rfl,HO,HNM,HB⟩:=hrel;obtain ⟨LK,hLK⟩:∃ l,viaH vs++([⟨fromK,v1⟩,⟨toK,tv⟩,⟨callK,v3⟩,⟨cseqK,v4⟩]:List Hdr).take j=l:=⟨_,rfl⟩
      rw [hLK] at HO;have hlk:LK.length≤1048580:=by rw [← hLK,List.length_append,List.length_take]; simp only [List.length_cons,List.length_nil]; omega
      have HLK:=hid hLK;clear hLK;have HX:=hid ((OwnH.hdrsAt HO.out).form);obtain ⟨xa,xc,hxe⟩:=HX.out;have HD:=hid ((H2.out.below hltN HB.out).below (H2.out.below hltN HB.out).lt (Below.refl _ wr).drew)
      rcases (show j=0∨j=1∨j=2∨j=3∨j=4 by omega) with rfl | rfl | rfl | rfl | rfl
      ·have c1:=arr_cell (w:=wr.drew) HNM.out (k:=0) (v:=.string ⟨#[70,114,111,109]⟩) rfl;obtain ⟨x0,x1,x2,x3,x4,x5⟩:=HD.out.bx;simp only at x0 x1 x2 x3 x4 x5;have OD:=hid (OwnH.below HO.out (Below.refl _ wr).drew);have BD:=hid (HB.out.trans ((Below.refl _ wr).drew.mono HB.out.size));have ND:Hid (wr.drew.heap[bN]? = some (.cells ansNames 9 (0,0))):=HNM.out;subst hxe;clear HO HNM HB HX;go_wp2
       go_region_law (go_simp; go_at_call 21; refine (KO1.out _ HD.out.b).mono ?_; rintro e w3 ⟨rfl,hw3⟩)
       all_goals (
        have O3:=hid (OwnH.below OD.out hw3);have B3:=hid (BD.out.trans (hw3.mono BD.out.size));have N3:Hid (w3.heap[bN]? = some (.cells ansNames 9 (0,0))):=show _=_ by rw [hw3.block _ (Array.getElem?_eq_some_iff.1 ND.out).1]; exact ND.out
        have hrow:=HD.out.row;have hlt3:=HD.out.lt;have hrow3:=hid ((hw3.block _ hlt3).trans hrow);have c3:=arr_cell N3.out (k:=0) (v:=.string ⟨#[70,114,111,109]⟩) rfl;clear x0 x1 x2 x3 x4 x5 c1 OD BD ND hw3 HD hrow hlt3;have HNV:=hid (new_hdr w3 ⟨[70,114,111,109],v1⟩);have HOX:=hid (fun o=>OwnH.alloc O3.out o);have HBX:=hid (fun o=>B3.out.alloc B3.out.size o);have hbs:=B3.out.size;go_wp2_with (at_builtin; refine wp_appH _ rfl (.tmp 87) (.tmp 94) 22 rfl w2.heap.size i0 _ Tryz.underlying22 hi hz0 hz1 hz2 rfl _ LK rfl (HOX.out _) ⟨_,0,none⟩ 1 ⟨[70,114,111,109],v1⟩ rfl (by exact HNV.out _) (by omega) w2 (HBX.out _) (by simp; omega) ?_; intro v5 w5 hown5 hb5 hg5 hB5)
        have HN5:Hid (w5.heap[bN]? = some (.cells ansNames 9 (0,0))):=show _=_ by
         rw [hg5.block _ (Nat.lt_of_lt_of_le (Array.getElem?_eq_some_iff.1 N3.out).1 (by simp)) (fun e=>ownH_ne O3.out N3.out e.symm),Below.heap_alloc _ _ _ (Array.getElem?_eq_some_iff.1 N3.out).1];exact N3.out
        have HO5:Hid (OwnH w5 w2.heap.size v5 (viaH vs++[⟨fromK,v1⟩,⟨toK,tv⟩,⟨callK,v3⟩,⟨cseqK,v4⟩].take 1)):=show OwnH _ _ _ _ by
         rw [← HLK.out,List.append_assoc] at hown5; exact hown5
        clear hown5 hg5;go_wp2;go_roundw
        case rel=>exact ⟨1,by omega,by go_num,HO5,HN5,hid hb5⟩
        case measure=>simp [intOf])
      ·have c1:=arr_cell (w:=wr.drew) HNM.out (k:=1) (v:=.string ⟨#[84,111]⟩) rfl;obtain ⟨x0,x1,x2,x3,x4,x5⟩:=HD.out.bx;simp only at x0 x1 x2 x3 x4 x5;have OD:=hid (OwnH.below HO.out (Below.refl _ wr).drew);have BD:=hid (HB.out.trans ((Below.refl _ wr).drew.mono HB.out.size));have ND:Hid (wr.drew.heap[bN]? = some (.cells ansNames 9 (0,0))):=HNM.out;subst hxe;clear HO HNM HB HX;go_wp2
       go_region_law (go_simp; go_at_call 21; refine (KO2.out _ HD.out.b).mono ?_; rintro e w3 ⟨rfl,hw3⟩)
       all_goals (
        have O3:=hid (OwnH.below OD.out hw3);have B3:=hid (BD.out.trans (hw3.mono BD.out.size));have N3:Hid (w3.heap[bN]? = some (.cells ansNames 9 (0,0))):=show _=_ by rw [hw3.block _ (Array.getElem?_eq_some_iff.1 ND.out).1]; exact ND.out
        have hrow:=HD.out.row;have hlt3:=HD.out.lt;have hrow3:=hid ((hw3.block _ hlt3).trans hrow);have c3:=arr_cell N3.out (k:=1) (v:=.string ⟨#[84,111]⟩) rfl;clear x0 x1 x2 x3 x4 x5 c1 OD BD ND hw3 HD hrow hlt3;have y26:=arr_cell hrow3.out h26
        cases htt:tt with
        | nil =>
         have htv:tv=v2++([59]++tagK++[61]++tag):=by rw [HTV.out,if_pos ⟨htt,htn⟩]
         rw [htt] at y26;have hcat:=tagglue v2 tag;rw [← htv] at hcat;clear htv;have HNV:=hid (new_hdr w3 ⟨[84,111],tv⟩);have HOX:=hid (fun o=>OwnH.alloc O3.out o);have HBX:=hid (fun o=>B3.out.alloc B3.out.size o);have hbs:=B3.out.size;go_wp2_with (at_builtin; refine wp_appH _ rfl (.tmp 87) (.tmp 94) 22 rfl w2.heap.size i0 _ Tryz.underlying22 hi hz0 hz1 hz2 rfl _ LK rfl (HOX.out _) ⟨_,0,none⟩ 1 ⟨[84,111],tv⟩ rfl (by exact HNV.out _) (by omega) w2 (HBX.out _) (by simp; omega) ?_; intro v5 w5 hown5 hb5 hg5 hB5)
         have HN5:Hid (w5.heap[bN]? = some (.cells ansNames 9 (0,0))):=show _=_ by
          rw [hg5.block _ (Nat.lt_of_lt_of_le (Array.getElem?_eq_some_iff.1 N3.out).1 (by simp)) (fun e=>ownH_ne O3.out N3.out e.symm),Below.heap_alloc _ _ _ (Array.getElem?_eq_some_iff.1 N3.out).1];exact N3.out
         have HO5:Hid (OwnH w5 w2.heap.size v5 (viaH vs++[⟨fromK,v1⟩,⟨toK,tv⟩,⟨callK,v3⟩,⟨cseqK,v4⟩].take 2)):=show OwnH _ _ _ _ by
          rw [← HLK.out,List.append_assoc] at hown5; exact hown5
         clear hown5 hg5;go_wp2;go_roundw
         case rel=>exact ⟨2,by omega,by go_num,HO5,HN5,hid hb5⟩
         case measure=>simp [intOf]
        | cons t0 ts =>
         have htv:tv=v2:=by rw [HTV.out,if_neg (by rw [htt]; simp)]
         have hte:((t0 :: ts)==([]:List UInt8))=false:=rfl;rw [htt] at y26;have HNV:=hid (new_hdr w3 ⟨[84,111],v2⟩);have HOX:=hid (fun o=>OwnH.alloc O3.out o);have HBX:=hid (fun o=>B3.out.alloc B3.out.size o);have hbs:=B3.out.size;go_wp2_with (at_builtin; refine wp_appH _ rfl (.tmp 87) (.tmp 94) 22 rfl w2.heap.size i0 _ Tryz.underlying22 hi hz0 hz1 hz2 rfl _ LK rfl (HOX.out _) ⟨_,0,none⟩ 1 ⟨[84,111],v2⟩ rfl (by exact HNV.out _) (by omega) w2 (HBX.out _) (by simp; omega) ?_; intro v5 w5 hown5 hb5 hg5 hB5)
         have HN5:Hid (w5.heap[bN]? = some (.cells ansNames 9 (0,0))):=show _=_ by
          rw [hg5.block _ (Nat.lt_of_lt_of_le (Array.getElem?_eq_some_iff.1 N3.out).1 (by simp)) (fun e=>ownH_ne O3.out N3.out e.symm),Below.heap_alloc _ _ _ (Array.getElem?_eq_some_iff.1 N3.out).1];exact N3.out
         have HO5:Hid (OwnH w5 w2.heap.size v5 (viaH vs++[⟨fromK,v1⟩,⟨toK,tv⟩,⟨callK,v3⟩,⟨cseqK,v4⟩].take 2)):=show OwnH _ _ _ _ by
          rw [← HLK.out,List.append_assoc] at hown5; rw [htv]; exact hown5
         clear hown5 hg5;go_wp2;go_roundw
         case rel=>exact ⟨2,by omega,by go_num,HO5,HN5,hid hb5⟩
         case measure=>simp [intOf])
      ·have c1:=arr_cell (w:=wr.drew) HNM.out (k:=2) (v:=.string ⟨#[67,97,108,108,45,73,68]⟩) rfl;obtain ⟨x0,x1,x2,x3,x4,x5⟩:=HD.out.bx;simp only at x0 x1 x2 x3 x4 x5;have OD:=hid (OwnH.below HO.out (Below.refl _ wr).drew);have BD:=hid (HB.out.trans ((Below.refl _ wr).drew.mono HB.out.size));have ND:Hid (wr.drew.heap[bN]? = some (.cells ansNames 9 (0,0))):=HNM.out;subst hxe;clear HO HNM HB HX;go_wp2
       go_region_law (go_simp; go_at_call 21; refine (KO3.out _ HD.out.b).mono ?_; rintro e w3 ⟨rfl,hw3⟩)
       all_goals (
        have O3:=hid (OwnH.below OD.out hw3);have B3:=hid (BD.out.trans (hw3.mono BD.out.size));have N3:Hid (w3.heap[bN]? = some (.cells ansNames 9 (0,0))):=show _=_ by rw [hw3.block _ (Array.getElem?_eq_some_iff.1 ND.out).1]; exact ND.out
        have hrow:=HD.out.row;have hlt3:=HD.out.lt;have hrow3:=hid ((hw3.block _ hlt3).trans hrow);have c3:=arr_cell N3.out (k:=2) (v:=.string ⟨#[67,97,108,108,45,73,68]⟩) rfl;clear x0 x1 x2 x3 x4 x5 c1 OD BD ND hw3 HD hrow hlt3;have HNV:=hid (new_hdr w3 ⟨[67,97,108,108,45,73,68],v3⟩);have HOX:=hid (fun o=>OwnH.alloc O3.out o);have HBX:=hid (fun o=>B3.out.alloc B3.out.size o);have hbs:=B3.out.size;go_wp2_with (at_builtin; refine wp_appH _ rfl (.tmp 87) (.tmp 94) 22 rfl w2.heap.size i0 _ Tryz.underlying22 hi hz0 hz1 hz2 rfl _ LK rfl (HOX.out _) ⟨_,0,none⟩ 1 ⟨[67,97,108,108,45,73,68],v3⟩ rfl (by exact HNV.out _) (by omega) w2 (HBX.out _) (by simp; omega) ?_; intro v5 w5 hown5 hb5 hg5 hB5)
        have HN5:Hid (w5.heap[bN]? = some (.cells ansNames 9 (0,0))):=show _=_ by
         rw [hg5.block _ (Nat.lt_of_lt_of_le (Array.getElem?_eq_some_iff.1 N3.out).1 (by simp)) (fun e=>ownH_ne O3.out N3.out e.symm),Below.heap_alloc _ _ _ (Array.getElem?_eq_some_iff.1 N3.out).1];exact N3.out
        have HO5:Hid (OwnH w5 w2.heap.size v5 (viaH vs++[⟨fromK,v1⟩,⟨toK,tv⟩,⟨callK,v3⟩,⟨cseqK,v4⟩].take 3)):=show OwnH _ _ _ _ by
         rw [← HLK.out,List.append_assoc] at hown5; exact hown5
        clear hown5 hg5;go_wp2;go_roundw
        case rel=>exact ⟨3,by omega,by go_num,HO5,HN5,hid hb5⟩
        case measure=>simp [intOf])
      ·have c1:=arr_cell (w:=wr.drew) HNM.out (k:=3) (v:=.string ⟨#[67,83,101,113]⟩) rfl;obtain ⟨x0,x1,x2,x3,x4,x5⟩:=HD.out.bx;simp only at x0 x1 x2 x3 x4 x5;have OD:=hid (OwnH.below HO.out (Below.refl _ wr).drew);have BD:=hid (HB.out.trans ((Below.refl _ wr).drew.mono HB.out.size));have ND:Hid (wr.drew.heap[bN]? = some (.cells ansNames 9 (0,0))):=HNM.out;subst hxe;clear HO HNM HB HX;go_wp2
       go_region_law (go_simp; go_at_call 21; refine (KO4.out _ HD.out.b).mono ?_; rintro e w3 ⟨rfl,hw3⟩)
       all_goals (
        have O3:=hid (OwnH.below OD.out hw3);have B3:=hid (BD.out.trans (hw3.mono BD.out.size));have N3:Hid (w3.heap[bN]? = some (.cells ansNames 9 (0,0))):=show _=_ by rw [hw3.block _ (Array.getElem?_eq_some_iff.1 ND.out).1]; exact ND.out
        have hrow:=HD.out.row;have hlt3:=HD.out.lt;have hrow3:=hid ((hw3.block _ hlt3).trans hrow);have c3:=arr_cell N3.out (k:=3) (v:=.string ⟨#[67,83,101,113]⟩) rfl;clear x0 x1 x2 x3 x4 x5 c1 OD BD ND hw3 HD hrow hlt3;have HNV:=hid (new_hdr w3 ⟨[67,83,101,113],v4⟩);have HOX:=hid (fun o=>OwnH.alloc O3.out o);have HBX:=hid (fun o=>B3.out.alloc B3.out.size o);have hbs:=B3.out.size;go_wp2_with (at_builtin; refine wp_appH _ rfl (.tmp 87) (.tmp 94) 22 rfl w2.heap.size i0 _ Tryz.underlying22 hi hz0 hz1 hz2 rfl _ LK rfl (HOX.out _) ⟨_,0,none⟩ 1 ⟨[67,83,101,113],v4⟩ rfl (by exact HNV.out _) (by omega) w2 (HBX.out _) (by simp; omega) ?_; intro v5 w5 hown5 hb5 hg5 hB5)
        have HN5:Hid (w5.heap[bN]? = some (.cells ansNames 9 (0,0))):=show _=_ by
         rw [hg5.block _ (Nat.lt_of_lt_of_le (Array.getElem?_eq_some_iff.1 N3.out).1 (by simp)) (fun e=>ownH_ne O3.out N3.out e.symm),Below.heap_alloc _ _ _ (Array.getElem?_eq_some_iff.1 N3.out).1];exact N3.out
        have HO5:Hid (OwnH w5 w2.heap.size v5 (viaH vs++[⟨fromK,v1⟩,⟨toK,tv⟩,⟨callK,v3⟩,⟨cseqK,v4⟩].take 4)):=show OwnH _ _ _ _ by
         rw [← HLK.out,List.append_assoc] at hown5; exact hown5
        clear hown5 hg5;go_wp2;go_roundw
        case rel=>exact ⟨4,by omega,by go_num,HO5,HN5,hid hb5⟩
        case measure=>simp [intOf])
      ·subst hxe;have HMO2:=hid (HMO.out wr (H2.out.below hltN HB.out).b);have hbs:=HB.out.size;clear HD HX HNM;go_wp2_with (at_builtin; refine wp_appHs _ rfl (.tmp 96) (.tmp 97) 22 rfl w2.heap.size i0 _ Tryz.underlying22 hi hz0 hz1 hz2 rfl _ LK rfl HO.out _ more rfl HMO2.out (by omega) w2 HB.out hbs ?_; intro v5 w5 hown5 hb5 hB5)
       have hLK4:viaH vs++[⟨fromK,v1⟩,⟨toK,tv⟩,⟨callK,v3⟩,⟨cseqK,v4⟩]=LK:=HLK.out;obtain ⟨LM,hLM⟩:∃ l,LK++more=l:=⟨_,rfl⟩
       rw [hLM] at hown5;have hR:R=printM ⟨[],[],status,reasonV status,LM,[]⟩:=by rw [HV.out,hLK4,hLM]
       have hsmall:SmallM 140737488355328 ⟨[],[],status,reasonV status,LM,[]⟩:=hLM ▸ ans_small (HRS.out) hLK4 HVS.out hvl hl1 hltv hl3 hl4 hmn HMS.out;have HAT:=hid (OwnH.hdrsAt hown5);have KP:=hid (fun w' (hb:Below w5.heap.size w5 w')=>rprint_any ⟨[],[],status,reasonV status,LM,[]⟩ v5 w' hsmall (HAT.out.below hb));obtain ⟨va5,vc5,hve5⟩:=HAT.out.form;subst hve5;unfold msgV at KP;simp only at KP;rw [← hR] at KP;have HB5:=hid ((H2.out.b).trans (hb5.mono H2.out.b.size));clear hown5 hb5 HAT hsmall hLM hLK4 HLK HV HTV HMO HMO2 HO HB KO1 KO2 KO3 KO4 H2 HC HVS HMS;generalize reasonV status=rs at KP KR HRS;clear hR;refine (KR.out _).mono ?_
       rintro e w6 ⟨rfl,hw6⟩;go_wp2_with fail
       refine (KP.out _ hw6).mono ?_
       rintro e w7 ⟨rfl,hw7⟩;go_wp2;go_ret2;exact ⟨rfl,(HB5.out.trans (hw6.mono HB5.out.size)).trans (hw7.mono (Nat.le_trans HB5.out.size hw6.size))⟩
set_option maxHeartbeats 8000000 in
set_option maxRecDepth 100000 in
theorem replyAnswers_of (hA:∀ (m:Ms) (h:Value) (status:Int) (tag:List UInt8) (hm:Value) (more:List Hdr) (w:World),SmallM 1048576 m → m.headers.length≤1048576 → HdrsAt w h m.headers → status≤9223372036854775807 → -9223372036854775808≤status → tag.length≤1048576 → HdrsAt w hm more → SmallH 1048576 more → sumQ m≤6000 → sumH more≤6000 →
   Calls Tryz.prog 15 #[msgV m h,.int .i64 status,.string ⟨tag.toArray⟩,hm] w fun e w'=>e=.returned (.tuple #[.string ⟨(answerV m status tag more).1.toArray⟩,.int .i64 (answerV m status tag more).2])∧Below w.heap.size w w')
  (hR:∀ (n:Int) (w:World),n≤9223372036854775807 → -9223372036854775808≤n → Calls Tryz.prog 17 #[.int .i64 n] w fun e w'=>e=.returned (.string ⟨(reasonV n).toArray⟩)∧Below w.heap.size w w')
  (hW:∀ w:World,Calls Tryz.prog 9 #[] w fun e w'=>e=.returned (.bool true)∧Below w.heap.size w w')
  (m:Ms) (h:Value) (status:Int) (tag:List UInt8) (hm:Value) (more:List Hdr) (w:World) (hsm:SmallM 1048576 m) (hhl:m.headers.length≤1048576) (hat:HdrsAt w h m.headers) (h1:status≤9223372036854775807) (h2:-9223372036854775808≤status) (htg:tag.length≤1048576) (hmo:HdrsAt w hm more) (hms:SmallH 1048576 more) :
  Calls Tryz.prog 5 #[msgV m h,.int .i64 status,.string ⟨tag.toArray⟩,hm] w fun e w'=>e=.returned (.bool true)∧Below w.heap.size w w':=by
 have KS:=hid (fun w' (hb:Below w.heap.size w w')=>lsmall10 m h w' hsm hhl (hat.below hb));have KS2:=hid (fun w' (hb:Below w.heap.size w w')=>lsmall10 ⟨[],[],0,[],more,[]⟩ hm w' ⟨by simp,by simp,by simp,by simp,hms⟩ hms.1 (hmo.below hb));have KC:=hid (fun (hq:sumQ m≤6000) (hq2:sumH more≤6000) w' (hb:Below w.heap.size w w')=>hA m h status tag hm more w' hsm hhl (hat.below hb) h1 h2 htg (hmo.below hb) hms hq hq2);have KD:=hid (fun w' (hb:Below w.heap.size w w')=>ranswer_any m h status tag hm more w' hsm hhl (hat.below hb) h1 htg (hmo.below hb) hms);have KE:=hid (fun w'=>hR status w' h1 h2);have KF:=hid (fun w'=>rreason_any status w' h1);have KW:=hid hW;have HBX:=hid (boxM_new w m h);have hb0:Below w.heap.size w (w.alloc (objM m h)):=(Below.refl _ w).alloc (Nat.le_refl _) _;have hl0:=alloc_lt w (objM m h);have hS2:sumQ ⟨[],[],0,[],more,[]⟩=sumH more:=by simp [sumQ]
 rw [hS2] at KS2;obtain ⟨ao,cap,hh0⟩:=hat.form;subst hh0;obtain ⟨ma,mc,hme⟩:=hmo.form;subst hme;generalize answerV m status tag more=R at KC KD;generalize reasonV status=rs at KE KF;clear hsm hhl hat hA hR hW hmo hms hS2;obtain ⟨me,ta,st,re,hs,bo⟩:=m;unfold msgV at KS KS2 KC KD ⊢;unfold objM at HBX hb0 hl0;simp only at KS KS2 KC KD HBX hb0 hl0 ⊢;generalize sumQ _=S at KS KC;generalize sumH more=S2 at KS2 KC;obtain ⟨x0,x1,x2,x3,x4,x5⟩:=HBX.out;simp only at x0 x1 x2 x3 x4 x5;have hrr:(R.1==R.1)=true:=by simp
 have hr2:(R.2==R.2)=true:=by simp
 have hr3:(rs==rs)=true:=by simp
 by_cases hq:S≤6000
 case neg =>
  have hqd:decide (S≤6000)=false:=decide_eq_false hq;rw [hqd] at KS;clear KC KD KS2
  go_enter Tryz.func5,Tryz.ntmps5
  go_wp2_with (first
   | (go_at_call 8; refine (KS.out _ hb0).mono ?_; rintro e w1 ⟨rfl,hw1⟩)
   | (go_at_call 9; refine (KW.out _).mono ?_; rintro e w2 ⟨rfl,hw2⟩))
  go_ret;exact ⟨rfl,(hb0.trans (hw1.mono hb0.size)).trans (hw2.mono (Nat.le_trans hb0.size hw1.size))⟩
 have hqd:decide (S≤6000)=true:=decide_eq_true hq;rw [hqd] at KS;by_cases hq2:S2≤6000
 case neg =>
  have hqd2:decide (S2≤6000)=false:=decide_eq_false hq2;rw [hqd2] at KS2;clear KC KD
  go_enter Tryz.func5,Tryz.ntmps5
  go_wp2_with fail
  refine (KS.out _ hb0).mono ?_
  rintro e w1 ⟨rfl,hw1⟩;have hb1:=hb0.trans (hw1.mono hb0.size);go_wp2_with fail
  refine (KS2.out _ hb1).mono ?_
  rintro e w2 ⟨rfl,hw2⟩;have hb2:=hb1.trans (hw2.mono hb1.size);go_wp2_with fail
  refine (KW.out _).mono ?_
  rintro e w3 ⟨rfl,hw3⟩;go_wp2;go_ret;exact ⟨rfl,hb2.trans (hw3.mono hb2.size)⟩
 have hqd2:decide (S2≤6000)=true:=decide_eq_true hq2;rw [hqd2] at KS2;replace KC:=hid (KC.out hq hq2)
 go_enter Tryz.func5,Tryz.ntmps5
 go_wp2_with fail
 refine (KS.out _ hb0).mono ?_
 rintro e w1 ⟨rfl,hw1⟩;have hb1:=hb0.trans (hw1.mono hb0.size);have HB1:=hid (HBX.out.below hw1 hl0);have hl1:=Nat.lt_of_lt_of_le hl0 hw1.size;clear x0 x1 x2 x3 x4 x5 HBX hw1 hb0 hl0 KS;go_wp2_with fail
 refine (KS2.out _ hb1).mono ?_
 rintro e w2 ⟨rfl,hw2⟩;have hb2:=hb1.trans (hw2.mono hb1.size);have HB2:=hid (HB1.out.below hw2 hl1);have hl2:=Nat.lt_of_lt_of_le hl1 hw2.size;clear HB1 hw2 hb1 hl1 KS2;obtain ⟨x0,x1,x2,x3,x4,x5⟩:=HB2.out;simp only at x0 x1 x2 x3 x4 x5;go_wp2_with fail
 refine (KC.out _ hb2).mono ?_
 rintro e w3 ⟨rfl,hw3⟩;have hb3:=hb2.trans (hw3.mono hb2.size);have HB3:=hid (HB2.out.below hw3 hl2);clear x0 x1 x2 x3 x4 x5 HB2 hw3 hb2 hl2 KC;obtain ⟨x0,x1,x2,x3,x4,x5⟩:=HB3.out;simp only at x0 x1 x2 x3 x4 x5;go_wp2_with fail
 refine (KD.out _ hb3).mono ?_
 rintro e w4 ⟨rfl,hw4⟩;have hb4:=hb3.trans (hw4.mono hb3.size);clear x0 x1 x2 x3 x4 x5 HB3 hw4 hb3 KD;go_wp2_with fail
 refine (KE.out _).mono ?_
 rintro e w5 ⟨rfl,hw5⟩;have hb5:=hb4.trans (hw5.mono hb4.size);go_wp2_with fail
 refine (KF.out _).mono ?_
 rintro e w6 ⟨rfl,hw6⟩;have hb6:=hb5.trans (hw6.mono hb5.size);go_wp2_with fail
 refine (KW.out _).mono ?_
 rintro e w7 ⟨rfl,hw7⟩;go_wp2;go_ret;exact ⟨rfl,hb6.trans (hw7.mono hb6.size)⟩
end Go.Proofs.YtiogedceommcoaaGreatDoor
namespace Go.Proofs.YtiogedceommcoaaGreatDoor
open Go.RowKit Go.ChangeShapes Go.WideShapes Go.Deep
def HdrsIn (B:Nat) (W:World) (v:Value):Prop:=∃ ps:List Hdr,HdrsAt W v ps∧SmallH B ps∧ps.length≤4398046511104
section
variable {H : Type} {enc : TypeId × Value → H} {W : World} {sp : Nat → Bool}
theorem hdl_upto {B:Nat} {r:Reach} {b0:Nat} {v:Value} {d:DataW H} {p:List MemPlace} (hv:Value.okWide Tryz.prog W r b0 22 v) (h:DataW.Trod enc Tryz.prog W 0 sp true 22 v d p)
  (hz:Rows.uptoBulk d≤B) (hB:B≤4398046511104:=by omega):HdrsIn B W v:=by
 obtain ⟨a,len,cap,rfl⟩:=okWide_slice Tryz.underlying22 hv;obtain ⟨fuel,hf0⟩:=h;obtain ⟨v',ps,hc,hat,hd⟩:=open_hdrs hf0
 simp [Value.cells] at hc
 subst hc
 have:=hdrs_upto hd hz
 exact ⟨ps,hat,this,Nat.le_trans this.1 hB⟩
end
end Go.Proofs.YtiogedceommcoaaGreatDoor
namespace Go.Proofs.YtiogedceommcoaaGreatDoor.replyAnswers
open Go.RowKit Sc
theorem law_walk (w:World) (v0:Value) (a1:Int) (a2:ByteArray) (v3:Value) (k0:MsgGot 1048576 w v0) (w1:(Lit.int .i64 a1).wf=true) (b2:a2.size≤1048576) (k3:HdrsIn 1048576 w v3) :
  Calls Tryz.prog 5 #[v0,.int .i64 a1,.string a2,v3] w fun e w'=>e=.returned (.bool true)∧Below w.heap.size w w':=by
 obtain ⟨m,h,rfl,hat,hsm,hcnt,_⟩:=k0;obtain ⟨more,hmo,hms,_⟩:=k3;obtain ⟨h0,h1⟩:=i64_of w1;obtain ⟨⟨tag⟩⟩:=a2;have hl:tag.length≤1048576:=by simpa [ByteArray.size] using b2
 exact replyAnswers_of code_answer (fun n w h1 h0=>creason_any n w h1 h0) awake10_any m h a1 tag v3 more w hsm hsm.2.2.2.2.1 hat h1 h0 hl hmo hms
end Go.Proofs.YtiogedceommcoaaGreatDoor.replyAnswers
