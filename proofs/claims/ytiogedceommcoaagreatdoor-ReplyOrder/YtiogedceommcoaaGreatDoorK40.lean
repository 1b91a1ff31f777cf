/-
  CAnswer, CLoop2, CRead0.
-/
import Derived.Test.YtiogedceommcoaaGreatDoorK39
set_option linter.unusedVariables false
set_option linter.unusedSimpArgs false
set_option maxRecDepth 20000
namespace Go.Proofs.YtiogedceommcoaaGreatDoor
open Go.RowKit Sc
theorem base_ones {m:Ms} (h:(baseV m).2=0):(oneV m fromK).2=true∧(oneV m toK).2=true∧(oneV m callK).2=true∧(oneV m cseqK).2=true:=by
 unfold baseV at h
 split at h
 ·simp at h
 ·split at h
  ·rename_i h1; exact absurd h h1
  ·split at h
   ·simp at h
   ·split at h
    ·rename_i h1; exact absurd h h1
    ·split at h
     ·rename_i h1; exact absurd h h1
     ·split at h
      ·simp at h
      ·rename_i a1 a2 a3 a4 a5 a6
       refine ⟨address_one (by simpa using a4),address_one (by simpa using a5),?_,?_⟩
       ·cases hx:(oneV m callK).2 with
        | true=>rfl
        | false=>exact absurd (Or.inl hx) a6
       ·cases hx:(oneV m cseqK).2 with
        | true=>rfl
        | false=>exact absurd (Or.inr (Or.inl hx)) a6
def ansEnd (tt tag:List UInt8):List UInt8:=if tt=[]∧tag ≠ [] then [59]++tagK++[61]++tag else []
theorem rep_answer {m:Ms} (h:(baseV m).2=0) (tag:List UInt8):repK m (ansEnd (baseV m).1.toTag tag) 5=viaH (allV m rViaK)++fourH m tag:=by
 obtain ⟨h1,h2,h3,h4⟩:=base_ones h;have e:repK m (ansEnd (baseV m).1.toTag tag) 5=(allV m rViaK).map (hdrR rViaK (ansEnd (baseV m).1.toTag tag))++((allV m fromK).map (hdrR fromK (ansEnd (baseV m).1.toTag tag))++((allV m toK).map (hdrR toK (ansEnd (baseV m).1.toTag tag))++((allV m callK).map (hdrR callK (ansEnd (baseV m).1.toTag tag))++(allV m cseqK).map (hdrR cseqK (ansEnd (baseV m).1.toTag tag))))):=by
  simp [repK_next,repK,List.range_succ,nmK]
 rw [e,one_all h1,one_all h2,one_all h3,one_all h4];have v:hdrR rViaK (ansEnd (baseV m).1.toTag tag)=fun v=>⟨rViaK,v⟩:=by funext v; rfl
 rw [v];unfold viaH fourH;have t:hdrR toK (ansEnd (baseV m).1.toTag tag) (oneV m toK).1=⟨toK,toV m tag⟩:=by
  show (⟨toK,(oneV m toK).1++ansEnd (baseV m).1.toTag tag⟩:Hdr)=_
  unfold ansEnd toV
  split <;> simp
 simp only [List.map_cons,List.map_nil,t]
 rfl
theorem ans_small2 {m:Ms} {status:Int} {tag:List UInt8} {more:List Hdr} (hb:(baseV m).2=0) (hsm:SmallM 1048576 m) (hhl:m.headers.length≤1048576) (hst:status≤9223372036854775807) (htg:tag.length≤1048576) (hms:SmallH 1048576 more) :
  SmallM 140737488355328 ⟨[],[],status,reasonV status,repK m (ansEnd (baseV m).1.toTag tag) 5++more,[]⟩:=by
 have hvn:(viaH (allV m rViaK)).length≤1048576:=by unfold viaH; rw [List.length_map]; exact Nat.le_trans (allV_len _ _) hhl
 refine ans_small (reason_len status hst) (rep_answer hb tag).symm (all_small hsm rViaK) hvn (one_small hsm _) ?_ (one_small hsm _) (one_small hsm _) hms.1 hms.2
 have:=one_small hsm toK
 unfold toV
 split
 ·simp [tagK]; omega
 ·omega
set_option maxHeartbeats 8000000 in
set_option maxRecDepth 100000 in
theorem canswer_any (m:Ms) (h:Value) (status:Int) (tag:List UInt8) (hm:Value) (more:List Hdr) (w:World) (hsm:SmallM 1048576 m) (hhl:m.headers.length≤100000) (hat:HdrsAt w h m.headers) (hst1:status≤9223372036854775807) (hst0:-9223372036854775808≤status) (htg:tag.length≤1048576)
  (hmo:HdrsAt w hm more) (hms:SmallH 1048576 more) :
  Calls Tryz.prog 15 #[msgV m h,.int .i64 status,.string ⟨tag.toArray⟩,hm] w fun e w'=>e=.returned (.tuple #[.string ⟨(answerV m status tag more).1.toArray⟩,.int .i64 (answerV m status tag more).2])∧Below w.heap.size w w':=by
 obtain ⟨i0,hi,hz0,hz1,hz2⟩:=info_parts infoHdr;have hz:=zeroR0;have HG:=hid (boxM_new w m h);have HB0:Hid (Below w.heap.size w (w.alloc (objM m h))):=(Below.refl _ w).alloc (Nat.le_refl _) _;have hl0:=alloc_lt w (objM m h);obtain ⟨ao,cap,hh0⟩:=hat.form;subst hh0;have KB:=hid (fun w' (hb:Below w.heap.size w w')=>cbase_any m _ w' hsm (by omega) (hat.below hb));obtain ⟨bn,E1⟩:∃ b,(baseV m).2=b:=⟨_,rfl⟩
 obtain ⟨tt,ETT⟩:∃ t,(baseV m).1.toTag=t:=⟨_,rfl⟩
 have hen:(ansEnd tt tag).length≤2097152:=by unfold ansEnd; split <;> simp [tagK]; omega
 have KP:=hid (fun w' (hb:Below w.heap.size w w')=>repeated_any m _ (ansEnd tt tag) w' hsm hhl hen (hat.below hb));have KT:=hid (fun w'=>token_b tag w' (by omega));have KR:=hid (fun w'=>creason_any status w' hst1 hst0);have HMO:=hid (fun w' (hb:Below w.heap.size w w')=>hmo.below hb);have hmn:=hms.1;have hrl:=repK_len m (ansEnd tt tag) 5;have HV:Hid (answerV m status tag more=if bn ≠ 0 then ([],bn) else if status < 100∨699 < status∨(tag ≠ []∧tokenB tag=false) then ([],1) else printM ⟨[],[],status,reasonV status,repK m (ansEnd tt tag) 5++more,[]⟩):=show _=_ by
  unfold answerV;rw [E1];by_cases hb:bn=0
  ·rw [← ETT,rep_answer (by rw [E1]; exact hb)]
   rfl
  ·rw [if_pos hb,if_pos hb]
 have HSM:Hid (bn=0 → SmallM 140737488355328 ⟨[],[],status,reasonV status,repK m (ansEnd tt tag) 5++more,[]⟩):=fun hb=>by
  have:=ans_small2 (status:=status) (tag:=tag) (more:=more) (by rw [E1]; exact hb) hsm (by omega) hst1 htg hms
  rw [ETT] at this;exact this
 have HTT:=hid ETT;have HE1:=hid E1;have HEN:Hid (ansEnd tt tag=if tt=[]∧tag ≠ [] then [59]++tagK++[61]++tag else []):=show _=_ from rfl
 generalize repK m (ansEnd tt tag) 5=LK at KP HV HSM hrl;generalize ansEnd tt tag=en at KP HEN hen;clear E1 ETT hsm hat hmo hms;generalize answerV m status tag more=R at HV ⊢;generalize baseV m=bv at KB HTT HE1;obtain ⟨br,bn'⟩:=bv;simp only at HTT HE1;have hbn':=HE1.out;subst hbn';obtain ⟨me,ta,st,re,hs,bo⟩:=m;simp only at hhl hrl;unfold msgV at KB KP ⊢;unfold objM at HG HB0 hl0;simp only at KB KP HG HB0 hl0 ⊢;obtain ⟨ma,mc,hme⟩:=(HMO.out w (Below.refl _ _)).form;subst hme;obtain ⟨x0,x1,x2,x3,x4,x5⟩:=HG.out;simp only at x0 x1 x2 x3 x4 x5;unfold BaseRes rqV at KB;simp only at KB;have hll:LK.length≤500000:=by omega
 clear hrl
 go_enter Tryz.func15,Tryz.ntmps15
 go_wp2_with fail
 refine (KB.out _ HB0.out).mono ?_
 rintro e w1 ⟨⟨c,hcr,rfl,hrb⟩,hw1⟩;have hnw:(w1.alloc (.cells rq0 37)).heap[w1.heap.size]? = some (.cells rq0 37 (0,0)):=by rw [heap_alloc_new]
 have hb1:=HB0.out.trans (hw1.mono HB0.out.size);have A1:=(Below.refl _ w1).alloc (Nat.le_refl _) (.cells (rqCells c).toArray 37);have hlw1:=Nat.lt_of_lt_of_le hl0 hw1.size;have H1:Hid (AnIn w w1 ⟨me,ta,st,re,hs,bo⟩ (.slice ao hs.length cap) (rqCells c).toArray (w1.alloc (.cells (rqCells c).toArray 37))):=⟨(HG.out.below hw1 hl0).below A1 hlw1,by rw [heap_alloc_new],hb1.trans (A1.mono hb1.size),hlw1,by simp⟩
 obtain ⟨CA,hCA⟩:∃ a,a=(rqCells c).toArray:=⟨_,rfl⟩
 rw [← hCA] at H1 ⊢;have hone:CA.all (·.oneCell')=true:=by rw [hCA]; exact oneR hrb.sl
 have hinf:(Tryz.prog.info? 37).map (·.size)=some CA.size:=by rw [hCA]; exact infoR
 have hsz:rq0.size=CA.size:=by rw [hCA]; rfl
 have h26:CA[26]? = some (.string ⟨tt.toArray⟩):=by rw [hCA,← HTT.out,← hcr]; rfl
 clear x0 x1 x2 x3 x4 x5 HG HB0 hl0 hw1 hb1 A1 hlw1 KB hCA hrb HTT HE1 hcr;by_cases hbn:bn'=0
 case neg =>
  have HR:Hid (R=([],bn')):=show _=_ by rw [HV.out,if_pos hbn]
  have hne:(bn' != 0)=true:=by simpa using hbn
  have hbE:=H1.out.b;clear HV KP KT KR H1;go_wp2_with (refine wpList_store_row rfl 37 (.tmp 10) _ rfl w1.heap.size CA rfl rfl _ _ hnw hinf hsz hone ?_; rw [World.setRow_alloc_new])
  go_ret2;exact ⟨by rw [HR.out]; rfl,hbE⟩
 subst hbn;rw [if_neg (by simp)] at HV;by_cases hs1:status < 100
 case pos =>
  have HR:Hid (R=([],1)):=show _=_ by rw [HV.out,if_pos (Or.inl hs1)]
  have hbE:=H1.out.b;clear HV KP KT KR H1;go_wp2_with (refine wpList_store_row rfl 37 (.tmp 10) _ rfl w1.heap.size CA rfl rfl _ _ hnw hinf hsz hone ?_; rw [World.setRow_alloc_new])
  go_ret2;exact ⟨by rw [HR.out]; rfl,hbE⟩
 by_cases hs2:699 < status
 case pos =>
  have HR:Hid (R=([],1)):=show _=_ by rw [HV.out,if_pos (Or.inr (Or.inl hs2))]
  have hbE:=H1.out.b;clear HV KP KT KR H1;go_wp2_with (refine wpList_store_row rfl 37 (.tmp 10) _ rfl w1.heap.size CA rfl rfl _ _ hnw hinf hsz hone ?_; rw [World.setRow_alloc_new])
  go_ret2;exact ⟨by rw [HR.out]; rfl,hbE⟩
 have hn1:decide (status < 100)=false:=decide_eq_false hs1;have hn2:decide (699 < status)=false:=decide_eq_false hs2;by_cases htn:tag=[]
 ·subst htn;rw [if_neg (by rintro (h | h | h); exact hs1 h; exact hs2 h; exact h.1 rfl)] at HV;rw [if_neg (by simp)] at HEN;have hen0:=HEN.out;subst hen0;have HSM':=hid (HSM.out rfl);clear KT HSM HEN;obtain ⟨x0,x1,x2,x3,x4,x5⟩:=H1.out.bx;simp only at x0 x1 x2 x3 x4 x5;have hbE:=H1.out.b;have Y26:=arr_cell H1.out.row (k:=26) h26;clear H1
  cases tt with
  | nil =>
   go_wp2_with (first | (refine wpList_store_row rfl 37 (.tmp 10) _ rfl w1.heap.size CA rfl rfl _ _ hnw hinf hsz hone ?_; rw [World.setRow_alloc_new]))
   refine (KP.out _ hbE).mono ?_
   rintro e w2 ⟨v0,rfl,hown,hw2⟩;have hb2:=hbE.trans (hw2.mono hbE.size);have HMO2:=hid (HMO.out w2 hb2);obtain ⟨va2,vc2,hve2⟩:=(OwnH.hdrsAt hown).form;subst hve2;have HO2:=hid hown;have HW2:=hid hw2;have hsz2:=hw2.size;clear x0 x1 x2 x3 x4 x5 Y26 KP hown hw2;go_wp2_with (at_builtin; refine wp_appHs _ rfl (.tmp 48) (.tmp 49) 22 rfl _ i0 _ Tryz.underlying22 hi hz0 hz1 hz2 rfl _ LK rfl HO2.out _ more rfl HMO2.out (by omega) _ HW2.out hsz2 ?_; intro v5 w5 hown5 hb5 hB5)
   obtain ⟨LM,hLM⟩:∃ l,LK++more=l:=⟨_,rfl⟩
   rw [hLM] at hown5 HV HSM';have HAT:=hid (OwnH.hdrsAt hown5);have HSS:=HSM';have KQ:=hid (fun w' (hb:Below w5.heap.size w5 w')=>fprint_any ⟨[],[],status,reasonV status,LM,[]⟩ v5 w' HSS.out (HAT.out.below hb));obtain ⟨va5,vc5,hve5⟩:=HAT.out.form;subst hve5;unfold msgV at KQ;simp only at KQ;rw [← HV.out] at KQ;have hb5w:=hbE.trans (hb5.mono hbE.size);have HB5:=hid hb5w;clear hown5 hb5 HAT hLM HV HMO HMO2 HO2 HW2 HSM' HSS hb5w;generalize reasonV status=rs at KQ KR;refine (KR.out _).mono ?_
   rintro e w6 ⟨rfl,hw6⟩;go_wp2_with fail
   refine (KQ.out _ hw6).mono ?_
   rintro e w7 ⟨rfl,hw7⟩;go_wp2;go_ret2;exact ⟨rfl,(HB5.out.trans (hw6.mono HB5.out.size)).trans (hw7.mono (Nat.le_trans HB5.out.size hw6.size))⟩
  | cons t0 tt' =>
   have ht1:(t0 :: tt'==[])=false:=rfl;have ht2:(t0 :: tt').isEmpty=false:=rfl;go_wp2_with (first | (refine wpList_store_row rfl 37 (.tmp 10) _ rfl w1.heap.size CA rfl rfl _ _ hnw hinf hsz hone ?_; rw [World.setRow_alloc_new]))
   refine (KP.out _ hbE).mono ?_
   rintro e w2 ⟨v0,rfl,hown,hw2⟩;have hb2:=hbE.trans (hw2.mono hbE.size);have HMO2:=hid (HMO.out w2 hb2);obtain ⟨va2,vc2,hve2⟩:=(OwnH.hdrsAt hown).form;subst hve2;have HO2:=hid hown;have HW2:=hid hw2;have hsz2:=hw2.size;clear x0 x1 x2 x3 x4 x5 Y26 KP hown hw2;go_wp2_with (at_builtin; refine wp_appHs _ rfl (.tmp 48) (.tmp 49) 22 rfl _ i0 _ Tryz.underlying22 hi hz0 hz1 hz2 rfl _ LK rfl HO2.out _ more rfl HMO2.out (by omega) _ HW2.out hsz2 ?_; intro v5 w5 hown5 hb5 hB5)
   obtain ⟨LM,hLM⟩:∃ l,LK++more=l:=⟨_,rfl⟩
   rw [hLM] at hown5 HV HSM';have HAT:=hid (OwnH.hdrsAt hown5);have HSS:=HSM';have KQ:=hid (fun w' (hb:Below w5.heap.size w5 w')=>fprint_any ⟨[],[],status,reasonV status,LM,[]⟩ v5 w' HSS.out (HAT.out.below hb));obtain ⟨va5,vc5,hve5⟩:=HAT.out.form;subst hve5;unfold msgV at KQ;simp only at KQ;rw [← HV.out] at KQ;have hb5w:=hbE.trans (hb5.mono hbE.size);have HB5:=hid hb5w;clear hown5 hb5 HAT hLM HV HMO HMO2 HO2 HW2 HSM' HSS hb5w;generalize reasonV status=rs at KQ KR;refine (KR.out _).mono ?_
   rintro e w6 ⟨rfl,hw6⟩;go_wp2_with fail
   refine (KQ.out _ hw6).mono ?_
   rintro e w7 ⟨rfl,hw7⟩;go_wp2;go_ret2;exact ⟨rfl,(HB5.out.trans (hw6.mono HB5.out.size)).trans (hw7.mono (Nat.le_trans HB5.out.size hw6.size))⟩
 have htg1:(tag==[])=false:=by cases tag with | nil=>exact absurd rfl htn | cons a b=>rfl
 have htg2:tag.isEmpty=false:=by cases tag with | nil=>exact absurd rfl htn | cons a b=>rfl
 generalize htk:tokenB tag=tk at KT HV;clear htk
 cases tk with
 | false =>
  have HR:Hid (R=([],1)):=show _=_ by rw [HV.out,if_pos (Or.inr (Or.inr ⟨htn,rfl⟩))]
  have hbE:=H1.out.b;clear HV KP KR H1 HSM HEN;go_wp2_with (first | (refine wpList_store_row rfl 37 (.tmp 10) _ rfl w1.heap.size CA rfl rfl _ _ hnw hinf hsz hone ?_; rw [World.setRow_alloc_new]))
  refine (KT.out _).mono ?_
  rintro e w2 ⟨rfl,hw2⟩;go_wp2;go_ret2;exact ⟨by rw [HR.out]; rfl,hbE.trans (hw2.mono hbE.size)⟩
 | true =>
  rw [if_neg (by rintro (h | h | h); exact hs1 h; exact hs2 h; exact absurd h.2 (by simp))] at HV;have HSM':=hid (HSM.out rfl);have HL:=H1.out.lt;go_wp2_with (first | (refine wpList_store_row rfl 37 (.tmp 10) _ rfl w1.heap.size CA rfl rfl _ _ hnw hinf hsz hone ?_; rw [World.setRow_alloc_new]))
  refine (KT.out _).mono ?_
  rintro e w1' ⟨rfl,hw1'⟩;have H1':=hid (H1.out.below HL hw1');obtain ⟨x0,x1,x2,x3,x4,x5⟩:=H1'.out.bx;simp only at x0 x1 x2 x3 x4 x5;have hbE:=H1'.out.b;have Y26:=arr_cell H1'.out.row (k:=26) h26;clear H1 H1' KT HSM hw1'
  cases tt with
  | nil =>
   rw [if_pos ⟨rfl,htn⟩] at HEN;have hcat:(⟨#[59,116,97,103,61]⟩:ByteArray)++⟨tag.toArray⟩=⟨en.toArray⟩:=by
    have e0:(⟨#[59,116,97,103,61]⟩:ByteArray)=⟨[59,116,97,103,61].toArray⟩:=rfl;rw [e0,ByteArray.mk_append_mk,HEN.out]
    simp [tagK]
   have hlim:¬ 9223372036854775807 < 5+tag.length:=by omega
   clear HEN;go_wp2_with fail
   refine (KP.out _ hbE).mono ?_
   rintro e w2 ⟨v0,rfl,hown,hw2⟩;have hb2:=hbE.trans (hw2.mono hbE.size);have HMO2:=hid (HMO.out w2 hb2);obtain ⟨va2,vc2,hve2⟩:=(OwnH.hdrsAt hown).form;subst hve2;have HO2:=hid hown;have HW2:=hid hw2;have hsz2:=hw2.size;clear x0 x1 x2 x3 x4 x5 Y26 KP hown hw2;go_wp2_with (at_builtin; refine wp_appHs _ rfl (.tmp 48) (.tmp 49) 22 rfl _ i0 _ Tryz.underlying22 hi hz0 hz1 hz2 rfl _ LK rfl HO2.out _ more rfl HMO2.out (by omega) _ HW2.out hsz2 ?_; intro v5 w5 hown5 hb5 hB5)
   obtain ⟨LM,hLM⟩:∃ l,LK++more=l:=⟨_,rfl⟩
   rw [hLM] at hown5 HV HSM';have HAT:=hid (OwnH.hdrsAt hown5);have HSS:=HSM';have KQ:=hid (fun w' (hb:Below w5.heap.size w5 w')=>fprint_any ⟨[],[],status,reasonV status,LM,[]⟩ v5 w' HSS.out (HAT.out.below hb));obtain ⟨va5,vc5,hve5⟩:=HAT.out.form;subst hve5;unfold msgV at KQ;simp only at KQ;rw [← HV.out] at KQ;have hb5w:=hbE.trans (hb5.mono hbE.size);have HB5:=hid hb5w;clear hown5 hb5 HAT hLM HV HMO HMO2 HO2 HW2 HSM' HSS hb5w;generalize reasonV status=rs at KQ KR;refine (KR.out _).mono ?_
   rintro e w6 ⟨rfl,hw6⟩;go_wp2_with fail
   refine (KQ.out _ hw6).mono ?_
   rintro e w7 ⟨rfl,hw7⟩;go_wp2;go_ret2;exact ⟨rfl,(HB5.out.trans (hw6.mono HB5.out.size)).trans (hw7.mono (Nat.le_trans HB5.out.size hw6.size))⟩
  | cons t0 tt' =>
   rw [if_neg (by simp)] at HEN;have hen0:=HEN.out;subst hen0;have ht1:(t0 :: tt'==[])=false:=rfl;have ht2:(t0 :: tt').isEmpty=false:=rfl;clear HEN;go_wp2_with fail
   refine (KP.out _ hbE).mono ?_
   rintro e w2 ⟨v0,rfl,hown,hw2⟩;have hb2:=hbE.trans (hw2.mono hbE.size);have HMO2:=hid (HMO.out w2 hb2);obtain ⟨va2,vc2,hve2⟩:=(OwnH.hdrsAt hown).form;subst hve2;have HO2:=hid hown;have HW2:=hid hw2;have hsz2:=hw2.size;clear x0 x1 x2 x3 x4 x5 Y26 KP hown hw2;go_wp2_with (at_builtin; refine wp_appHs _ rfl (.tmp 48) (.tmp 49) 22 rfl _ i0 _ Tryz.underlying22 hi hz0 hz1 hz2 rfl _ LK rfl HO2.out _ more rfl HMO2.out (by omega) _ HW2.out hsz2 ?_; intro v5 w5 hown5 hb5 hB5)
   obtain ⟨LM,hLM⟩:∃ l,LK++more=l:=⟨_,rfl⟩
   rw [hLM] at hown5 HV HSM';have HAT:=hid (OwnH.hdrsAt hown5);have HSS:=HSM';have KQ:=hid (fun w' (hb:Below w5.heap.size w5 w')=>fprint_any ⟨[],[],status,reasonV status,LM,[]⟩ v5 w' HSS.out (HAT.out.below hb));obtain ⟨va5,vc5,hve5⟩:=HAT.out.form;subst hve5;unfold msgV at KQ;simp only at KQ;rw [← HV.out] at KQ;have hb5w:=hbE.trans (hb5.mono hbE.size);have HB5:=hid hb5w;clear hown5 hb5 HAT hLM HV HMO HMO2 HO2 HW2 HSM' HSS hb5w;generalize reasonV status=rs at KQ KR;refine (KR.out _).mono ?_
   rintro e w6 ⟨rfl,hw6⟩;go_wp2_with fail
   refine (KQ.out _ hw6).mono ?_
   rintro e w7 ⟨rfl,hw7⟩;go_wp2;go_ret2;exact ⟨rfl,(HB5.out.trans (hw6.mono HB5.out.size)).trans (hw7.mono (Nat.le_trans HB5.out.size hw6.size))⟩
def allowF (m:Ms) (ls:List Sing) (E:Nat → Int) (k:Nat):Int:=match allV m (ls.getD k ⟨[],0,#[]⟩).nm with | []=>0 | [_]=>E k | _=>4
theorem allowF_at {m:Ms} {ls:List Sing} {E:Nat → Int} {k:Nat} (hk:k < ls.length):allowF m ls E k=match allV m ls[k].nm with | []=>0 | [_]=>E k | _=>4:=by
 unfold allowF;rw [List.getD_eq_getElem?_getD,List.getElem?_eq_getElem hk]
 rfl
set_option maxHeartbeats 4000000 in
set_option maxRecDepth 100000 in
theorem readAllowed_any (m:Ms) (h:Value) (ls:List Sing) (bl b:Nat) (c0:RqC) (w0 w:World) (In:Nat → World → Prop) (E:Nat → Int)
  (hsm:SmallM 140737488355328 m) (hhl:m.headers.length≤1048576) (hat:HdrsAt w0 h m.headers) (hw0:Below w0.heap.size w0 w) (hb:w0.heap.size≤b)
  (hent:∀ s ∈ ls,∀ (args:Array Value) (w:World),(callFunc s.fn args).run Tryz.prog w=.ok (.enter s.fn args) w) (hnl:∀ s ∈ ls,s.nm.length≤1000) (hn:ls.length≤100) (hrow:RowIs w bl 104 (singCells ls)) (hblb:bl ≠ b) (hrq:RowIs w b 37 (rqCells c0))
  (hstab:∀ k wr w',In k wr → Below wr.heap.size wr w' → In k w') (hin:In 0 w)
  (hskip:∀ k (hk:k < ls.length) wr,In k wr → allV m ls[k].nm=[] → In (k+1) wr)
  (hcall:∀ k (hk:k < ls.length) wr s,In k wr → allV m ls[k].nm=[s] → Calls Tryz.prog ls[k].fn (#[.string ⟨s.toArray⟩]++ls[k].cap) wr fun e w'=>e=.returned (.int .i64 (E k))∧(∃ c',Upd b c' wr w')∧(E k=0 → In (k+1) w')) :
  Calls Tryz.prog 80 #[msgV m h,.slice (some ⟨bl,0,none⟩) ls.length ls.length] w fun e w'=>∃ x,e=.returned (.int .i64 x)∧FirstE (allowF m ls E) ls.length x∧(x=0 → In ls.length w')∧∃ c',Upd b c' w w':=by
 have hbl:=row_lt hrq;have KA:=hid (fun nm (hn:nm.length≤1000) w' (hb:Below w0.heap.size w0 w')=>fall_any m h nm w' hsm (by omega) (by omega) (hat.below hb));have HVN:=hid (fun nm=>Nat.le_trans (show (allV m nm).length≤m.headers.length by unfold allV; rw [List.length_map]; exact List.length_filter_le _ _) hhl);obtain ⟨ao,cap,hh0,_⟩:=hat.get;subst hh0;have A1:=(Below.refl w.heap.size w).alloc (Nat.le_refl _) (objM m (.slice ao m.headers.length cap));have HBX:=hid (boxM_new w m (.slice ao m.headers.length cap));have U1:Hid (∃ c',Upd b c' w (w.alloc (objM m (.slice ao m.headers.length cap)))):=⟨c0,Upd.of hrq A1⟩
 have HI1:=hid (hstab 0 _ _ hin A1);have HROW:=hid hrow;have HF:=hid (fun k (hk:k < ls.length)=>allowF_at (m:=m) (E:=E) hk);have HC:=hid hcall;have HSK:=hid hskip;have HS:=hid hstab;have HL:=hid hnl;have HEN:=hid hent;have HW0:=hid hw0;have HB:=hid hb;have HBB:=hid hblb;generalize hF:allowF m ls E=F at HF ⊢;clear hF hsm hhl hat hrow hcall hskip hstab hnl hent hw0 hb hblb hrq A1 hin;obtain ⟨n,hnn⟩:∃ n,n=ls.length:=⟨_,rfl⟩
 rw [← hnn] at hn ⊢;have HN:=hid hnn;clear hnn;generalize allV m=AV at KA HC HF HSK HVN;obtain ⟨me,ta,st,re,hs,bo⟩:=m;unfold msgV at KA ⊢;unfold objM at HBX U1 HI1;simp only at KA HBX U1 HI1 ⊢
 go_enter Tryz.func80,Tryz.ntmps80
 go_wp2
 go_loopw [13] (fun i wr=>∃ k:Nat,k≤n∧i=.int .i64 k∧Hid (In k wr)∧Hid (∃ c',Upd b c' w wr)∧Hid (BoxM wr w.heap.size ⟨me,ta,st,re,hs,bo⟩ (.slice ao hs.length cap))∧Hid (∀ j,j < k → F j=0)∧Hid (w.heap.size < wr.heap.size)) (fun i _=>n - (intOf i).toNat)
 case atStart=>exact ⟨0,Nat.zero_le _,rfl,HI1,U1,HBX,hid (fun j hj=>absurd hj (Nat.not_lt_zero j)),hid (by simp)⟩
 case round =>
  clear HI1 U1 HBX;obtain ⟨k,hk,rfl,HI,HU,HX,HZ,HT⟩:=hrel;by_cases hlt:k < n
  ·have hkl:k < ls.length:=by have:=HN.out; omega
   obtain ⟨cu,hu⟩:=HU.out;obtain ⟨s0,s1⟩:=sing_cells (show RowIs wr bl 104 (singCells ls) from hu.one HROW.out HBB.out) hkl;have hnm:=HL.out _ (List.getElem_mem hkl);have hen:=HEN.out _ (List.getElem_mem hkl);have HK:=hid (HC.out k hkl);have HKS:=hid (HSK.out k hkl);have HFK:=hid (HF.out k hkl);generalize hsk:ls[k]=sk at s0 s1 hnm hen HK HKS HFK;obtain ⟨nm,fn,cp⟩:=sk;simp only at s0 s1 hnm hen HK HKS HFK;have KN:=hid (KA.out nm hnm);have hob:=hu.outer0 HW0.out HB.out;have A2:=(Below.refl wr.heap.size wr).alloc (Nat.le_refl _) (.cells #[.string ⟨nm.toArray⟩,.func (.func fn) #[] cp] 104);have hob2:=hob.trans (A2.mono hob.size);have HX2:=hid (HX.out.below A2 HT.out);have q0:=hid (heap_alloc_new wr (.cells #[.string ⟨nm.toArray⟩,.func (.func fn) #[] cp] 104));have HI2:=hid (HS.out _ _ _ HI.out A2);have HU2:=hid (hu.below A2);have hT2:w.heap.size < (wr.alloc (.cells #[.string ⟨nm.toArray⟩,.func (.func fn) #[] cp] 104)).heap.size:=Nat.lt_of_lt_of_le HT.out A2.size;have hvn:=HVN.out nm;generalize AV nm=vals at KN HK HKS HFK hvn;generalize hek:E k=ek at HK HFK;obtain ⟨x0,x1,x2,x3,x4,x5⟩:=HX2.out;simp only at x0 x1 x2 x3 x4 x5;clear hsk hob A2 HI HU HL KA HC HF HSK hu HX HT hek HVN;go_wp2_with fail
   refine (KN.out _ hob2).mono ?_
   rintro e w3 ⟨v0,rfl,hov,hw3⟩;obtain ⟨va,vc,hve,hvc⟩:=hov.txts;subst hve;have HI3:=hid (HS.out _ _ _ HI2.out hw3);have HU3:=hid (HU2.out.below hw3);have HX3:=hid (HX2.out.below hw3 hT2);have hT3:=Nat.lt_of_lt_of_le hT2 hw3.size;have c1:=arr_cell (Below.one hw3 q0.out) (k:=1) rfl;clear x0 x1 x2 x3 x4 x5 HI2 HU2 HX2 hT2 q0 hw3 KN s0 s1 hob2 hov
   rcases vals with _ | ⟨s,_ | ⟨s',vs⟩⟩
   ·simp only at HFK;have HI4:=hid (HKS.out w3 HI3.out rfl);have HZ5:Hid (∀ j,j < k+1 → F j=0):=fun j hj=>by
     by_cases e:j=k
     ·rw [e]; exact HFK.out
     ·exact HZ.out j (by omega)
    have HT3:=hid hT3;clear HK HKS hvc HFK hvn;go_wp2
    go_loopw [26] (fun i w'=>i=.int .i64 0∧w'=w3) (fun i _=>0)
    case atStart=>exact ⟨rfl,rfl⟩
    case round =>
     obtain ⟨rfl,rfl⟩:=hrel;go_wp2;go_roundw
     case rel=>exact ⟨k+1,by omega,by go_num,HI4,hid ⟨_,HU3.out⟩,HX3,HZ5,HT3⟩
     case measure=>simp [intOf]; omega
   ·simp only at HFK;obtain ⟨a,ha,hab,hcell⟩:=hvc 0 (by simp);subst ha;simp only [List.getElem_cons_zero,add0] at hcell;have HK':=hid (HK.out w3 s HI3.out rfl);clear HK HKS hvc hvn hab;go_wp2
    go_loopw [26] (fun i w'=>∃ j:Nat,i=.int .i64 j∧Hid ((j=0∧w'=w3)∨(j=1∧In (k+1) w'∧(∃ c',Upd b c' w w')∧BoxM w' w.heap.size ⟨me,ta,st,re,hs,bo⟩ (.slice ao hs.length cap)∧F k=0∧w.heap.size < w'.heap.size))) (fun i _=>1 - (intOf i).toNat)
    case atStart=>exact ⟨0,rfl,hid (Or.inl ⟨rfl,rfl⟩)⟩
    case round =>
     obtain ⟨j,rfl,HJ⟩:=hrel
     rcases HJ.out with ⟨hj,hw⟩ | ⟨hj,hin6,hu6,hx6,hf6,ht6⟩
     ·subst hj;subst hw;go_wp2_with fail
      refine (HK'.out).mono ?_
      rintro e w4 ⟨rfl,⟨c5,hu5⟩,hin5⟩;have HU5:=hid (HU3.out.trans hu5);have HX5:=hid (HX3.out.upd hu5 hT3 (by omega));have HT5:=hid (Nat.lt_of_lt_of_le hT3 hu5.size);have HI5:=hid hin5;clear HU3 HX3 hT3 hu5 hin5 HK' c1 HI3 hcell;by_cases h0:ek=0
      ·subst h0;have HI6:=hid (HI5.out rfl);clear HI5 HJ;go_wp2;go_roundw
       case rel=>exact ⟨1,by go_num,hid (Or.inr ⟨rfl,HI6.out,⟨_,HU5.out⟩,HX5.out,HFK.out,HT5.out⟩)⟩
       case measure=>simp [intOf]
      ·have hne:(ek != 0)=true:=by simpa using h0
       clear HJ;go_wp2;go_ret;exact ⟨ek,rfl,Or.inr ⟨h0,k,hlt,HZ.out,HFK.out⟩,fun e=>absurd e h0,_,HU5.out⟩
     ·subst hj;have HZ5:Hid (∀ j,j < k+1 → F j=0):=fun j hj=>by
       by_cases e:j=k
       ·rw [e]; exact hf6
       ·exact HZ.out j (by omega)
      have HI6:=hid hin6;have HU6:=hid hu6;have HX6:=hid hx6;have HT6:=hid ht6;clear hin6 hu6 hx6 ht6 hf6 HJ HK' HU3 HX3 HI3 c1 hcell HFK;go_wp2;go_roundw
      case rel=>exact ⟨k+1,by omega,by go_num,HI6,HU6,HX6,HZ5,HT6⟩
      case measure=>simp [intOf]; omega
   ·simp only at HFK;have hgt:(1:Int) < ((vs.length+1+1:Nat):Int):=by omega
    simp only [List.length_cons];clear HK HKS hvc;go_wp2;go_ret;exact ⟨4,rfl,Or.inr ⟨by decide,k,hlt,HZ.out,HFK.out⟩,fun e=>absurd e (by decide),_,HU3.out⟩
  ·have hkn:k=n:=by omega
   subst hkn;go_wp2;go_ret;exact ⟨0,rfl,Or.inl ⟨rfl,HZ.out⟩,fun _=>HI.out,HU.out⟩
structure RmIn (B0:Nat) (w1:World) (b:Nat) (c:RqC) (wr:World):Prop where
 row:RowIs wr b 37 (rqCells c)
 b1:Below w1.heap.size w1 wr
 lo:w1.heap.size≤b
 frm:AdrC.Own w1 B0 ⟨c.r.frm,c.fp,c.fh,c.fq⟩
 too:AdrC.Own w1 B0 ⟨c.r.too,c.op,c.oh,c.oq⟩
 tp:OwnP wr (b+1) c.tp c.r.target.params
 th:OwnP wr (b+1) c.th c.r.target.headers
 ev:OwnP wr (b+1) c.eq c.r.event.params
 co:∃ cs:List AdrC,OwnA wr (b+1) c.co cs∧cs.map AdrC.a=c.r.contact
 ro:Own wr (b+1) 9 c.ro (strs c.r.routes)
 ac:Own wr (b+1) 9 c.ac (strs c.r.accept)
 sl:c.Sl
section
variable {B0 : Nat} {w1 wr w' : World} {b : Nat} {c c' : RqC}
theorem RmIn.below (H:RmIn B0 w1 b c wr) (hb:Below wr.heap.size wr w'):RmIn B0 w1 b c w':=by
 obtain ⟨cs,h1,h2⟩:=H.co;exact ⟨H.row.below hb (row_lt H.row),H.b1.trans (hb.mono H.b1.size),H.lo,H.frm,H.too,OwnP.below H.tp hb,OwnP.below H.th hb,OwnP.below H.ev hb,⟨cs,h1.below hb,h2⟩,H.ro.below hb,H.ac.below hb,H.sl⟩
theorem RmIn.upd (H:RmIn B0 w1 b c wr) (hu:Upd b c' wr w') (frm:c'.r.frm=c.r.frm∧c'.fp=c.fp∧c'.fh=c.fh∧c'.fq=c.fq) (too:c'.r.too=c.r.too∧c'.op=c.op∧c'.oh=c.oh∧c'.oq=c.oq)
  (tp:OwnP w' (b+1) c'.tp c'.r.target.params) (th:OwnP w' (b+1) c'.th c'.r.target.headers) (ev:OwnP w' (b+1) c'.eq c'.r.event.params) (co:∃ cs:List AdrC,OwnA w' (b+1) c'.co cs∧cs.map AdrC.a=c'.r.contact)
  (ro:Own w' (b+1) 9 c'.ro (strs c'.r.routes)) (ac:Own w' (b+1) 9 c'.ac (strs c'.r.accept)):RmIn B0 w1 b c' w':=by
 have s:=H.sl;obtain ⟨cs,h1,h2⟩:=co;refine ⟨hu.row,hu.outer0 H.b1 H.lo,H.lo,?_,?_,tp,th,ev,⟨cs,h1,h2⟩,ro,ac,?_⟩
 ·rw [frm.1,frm.2.1,frm.2.2.1,frm.2.2.2]; exact H.frm
 ·rw [too.1,too.2.1,too.2.2.1,too.2.2.2]; exact H.too
 ·exact ⟨pars_sl tp.parsAt,pars_sl th.parsAt,by rw [frm.2.1]; exact s.fp,by rw [frm.2.2.1]; exact s.fh,by rw [frm.2.2.2]; exact s.fq,by rw [too.2.1]; exact s.op,by rw [too.2.2.1]; exact s.oh,by rw [too.2.2.2]; exact s.oq,pars_sl ev.parsAt,(by obtain ⟨a,k,e⟩:=h1.form; exact ⟨a,_,k,e⟩),own_sl ro,own_sl ac⟩
theorem RmIn.coU (H:RmIn B0 w1 b c wr) (hu:Upd b c' wr w'):∃ cs:List AdrC,OwnA w' (b+1) c.co cs∧cs.map AdrC.a=c.r.contact:=by
 obtain ⟨cs,h1,h2⟩:=H.co;exact ⟨cs,h1.upd hu (by omega),h2⟩
theorem RmIn.tgt (H:RmIn B0 w1 b c wr) {u:Uri} {p q:Value} (hu:Upd b (c.tgt u p q) wr w') (hp:OwnP w' (b+1) p u.params) (hq:OwnP w' (b+1) q u.headers):RmIn B0 w1 b (c.tgt u p q) w' :=
 H.upd hu ⟨rfl,rfl,rfl,rfl⟩ ⟨rfl,rfl,rfl,rfl⟩ hp hq (H.ev.upd hu (by omega)) (H.coU hu) (H.ro.upd hu (by omega)) (H.ac.upd hu (by omega))
theorem RmIn.exp (H:RmIn B0 w1 b c wr) {t:Int} (hu:Upd b (c.exp t) wr w'):RmIn B0 w1 b (c.exp t) w' :=
 H.upd hu ⟨rfl,rfl,rfl,rfl⟩ ⟨rfl,rfl,rfl,rfl⟩ (H.tp.upd hu (by omega)) (H.th.upd hu (by omega)) (H.ev.upd hu (by omega)) (H.coU hu) (H.ro.upd hu (by omega)) (H.ac.upd hu (by omega))
theorem RmIn.typ (H:RmIn B0 w1 b c wr) {t:List UInt8} (hu:Upd b (c.typ t) wr w'):RmIn B0 w1 b (c.typ t) w' :=
 H.upd hu ⟨rfl,rfl,rfl,rfl⟩ ⟨rfl,rfl,rfl,rfl⟩ (H.tp.upd hu (by omega)) (H.th.upd hu (by omega)) (H.ev.upd hu (by omega)) (H.coU hu) (H.ro.upd hu (by omega)) (H.ac.upd hu (by omega))
theorem RmIn.mat (H:RmIn B0 w1 b c wr) {t:List UInt8} (hu:Upd b (c.mat t) wr w'):RmIn B0 w1 b (c.mat t) w' :=
 H.upd hu ⟨rfl,rfl,rfl,rfl⟩ ⟨rfl,rfl,rfl,rfl⟩ (H.tp.upd hu (by omega)) (H.th.upd hu (by omega)) (H.ev.upd hu (by omega)) (H.coU hu) (H.ro.upd hu (by omega)) (H.ac.upd hu (by omega))
theorem RmIn.evt (H:RmIn B0 w1 b c wr) {e:Ev} {v:Value} (hu:Upd b (c.evt e v) wr w') (hv:OwnP w' (b+1) v e.params):RmIn B0 w1 b (c.evt e v) w' :=
 H.upd hu ⟨rfl,rfl,rfl,rfl⟩ ⟨rfl,rfl,rfl,rfl⟩ (H.tp.upd hu (by omega)) (H.th.upd hu (by omega)) hv (H.coU hu) (H.ro.upd hu (by omega)) (H.ac.upd hu (by omega))
theorem RmIn.con (H:RmIn B0 w1 b c wr) {l:List Adr} {v:Value} (hu:Upd b (c.con l v) wr w') (hv:∃ cs:List AdrC,OwnA w' (b+1) v cs∧cs.map AdrC.a=l):RmIn B0 w1 b (c.con l v) w' :=
 H.upd hu ⟨rfl,rfl,rfl,rfl⟩ ⟨rfl,rfl,rfl,rfl⟩ (H.tp.upd hu (by omega)) (H.th.upd hu (by omega)) (H.ev.upd hu (by omega)) hv (H.ro.upd hu (by omega)) (H.ac.upd hu (by omega))
theorem RmIn.lists (H:RmIn B0 w1 b c wr) {l l':List (List UInt8)} {v v':Value} (hu:Upd b ((c.rou l v).acc l' v') wr w') (hv:Own w' (b+1) 9 v (strs l)) (hv':Own w' (b+1) 9 v' (strs l')):RmIn B0 w1 b ((c.rou l v).acc l' v') w' :=
 H.upd hu ⟨rfl,rfl,rfl,rfl⟩ ⟨rfl,rfl,rfl,rfl⟩ (H.tp.upd hu (by omega)) (H.th.upd hu (by omega)) (H.ev.upd hu (by omega)) (H.coU hu) hv hv'
end
theorem allow_enters (g:Nat):∀ s ∈ allowL g,∀ (args:Array Value) (w:World),(callFunc s.fn args).run Tryz.prog w=.ok (.enter s.fn args) w:=by
 intro s hs;simp only [allowL,List.mem_cons,List.not_mem_nil,or_false] at hs
 rcases hs with rfl | rfl | rfl | rfl | rfl
 ·exact enters10 Tryz.func126 (by kernel_rfl) rfl
 ·exact enters10 Tryz.func128 (by kernel_rfl) rfl
 ·exact enters10 Tryz.func130 (by kernel_rfl) rfl
 ·exact enters10 Tryz.func132 (by kernel_rfl) rfl
 ·exact enters10 Tryz.func134 (by kernel_rfl) rfl
theorem fK_err (k:Nat) (m:Ms) (r r':Rq):(fK k m r).2=(fK k m r').2:=by
 unfold fK fExpV fEvtV fConV fTypV fMatV
 split <;> (split <;> rfl)
theorem fK_tgt (k:Nat) (m:Ms) (r:Rq) (u:Uri):fK k m { r with target:=u }=({ (fK k m r).1 with target:=u },(fK k m r).2):=by
 unfold fK fExpV fEvtV fConV fTypV fMatV
 split <;> (split <;> rfl)
theorem prefR_tgt (m:Ms) (r:Rq) (u:Uri):∀ k,prefR m { r with target:=u } k=({ (prefR m r k).1 with target:=u },(prefR m r k).2)
 | 0=>rfl
 | k+1=>by
  simp only [prefR];rw [prefR_tgt m r u k];unfold thenV
  simp only
  split
  ·rfl
  ·rw [fK_tgt]
theorem fields_tgt (m:Ms) (r:Rq) (u:Uri):fieldsR m { r with target:=u }=({ (fieldsR m r).1 with target:=u },(fieldsR m r).2):=by
 rw [fields_pref,fields_pref,prefR_tgt]
theorem pref_ok {m:Ms} {r:Rq}:∀ {k:Nat},(∀ j,j < k → (fK j m noR).2=0) → (prefR m r k).2=0
 | 0,_=>rfl
 | k+1,h=>by
  have ih:=pref_ok (r:=r) (k:=k) (fun j hj=>h j (by omega));simp only [prefR];unfold thenV;rw [if_neg (by simp [ih]),fK_err k m _ noR];exact h k (by omega)
def allowE (m:Ms) (k:Nat):Int:=(fK k m noR).2
theorem allowF_is (m:Ms) (g:Nat):∀ k,k < 5 → allowF m (allowL g) (allowE m) k=(fK k m noR).2:=by
 intro k hk
 match k,hk with
 | 0,_=>show (match allV m expireK with | []=>0 | [_]=>(fExpV m noR).2 | _=>4)=(fExpV m noR).2; unfold fExpV; split <;> simp_all
 | 1,_=>show (match allV m eventK with | []=>0 | [_]=>(fEvtV m noR).2 | _=>4)=(fEvtV m noR).2; unfold fEvtV; split <;> simp_all
 | 2,_=>show (match allV m contactK with | []=>0 | [_]=>(fConV m noR).2 | _=>4)=(fConV m noR).2; unfold fConV; split <;> simp_all
 | 3,_=>show (match allV m typeK with | []=>0 | [_]=>(fTypV m noR).2 | _=>4)=(fTypV m noR).2; unfold fTypV; split <;> simp_all
 | 4,_=>show (match allV m matchK with | []=>0 | [_]=>(fMatV m noR).2 | _=>4)=(fMatV m noR).2; unfold fMatV; split <;> simp_all
 | k+5,h=>exact absurd h (by omega)
theorem fields_first {m:Ms} {r:Rq} {g:Nat} {x:Int} (h:FirstE (allowF m (allowL g) (allowE m)) 5 x):(fieldsR m r).2=x:=by
 rcases h with ⟨rfl,hj⟩ | ⟨hx,k,hk,hj,he⟩
 ·rw [fields_pref];exact pref_ok fun j hj'=>by rw [← allowF_is m g j hj']; exact hj j hj'
 ·have h0:(prefR m r k).2=0:=pref_ok fun j hj'=>by rw [← allowF_is m g j (by omega)]; exact hj j hj'
  rw [allowF_is m g k hk] at he;exact pref_stop (s:=(prefR m r k).1) hk (by rw [← h0]) (by rw [fK_err k m _ noR,he]) hx
def AwIn (B0:Nat) (w1:World) (b:Nat) (m:Ms) (r0:Rq) (g k:Nat) (wr:World):Prop:=∃ c,RmIn B0 w1 b c wr∧prefR m r0 k=(c.r,0)∧PtrAt wr g b
theorem AwIn.below {B0:Nat} {w1 wr w':World} {b:Nat} {m:Ms} {r0:Rq} {g k:Nat} (H:AwIn B0 w1 b m r0 g k wr) (hb:Below wr.heap.size wr w'):AwIn B0 w1 b m r0 g k w':=by
 obtain ⟨c,h1,h2,h3⟩:=H;exact ⟨c,h1.below hb,h2,h3.below hb⟩
theorem allow_skip (B0:Nat) (w1:World) (b:Nat) (m:Ms) (r0:Rq) (g:Nat):∀ k (hk:k < (allowL g).length) wr,AwIn B0 w1 b m r0 g k wr → allV m (allowL g)[k].nm=[] → AwIn B0 w1 b m r0 g (k+1) wr:=by
 intro k hk wr ⟨c,H,hc,hp⟩ ha;refine ⟨c,H,?_,hp⟩
 rw [pref_next hc]
 match k,hk with
 | 0,hk=>show fExpV m c.r=_; unfold fExpV; rw [show allV m expireK=[] from ha]
 | 1,hk=>show fEvtV m c.r=_; unfold fEvtV; rw [show allV m eventK=[] from ha]
 | 2,hk=>show fConV m c.r=_; unfold fConV; rw [show allV m contactK=[] from ha]
 | 3,hk=>show fTypV m c.r=_; unfold fTypV; rw [show allV m typeK=[] from ha]
 | 4,hk=>show fMatV m c.r=_; unfold fMatV; rw [show allV m matchK=[] from ha]
 | k+5,hk=>exact absurd hk (by simp [allowL])
theorem allow_calls (B0:Nat) (w1:World) (b:Nat) (m:Ms) (r0:Rq) (g:Nat) (hsm:SmallM 1048576 m):∀ k (hk:k < (allowL g).length) wr s,AwIn B0 w1 b m r0 g k wr → allV m (allowL g)[k].nm=[s] →
  Calls Tryz.prog (allowL g)[k].fn (#[.string ⟨s.toArray⟩]++(allowL g)[k].cap) wr fun e w'=>e=.returned (.int .i64 (allowE m k))∧(∃ c',Upd b c' wr w')∧(allowE m k=0 → AwIn B0 w1 b m r0 g (k+1) w'):=by
 intro k hk wr s ⟨c,H,hc,hp⟩ ha;have hn:=ptr_ne hp H.row;have hN:=pref_next hc;have hsl:s.length≤1048576:=all_small hsm _ s (by rw [ha]; simp);have hlo:b+1≤wr.heap.size:=row_lt H.row
 match k,hk with
 | 0,hk =>
  have e0:∀ r,fK 0 m r=({ r with expires:=(timeV s).1 },(timeV s).2):=fun r=>by show fExpV m r=_; unfold fExpV; rw [show allV m expireK=[s] from ha]
  have e1:allowE m 0=(timeV s).2:=by unfold allowE; rw [e0]
  refine (allow1_any s b g c wr hsl hp H.row).mono ?_
  rintro e w' ⟨rfl,hu⟩;rw [e1];refine ⟨rfl,⟨_,hu⟩,fun h0=>⟨_,H.exp hu,?_,hu.one hp hn⟩⟩
  rw [hN,e0,h0]; rfl
 | 1,hk =>
  have e0:∀ r,fK 1 m r=({ r with event:=(eventV s).1 },(eventV s).2):=fun r=>by show fEvtV m r=_; unfold fEvtV; rw [show allV m eventK=[s] from ha]
  have e1:allowE m 1=(eventV s).2:=by unfold allowE; rw [e0]
  refine (allow2_any s b g c wr hsl hp H.row).mono ?_
  rintro e w' ⟨rfl,v,hv,hu⟩;rw [e1];refine ⟨rfl,⟨_,hu⟩,fun h0=>⟨_,H.evt hu (OwnP.mono hv hlo),?_,hu.one hp hn⟩⟩
  rw [hN,e0,h0]; rfl
 | 2,hk =>
  have e0:∀ r,fK 2 m r=({ r with contact:=(listA s).1 },(listA s).2):=fun r=>by show fConV m r=_; unfold fConV; rw [show allV m contactK=[s] from ha]
  have e1:allowE m 2=(listA s).2:=by unfold allowE; rw [e0]
  refine (allow3_any s b g c wr hsl hp H.row).mono ?_
  rintro e w' ⟨rfl,v,cs,hcs,hv,hu⟩;rw [e1];refine ⟨rfl,⟨_,hu⟩,fun h0=>⟨_,H.con hu ⟨cs,hv.mono hlo,hcs⟩,?_,hu.one hp hn⟩⟩
  rw [hN,e0,h0]; rfl
 | 3,hk =>
  have e0:∀ r,fK 3 m r=({ r with type:=typeT s },0):=fun r=>by show fTypV m r=_; unfold fTypV; rw [show allV m typeK=[s] from ha]
  have e1:allowE m 3=0:=by unfold allowE; rw [e0]
  refine (allow4_any s b g c wr hsl hp H.row).mono ?_
  rintro e w' ⟨rfl,hu⟩;rw [e1];refine ⟨rfl,⟨_,hu⟩,fun h0=>⟨_,H.typ hu,?_,hu.one hp hn⟩⟩
  rw [hN,e0]; rfl
 | 4,hk =>
  have e0:∀ r,fK 4 m r=({ r with mtch:=s },if tokenB s=true then 0 else 160):=fun r=>by show fMatV m r=_; unfold fMatV; rw [show allV m matchK=[s] from ha]
  have e1:allowE m 4=if tokenB s=true then 0 else 160:=by unfold allowE; rw [e0]
  refine (allow5_any s b g c wr hsl hp H.row).mono ?_
  rintro e w' ⟨rfl,hu⟩;rw [e1];refine ⟨rfl,⟨_,hu⟩,fun h0=>?_⟩
  have ht:tokenB s=true:=by
   cases hx:tokenB s with
   | true=>rfl
   | false=>rw [hx] at h0; simp at h0
  rw [if_pos ht] at hu;refine ⟨_,H.mat hu,?_,hu.one hp hn⟩
  rw [hN,e0,if_pos ht]; rfl
 | k+5,hk=>exact absurd hk (by simp [allowL])
theorem readAllowed_more {B0:Nat} (m:Ms) (h:Value) (w0 w1 W:World) (b:Nat) (c:RqC) (g bl:Nat) (hsm:SmallM 1048576 m) (hhl:m.headers.length≤1048576) (hat:HdrsAt w0 h m.headers) (h01:Below w0.heap.size w0 w1) (H:RmIn B0 w1 b c W) (hp:PtrAt W g b)
  (hrow:RowIs W bl 104 (singCells (allowL g))) :
  Calls Tryz.prog 80 #[msgV m h,.slice (some ⟨bl,0,none⟩) 5 5] W fun e w'=>∃ x,e=.returned (.int .i64 x)∧(fieldsR m c.r).2=x∧(x=0 → ∃ c',RmIn B0 w1 b c' w'∧fieldsR m c.r=(c'.r,0))∧∃ c',Upd b c' W w':=by
 have hne:bl ≠ b:=by
  rintro rfl
  have:=H.row
  unfold RowIs at this hrow;rw [hrow] at this
  simp at this
 have hb0:Below w0.heap.size w0 W:=h01.trans (H.b1.mono h01.size);refine (readAllowed_any m h (allowL g) bl b c w0 W (AwIn B0 w1 b m c.r g) (allowE m) (hsm.le (by omega)) hhl hat hb0 (Nat.le_trans h01.size H.lo) (allow_enters g) (by intro s hs; simp [allowL] at hs; rcases hs with rfl | rfl | rfl | rfl | rfl <;> simp [expireK,eventK,contactK,typeK,matchK]) (by simp [allowL]) hrow hne H.row
  (fun k wr w' h1 h2=>h1.below h2) ⟨c,H,rfl,hp⟩ (allow_skip B0 w1 b m c.r g) (allow_calls B0 w1 b m c.r g hsm)).mono ?_
 rintro e w' ⟨x,rfl,hx,hin,hu⟩;refine ⟨x,rfl,fields_first hx,fun h0=>?_,hu⟩
 obtain ⟨c',h1,h2,_⟩:=hin h0;exact ⟨c',h1,by rw [fields_pref]; exact h2⟩
end Go.Proofs.YtiogedceommcoaaGreatDoor
