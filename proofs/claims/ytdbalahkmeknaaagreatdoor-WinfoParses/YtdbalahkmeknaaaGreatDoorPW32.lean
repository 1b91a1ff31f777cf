/-
  WC8, Builder, XBld, XWrite.
-/
import Derived.Test.YtdbalahkmeknaaaGreatDoorPW31
import Derived.Lib.Builder
set_option linter.unusedVariables false
set_option linter.unusedSimpArgs false
set_option maxRecDepth 20000
namespace Go.Proofs.YtdbalahkmeknaaaGreatDoor
open Go.RowKit Sc
set_option maxHeartbeats 4000000 in
set_option maxRecDepth 100000 in
theorem wread_any (v:Value) (cs:List NdC) (w:World) (hz:cs.length≤1000) (hsm:∀ c ∈ cs,SmallN 1048576 c.nd) (hv:NdsAt w v cs) :
  Calls Tryz.prog 29 #[v] w fun e w'=>GuP (wreadR (ndsL cs)) w e w':=by
 have HNW:=hid (fun (W':World) (h:Below w.heap.size w W')=>hv.below h);have HSM:=hid hsm;obtain ⟨va,vc,hvf⟩:=hv.form;obtain ⟨cn,hcn⟩:∃ cn,cn=cs.length:=⟨_,rfl⟩
 rw [← hcn] at hvf hz;subst hvf;have HCN:=hid hcn;have HLN:Hid ((ndsL cs).length=cn):=show _=_ by rw [ndsL_len]; exact hcn.symm
 have HGET:=hid (fun k (hk:k < cs.length)=>ndsL_get hk);clear hv hsm hcn;obtain ⟨l,hl⟩:∃ l,l=ndsL cs:=⟨_,rfl⟩
 rw [← hl] at HLN ⊢;have HL:=hid hl;clear hl;have hG:Hid (RdS w _ l 0 0 [] none 0 0 []):=show RdS _ _ _ _ _ _ _ _ _ _ from ⟨by rw [List.take_zero]; rfl,by rw [List.take_zero]; rfl,by rw [List.take_zero]; rfl,rfl,Nat.le_refl _,gu_new w⟩
 have KS:=hid (fun (j:Nat) (hj:j < cs.length) nm w' (h:ParsAt w' cs[j].a cs[j].nd.attrs)=>wsaid_any cs[j].nd cs[j].a nm w' (by have hz:=HSM.out _ (List.getElem_mem hj); exact ⟨by have:=hz.2.2.1.1; omega,fun p hp=>⟨by have:=(hz.2.2.1.2 p hp).1; omega,by have:=(hz.2.2.1.2 p hp).2; omega⟩⟩) h);have KL:=hid (fun (j:Nat) (hj:j < cs.length) nm=>watt_small (nm:=nm) (HSM.out _ (List.getElem_mem hj)).2.2.1);have KW:=hid (fun (j:Nat) (hj:j < cs.length) w' (h:ParsAt w' cs[j].a cs[j].nd.attrs)=>wwatcher_any cs[j].nd cs[j].a w' (HSM.out _ (List.getElem_mem hj)) h)
 go_enter Tryz.func29,Tryz.ntmps29
 go_upto_region 2 with fail
 generalize World.alloc (World.alloc w _) _=W0 at hG ⊢;go_wp2
 go_loopw [8] (fun i wr=>∃ (k:Nat) (n0:Int) (t1:List UInt8) (vo:Option Addr) (tn tc:Nat) (ts:List Wt),k≤cn∧i=.int .i64 (k:Int)∧Hid (RdS w wr l k n0 t1 vo tn tc ts)) (fun i _=>cn - (intOf i).toNat)
 case atStart=>exact ⟨0,0,[],none,0,0,[],Nat.zero_le _,rfl,hG⟩
 case round =>
  clear hG;obtain ⟨k,n0,t1,vo,tn,tc,ts,hkn,rfl,hG0⟩:=hrel;obtain ⟨hn0,ht1,hts,htn,htk,hG⟩:=hG0.out;have HG:=hid hG;have HN0:=hid hn0;have HT1:=hid ht1;have HTS:=hid hts;have HTN:=hid htn;clear hG0 hG hn0 ht1 hts htn;by_cases hlt:k < cn
  ·have hkl:k < cs.length:=by have:=HCN.out; omega
   have hkL:k < l.length:=by have:=HLN.out; omega
   have q6:(k:Int) < (cn:Int):=by omega
   obtain ⟨ao,cap,hva,hcc⟩:=HNW.out wr HG.out.bel;obtain ⟨ad,hao,hab,n0',p0⟩:=hcc k hkl
   injection hva with e1 e2 e3
   rw [hao] at e1;subst e1;clear hao e2 e3 hcc
   have hLK:l[k]=cs[k].nd:=by
    have h:=HGET.out k hkl;have e:=HL.out;subst e;exact h
   have HLK:=hid hLK;clear hLK;have htx:=(HSM.out _ (List.getElem_mem hkl)).2.1;have KSk:=hid (KS.out k hkl);have KLk:=hid (KL.out k hkl);have KWk:=hid (KW.out k hkl);generalize cs[k]=C at n0' p0 HLK htx KSk KLk KWk;obtain ⟨⟨dp,nm,asx,tx⟩,av⟩:=C;obtain ⟨c0,c1,c2,c3⟩:=n0';unfold ndV at KSk KWk;simp only at c0 c1 c2 c3 p0 KSk KWk HLK htx;obtain ⟨pa,pc,hpf⟩:=p0.form;subst hpf;obtain ⟨pn,hpn⟩:∃ pn,pn=asx.length:=⟨_,rfl⟩
   rw [← hpn] at c2 p0 KSk KWk;have HP:=hid (fun (W':World) (h:Below wr.heap.size wr W')=>p0.below h);have hGA:=hid (HG.out.alloc (.cells #[.int .i64 dp,.string ⟨nm.toArray⟩,.slice pa pn pc,.string ⟨tx.toArray⟩] 49));have hRA:=hid (rc_row4 wr (.int .i64 dp) (.string ⟨nm.toArray⟩) (.slice pa pn pc) (.string ⟨tx.toArray⟩) 49);have hlA:=hid (alloc_lt wr (.cells #[.int .i64 dp,.string ⟨nm.toArray⟩,.slice pa pn pc,.string ⟨tx.toArray⟩] 49));have hbA:=hid ((Below.refl _ wr).alloc (Nat.le_refl _) (.cells #[.int .i64 dp,.string ⟨nm.toArray⟩,.slice pa pn pc,.string ⟨tx.toArray⟩] 49));clear p0 hpn HG KS KL KW
   go_upto_region 5 with fail
   clear c0 c1 c2 c3;generalize World.alloc wr _=W1 at hGA hRA hlA hbA ⊢;obtain ⟨y0,y1,y2,y3,_,_,_,_⟩:=hRA.out.rc4;have hPA:=HP.out W1 hbA.out
   rcases (show k=0∨k=1∨2≤k by omega) with hk | hk | hk
   ·have q0:((k:Int)==0)=true:=by subst hk; rfl
    have hs1:=KLk.out versionK
    have HV1:Hid (verR (l.take (k+1))=(numV 2147483647 (wattV versionK ⟨dp,nm,asx,tx⟩)).1):=show _=_ by
     subst hk;rw [verR_one hkL,HLK.out]
    have KSv:=hid (KSk.out versionK W1 hPA);generalize wattV versionK ⟨dp,nm,asx,tx⟩=VV at HV1 KSv hs1;have KN:=hid (fun u=>wnumber_any VV 2147483647 u (by omega) (by decide) (by decide));generalize (numV 2147483647 VV).1=NV at HV1 KN;clear KSk KLk KWk hPA HP;go_wp2_with fail
    refine KSv.out.mono ?_
    rintro e w2 ⟨rfl,hw2⟩;have hG2:=hid (hGA.out.below hw2);clear y0 y1 y2 y3 hGA hRA hw2 KSv;obtain ⟨y0,y1,y2,f0,f1,f2⟩:=hG2.out.row.rc3;go_wp2_with fail
    refine (KN.out _).mono ?_
    rintro e w3 ⟨rfl,hw3⟩;rw [hw3];clear hw3 w3;have hG3:=hid (hG2.out.set0 (.int .i64 NV));go_wp2;generalize World.setCell _ _ _=w5 at hG3 ⊢;go_roundw
    case rel=>exact ⟨k+1,NV,t1,vo,tn,tc,ts,by omega,by go_num,show RdS _ _ _ _ _ _ _ _ _ _ from ⟨HV1.out.symm,by rw [HT1.out,show k=0 from hk,resR_one]; rfl,by rw [HTS.out,rfew (by omega),rfew (by omega)],HTN.out,by omega,hG3.out⟩⟩
    case measure=>simp [intOf]; omega
   ·have q0:((k:Int)==0)=false:=by subst hk; rfl
    have q1:((k:Int)==1)=true:=by subst hk; rfl
    have hs1:=KLk.out resourceK
    have HV1:Hid (resR (l.take (k+1))=trimP sipcK (wattV resourceK ⟨dp,nm,asx,tx⟩)):=show _=_ by
     subst hk;rw [resR_two hkL,HLK.out]
    have KSv:=hid (KSk.out resourceK W1 hPA);generalize wattV resourceK ⟨dp,nm,asx,tx⟩=RV at HV1 KSv hs1;have KN:=hid (fun u=>trimP_any RV [115,105,112,58] u (by omega) (by decide));rw [show trimP [115,105,112,58] RV=trimP sipcK RV from rfl] at KN;generalize trimP sipcK RV=TV at HV1 KN;clear KSk KLk KWk hPA HP;go_wp2_with fail
    refine KSv.out.mono ?_
    rintro e w2 ⟨rfl,hw2⟩;have hG2:=hid (hGA.out.below hw2);clear y0 y1 y2 y3 hGA hRA hw2 KSv;obtain ⟨y0,y1,y2,f0,f1,f2⟩:=hG2.out.row.rc3;go_wp2_with fail
    refine (KN.out _).mono ?_
    rintro e w3 ⟨rfl,hw3⟩;rw [hw3];clear hw3 w3;have hG3:=hid (hG2.out.set1 (.string ⟨TV.toArray⟩));go_wp2;generalize World.setCell _ _ _=w5 at hG3 ⊢;go_roundw
    case rel=>exact ⟨k+1,n0,TV,vo,tn,tc,ts,by omega,by go_num,show RdS _ _ _ _ _ _ _ _ _ _ from ⟨by rw [HN0.out,verR_more (by omega) hkL],HV1.out.symm,by rw [HTS.out,rfew (by omega),rfew (by omega)],HTN.out,by omega,hG3.out⟩⟩
    case measure=>simp [intOf]; omega
   ·have q0:((k:Int)==0)=false:=by rw [beq_eq_false_iff_ne]; omega
    have q1:((k:Int)==1)=false:=by rw [beq_eq_false_iff_ne]; omega
    have HWT:=hid (rnext hk hkL);rw [HLK.out] at HWT;have HNV:=hid (verR_more (l:=l) (k:=k) (by omega) hkL);have HTV:=hid (resR_more (l:=l) (k:=k) hk hkL);have KWf:=hid (fun u (h:Below W1.heap.size W1 u)=>KWk.out u (HP.out u (hbA.out.trans (h.mono hbA.out.size))));unfold wtV at KWf;generalize wtR ⟨dp,nm,asx,tx⟩=T at HWT KWf;clear KSk KLk KWk hPA HP y0 y1 y2 y3
    go_upto_region 6 with fail
    refine rr6_region ⟨rfl,⟨_,rfl,rfl,rfl,rfl⟩,⟨_,rfl,rfl,rfl,rfl⟩,⟨_,rfl,rfl,rfl,rfl⟩,⟨_,rfl,rfl,rfl,rfl⟩,⟨_,rfl,rfl,rfl,rfl⟩,⟨_,rfl,rfl,rfl,rfl⟩,⟨_,rfl,rfl,rfl,rfl⟩,⟨_,rfl,rfl,rfl,rfl⟩,waits_of (by kernel_rfl),waits_of (by kernel_rfl),waits_of (by kernel_rfl),waits_of (by kernel_rfl),waits_of (by kernel_rfl),waits_of (by kernel_rfl),waits_of (by kernel_rfl)⟩ (by kernel_rfl) (by kernel_rfl) _ W1 (w.heap.size+2) (w.heap.size+1) wr.heap.size tn tc vo dp nm tx pa pn pc T rfl rfl rfl rfl (.int .i64 n0) (.string ⟨t1.toArray⟩) hGA.out.row (by omega) hGA.out.lt hRA.out hlA.out KWf.out ts hGA.out.own (by have:=HTN.out; omega) ?_
    intro v' us u hus hown hbu;obtain ⟨r0,r1,r2,r3,r4,r5,r6,rfl⟩:=list7I hus;have hG4:=hid (hGA.out.app hbu hown);obtain ⟨vo6,vc6,hvf⟩:=hown.form;obtain ⟨n6,hn6⟩:∃ n6,n6=(ts++[T]).length:=⟨_,rfl⟩
    rw [← hn6] at hvf;subst hvf;have HN6:=hid hn6;clear hus hown hbu hn6 hGA hRA hlA hbA KWf;generalize World.setCell _ _ _=w9 at hG4 ⊢;simp only [List.take_succ_cons,List.take_zero,List.drop_succ_cons,List.drop_zero,List.cons_append,List.nil_append];go_wp2;go_roundw
    case rel=>exact ⟨k+1,n0,t1,vo6,n6,vc6,ts++[T],by omega,by go_num,show RdS _ _ _ _ _ _ _ _ _ _ from ⟨by rw [HN0.out,HNV.out],by rw [HT1.out,HTV.out],by rw [HWT.out,HTS.out],HN6.out,by have h1:=HN6.out; have h2:=HTN.out; rw [List.length_append,List.length_singleton] at h1; omega,hG4.out⟩⟩
    case measure=>simp [intOf]; omega
  ·have q6:¬ (k:Int) < (cn:Int):=by omega
   have hE:Hid (wreadR l=⟨n0,t1,ts⟩):=show _=_ by
    rw [HN0.out,HT1.out,HTS.out,List.take_of_length_le (by have:=HLN.out; omega)]; rfl
   clear HN0 HT1 HTS HTN KS KL KW;obtain ⟨y0,y1,y2,_,_,_⟩:=HG.out.row.rc3;obtain ⟨z0,z1,z2,g0,g1,g2⟩:=HG.out.res.rc3;have hD:=hid HG.out.done;clear HG;go_wp2;generalize World.setCell _ _ _=w9 at hD ⊢;obtain ⟨d1,d2,d3⟩:=hD.out;obtain ⟨e0,e1,e2,_,_,_⟩:=d2.rc3
   try simp only [Exit.inBlock,Exit.then]
   refine bodyPost_ret (v:=infV ⟨n0,t1,ts⟩ (.slice vo tn tc)) (by simp [results,Tryz.results29,go_sem,e0,e1,e2,infV]; try rfl) rfl ?_
   rw [hE.out];exact ⟨_,rfl,d1,d3⟩
end Go.Proofs.YtdbalahkmeknaaaGreatDoor
namespace Go.Proofs.YtdbalahkmeknaaaGreatDoor
open Go.RowKit
abbrev IsBld (w:World) (B b:Nat) (l:List UInt8):Prop:=Lib.IsBuilderF 75 5 B b (Lib.byteCells l) w
theorem sizeBld:(Tryz.prog.info? 75).map (·.size)=some 2:=by kernel_rfl
theorem liesBld:liesAt Tryz.prog Tryz.prog.depth 75 (2 / Tryz.prog.cellsOf 75) 0 75 1=true:=by kernel_rfl
theorem infoPB:∃ j,Tryz.prog.info? 75=some j∧j.size=2:=Option.map_eq_some_iff.1 sizeBld
set_option maxHeartbeats 400000 in
theorem copyUsed (b:Nat) (w:World) (h0:w.cell? ⟨b,0,none⟩=some (.pointer (some ⟨b,0,none⟩))) :
  Calls Tryz.prog 78 #[.pointer (some ⟨b,0,none⟩)] w fun e w'=>e=.returned (.tuple #[])∧w'=w:=by
 obtain ⟨j,hj,_⟩:=infoPB
 go_enter Tryz.func78,Tryz.ntmps78
 go_wp2;rw [Lib.run_neq_ptr_same w _ Tryz.underlying72 hj];go_wp2
 go_end0
 exact ⟨rfl,rfl⟩
set_option maxHeartbeats 400000 in
theorem copyFresh (b:Nat) (w:World) (h0:w.cell? ⟨b,0,none⟩=some (.pointer none)) (hsh:w.shape? b=some (75,2)) (hfz:w.frozen? ⟨b,0,none⟩=false) :
  Calls Tryz.prog 78 #[.pointer (some ⟨b,0,none⟩)] w fun e w'=>e=.returned (.tuple #[])∧w'=w.setCell ⟨b,0,none⟩ (.pointer (some ⟨b,0,none⟩)):=by
 obtain ⟨j,hj,hjs⟩:=infoPB
 go_enter Tryz.func78,Tryz.ntmps78
 go_wp2;rw [Lib.run_to_unsafe w ⟨b,0,none⟩ Tryz.underlying72 Tryz.underlying140 hj (by rw [hjs]; decide) hsh (Nat.zero_lt_succ 1)];simp only [Result.andThen];rw [Oper.upon_value];go_wp2;rw [run_callFunc_extern Tryz.func113 (by kernel_rfl) (by kernel_rfl) (by kernel_rfl) (e:=Extern.AbiNoEscape.same) (by kernel_rfl)];rw [Lib.run_noEscape];simp only [Result.andThen];rw [Oper.upon_value];go_wp2;rw [Lib.run_from_unsafe w ⟨b,0,none⟩ Tryz.underlying140 Tryz.underlying72 hj hsh liesBld];simp only [Result.andThen];rw [Oper.upon_value];go_wp2
 go_end0
 exact ⟨rfl,rfl⟩
theorem copyCheck_any (B b:Nat) (bs:List Value) (w:World) (h:Lib.IsBuilderF 75 5 B b bs w) :
  Calls Tryz.prog 78 #[.pointer (some ⟨b,0,none⟩)] w fun e w'=>e=.returned (.tuple #[])∧(Lib.BuilderAtF 75 5 B b (.pointer (some ⟨b,0,none⟩)) bs w'∧Below B w w'∧Lib.OthersKept 5 (some b) w w'):=by
 rcases h with h | h
 ·refine (copyFresh b w h.cell0 h.shape h.frozen0).mono ?_
  rintro e w' ⟨rfl,rfl⟩;exact ⟨rfl,h.used _,(Below.refl B w).setCell (p:=⟨b,0,none⟩) h.1 _,(Lib.OthersKept.refl _ _ w).setCell ⟨b,0,none⟩ rfl _⟩
 ·refine (copyUsed b w h.cell0).mono ?_
  rintro e w' ⟨rfl,rfl⟩;exact ⟨rfl,h,Below.refl B _,Lib.OthersKept.refl _ _ _⟩
set_option maxHeartbeats 2000000 in
set_option maxRecDepth 100000 in
theorem writeByte_any (B b:Nat) (bs:List Value) (c:Int) (w:World) (h:Lib.IsBuilderF 75 5 B b bs w) (hlen:bs.length+1≤140737488355328) (hBw:B≤w.heap.size) :
  Calls Tryz.prog 114 #[.pointer (some ⟨b,0,none⟩),.int .u8 c] w fun e w'=>e=.returned .nilIface∧(Lib.BuilderAtF 75 5 B b (.pointer (some ⟨b,0,none⟩)) (bs++[.int .u8 c]) w'∧Below B w w'∧Lib.OthersKept 5 (some b) w w'):=by
 obtain ⟨i0,hi,hz0,hz1,hz2⟩:=info_parts info5
 go_enter Tryz.func114,Tryz.ntmps114
 go_wp2_with (go_at_call 78; refine (copyCheck_any B b bs _ h).mono ?_)
 rintro e w1 ⟨rfl,h1,hb1,hk1⟩;obtain ⟨hB,v,hbk,hown,hne⟩:=h1;have c0:w1.cell? ⟨b,0,none⟩=some (.pointer (some ⟨b,0,none⟩)):=by rw [Lib.cell_of_heap hbk]; rfl
 have c1:w1.cell? ⟨b,1,none⟩=some v:=by rw [Lib.cell_of_heap hbk]; rfl
 go_wp2_with (at_builtin; refine wpList_append_ownF _ rfl _ _ 73 rfl B 5 i0 (.int .u8 0) 1 1 Tryz.underlying73 hi hz0 hz1 hz2 rfl (by decide) _ _ _ rfl (hown.alloc _) ⟨w1.heap.size,0,none⟩ 1 1 [.int .u8 c] rfl rfl ?c1 ?c2 ?c3 ?c4 ?c5 ?_)
 case c1 =>
  intro j u hj
  match j,hj with
  | 0,hj=>simp at hj; subst hj; simp [Addr.add]
 case c2=>intro u hu; simp at hu; subst hu; rfl
 case c3=>unfold maxLen; omega
 case c4=>omega
 case c5=>have:=hb1.size; simp; omega
 intro v' w2 hown' hgrow _
 have hlt:b < w1.heap.size:=by
  rcases Nat.lt_or_ge b w1.heap.size with h' | h'
  ·exact h'
  ·simp [Array.getElem?_eq_none h'] at hbk
 have hb2:w2.heap[b]? = some (.cells #[.pointer (some ⟨b,0,none⟩),v] 75 (0,0)):=by
  rw [hgrow.block b (by simp; omega) (fun e=>hne e.symm),Lib.alloc_old w1 _ b hlt];exact hbk
 have d0:w2.cell? ⟨b,0,none⟩=some (.pointer (some ⟨b,0,none⟩)):=by rw [Lib.cell_of_heap hb2]; rfl
 have d1:w2.cell? ⟨b,1,none⟩=some v:=by rw [Lib.cell_of_heap hb2]; rfl
 have f1:w2.frozen? ⟨b,1,none⟩=false:=Lib.frozen_of_heap hb2 1
 obtain ⟨g,cap,rfl⟩:∃ g cap,v'=.slice (some ⟨g,0,none⟩) (bs.length+1) cap:=by
  rcases hown'.2 with ⟨_,h0⟩ | ⟨g,cap,cur,fz,hv,_⟩
  ·omega
  ·exact ⟨g,cap,hv⟩
 go_wp2;go_ret;refine ⟨rfl,?_,?_,((hk1.alloc _).grown hgrow (Lib.ownsRowF_kind (hown.alloc _))).setCell ⟨b,1,none⟩ rfl _⟩
 ·exact Lib.BuilderAtF.put (T:=75) (e:=5) hB hb2 (bs':=bs++[.int .u8 c]) (by simpa using hown') (by decide)
 ·exact ((hb1.alloc (by have:=hb1.size; omega) _).grown hgrow (by have:=hb1.size; simp; omega) (fun k hk=>(hown.lt k hk).1)).setCell (p:=⟨b,1,none⟩) hB _
theorem cellsU8:Tryz.prog.cellsOf 5=1:=by kernel_rfl
set_option maxHeartbeats 1000000 in
set_option maxRecDepth 100000 in
theorem bldString (B b:Nat) (l:List UInt8) (w:World) (h:IsBld w B b l) (h0:l ≠ []) :
  Calls Tryz.prog 41 #[.pointer (some ⟨b,0,none⟩)] w fun e w'=>e=.returned (.string ⟨l.toArray⟩)∧(IsBld w' B b l∧Below B w w'∧Lib.OthersKept 5 (some b) w w'):=by
 obtain ⟨p,hp,hAt⟩:∃ p,(p=.pointer none∨p=.pointer (some ⟨b,0,none⟩))∧Lib.BuilderAtF 75 5 B b p (Lib.byteCells l) w:=by
  rcases h with h | h
  ·exact ⟨_,.inl rfl,h⟩
  ·exact ⟨_,.inr rfl,h⟩
 obtain ⟨hB,v,hbk,hown,hne⟩:=hAt;have hl0:l.length ≠ 0:=by simpa using h0
 rw [Lib.byteCells_length] at hown
 obtain ⟨g,cap,cur,fz,rfl,hbg,hg,hfz,hnc,hcm,hcs,htake⟩:∃ g cap cur fz,v=.slice (some ⟨g,0,none⟩) l.length cap∧B≤g∧w.heap[g]? = some (.cells cur 5 fz)∧fz.2≤l.length * 1∧l.length≤cap∧cap≤maxLen∧cur.size=cap * 1∧cur.toList.take (l.length * 1)=Lib.byteCells l:=by
  rcases hown.2 with ⟨_,hz⟩ | ⟨g,cap,cur,fz,hv,r⟩
  ·exact absurd hz hl0
  ·exact ⟨g,cap,cur,fz,hv,r⟩
 have c1:w.drew.cell? ⟨b,1,none⟩=some (.slice (some ⟨g,0,none⟩) l.length cap):=by
  have:w.drew.heap[b]? = some (.cells #[p,.slice (some ⟨g,0,none⟩) l.length cap] 75 (0,0)):=hbk
  rw [Lib.cell_of_heap this]; rfl
 have hSD:(Builtin.unsafeSliceData_ #[73] 115 #[.slice (some ⟨g,0,none⟩) l.length cap]).run Tryz.prog w.drew=.ok (.pointer (some ⟨g,0,none⟩)) w.drew :=
  Lib.run_unsafeSliceData_row _ _ _ _ _ _ (by omega)
 have hUS:(Builtin.unsafeString_ #[115,3] 9 #[.pointer (some ⟨g,0,none⟩),.int .i64 l.length]).run Tryz.prog w.drew=.ok (.string ⟨l.toArray⟩) (w.drew.freeze ⟨g,0,none⟩ l.length):=by
  refine Lib.run_unsafeString_row w.drew 115 3 9 5 Tryz.underlying115 cellsU8 g cur.size (by have hg':w.drew.heap[g]? = some (.cells cur 5 fz):=hg; simp [World.shape?,hg']) l h0 (by omega) (by unfold maxLen at hcm; omega) ?_
  intro j x hx
  have:=hown.cells (g:=g) rfl j (.int .u8 x.toNat) (by simp [Lib.byteCells,hx])
  exact this
 have hkeep:IsBld (w.drew.freeze ⟨g,0,none⟩ l.length) B b l:=by
  have hA:Lib.BuilderAtF 75 5 B b p (Lib.byteCells l) w.drew:=⟨hB,_,hbk,by rw [Lib.byteCells_length]; exact hown,hne⟩
  have hF:=hA.froze (g:=g) (cap:=cap) (by rw [Lib.byteCells_length]; exact c1);rw [Lib.byteCells_length] at hF
  rcases hp with rfl | rfl
  ·exact .inl hF
  ·exact .inr hF
 go_enter Tryz.func41,Tryz.ntmps41
 go_wp2
 go_region
 all_goals (go_wp2; go_ret; exact ⟨rfl,hkeep,Lib.below_freeze (Below.drew (Below.refl B w)) (p:=⟨g,0,none⟩) hbg _,((Lib.OthersKept.refl _ _ w).drew).freeze ⟨g,0,none⟩ _ ⟨cur,fz,hg⟩⟩)
end Go.Proofs.YtdbalahkmeknaaaGreatDoor
namespace Go.Proofs.YtdbalahkmeknaaaGreatDoor
open Go.RowKit Sc
structure Wrote (B b:Nat) (l:List UInt8) (w w':World):Prop where
 bld:IsBld w' B b l
 bel:Below B w w'
 oth:Lib.OthersKept 5 (some b) w w'
theorem Wrote.trans {B b:Nat} {l l':List UInt8} {w w1 w2:World} (h:Wrote B b l w w1) (k:Wrote B b l' w1 w2):Wrote B b l' w w2:=⟨k.bld,h.bel.trans k.bel,h.oth.trans k.oth⟩
theorem bld_below {B b:Nat} {l:List UInt8} {w w':World} (h:IsBld w B b l) (hb:Below w.heap.size w w'):IsBld w' B b l:=by
 have key:∀ p,Lib.BuilderAtF 75 5 B b p (Lib.byteCells l) w → Lib.BuilderAtF 75 5 B b p (Lib.byteCells l) w':=by
  rintro p ⟨h1,v,h2,⟨h3,h4⟩,h5⟩;refine ⟨h1,v,by rw [hb.block b (Array.getElem?_eq_some_iff.1 h2).1]; exact h2,⟨h3,?_⟩,h5⟩
  rcases h4 with h4 | ⟨g,cap,cur,fz,hv,hg,hh,r⟩
  ·exact .inl h4
  ·exact .inr ⟨g,cap,cur,fz,hv,hg,by rw [hb.block g (Array.getElem?_eq_some_iff.1 hh).1]; exact hh,r⟩
 rcases h with h | h
 ·exact .inl (key _ h)
 ·exact .inr (key _ h)
theorem oth_below {b:Nat} {w w':World} (hb:Below w.heap.size w w'):Lib.OthersKept 5 (some b) w w':=fun k o hk _ _=>by
 rw [hb.block k (Array.getElem?_eq_some_iff.1 hk).1]; exact hk
theorem Wrote.of {B b:Nat} {l:List UInt8} {w w':World} (h:IsBld w B b l) (hB:B≤w.heap.size) (hb:Below w.heap.size w w'):Wrote B b l w w':=⟨bld_below h hb,hb.mono hB,oth_below hb⟩
theorem Wrote.row {B b c:Nat} {l:List UInt8} {w w':World} {e:TypeId} {us:List Value} (h:Wrote B b l w w') (hr:RowIs w c e us) (hn:c ≠ b) (he:e ≠ 5):RowIs w' c e us :=
 h.oth c _ hr (fun e=>hn (Option.some.inj e)) (fun c' fz e'=>by injection e' with _ e2 _; exact he e2)
theorem Wrote.owns {B b C n s:Nat} {l:List UInt8} {w w':World} {e:TypeId} {v:Value} {xs:List Value} (h:Wrote B b l w w') (ho:w.ownsRow C e s v n xs) (hn:v.ownBlock ≠ some b) (he:e ≠ 5):w'.ownsRow C e s v n xs:=by
 obtain ⟨h1,h2⟩:=ho;refine ⟨h1,?_⟩
 rcases h2 with h2 | ⟨g,cap,cur,rfl,hg,hh,r⟩
 ·exact .inl h2
 ·exact .inr ⟨g,cap,cur,rfl,hg,h.oth g _ hh (fun e=>hn (by rw [← e]; rfl)) (fun c' fz e'=>by injection e' with _ e2 _; exact he e2),r⟩
theorem bld_lt {B b:Nat} {l:List UInt8} {w:World} (h:IsBld w B b l):b < w.heap.size:=by
 rcases h with ⟨_,v,h2,_⟩ | ⟨_,v,h2,_⟩ <;> exact (Array.getElem?_eq_some_iff.1 h2).1
set_option maxHeartbeats 2000000 in
set_option maxRecDepth 100000 in
theorem xbldWrite (B b:Nat) (l r:List UInt8) (w:World) (h:IsBld w B b l) (hlen:l.length+r.length≤140737488355328) (hBw:B≤w.heap.size) :
  Calls Tryz.prog 39 #[.pointer (some ⟨b,0,none⟩),.string ⟨r.toArray⟩] w fun e w'=>e=.returned (.tuple #[.int .i64 r.length,.nilIface])∧Wrote B b (l++r) w w':=by
 obtain ⟨i0,hi,hz0,hz1,hz2⟩:=info_parts info5;have hz:(⟨r.toArray⟩:ByteArray).size=r.length:=size_list r;have hbl:(Lib.byteCells l).length=l.length:=Lib.byteCells_length l;have KC:=hid (copyCheck_any B b (Lib.byteCells l) w h);clear h
 go_enter Tryz.func39,Tryz.ntmps39
 go_wp2_with fail
 refine KC.out.mono ?_
 rintro e w1 ⟨rfl,h1,hb1,hk1⟩;obtain ⟨hB,v,hbk,hown,hne⟩:=h1;have c0:w1.cell? ⟨b,0,none⟩=some (.pointer (some ⟨b,0,none⟩)):=by rw [Lib.cell_of_heap hbk]; rfl
 have c1:w1.cell? ⟨b,1,none⟩=some v:=by rw [Lib.cell_of_heap hbk]; rfl
 have hlt:b < w1.heap.size:=(Array.getElem?_eq_some_iff.1 hbk).1;have hBw1:B≤w1.heap.size:=Nat.le_trans hBw hb1.size;go_wp2_with (at_builtin; refine Lib.wpList_append_own_stringF _ rfl _ _ 73 9 rfl B 5 i0 Tryz.underlying73 Tryz.underlying9 hi hz0 hz1 hz2 _ _ _ rfl hown ⟨r.toArray⟩ rfl ?c3 ?c4 hBw1 ?_)
 case c3=>rw [hz,hbl]; unfold maxLen; omega
 case c4=>rw [hz,hbl]; omega
 intro v' w2 hown' hgrow _
 have hb2:w2.heap[b]? = some (.cells #[.pointer (some ⟨b,0,none⟩),v] 75 (0,0)):=by
  rw [hgrow.block b hlt (fun e=>hne e.symm)];exact hbk
 have d0:w2.cell? ⟨b,0,none⟩=some (.pointer (some ⟨b,0,none⟩)):=by rw [Lib.cell_of_heap hb2]; rfl
 have d1:w2.cell? ⟨b,1,none⟩=some v:=by rw [Lib.cell_of_heap hb2]; rfl
 have f1:w2.frozen? ⟨b,1,none⟩=false:=Lib.frozen_of_heap hb2 1
 obtain ⟨ao,n',cap,rfl⟩:∃ ao n' cap,v'=.slice ao n' cap:=by
  rcases hown'.2 with ⟨hv,_⟩ | ⟨g,cap,cur,fz,hv,_⟩
  ·exact ⟨_,_,_,hv⟩
  ·exact ⟨_,_,_,hv⟩
 have hput:=hid (Lib.BuilderAtF.put (T:=75) (e:=5) hB hb2 (bs':=Lib.byteCells l++Lib.strCells ⟨r.toArray⟩) (by rw [List.length_append,Lib.strCells_length,hbl,hz]; exact hown') (by decide));have hbel:=hid ((hb1.grown hgrow hBw1 (fun k hk=>(hown.lt k hk).1)).setCell (p:=⟨b,1,none⟩) hB (.slice ao n' cap));have hoth:=hid ((hk1.grown hgrow (Lib.ownsRowF_kind hown)).setCell ⟨b,1,none⟩ rfl (.slice ao n' cap));rw [strC_list,← Lib.byteCells_append] at hput;clear hown' hgrow hb2 hbk hown hne KC hbl hk1 hb1;go_wp2;go_ret2;exact ⟨by simp,.inr hput.out,hbel.out,hoth.out⟩
theorem xesc_snoc {t:ByteArray} {k:Nat} (h:k < t.size):escX (t.data.toList.take (k+1))=escX (t.data.toList.take k)++escS t[k]:=by
 rw [take_snoc t k h,escX_app]
 simp [escX]
theorem esc_take (t:ByteArray) (k:Nat) (h:k < t.size):(escX (t.data.toList.take k)).length+(escS t[k]).length≤(escX t.data.toList).length:=by
 have e:=List.take_append_drop (k+1) t.data.toList;have e2:escX t.data.toList=escX (t.data.toList.take (k+1))++escX (t.data.toList.drop (k+1)):=by rw [← escX_app,e]
 rw [e2,xesc_snoc h,List.length_append,List.length_append];omega
set_option maxHeartbeats 2000000 in
set_option maxRecDepth 100000 in
theorem writeText_any (B b:Nat) (l:List UInt8) (t:ByteArray) (w:World) (h:IsBld w B b l) (hlen:l.length+(escX t.data.toList).length≤140737488355328) (hts:t.size≤140737488355328) (hBw:B≤w.heap.size) :
  Calls Tryz.prog 79 #[.pointer (some ⟨b,0,none⟩),.string t] w fun e w'=>e=.returned (.tuple #[])∧Wrote B b (l++escX t.data.toList) w w':=by
 have H:=hid h;have HE:Hid (∀ k,t.size≤k → escX (t.data.toList.take k)=escX t.data.toList):=fun k hk=>by rw [take_all t k hk]
 have HT:=hid (fun k h=>esc_take t k h);have HS:=hid (fun k h=>@xesc_snoc t k h);clear h
 go_enter Tryz.func79,Tryz.ntmps79
 go_wp2
 go_loopw [7] (fun i wr=>∃ k:Nat,k≤t.size∧i=.int .i64 k∧Wrote B b (l++escX (t.data.toList.take k)) w wr∧B≤wr.heap.size) (fun i _=>t.size - (intOf i).toNat)
 case atStart=>exact ⟨0,Nat.zero_le _,rfl,⟨by simpa [escX] using H.out,Below.refl _ _,Lib.OthersKept.refl _ _ _⟩,hBw⟩
 case round =>
  obtain ⟨k,hk,rfl,hw,hB⟩:=hrel;by_cases hlt:k < t.size
  ·have hbd:=u8_bd t[k];have htk:=HT.out k hlt;have hsn:=HS.out k hlt;have HW:=hid hw;by_cases h38:t[k]=38
   ·have q38:((t[k].toNat:Int)==38)=true:=u8_eq (b:=38) h38;rw [h38,show escS 38=[38,97,109,112,59] from rfl] at htk hsn;have KW:=hid (xbldWrite B b (l++escX (t.data.toList.take k)) [38,97,109,112,59] wr HW.out.bld (by rw [List.length_append]; omega) hB);rw [List.append_assoc,← hsn] at KW;clear hsn htk h38 hw;go_wp2_with fail
    refine (KW.out).mono ?_
    rintro e w2 ⟨rfl,hw2⟩;go_wp2;go_roundw
    case rel=>exact ⟨k+1,by omega,by go_num,HW.out.trans hw2,Nat.le_trans hB hw2.bel.size⟩
    case measure=>simp [intOf]; omega
   have q38:((t[k].toNat:Int)==38)=false:=u8_ne (b:=38) h38;by_cases h60:t[k]=60
   ·have q60:((t[k].toNat:Int)==60)=true:=u8_eq (b:=60) h60;rw [h60,show escS 60=[38,108,116,59] from rfl] at htk hsn;have KW:=hid (xbldWrite B b (l++escX (t.data.toList.take k)) [38,108,116,59] wr HW.out.bld (by rw [List.length_append]; omega) hB);rw [List.append_assoc,← hsn] at KW;clear hsn htk h60 hw;go_wp2_with fail
    refine (KW.out).mono ?_
    rintro e w2 ⟨rfl,hw2⟩;go_wp2;go_roundw
    case rel=>exact ⟨k+1,by omega,by go_num,HW.out.trans hw2,Nat.le_trans hB hw2.bel.size⟩
    case measure=>simp [intOf]; omega
   have q60:((t[k].toNat:Int)==60)=false:=u8_ne (b:=60) h60;by_cases h62:t[k]=62
   ·have q62:((t[k].toNat:Int)==62)=true:=u8_eq (b:=62) h62;rw [h62,show escS 62=[38,103,116,59] from rfl] at htk hsn;have KW:=hid (xbldWrite B b (l++escX (t.data.toList.take k)) [38,103,116,59] wr HW.out.bld (by rw [List.length_append]; omega) hB);rw [List.append_assoc,← hsn] at KW;clear hsn htk h62 hw;go_wp2_with fail
    refine (KW.out).mono ?_
    rintro e w2 ⟨rfl,hw2⟩;go_wp2;go_roundw
    case rel=>exact ⟨k+1,by omega,by go_num,HW.out.trans hw2,Nat.le_trans hB hw2.bel.size⟩
    case measure=>simp [intOf]; omega
   have q62:((t[k].toNat:Int)==62)=false:=u8_ne (b:=62) h62;by_cases h34:t[k]=34
   ·have q34:((t[k].toNat:Int)==34)=true:=u8_eq (b:=34) h34;rw [h34,show escS 34=[38,113,117,111,116,59] from rfl] at htk hsn;have KW:=hid (xbldWrite B b (l++escX (t.data.toList.take k)) [38,113,117,111,116,59] wr HW.out.bld (by rw [List.length_append]; omega) hB);rw [List.append_assoc,← hsn] at KW;clear hsn htk h34 hw;go_wp2_with fail
    refine (KW.out).mono ?_
    rintro e w2 ⟨rfl,hw2⟩;go_wp2;go_roundw
    case rel=>exact ⟨k+1,by omega,by go_num,HW.out.trans hw2,Nat.le_trans hB hw2.bel.size⟩
    case measure=>simp [intOf]; omega
   have q34:((t[k].toNat:Int)==34)=false:=u8_ne (b:=34) h34;have hes:escS t[k]=[t[k]]:=by unfold escS; rw [if_neg h38,if_neg h60,if_neg h62,if_neg h34]
   rw [hes] at htk hsn;simp only [List.length_cons,List.length_nil] at htk;have KB:=hid (writeByte_any B b (Lib.byteCells (l++escX (t.data.toList.take k))) (t[k].toNat:Int) wr HW.out.bld (by rw [Lib.byteCells_length,List.length_append]; omega) hB);rw [show Lib.byteCells (l++escX (t.data.toList.take k))++[.int .u8 (t[k].toNat:Int)]=Lib.byteCells (l++escX (t.data.toList.take (k+1))) by rw [hsn,← List.append_assoc,Lib.byteCells_append (l++escX (t.data.toList.take k)) [t[k]]]; rfl] at KB;clear hsn htk hes h38 h60 h62 h34 hw;go_wp2_with fail
   refine (KB.out).mono ?_
   rintro e w2 ⟨rfl,h1,h2,h3⟩;go_wp2;go_roundw
   case rel=>exact ⟨k+1,by omega,by go_num,HW.out.trans ⟨.inr h1,h2,h3⟩,Nat.le_trans hB h2.size⟩
   case measure=>simp [intOf]; omega
  ·have hE:=HE.out k (by omega);rw [hE] at hw;have HW:=hid hw;clear hE hw;go_wp2
   first | go_end0 | refine bodyPost_ret (results_none rfl _ _ _) rfl ?_
   exact ⟨rfl,HW.out⟩
theorem writeText_list (B b:Nat) (l t:List UInt8) (w:World) (h:IsBld w B b l) (hlen:l.length+(escX t).length≤140737488355328) (hts:t.length≤140737488355328) (hBw:B≤w.heap.size) :
  Calls Tryz.prog 79 #[.pointer (some ⟨b,0,none⟩),.string ⟨t.toArray⟩] w fun e w'=>e=.returned (.tuple #[])∧Wrote B b (l++escX t) w w':=writeText_any B b l ⟨t.toArray⟩ w h hlen (by rw [size_list]; exact hts) hBw
theorem starts_len (d:Nat):∀ (ks:List XT) (p:Nat),(startsX d ks p).length=ks.length
 | [],p=>rfl
 | k :: ks,p=>by rw [startsX,List.length_cons,List.length_cons,starts_len d ks]
theorem starts_at (d:Nat):∀ (ks:List XT) (p j:Nat) (h:j < ks.length),(startsX d ks p)[j]'(by rw [starts_len]; exact h)=p+(flatXs d (ks.take j)).length
 | k :: ks,p,0,h=>by simp [startsX,flatXs]
 | k :: ks,p,j+1,h=>by
  have:=starts_at d ks (p+(flatX d k).length) j (by simpa using h)
  simp only [startsX,List.getElem_cons_succ,List.take_succ_cons,flatXs,List.length_append];rw [this]; omega
theorem printX_pos (t:XT):1≤(printX t).length:=by
 obtain ⟨n,a,tx,k⟩:=t
 have:=print_len n a tx k
 omega
theorem prints_nil {ks:List XT} (h:printXs ks=[]):ks=[]:=by
 cases ks with
 | nil=>rfl
 | cons k ks =>
  rw [printXs] at h
  have:=printX_pos k
  have e:=congrArg List.length h;rw [List.length_append,List.length_nil] at e;omega
theorem prints_snoc {ks:List XT} {j:Nat} (h:j < ks.length):printXs (ks.take (j+1))=printXs (ks.take j)++printX ks[j]:=by
 rw [List.take_succ_eq_append_getElem h,printXs_app,printXs,printXs,List.append_nil]
theorem prints_take {ks:List XT} {j:Nat} (h:j < ks.length):(printXs (ks.take j)).length+(printX ks[j]).length≤(printXs ks).length:=by
 have e:=List.take_append_drop (j+1) ks;have e2:printXs ks=printXs (ks.take (j+1))++printXs (ks.drop (j+1)):=by rw [← printXs_app,e]
 rw [e2,prints_snoc h,List.length_append,List.length_append]; omega
theorem own_pos {w:World} {C n kc:Nat} {ka:Option Addr} {l:List Nat} (h:Own w C 3 (.slice ka n kc) (posCells l)) (j:Nat) (hj:j < l.length):∃ g,ka=some ⟨g,0,none⟩∧w.cell? ⟨g,j,none⟩=some (.int .i64 ((l[j]:Nat):Int)):=by
 have h0:=h
 rcases h.2 with ⟨hv,hn⟩ | ⟨g,cap,cur,hv,hb,hg,r⟩
 ·simp [posCells] at hn
  rw [hn] at hj; simp at hj
 ·simp only [Value.slice.injEq] at hv;obtain ⟨rfl,hv2,hv3⟩:=hv;refine ⟨g,rfl,?_⟩
  have:=World.ownsRow.cells h0 (g:=g) rfl j (.int .i64 ((l[j]:Nat):Int)) (by simp [posCells,hj])
  have e:(⟨g,0,none⟩:Addr).add j=⟨g,j,none⟩:=by unfold Addr.add; split <;> simp_all
  rw [e] at this; exact this
theorem szX_in {n:List UInt8} {a:List Par} {tx:List UInt8} {ks:List XT} {j:Nat} (h:j < ks.length):szX ks[j]+2≤szX (.mk n a tx ks):=by
 have:=sz_in (n:=n) (a:=a) (t:=tx) (ks:=ks) (done:=ks.take j) (k:=ks[j]) (rest:=ks.drop (j+1)) (N:=szX (.mk n a tx ks) - 1) (by rw [szX]; omega) (by rw [← List.drop_eq_getElem_cons h,List.take_append_drop])
 have key:∀ (l r:List XT) (k:XT),szX k≤szXs (l++k :: r):=fun l r k=>by
  induction l with
  | nil=>rw [List.nil_append,szXs]; omega
  | cons x l ih=>rw [List.cons_append,szXs]; omega
 have h2:=key (ks.take j) (ks.drop (j+1)) ks[j];rw [← List.drop_eq_getElem_cons h,List.take_append_drop] at h2;rw [szX]; omega
theorem szXs_len:∀ ks:List XT,ks.length≤szXs ks
 | []=>Nat.zero_le _
 | k :: ks=>by
  have:=szXs_len ks
  obtain ⟨n,a,tx,kk⟩:=k;rw [szXs,szX,List.length_cons]; omega
def WrE (B b:Nat) (v:Value) (k:Nat) (l:List UInt8) (w:World):Prop :=
 Calls Tryz.prog 40 #[.pointer (some ⟨b,0,none⟩),v,.int .i64 k] w fun e w'=>e=.returned (.tuple #[])∧Wrote B b l w w'
section
variable (wP : World) (v : Value) (cs : List NdC) (b : Nat)
def WrS (N:Nat):Prop:=∀ (t:XT),szX t≤N → ∀ (k d:Nat) (post:List Nd) (l0:List UInt8) (w:World),(ndsL cs).drop k=flatX d t++post → (∀ x,post.head? = some x → x.deep≤(d:Int)) → Below wP.heap.size wP w → IsBld w wP.heap.size b l0 → l0.length+(printX t).length≤140737488355328 → d+szX t≤1000000 → WrE wP.heap.size b v k (l0++printX t) w
end
end Go.Proofs.YtdbalahkmeknaaaGreatDoor
