/-
  Kit, PubO, CompM, CpN, CpQ, WCompBehind.
-/
import Derived.Test.YtldkidljjbkmbaaGreatDoorPX16
set_option linter.unusedVariables false
set_option linter.unusedSimpArgs false
set_option maxRecDepth 20000
namespace Go.Proofs.YtldkidljjbkmbaaGreatDoor
open Go.RowKit
theorem u64_of {a:Int} (h:(Lit.int .u64 a).wf=true):0≤a∧a≤18446744073709551615:=by
 simpa [Lit.wf,IntKind.min,IntKind.max,IntKind.signed,IntKind.bits] using h
end Go.Proofs.YtldkidljjbkmbaaGreatDoor
namespace Go.Proofs.YtldkidljjbkmbaaGreatDoor
open Go.RowKit Sc
theorem PbsAt.form {w:World} {v:Value} {cs:List PbC} (h:PbsAt w v cs):∃ a cap,v=.slice a cs.length cap:=by
 obtain ⟨ao,cap,hv,_⟩:=h;exact ⟨ao,cap,hv⟩
theorem stepT_pre (num:Int) (st:List Tu × List Tu) (t:Tu):st.1 <+: (stepT num st t).1:=by
 unfold stepT
 split
 ·exact List.prefix_refl _
 ·simp only [tupC]
  split
  ·exact List.prefix_refl _
  ·exact List.prefix_append _ _
theorem stepN_pre (l:List (List UInt8)) (s:List UInt8):l <+: stepN l s:=by
 unfold stepN
 split
 ·exact List.prefix_refl _
 ·exact List.prefix_append _ _
theorem foldT_pre (num:Int):∀ (l:List Tu) (st:List Tu × List Tu),st.1 <+: (l.foldl (stepT num) st).1
 | [],st=>List.prefix_refl _
 | t :: l,st=>(stepT_pre num st t).trans (foldT_pre num l (stepT num st t))
theorem foldN_pre:∀ (l:List (List UInt8)) (n:List (List UInt8)),n <+: l.foldl stepN n
 | [],n=>List.prefix_refl _
 | s :: l,n=>(stepN_pre n s).trans (foldN_pre l (stepN n s))
theorem foldP_pre:∀ (l:List Pb) (st:(List Tu × List Tu) × List (List UInt8)),st.1.1 <+: (l.foldl pubC st).1.1∧st.2 <+: (l.foldl pubC st).2
 | [],st=>⟨List.prefix_refl _,List.prefix_refl _⟩
 | p :: l,st=>by
  obtain ⟨h1,h2⟩:=foldP_pre l (pubC st p);exact ⟨(foldT_pre p.num p.doc.tuples st.1).trans h1,(foldN_pre p.doc.notes st.2).trans h2⟩
theorem behind_plain (l:List Pb) (k:Nat):(foldC (l.take k)).1.1 <+: (foldC l).1.1∧(foldC (l.take k)).2 <+: (foldC l).2:=by
 have h:=foldP_pre (l.drop k) (foldC (l.take k))
 have e:(l.drop k).foldl pubC (foldC (l.take k))=foldC l:=by
  unfold foldC;rw [← List.foldl_append,List.take_append_drop]
 rw [e] at h;exact h
end Go.Proofs.YtldkidljjbkmbaaGreatDoor
namespace Go.Proofs.YtldkidljjbkmbaaGreatDoor
open Go.RowKit Go.Maps Go.WideMaps Sc
set_option maxHeartbeats 2000000 in
set_option maxRecDepth 100000 in
theorem small17_any {w:World} {v:Value} {cs:List PbC} (hv:PbsAt w v cs) (hn:cs.length≤2000000) (hg:∀ c ∈ cs,PbGot w c∧SmallD 1048576 c.p.doc) :
  Calls Tryz.prog 9 #[v] w fun e w'=>∃ b:Bool,e=.returned (.bool b)∧Below w.heap.size w w':=by
 have HV:=hid hv;have HG:=hid hg;obtain ⟨oa,cap,rfl,_⟩:=hv;obtain ⟨n,hnn⟩:∃ n,n=cs.length:=⟨_,rfl⟩
 have HN:=hid hnn;rw [← hnn] at hn ⊢;clear hnn hg
 go_enter Tryz.func9,Tryz.ntmps9
 go_wp2
 go_loopw [3,4] (fun s i wr=>∃ (k t:Nat),k≤n∧t≤k * 3000000∧i=.int .i64 k∧s=.int .i64 t∧Hid (Below w.heap.size w wr)) (fun _ i _=>n - (intOf i).toNat)
 case atStart=>exact ⟨0,0,by omega,by omega,rfl,rfl,Below.refl _ _⟩
 case round =>
  obtain ⟨k,t,hk,ht,rfl,rfl,HB⟩:=hrel;by_cases hlt:k < n
  ·have hlt':(k:Int) < (n:Int):=by omega
   have hkl:k < cs.length:=by rw [← HN.out]; exact hlt
   obtain ⟨oa',cap',hv',_,hat⟩:=HV.out;obtain ⟨ad,hoa,hab,hpb⟩:=hat k hkl
   injection hv' with g1 g2 g3
   subst g1;subst hoa;obtain ⟨c0,c1,c2,c3,c4,c5,c6⟩:=(hpb.below HB.out hab).seven;have hm:=List.getElem_mem hkl;obtain ⟨hgk,hsk⟩:=HG.out _ hm;generalize cs[k]=c at c0 c1 c2 c3 c4 c5 c6 hgk hsk;obtain ⟨ta,tc,hts,_⟩:=hgk.tus;obtain ⟨na,nc,hns,_⟩:=hgk.strs;rw [hts] at c5;rw [hns] at c6;have z1:=hsk.tl;have z2:=hsk.nl;generalize c.p.doc.tuples.length=t1 at c5 z1;generalize c.p.doc.notes.length=t2 at c6 z2;have htk:t+1+t1+t2≤(k+1) * 3000000:=by omega
   have htk2:t+1+t1+t2≤9000000000000:=by omega
   clear hat hpb g2 g3 hgk hsk hts hns hm;go_wp2
   go_quiet (fail)
   go_wp2;go_roundw
   case rel=>exact ⟨k+1,t+1+t1+t2,by omega,htk,by go_num,by go_num,hid (HB.out.trans ((below_drewN _ _).mono HB.out.size))⟩
   case measure=>simp [intOf]; omega
  ·have hlt':¬ (k:Int) < (n:Int):=by omega
   have hd:decide ((t:Int)≤400)=true∨decide ((t:Int)≤400)=false:=by cases decide ((t:Int)≤400) <;> simp
   rcases hd with hd | hd
   ·go_wp2;go_ret;exact ⟨by first | exact .inr rfl | exact .inl rfl,HB.out⟩
   ·go_wp2;go_ret;exact ⟨by first | exact .inl rfl | exact .inr rfl,HB.out⟩
theorem pbs_take {w:World} {oa:Option Addr} {n cap:Nat} {cs:List PbC} (h:PbsAt w (.slice oa n cap) cs) (k:Nat) (hk:k≤n):PbsAt w (.slice oa k cap) (cs.take k):=by
 obtain ⟨ao,cap',e,hc,hat⟩:=h
 injection e with e1 e2 e3
 subst e1 e2 e3;have hl:(cs.take k).length=k:=by rw [List.length_take]; omega
 refine ⟨oa,cap,by rw [hl],by omega,fun i hi=>?_⟩
 obtain ⟨ad,h1,h2,h3⟩:=hat i (by omega);refine ⟨ad,h1,h2,?_⟩
 rw [List.getElem_take];exact h3
theorem tus_take {w:World} {oa:Option Addr} {n cap:Nat} {ts:List Tu} (h:TusAt w (.slice oa n cap) ts) (k:Nat) (hk:k≤n):TusAt w (.slice oa k cap) (ts.take k):=by
 obtain ⟨ao,cap',e,hat⟩:=h
 injection e with e1 e2 e3
 subst e1 e2 e3;have hl:(ts.take k).length=k:=by rw [List.length_take]; omega
 refine ⟨oa,cap,by rw [hl],fun i hi=>?_⟩
 obtain ⟨ad,h1,h2,h3⟩:=hat i (by omega);refine ⟨ad,h1,h2,?_⟩
 rw [List.getElem_take];exact h3
theorem strs_take {w:World} {oa:Option Addr} {n cap:Nat} {ts:List (List UInt8)} (h:StrsAt w (.slice oa n cap) ts) (k:Nat) (hk:k≤n):StrsAt w (.slice oa k cap) (ts.take k):=by
 obtain ⟨ao,cap',e,hat⟩:=h
 injection e with e1 e2 e3
 subst e1 e2 e3;have hl:(ts.take k).length=k:=by rw [List.length_take]; omega
 refine ⟨oa,cap,by rw [hl],fun i hi=>?_⟩
 obtain ⟨ad,h1,h2,h3⟩:=hat i (by omega);refine ⟨ad,h1,h2,?_⟩
 rw [List.getElem_take];exact h3
theorem chk_take:∀ {l:List Pb} {last:Int} (k:Nat),chkC last l=0 → chkC last (l.take k)=0
 | [],last,k,h=>by simp [chkC]
 | p :: l,last,0,h=>by simp [chkC]
 | p :: l,last,k+1,h=>by
  rw [List.take_succ_cons];unfold chkC at h ⊢
  split
  ·next h1=>rw [if_pos h1] at h; exact h
  ·next h1 =>
   rw [if_neg h1] at h
   split
   ·next h2=>rw [if_pos h2] at h; exact h
   ·next h2=>rw [if_neg h2] at h; exact chk_take k h
theorem comp_front {who:List UInt8} {l:List Pb} {d:Dc} (h:compC who l=(d,0)) (k:Nat):∃ m q,m≤d.tuples.length∧q≤d.notes.length∧compC who (l.take k)=(⟨who,d.tuples.take m,d.notes.take q⟩,0)∧d.entity=who:=by
 obtain ⟨h1,h2,rfl⟩:=comp_parts h;obtain ⟨p1,p2⟩:=behind_plain l k;refine ⟨_,_,p1.length_le,p2.length_le,?_,rfl⟩
 rw [comp_mk h1 (chk_take k h2)]
 simp only
 rw [← List.prefix_iff_eq_take.1 p1,← List.prefix_iff_eq_take.1 p2]
theorem own_capS {w:World} {B:Nat} {xs:List Value} {a:Option Addr} {n c:Nat} (h:Own w B 9 (.slice a n c) xs):n≤c:=by
 rcases h.2 with ⟨e,_⟩ | ⟨g,cap,cur,e,_,_,hle,_⟩
 ·injection e; omega
 ·injection e with _ q1 q2
  subst q1 q2;exact hle
end Go.Proofs.YtldkidljjbkmbaaGreatDoor
namespace Go.Proofs.YtldkidljjbkmbaaGreatDoor.compBehind
open Go.RowKit Go.Maps Go.WideMaps Sc
set_option maxHeartbeats 4000000 in
set_option maxRecDepth 100000 in
theorem law_walk (w:World) (a0:ByteArray) (v1:Value) (a2:Int) (b0:a0.size≤1048576) (k1:PubsIn 1048576 w v1) (w2:(Lit.int .u64 a2).wf=true) :
  Calls Tryz.prog 6 #[.string a0,v1,.int .u64 a2] w fun e w'=>e=.returned (.bool true)∧Below w.heap.size w w':=by
 obtain ⟨who,rfl⟩:=str_offC a0;have b0:who.length≤1048576:=by simpa [ByteArray.size] using b0
 obtain ⟨cs,hv,hn,hg⟩:=k1;have KM:=hid (small17_any hv (by omega) hg);have KC:=hid (compose_in hv hn hg b0);have KF:=hid (fun (k:Nat) (v:Value) (hv:PbsAt w v (cs.take k))=>compose_in (who:=who) hv (by rw [List.length_take]; omega) (fun c hc=>hg c (List.mem_of_mem_take hc)) b0);have KW:=hid awake17_any;have HNUM:=hid (nums_in hg);have HV:=hid hv;obtain ⟨oa,cap,rfl⟩:=hv.form;have hcap:cs.length≤cap:=by obtain ⟨_,_,e,h,_⟩:=hv; injection e with e1 e2 e3; omega
 obtain ⟨n,hnn⟩:∃ n,n=cs.length:=⟨_,rfl⟩
 rw [← hnn] at KM KC HV hn hcap ⊢;have HN:=hid hnn;have w2':=u64_of w2;obtain ⟨k,hk⟩:∃ k:Nat,(k:Int)=a2 % ((n:Int)+1):=⟨(a2 % ((n:Int)+1)).toNat,by have:=Int.emod_nonneg a2 (show ((n:Int)+1) ≠ 0 by omega); omega⟩
 have hkn:k≤n:=by have:=Int.emod_lt_of_pos a2 (show (0:Int) < (n:Int)+1 by omega); omega
 have qk:wrap64 (a2 % ((n:Int)+1))=(k:Int):=by rw [← hk]; unfold wrap64; omega
 clear hk;obtain ⟨d,er,hd⟩:∃ d er,compC who (pbsL cs)=(d,er):=⟨_,_,rfl⟩
 rw [hd] at KC;have hpt:pbsL (cs.take k)=(pbsL cs).take k:=by unfold pbsL; rw [List.map_take]
 have KFk:=hid (KF.out k _ (pbs_take HV.out k hkn));rw [hpt] at KFk;clear hnn hv hg w2 KF
 go_enter Tryz.func6,Tryz.ntmps6
 go_wp2_with fail
 refine KM.out.mono ?_
 rintro e w1 ⟨b,rfl,hb1⟩;have bel:=hid hb1;clear hb1 KM
 cases b with
 | false =>
  go_wp2_with fail
  refine (KW.out _).mono ?_
  rintro e w4 ⟨rfl,hb4⟩;have bel:=hid (bel.out.trans (hb4.mono bel.out.size));clear hb4;go_wp2;go_ret;exact ⟨rfl,bel.out⟩
 | true =>
  go_wp2_with fail
  refine (KC.out w1 bel.out).mono ?_
  rintro e w2 ⟨vt,vn,rfl,hG,hb2⟩;simp only at hG ⊢;unfold docV;obtain ⟨ta,tc,na,nc,rfl,rfl⟩:=hG.forms;have R1:=hid (rc_row3 w2 (.string ⟨d.entity.toArray⟩) (.slice ta d.tuples.length tc) (.slice na d.notes.length nc) 28);have b2:Below w2.heap.size w2 (w2.alloc (.cells #[.string ⟨d.entity.toArray⟩,.slice ta d.tuples.length tc,.slice na d.notes.length nc] 28)):=(Below.refl _ w2).alloc (Nat.le_refl _) _;have HG:=hid (hG.below b2);have bel:=hid (bel.out.trans ((hb2.trans (b2.mono hb2.size)).mono bel.out.size));clear hG hb2 b2 KC
  go_upto_region 5 with fail
  generalize w2.heap.size=ga at R1 ⊢;generalize World.alloc _ _=u2 at R1 HG bel ⊢;go_wp2_with fail
  by_cases h0:er=0
  case neg =>
   have h0':(er != 0)=true:=by simpa using h0
   refine (KFk.out u2 bel.out).mono ?_
   rintro e w3 ⟨vt2,vn2,rfl,hG2,hb3⟩;obtain ⟨ta2,tc2,na2,nc2,rfl,rfl⟩:=hG2.forms;unfold docV;have bel:=hid (bel.out.trans (hb3.mono bel.out.size));clear hG2 hb3 KFk;generalize compC who ((pbsL cs).take k)=X at *;have bel:=hid (bel.out.alloc bel.out.size (.cells #[.string ⟨X.1.entity.toArray⟩,.slice ta2 X.1.tuples.length tc2,.slice na2 X.1.notes.length nc2] 28))
   go_upto_region 6 with fail
   generalize World.alloc _ _=u3 at bel ⊢;go_wp2_with fail
   refine (KW.out _).mono ?_
   rintro e w4 ⟨rfl,hb4⟩;have bel:=hid (bel.out.trans (hb4.mono bel.out.size));clear hb4;go_wp2;go_ret;exact ⟨rfl,bel.out⟩
  subst h0;obtain ⟨m,q,hm,hq,hfr,hen⟩:=comp_front hd k;have hck:=(right_plain HNUM.out hd).1;have hck2:=(right_plain (fun p hp=>HNUM.out p (List.mem_of_mem_take hp)) hfr).1;have hsm:=(small_checked hck2).upB (C:=140737488355328) (by omega);rw [hfr] at KFk;obtain ⟨en,tl,nl⟩:=d;simp only at hm hq hen HG R1 hsm KFk;subst hen;have KS:=hid (fun (u:World) (ts ns ts' ns':Value) (h1:TusAt u ts (tl.take m)) (h2:StrsAt u ns (nl.take q)) (h3:TusAt u ts' (tl.take m)) (h4:StrsAt u ns' (nl.take q))=>rsame14_any ⟨en,tl.take m,nl.take q⟩ ts ns ts' ns' u hsm h1 h2 h3 h4);unfold docV at KS;clear hck hck2 hsm hfr hd;refine (KFk.out u2 bel.out).mono ?_
  rintro e w3 ⟨vt2,vn2,rfl,hG2,hb3⟩;obtain ⟨ta2,tc2,na2,nc2,rfl,rfl⟩:=hG2.forms;unfold docV;simp only [List.length_take,Nat.min_eq_left hm,Nat.min_eq_left hq] at hG2 ⊢;have hc1:tl.length≤tc:=HG.out.t.capC _ _ _ rfl;have hc2:nl.length≤nc:=own_capS HG.out.n;obtain ⟨tn,htn⟩:∃ tn,tn=tl.length:=⟨_,rfl⟩
  obtain ⟨nn,hnn⟩:∃ nn,nn=nl.length:=⟨_,rfl⟩
  have R1:=hid (R1.out.below hb3 R1.out.bl);have HG:=hid (HG.out.below hb3);have bel:=hid (bel.out.trans (hb3.mono bel.out.size));have r2:=rc_row3 w3 (.string ⟨en.toArray⟩) (.slice ta2 m tc2) (.slice na2 q nc2) 28;have b4:Below w3.heap.size w3 (w3.alloc (.cells #[.string ⟨en.toArray⟩,.slice ta2 m tc2,.slice na2 q nc2] 28)):=(Below.refl _ w3).alloc (Nat.le_refl _) _;have R1:=hid (R1.out.below b4 R1.out.bl);have HG:=hid (HG.out.below b4);have HG2:=hid (hG2.below b4);have bel:=hid (bel.out.trans (b4.mono bel.out.size));have R2:=hid r2;rw [← htn] at hm hc1 R1 HG ⊢;rw [← hnn] at hq hc2 R1 HG ⊢;have HTN:=hid htn;have HNN:=hid hnn;clear hG2 hb3 b4 r2 KFk htn hnn
  go_upto_region 6 with fail
  generalize w3.heap.size=gb at R2 ⊢;generalize World.alloc _ _=u3 at R1 R2 HG HG2 bel ⊢;obtain ⟨x0,x1,x2,-,-,-⟩:=R1.out.rc3;obtain ⟨y0,y1,y2,-,-,-⟩:=R2.out.rc3;have q1:decide ((tn:Int) < (m:Int))=false:=decide_eq_false (by omega);have q2:decide ((nn:Int) < (q:Int))=false:=decide_eq_false (by omega)
  go_upto_region 10 with fail
  clear x0 x1 x2 y0 y1 y2;have bz:Below u3.heap.size u3 (u3.alloc (.cells #[.string ⟨#[]⟩,.slice none 0 0,.slice none 0 0] 28)).drew:=((Below.refl _ u3).alloc (Nat.le_refl _) _).drew;obtain ⟨x0,x1,x2,-,-,-⟩:=(R1.out.below (Below.refl _ u3).drew R1.out.bl).rc3;obtain ⟨y0,y1,y2,-,-,-⟩:=(R2.out.below (Below.refl _ u3).drew R2.out.bl).rc3;obtain ⟨x3,x4,x5,-,-,-⟩:=(R1.out.below bz R1.out.bl).rc3;obtain ⟨y3,y4,y5,-,-,-⟩:=(R2.out.below bz R2.out.bl).rc3;clear bz;have hmt:m≤tc:=by omega
  have hqn:q≤nc:=by omega
  have L:=hid (show RowIs (u3.alloc (.cells #[.string ⟨en.toArray⟩,.slice ta m tc,.slice na q nc] 28)).drew u3.heap.size 28 [.string ⟨en.toArray⟩,.slice ta m tc,.slice na q nc]∧Below u3.heap.size u3 (u3.alloc (.cells #[.string ⟨en.toArray⟩,.slice ta m tc,.slice na q nc] 28)).drew from ⟨rc_row3 u3 _ _ _ _,((Below.refl _ u3).alloc (Nat.le_refl _) _).drew⟩)
  go_region
  clear x0 x1 x2 x3 x4 x5 y0 y1 y2 y3 y4 y5;have HG:=hid (HG.out.below L.out.2);have HG2:=hid (HG2.out.below L.out.2);have R2:=hid (R2.out.below L.out.2 R2.out.bl);have bel:=hid (bel.out.trans (L.out.2.mono bel.out.size));have R3:=hid L.out.1;generalize u3.heap.size=gc at R3 ⊢;clear L R1;generalize World.drew (World.alloc u3 _)=u4 at HG HG2 R2 R3 bel ⊢;have hT2:TusAt u4 (.slice ta2 m tc2) (tl.take m):=OwnU.tusAt HG2.out.t;have hN2:StrsAt u4 (.slice na2 q nc2) (nl.take q):=strsAt_own HG2.out.n;have hT:TusAt u4 (.slice ta tn tc) tl:=OwnU.tusAt HG.out.t;have hN:StrsAt u4 (.slice na nn nc) nl:=strsAt_own HG.out.n;have KSS:=hid (KS.out u4 _ _ _ _ hT2 hN2 (tus_take hT m hm) (strs_take hN q hq));simp only [List.length_take] at KSS;clear hT2 hN2 hT hN KS HG HG2;obtain ⟨y0,y1,y2,-,-,-⟩:=R2.out.rc3;obtain ⟨z0,z1,z2,-,-,-⟩:=R3.out.rc3;go_wp2_with fail
  refine KSS.out.mono ?_
  rintro e w8 ⟨rfl,hb8⟩;have bel:=hid (bel.out.trans (hb8.mono bel.out.size));clear hb8 KSS;go_wp2_with fail
  refine (KW.out _).mono ?_
  rintro e w9 ⟨rfl,hb9⟩;have bel:=hid (bel.out.trans (hb9.mono bel.out.size));clear hb9;go_wp2;go_ret;exact ⟨rfl,bel.out⟩
end Go.Proofs.YtldkidljjbkmbaaGreatDoor.compBehind
