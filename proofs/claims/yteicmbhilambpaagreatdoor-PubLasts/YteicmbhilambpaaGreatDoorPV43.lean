/-
  PubT, WPubLasts.
-/
import Derived.Test.YteicmbhilambpaaGreatDoorPU17
import Derived.Test.YteicmbhilambpaaGreatDoorPU30
import Derived.Test.YteicmbhilambpaaGreatDoorPV42
set_option linter.unusedVariables false
set_option linter.unusedSimpArgs false
set_option maxRecDepth 20000
namespace Go.Proofs.YteicmbhilambpaaGreatDoor
open Go.RowKit Sc
theorem lasts_plain {who:List UInt8} {seconds n now when:Int} (hs:secC (plainC 1) seconds=(n,true)) (hn:n ≠ 0) (h0:0≤now) (h1:now≤549755813888) :
  ∃ s1 s2:Sto,doS ⟨plainC 1,0,[]⟩ 0 (askD who [] seconds [120])=(s1,⟨200,n,[120],true⟩,0)∧doS s1 now (askP who [120] seconds [121])=(s2,⟨200,n,[121],false⟩,0)∧s2.l=[⟨1,who,[121],now+10 * n,abD⟩]∧s1.c=plainC 1∧s2.c=plainC 1∧StOK s1∧StOK s2:=by
 have hr:rightC (plainC 1)=true:=plain_right (by decide) (by decide);have tx:tokenB [120]=true:=by decide +kernel
 have ty:tokenB [121]=true:=by decide +kernel
 have d1:=doS_new (s:=⟨plainC 1,0,[]⟩) (now:=0) (a:=askD who [] seconds [120]) (bad_no (by decide) (by decide) tx (pplace_nil _) (fun _=>abD_is)) (show (secC (plainC 1) seconds).2=true by rw [hs]) rfl rfl (show (secC (plainC 1) seconds).1 ≠ 0 by rw [hs]; exact hn) (show ((0:Nat):Int) < 1 by decide);rw [show secC (⟨plainC 1,0,[]⟩:Sto).c (askD who [] seconds [120]).exp=(n,true) from hs] at d1;obtain ⟨s1,hs1⟩:∃ s1:Sto,s1=⟨plainC 1,0+1,[]++[newP ⟨plainC 1,0,[]⟩ 0 n (askD who [] seconds [120])]⟩:=⟨_,rfl⟩
 have d1':doS ⟨plainC 1,0,[]⟩ 0 (askD who [] seconds [120])=(s1,⟨200,n,[120],true⟩,0):=by rw [d1,hs1]; rfl
 have ok1:StOK s1:=by
  have:=doS_ok hr (StOK.nil hr) 0 (askD who [] seconds [120])
  rw [d1'] at this;exact this
 have hl1:s1.l=[⟨1,who,[120],0+10 * n,abD⟩]:=by rw [hs1]; rfl
 have hk:0 < s1.l.length:=by rw [hl1]; exact Nat.zero_lt_one
 have e0:s1.l[0]=⟨1,who,[120],0+10 * n,abD⟩:=by simp [hl1]
 obtain ⟨hi,hp⟩:=idx_at ok1 hk;rw [e0] at hi hp
 have hfy:placeP s1.l [121] < 0:=place_neg fun p hpm=>by
  rw [hl1] at hpm; simp at hpm; subst hpm; exact (show ([120]:List UInt8) ≠ [121] by decide)
 have hc1:s1.c=plainC 1:=by rw [hs1]
 have d2:=doS_go (s:=s1) (now:=now) (a:=askP who [120] seconds [121]) (k:=0) (bad_no h0 h1 ty hfy (fun hh=>by cases hh)) (none_no (a:=askP who [120] seconds [121]) hk hi hp (by rw [e0]; rfl)) (show (secC s1.c seconds).2=true by rw [hc1,hs]) (show ([120]:List UInt8) ≠ [] by decide) rfl (show (secC s1.c seconds).1 ≠ 0 by rw [hc1,hs]; exact hn) hi;rw [show secC s1.c (askP who [120] seconds [121]).exp=(n,true) by rw [hc1]; exact hs] at d2;obtain ⟨s2,hs2⟩:∃ s2:Sto,s2=⟨s1.c,s1.last,s1.l.modify 0 (fun p=>goP p now n (askP who [120] seconds [121]))⟩:=⟨_,rfl⟩
 have d2':doS s1 now (askP who [120] seconds [121])=(s2,⟨200,n,[121],false⟩,0):=by rw [d2,hs2]; rfl
 have ok2:StOK s2:=by
  have:=doS_ok (by rw [hc1]; exact hr) ok1 now (askP who [120] seconds [121])
  rw [d2'] at this;exact this
 refine ⟨s1,s2,d1',d2',?_,hc1,by rw [hs2]; exact hc1,ok1,ok2⟩
 rw [hs2];simp only [hl1]
 rfl
theorem exp_one {s:Sto} {p:Pb} (hl:s.l=[p]) (when:Int):expS s when=if p.til≤when then (⟨s.c,s.last,[]⟩,[p.who]) else (⟨s.c,s.last,[p]⟩,[]):=by
 unfold expS;rw [hl];by_cases h:p.til≤when
 ·rw [if_pos h];have e:overP when p=true:=decide_eq_true h
  simp [e,riseV]
 ·rw [if_neg h];have e:overP when p=false:=decide_eq_false h
  simp [e]
end Go.Proofs.YteicmbhilambpaaGreatDoor
namespace Go.Proofs.YteicmbhilambpaaGreatDoor.pubLasts
open Go.RowKit Go.Maps Go.WideMaps Sc
theorem str_ofl (s:ByteArray):∃ l:List UInt8,s=⟨l.toArray⟩:=⟨s.data.toList,by apply ByteArray.ext; simp⟩
theorem sec_ways (a:Int):(secC (plainC 1) a).2=false∨((secC (plainC 1) a).2=true∧(secC (plainC 1) a).1=0)∨((secC (plainC 1) a).2=true∧60≤(secC (plainC 1) a).1∧(secC (plainC 1) a).1≤3600):=by
 unfold secC
 split
 ·exact .inr (.inr ⟨rfl,by show (60:Int)≤600; decide,by show (600:Int)≤3600; decide⟩)
 ·next h1 =>
  split
  ·exact .inr (.inr ⟨rfl,by show (60:Int)≤3600; decide,by show (3600:Int)≤3600; decide⟩)
  ·next h2 =>
   by_cases h3:a=0
   ·exact .inr (.inl ⟨by simp [h3],h3⟩)
   ·by_cases h4:(plainC 1).least≤a
    ·refine .inr (.inr ⟨by simp [h4],?_,?_⟩)
     ·exact h4
     ·have:¬ (3600:Int) < a:=h2
      show a≤3600
      omega
    ·exact .inl (by simp [h3,h4])
theorem live_one {l:List Pb} {p:Pb} (hl:l=[p]) {who:List UInt8} (hw:p.who=who):(liveS l who).length=1:=by
 subst hl
 simp [liveS,hw]
set_option maxHeartbeats 4000000 in
set_option maxRecDepth 100000 in
theorem law_walk (a0:ByteArray) (a1 a2 a3:Int) (b0:a0.size≤140737488351232) (u1:(Lit.int .i64 a1).wf=true) (u2:(Lit.int .u16 a2).wf=true) (u3:(Lit.int .u64 a3).wf=true) (w:World) :
  Calls Tryz.prog 5 #[.string a0,.int .i64 a1,.int .u16 a2,.int .u64 a3] w fun e w'=>e=.returned (.bool true)∧Below w.heap.size w w':=by
 obtain ⟨who,rfl⟩:=str_ofl a0;have hwho:who.length≤140737488351232:=by simpa [ByteArray.size] using b0
 have KP:=hid (fun (u:World)=>plain16_any u 1);have KB:=hid (fun (u:World)=>begun16_ok u (plainC 1) (plain_right (by decide) (by decide)));have KS:=hid (fun (u:World)=>rsec16_any (plainC 1) a1 u);have KO:=hid (fun (u:World)=>doc16_any u [97,64,98]);have KW:=hid awake16_any;have SW:=sec_ways a1;unfold docV at KO;unfold cfV plainC at KP KB KS;have u2':0≤a2∧a2≤65535:=by simpa [Lit.wf,IntKind.min,IntKind.max,IntKind.signed,IntKind.bits] using u2
 have u3':0≤a3∧a3≤18446744073709551615:=by simpa [Lit.wf,IntKind.min,IntKind.max,IntKind.signed,IntKind.bits] using u3
 clear b0 u1 u2 u3
 rcases SW with h2 | ⟨h2,h3⟩ | ⟨h2,h3,h4⟩
 ·rw [show (⟨[],1,1,1,60,3600,600⟩:Cf)=plainC 1 from rfl,h2] at KS;generalize (secC (plainC 1) a1).1=n at KS
  go_enter Tryz.func5,Tryz.ntmps5
  go_wp2_with fail
  refine (KP.out _).mono ?_
  rintro e w1 ⟨rfl,hb1⟩;have bel:=hid hb1;clear hb1;go_wp2_with fail
  refine (KB.out _).mono ?_
  rintro e w2 ⟨bt,rfl,hT,hb2⟩;have bel:=hid (bel.out.trans (hb2.mono bel.out.size));clear hT hb2;go_wp2_with fail
  refine (KP.out _).mono ?_
  rintro e w3 ⟨rfl,hb3⟩;have bel:=hid (bel.out.trans (hb3.mono bel.out.size));clear hb3;go_wp2_with fail
  refine (KS.out _).mono ?_
  rintro e w4 ⟨rfl,hb4⟩;have bel:=hid (bel.out.trans (hb4.mono bel.out.size));clear hb4;go_wp2_with fail
  refine (KW.out _).mono ?_
  rintro e w9 ⟨rfl,hw9⟩;go_wp2;go_ret;exact ⟨rfl,bel.out.trans (hw9.mono bel.out.size)⟩
 ·rw [show (⟨[],1,1,1,60,3600,600⟩:Cf)=plainC 1 from rfl,h2,h3] at KS
  go_enter Tryz.func5,Tryz.ntmps5
  go_wp2_with fail
  refine (KP.out _).mono ?_
  rintro e w1 ⟨rfl,hb1⟩;have bel:=hid hb1;clear hb1;go_wp2_with fail
  refine (KB.out _).mono ?_
  rintro e w2 ⟨bt,rfl,hT,hb2⟩;have bel:=hid (bel.out.trans (hb2.mono bel.out.size));clear hT hb2;go_wp2_with fail
  refine (KP.out _).mono ?_
  rintro e w3 ⟨rfl,hb3⟩;have bel:=hid (bel.out.trans (hb3.mono bel.out.size));clear hb3;go_wp2_with fail
  refine (KS.out _).mono ?_
  rintro e w4 ⟨rfl,hb4⟩;have bel:=hid (bel.out.trans (hb4.mono bel.out.size));clear hb4;go_wp2_with fail
  refine (KW.out _).mono ?_
  rintro e w9 ⟨rfl,hw9⟩;go_wp2;go_ret;exact ⟨rfl,bel.out.trans (hw9.mono bel.out.size)⟩
 ·have hsec:secC (plainC 1) a1=((secC (plainC 1) a1).1,true):=Prod.ext rfl h2;rw [show (⟨[],1,1,1,60,3600,600⟩:Cf)=plainC 1 from rfl,h2] at KS;generalize (secC (plainC 1) a1).1=n at KS h3 h4 hsec;obtain ⟨nw,hnw⟩:∃ nw:Int,nw=a2 % (10 * n):=⟨_,rfl⟩
  have hn0:0≤nw∧nw < 10 * n:=by
   rw [hnw];exact ⟨Int.emod_nonneg _ (by omega),Int.emod_lt_of_pos _ (by omega)⟩
  obtain ⟨m,hm⟩:∃ m:Int,m=a3 % (20 * n):=⟨_,rfl⟩
  have hm0:0≤m∧m < 20 * n:=by
   rw [hm];exact ⟨Int.emod_nonneg _ (by omega),Int.emod_lt_of_pos _ (by omega)⟩
  obtain ⟨s1,s2,d1,d2,e2,c1,c2,ok1,ok2⟩:=lasts_plain (who:=who) (now:=nw) (when:=nw+m) hsec (by omega) hn0.1 (by omega)
  have hl1:s1.last≤1000000000:=by
   rcases doS_last ⟨plainC 1,0,[]⟩ 0 (askD who [] a1 [120]) with h | h <;> (rw [d1] at h; simp only at h; omega)
  have hl2:s2.last≤1000000000:=by
   have h':s1.last≤1:=by rcases doS_last ⟨plainC 1,0,[]⟩ 0 (askD who [] a1 [120]) with h | h <;> (rw [d1] at h; simp only at h; omega)
   rcases doS_last s1 nw (askP who [120] a1 [121]) with h | h <;> (rw [d2] at h; simp only at h; omega)
  have hx:=exp_one e2 (nw+m);simp only at hx;have hnn:(n==0)=false:=by simp; omega
  have PF:=hid (And.intro d1 (And.intro d2 (And.intro hx (And.intro hnw (And.intro hm (And.intro hl1 hl2))))));have hnw1:=hn0;have hmm:=hm0;clear hn0 hm0 hsec d1 d2 hx e2 c1 c2 ok1 ok2 hl1 hl2 hnw hm
  go_enter Tryz.func5,Tryz.ntmps5
  go_wp2_with fail
  refine (KP.out _).mono ?_
  rintro e w1 ⟨rfl,hb1⟩;have bel:=hid hb1;clear hb1;go_wp2_with fail
  refine (KB.out _).mono ?_
  rintro e w2 ⟨bt,rfl,hT,hb2⟩;have BG:=hid (⟨hT.lower bel.out.size,fun x hx=>by simp at hx,bel.out.trans (hb2.mono bel.out.size),OwnPb.nil _ _⟩:Bag w w2 bt ⟨plainC 1,0,[]⟩ (.slice none 0 0) [] []);clear hT hb2 bel;go_wp2_with fail
  refine (KP.out _).mono ?_
  rintro e w3 ⟨rfl,hb3⟩;have BG:=hid (BG.out.below hb3);clear hb3;go_wp2_with fail
  refine (KS.out _).mono ?_
  rintro e w4 ⟨rfl,hb4⟩;have BG:=hid (BG.out.below hb4);clear hb4;go_wp2_with fail
  refine (KO.out _).mono ?_
  rintro e w5 ⟨rfl,hb5⟩;have BG:=hid (BG.out.below hb5);clear hb5;have KD:=hid (does_askD BG.out (by decide) PF.out.1 (by omega) (by simp) (by simp));go_wp2_with fail
  refine KD.out.mono ?_
  rintro e w6 ⟨rfl,BG6⟩;have BG7:=hid (BG6.new [.int .i64 200,.int .i64 n,.string ⟨[120].toArray⟩,.bool true] 46 tyTold);clear BG BG6 KD
  go_upto_region 8 with fail
  generalize w6.heap.size=g at BG7 ⊢;generalize World.alloc _ _=w7 at BG7 ⊢;obtain ⟨t0,t1,t2,t3,_,_,_,_⟩:=BG7.out.r0.rc4
  go_upto_region 11 with fail
  rw [← PF.out.2.2.2.1];have KD:=hid (does_askP BG7.out PF.out.2.2.2.2.2.1 PF.out.2.1 (by omega) (by simp) (by simp));go_wp2_with fail
  refine KD.out.mono ?_
  rintro e w8 ⟨rfl,BG8⟩;have BG9:=hid (BG8.new [.int .i64 200,.int .i64 n,.string ⟨[121].toArray⟩,.bool false] 46 tyTold);clear BG7 BG8 KD t0 t1 t2 t3
  go_upto_region 12 with fail
  generalize w8.heap.size=g2 at BG9 ⊢;generalize World.alloc _ _=w9 at BG9 ⊢;obtain ⟨t0,t1,t2,t3,_,_,_,_⟩:=BG9.out.r0.rc4
  go_upto_region 16 with fail
  rw [← PF.out.2.2.2.2.1];have qa:wrap64 m=m:=by unfold wrap64; omega
  have qb:wrap64 (nw+m)=nw+m:=by unfold wrap64; omega
  rw [qa,qb];clear qa qb;have KX:=hid (pexp_any BG9.out.tab (now:=nw+m));rw [PF.out.2.2.1] at KX;by_cases hov:nw+10 * n≤nw+m
  ·rw [if_pos hov] at KX;have hov':decide (nw+m < nw+10 * n)=false:=decide_eq_false (by omega);go_wp2_with fail
   refine KX.out.mono ?_
   rintro e wa ⟨v,rfl,hO,hT,hF⟩;have BGa:=hid ((BG9.out.tl.tl).call hT hF);have HS:=hid (own_strsAtO hO);clear KX BG9 t0 t1 t2 t3 hT hF hO;obtain ⟨oa,oc,rfl,_⟩:=HS.out;have hal:Below wa.heap.size wa (wa.alloc (.cells #[.string ⟨who.toArray⟩] 9)):=(Below.refl _ wa).alloc (Nat.le_refl _) _;have BGb:=hid (BGa.out.below hal)
   have HT2:StrsAt (wa.alloc (.cells #[.string ⟨who.toArray⟩] 9)) (.slice (some ⟨wa.heap.size,0,none⟩) 1 1) [who]:=⟨some ⟨wa.heap.size,0,none⟩,1,rfl,fun k hk=>by
    have hk0:k=0:=by simpa using hk
    subst hk0;exact ⟨_,rfl,by simp,by simp [Addr.add,World.cell?_alloc_new]⟩⟩
   have KT:=hid (rtexts_same _ _ [who] _ (HS.out.below hal) HT2 (by simp));clear BGa HS HT2 hal;go_wp2_with fail
   refine KT.out.mono ?_
   rintro e wb ⟨rfl,qd,hwb⟩;have BGc:=hid (show Bag w wb bt ⟨s2.c,s2.last,[]⟩ (.slice none 0 0) [] [] from by rw [hwb]; exact BGb.out.below (below_drewN _ qd));clear BGb KT hwb;have KN:=hid (plen_tab BGc.out.tab);have KL:=hid (plive_tab BGc.out.tab who);go_wp2_with fail
   refine KN.out.mono ?_
   rintro e wx ⟨rfl,hwx⟩;rw [hwx];clear hwx KN;go_wp2_with fail
   refine KL.out.mono ?_
   rintro e w6 ⟨v,ds,rfl,ho,_,hds,hb6⟩
   have hdl:ds.length=0:=by
    have:=congrArg List.length hds
    rw [pbsL_len] at this;exact this
   obtain ⟨oa2,oc2,rfl⟩:=ho.form;rw [hdl];have bel:=hid (BGc.out.bel.trans (hb6.mono BGc.out.bel.size));clear KL ho hds hb6 BGc;go_wp2_with fail
   refine (KW.out _).mono ?_
   rintro e w9 ⟨rfl,hw9⟩;go_wp2;go_ret;exact ⟨rfl,bel.out.trans (hw9.mono bel.out.size)⟩
  ·rw [if_neg hov] at KX;have hov':decide (nw+m < nw+10 * n)=true:=decide_eq_true (by omega);go_wp2_with fail
   refine KX.out.mono ?_
   rintro e wa ⟨v,rfl,hO,hT,hF⟩;have BGa:=hid ((BG9.out.tl.tl).call hT hF);have hst:=own_strsAtO hO;clear KX BG9 t0 t1 t2 t3 hT hF hO;obtain ⟨oa,oc,rfl,_⟩:=hst;have KN:=hid (plen_tab BGa.out.tab);have KL:=hid (plive_tab BGa.out.tab who);go_wp2_with fail
   refine KN.out.mono ?_
   rintro e wx ⟨rfl,hwx⟩;rw [hwx];clear hwx KN;go_wp2_with fail
   refine KL.out.mono ?_
   rintro e w6 ⟨v,ds,rfl,ho,_,hds,hb6⟩
   have hdl:ds.length=1:=by
    have:=congrArg List.length hds
    rw [pbsL_len,live_one rfl rfl] at this;exact this
   obtain ⟨oa,oc,rfl⟩:=ho.form;rw [hdl];have bel:=hid (BGa.out.bel.trans (hb6.mono BGa.out.bel.size));clear KL ho hds hb6 BGa;go_wp2_with fail
   refine (KW.out _).mono ?_
   rintro e w9 ⟨rfl,hw9⟩;go_wp2;go_ret;exact ⟨rfl,bel.out.trans (hw9.mono bel.out.size)⟩
end Go.Proofs.YteicmbhilambpaaGreatDoor.pubLasts
