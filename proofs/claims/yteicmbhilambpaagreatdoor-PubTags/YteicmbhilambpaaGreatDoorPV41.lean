/-
  PubL, PubN, PtR, WPubTags.
-/
import Derived.Test.YteicmbhilambpaaGreatDoorPU17
import Derived.Test.YteicmbhilambpaaGreatDoorPU35
set_option linter.unusedVariables false
set_option linter.unusedSimpArgs false
set_option maxRecDepth 20000
namespace Go.Proofs.YteicmbhilambpaaGreatDoor
open Go.RowKit Sc
theorem tok_ne {s:List UInt8} (h:tokenB s=true):s ≠ []:=by
 intro e;subst e
 revert h
 decide +kernel
theorem sec0 (c:Cf) (h2:c.most=3600):secC c 0=(0,true):=by
 unfold secC;rw [h2,if_neg (by decide),if_neg (by decide)]; rfl
theorem tags_plain {s:Sto} (h:StOK s) (hc:s.c=plainC 3) {now:Int} {tag tx:List UInt8} (h0:0≤now) (h1:now≤549755813888) (hl:0 < s.l.length) (ht:tokenB tag=true) (htx:tokenB tx=true) (hp:placeP s.l tag < 0) (hpx:placeP s.l tx < 0) (hne:tx ≠ tag) :
  ∃ s1 s2:Sto,doS s now (askP s.l[0].who s.l[0].tag 60 tag)=(s1,⟨200,60,tag,false⟩,0)∧doS s1 now (askP s.l[0].who s.l[0].tag 60 tx)=(s1,⟨412,0,[],false⟩,0)∧(∀ other,other ≠ s.l[0].who → doS s1 now (askP other tag 60 tx)=(s1,⟨412,0,[],false⟩,0))∧doS s1 now (askP s.l[0].who tag 0 tx)=(s2,⟨200,0,tx,true⟩,0)∧doS s2 now (askP s.l[0].who tag 60 tag)=(s2,⟨412,0,[],false⟩,0)∧s2.l.length+1=s.l.length∧s1.c=s.c∧s2.c=s.c:=by
 have hr:rightC s.c=true:=by rw [hc]; exact plain_right (by decide) (by decide)
 have hsec:secC s.c 60=(60,true):=sec60 _ (by rw [hc]; rfl) (by rw [hc]; rfl);have hsec0:secC s.c 0=(0,true):=sec0 _ (by rw [hc]; rfl);have hn0:=place_no hp;have hnx:=place_no hpx;obtain ⟨hi,hpl⟩:=idx_at h hl;have hpne:s.l[0].tag ≠ []:=tok_ne (h.tok _ (List.getElem_mem hl));have htne:tag ≠ []:=tok_ne ht
 -- the first
 have hb1:badA s now (askP s.l[0].who s.l[0].tag 60 tag)=false:=bad_no h0 h1 ht hp (fun hh=>by cases hh);have d1:=doS_go (k:=0) hb1 (none_no (a:=askP s.l[0].who s.l[0].tag 60 tag) hl hi hpl rfl) (show (secC s.c 60).2=true by rw [hsec]) hpne rfl (show (secC s.c 60).1 ≠ 0 by rw [hsec]; decide) hi;rw [show (secC s.c (askP s.l[0].who s.l[0].tag 60 tag).exp)=(60,true) from hsec] at d1;obtain ⟨s1,hs1⟩:∃ s1:Sto,s1=⟨s.c,s.last,s.l.modify 0 (fun p=>goP p now 60 (askP s.l[0].who s.l[0].tag 60 tag))⟩:=⟨_,rfl⟩
 rw [show (⟨s.c,s.last,s.l.modify 0 (fun p=>goP p now (60,true).1 (askP s.l[0].who s.l[0].tag 60 tag))⟩:Sto)=s1 from hs1.symm] at d1
 have ok1:StOK s1:=by
  have:=doS_ok hr h now (askP s.l[0].who s.l[0].tag 60 tag)
  rw [d1] at this;exact this
 have hc1:s1.c=s.c:=by rw [hs1]
 have hl1:s1.l.length=s.l.length:=by rw [hs1]; simp
 have hl1':0 < s1.l.length:=by omega
 have e0:s1.l[0].tag=tag∧s1.l[0].who=s.l[0].who:=by
  subst hs1;simp only [List.getElem_modify,if_pos];exact ⟨rfl,rfl⟩
 have hother:∀ p ∈ s1.l,p.tag=tag∨∃ q ∈ s.l,p.tag=q.tag∧q.tag ≠ s.l[0].tag:=fun p hpm=>by
  obtain ⟨i,hil,rfl⟩:=List.mem_iff_getElem.1 hpm;by_cases hi0:i=0
  ·subst hi0; exact .inl e0.1
  ·have hil2:i < s.l.length:=by omega
   refine .inr ⟨s.l[i],List.getElem_mem hil2,?_,fun e=>?_⟩
   ·subst hs1;simp only [List.getElem_modify];rw [if_neg (by omega)]
   ·exact hi0 (h.tags i 0 hil2 hl e)
 have hdead:∀ p ∈ s1.l,p.tag ≠ s.l[0].tag:=fun p hpm e=>by
  rcases hother p hpm with e1 | ⟨q,hq,e1,e2⟩
  ·exact hn0 _ (List.getElem_mem hl) (e.symm.trans e1)
  ·exact e2 (e1.symm.trans e)
 have hfx:∀ p ∈ s1.l,p.tag ≠ tx:=fun p hpm e=>by
  rcases hother p hpm with e1 | ⟨q,hq,e1,e2⟩
  ·exact hne (e.symm.trans e1)
  ·exact hnx q hq (e1.symm.trans e)
 have hpx1:=place_neg hfx;obtain ⟨hi1,hpl1⟩:=idx_at ok1 hl1';rw [e0.1] at hi1 hpl1
 -- the fourth
 have hb4:badA s1 now (askP s.l[0].who tag 0 tx)=false:=bad_no h0 h1 htx hpx1 (fun hh=>by cases hh);have d4:=doS_end (k:=0) hb4 (none_no (a:=askP s.l[0].who tag 0 tx) hl1' hi1 hpl1 e0.2) (show (secC s1.c 0).2=true by rw [hc1,hsec0]) htne rfl (show (secC s1.c 0).1=0 by rw [hc1,hsec0]) hi1;obtain ⟨s2,hs2⟩:∃ s2:Sto,s2=⟨s1.c,s1.last,s1.l.eraseIdx 0⟩:=⟨_,rfl⟩
 rw [← hs2] at d4
 have hgone:∀ p ∈ s2.l,p.tag ≠ tag:=fun p hpm e=>by
  rw [hs2] at hpm;simp only at hpm;obtain ⟨i,hil0,rfl⟩:=List.mem_iff_getElem.1 hpm;have hil:=hil0;rw [List.length_eraseIdx_of_lt hl1'] at hil;rw [List.getElem_eraseIdx_of_ge hil0 (Nat.zero_le i)] at e
  have:=ok1.tags (i+1) 0 (by omega) hl1' (e.trans e0.1.symm)
  omega
 refine ⟨s1,s2,d1,doS_412 (bad_no h0 h1 htx hpx1 (fun hh=>by cases hh)) (none_yes hpne hdead),fun other ho=>doS_412 (bad_no h0 h1 htx hpx1 (fun hh=>by cases hh)) (none_other (k:=0) htne hl1' hi1 (by rw [e0.2]; exact fun e=>ho e.symm)),d4,doS_412 (bad_no h0 h1 ht (place_neg hgone) (fun hh=>by cases hh)) (none_yes htne hgone),?_,hc1,by rw [hs2]; exact hc1⟩
 rw [hs2];simp only [List.length_eraseIdx_of_lt hl1'];omega
end Go.Proofs.YteicmbhilambpaaGreatDoor
namespace Go.Proofs.YteicmbhilambpaaGreatDoor
open Go.RowKit Go.Maps Go.WideMaps Sc
section
variable {w wr w' : World} {bt : Nat} {S S' : Sto} {v : Value} {cs : List PbC} {l : List (Nat × TypeId × List Value)}
theorem tyPub:TyOk 62:=⟨by decide,by decide,by decide,by decide⟩
end
end Go.Proofs.YteicmbhilambpaaGreatDoor
namespace Go.Proofs.YteicmbhilambpaaGreatDoor.pubTags
open Go.RowKit Go.Maps Go.WideMaps Sc
theorem str_ofp (s:ByteArray):∃ l:List UInt8,s=⟨l.toArray⟩:=⟨s.data.toList,by apply ByteArray.ext; simp⟩
inductive Way (cs:List PbC) (now:Int) (tag tx:List UInt8):Prop where
 | none (h:cs.length=0)
 | early (h:cs.length ≠ 0) (h1:now < 0)
 | late (h:cs.length ≠ 0) (h1:0≤now) (h2:549755813888 < now)
 | tok (h:cs.length ≠ 0) (h1:0≤now) (h2:now≤549755813888) (h3:tokenB tag=false)
 | place (h:cs.length ≠ 0) (h1:0≤now) (h2:now≤549755813888) (h3:tokenB tag=true) (h4:0≤placeP (pbsL cs) tag)
 | place2 (h:cs.length ≠ 0) (h1:0≤now) (h2:now≤549755813888) (h3:tokenB tag=true) (h4:placeP (pbsL cs) tag < 0) (h5:0≤placeP (pbsL cs) tx)
 | tok2 (h:cs.length ≠ 0) (h1:0≤now) (h2:now≤549755813888) (h3:tokenB tag=true) (h4:placeP (pbsL cs) tag < 0) (h5:placeP (pbsL cs) tx < 0) (h6:tokenB tx=false)
 | all (h:cs.length ≠ 0) (h1:0≤now) (h2:now≤549755813888) (h3:tokenB tag=true) (h4:placeP (pbsL cs) tag < 0) (h5:placeP (pbsL cs) tx < 0) (h6:tokenB tx=true)
theorem way (cs:List PbC) (now:Int) (tag tx:List UInt8):Way cs now tag tx:=by
 by_cases h:cs.length=0
 ·exact .none h
 by_cases h1:now < 0
 ·exact .early h h1
 by_cases h2:549755813888 < now
 ·exact .late h (by omega) h2
 cases h3:tokenB tag
 ·exact .tok h (by omega) (by omega) h3
 by_cases h4:0≤placeP (pbsL cs) tag
 ·exact .place h (by omega) (by omega) h3 h4
 by_cases h5:0≤placeP (pbsL cs) tx
 ·exact .place2 h (by omega) (by omega) h3 (by omega) h5
 cases h6:tokenB tx
 ·exact .tok2 h (by omega) (by omega) h3 (by omega) (by omega) h6
 ·exact .all h (by omega) (by omega) h3 (by omega) (by omega) h6
set_option maxHeartbeats 8000000 in
set_option maxRecDepth 100000 in
theorem law_walk (w:World) (v0:Value) (a1:Int) (a2 a3:ByteArray) (k0:AcpsIn 140737488351232 w v0) (w1:(Lit.int .i64 a1).wf=true) (b2:a2.size≤140737488351232) (b3:a3.size≤140737488351232) :
  Calls Tryz.prog 4 #[v0,.int .i64 a1,.string a2,.string a3] w fun e w'=>e=.returned (.bool true)∧Below w.heap.size w w':=by
 obtain ⟨tag,rfl⟩:=str_ofp a2;obtain ⟨oth,rfl⟩:=str_ofp a3;have htag:tag.length≤140737488351232:=by simpa [ByteArray.size] using b2
 have hoth:oth.length≤140737488351232:=by simpa [ByteArray.size] using b3
 obtain ⟨acts,hat,hal,hao⟩:=k0;have KF:=hid (filled_any hat hao hal);obtain ⟨ao,cap,rfl,_⟩:=hat;have KW:=hid awake16_any;have KT:=hid (fun (u:World)=>reftoken_list tag u (by omega));obtain ⟨tx,htx⟩:∃ tx:List UInt8,tx=tag++[120]:=⟨_,rfl⟩
 have hcat:(⟨tag.toArray⟩:ByteArray)++(⟨#[120]⟩:ByteArray)=⟨tx.toArray⟩:=by rw [htx]; apply ByteArray.ext; simp
 have htl:tx.length≤140737488351233:=by rw [htx,List.length_append]; show tag.length+1≤_; omega
 have htn:tx ≠ tag:=by rw [htx]; intro e; have:=congrArg List.length e; simp at this
 clear htx;have KX:=hid (fun (u:World)=>reftoken_list tx u (by omega));clear hal hao b2 b3
 go_enter Tryz.func4,Tryz.ntmps4
 go_wp2_with fail
 refine KF.out.mono ?_
 rintro e w1 ⟨bt,S,v,cs,rfl,hT,hO,hd,hs,hc,hl,hb⟩;have BG:=hid ((⟨hT,fun x hx=>by simp at hx,hb,hO⟩:Bag w w1 bt S v cs []).new (stoL S v) 31 tySto);have HD:=hid (And.intro hs (And.intro hc (And.intro hl hd)));obtain ⟨oa,oc,rfl⟩:=hO.form;have KL:=hid (fun (u:World) (tg:List UInt8) (hu:OwnPb u w.heap.size (.slice oa cs.length oc) cs) (hn:cs.length≤1000000)=>rplace16_any (s:=S) hu.pbsAt tg hn);have hfew:cs.length≤200:=by rw [← pbsL_len cs,← hs]; exact few_pubs hT.right hT.ok
 have HOK:=hid (And.intro hT.right hT.ok);clear hT hO hb hs hc hl hd KF;unfold stoV at KL ⊢;unfold stoL at BG
 go_upto_region 2 with fail
 generalize w1.heap.size=br at BG ⊢;generalize World.alloc _ _=W at BG ⊢
 go_upto_region 4 with fail
 rcases way cs a1 tag tx with h | ⟨h,h1⟩ | ⟨h,h1,h2⟩ | ⟨h,h1,h2,h3⟩ | ⟨h,h1,h2,h3,h4⟩ | ⟨h,h1,h2,h3,h4,h5⟩ | ⟨h,h1,h2,h3,h4,h5,h6⟩ | ⟨h,h1,h2,h3,h4,h5,h6⟩
 ·have e0:((cs.length:Int)==0)=true:=by simp [h]
  clear h;obtain ⟨x0,x1,x2,x3,x4,x5,x6,x7,x8,_⟩:=BG.out.r0.rc9;go_wp2_with fail
  refine (KW.out _).mono ?_
  rintro e w9 ⟨rfl,hw9⟩;go_wp2;go_ret;exact ⟨rfl,BG.out.bel.trans (hw9.mono BG.out.bel.size)⟩
 ·have e0:((cs.length:Int)==0)=false:=by simpa using h
  have e1:decide (a1 < 0)=true:=decide_eq_true h1;clear h h1;obtain ⟨x0,x1,x2,x3,x4,x5,x6,x7,x8,_⟩:=BG.out.r0.rc9;go_wp2_with fail
  refine (KW.out _).mono ?_
  rintro e w9 ⟨rfl,hw9⟩;go_wp2;go_ret;exact ⟨rfl,BG.out.bel.trans (hw9.mono BG.out.bel.size)⟩
 ·have e0:((cs.length:Int)==0)=false:=by simpa using h
  have e1:decide (a1 < 0)=false:=decide_eq_false (by omega);have e2:decide (549755813888 < a1)=true:=decide_eq_true h2;clear h h1 h2;obtain ⟨x0,x1,x2,x3,x4,x5,x6,x7,x8,_⟩:=BG.out.r0.rc9;go_wp2_with fail
  refine (KW.out _).mono ?_
  rintro e w9 ⟨rfl,hw9⟩;go_wp2;go_ret;exact ⟨rfl,BG.out.bel.trans (hw9.mono BG.out.bel.size)⟩
 ·have e0:((cs.length:Int)==0)=false:=by simpa using h
  have e1:decide (a1 < 0)=false:=decide_eq_false (by omega);have e2:decide (549755813888 < a1)=false:=decide_eq_false (by omega);rw [h3] at KT;clear h h1 h2 h3;obtain ⟨x0,x1,x2,x3,x4,x5,x6,x7,x8,_⟩:=BG.out.r0.rc9;go_wp2_with fail
  refine (KT.out _).mono ?_
  rintro e wx ⟨rfl,hwx⟩;rw [hwx];clear hwx;go_wp2_with fail
  refine (KW.out _).mono ?_
  rintro e w9 ⟨rfl,hw9⟩;go_wp2;go_ret;exact ⟨rfl,BG.out.bel.trans (hw9.mono BG.out.bel.size)⟩
 ·have e0:((cs.length:Int)==0)=false:=by simpa using h
  have e1:decide (a1 < 0)=false:=decide_eq_false (by omega);have e2:decide (549755813888 < a1)=false:=decide_eq_false (by omega);rw [h3] at KT;have e4:decide (0≤placeP (pbsL cs) tag)=true:=decide_eq_true h4;clear h h1 h2 h3 h4;obtain ⟨x0,x1,x2,x3,x4,x5,x6,x7,x8,_⟩:=BG.out.r0.rc9;go_wp2_with fail
  refine (KT.out _).mono ?_
  rintro e wx ⟨rfl,hwx⟩;rw [hwx];clear hwx;go_wp2_with fail
  refine (KL.out _ _ BG.out.own (by omega)).mono ?_
  rintro e wp ⟨rfl,hwp⟩;have BG:=hid (BG.out.below hwp);clear hwp x0 x1 x2 x3 x4 x5 x6 x7 x8;obtain ⟨x0,x1,x2,x3,x4,x5,x6,x7,x8,_⟩:=BG.out.r0.rc9;go_wp2_with fail
  refine (KW.out _).mono ?_
  rintro e w9 ⟨rfl,hw9⟩;go_wp2;go_ret;exact ⟨rfl,BG.out.bel.trans (hw9.mono BG.out.bel.size)⟩
 ·have e0:((cs.length:Int)==0)=false:=by simpa using h
  have e1:decide (a1 < 0)=false:=decide_eq_false (by omega);have e2:decide (549755813888 < a1)=false:=decide_eq_false (by omega);rw [h3] at KT;have e4:decide (0≤placeP (pbsL cs) tag)=false:=decide_eq_false (by omega);have e5:decide (0≤placeP (pbsL cs) tx)=true:=decide_eq_true h5;clear h h1 h2 h3 h4 h5;obtain ⟨x0,x1,x2,x3,x4,x5,x6,x7,x8,_⟩:=BG.out.r0.rc9;go_wp2_with fail
  refine (KT.out _).mono ?_
  rintro e wx ⟨rfl,hwx⟩;rw [hwx];clear hwx;go_wp2_with fail
  refine (KL.out _ _ BG.out.own (by omega)).mono ?_
  rintro e wp ⟨rfl,hwp⟩;have BG:=hid (BG.out.below hwp);clear hwp x0 x1 x2 x3 x4 x5 x6 x7 x8;obtain ⟨x0,x1,x2,x3,x4,x5,x6,x7,x8,_⟩:=BG.out.r0.rc9;go_wp2_with fail
  refine (KL.out _ _ BG.out.own (by omega)).mono ?_
  rintro e wp ⟨rfl,hwp⟩;have BG:=hid (BG.out.below hwp);clear hwp x0 x1 x2 x3 x4 x5 x6 x7 x8;obtain ⟨x0,x1,x2,x3,x4,x5,x6,x7,x8,_⟩:=BG.out.r0.rc9;go_wp2_with fail
  refine (KW.out _).mono ?_
  rintro e w9 ⟨rfl,hw9⟩;go_wp2;go_ret;exact ⟨rfl,BG.out.bel.trans (hw9.mono BG.out.bel.size)⟩
 ·have e0:((cs.length:Int)==0)=false:=by simpa using h
  have e1:decide (a1 < 0)=false:=decide_eq_false (by omega);have e2:decide (549755813888 < a1)=false:=decide_eq_false (by omega);rw [h3] at KT;rw [h6] at KX;have e4:decide (0≤placeP (pbsL cs) tag)=false:=decide_eq_false (by omega);have e5:decide (0≤placeP (pbsL cs) tx)=false:=decide_eq_false (by omega);clear h h1 h2 h3 h4 h5 h6;obtain ⟨x0,x1,x2,x3,x4,x5,x6,x7,x8,_⟩:=BG.out.r0.rc9;go_wp2_with fail
  refine (KT.out _).mono ?_
  rintro e wx ⟨rfl,hwx⟩;rw [hwx];clear hwx;go_wp2_with fail
  refine (KL.out _ _ BG.out.own (by omega)).mono ?_
  rintro e wp ⟨rfl,hwp⟩;have BG:=hid (BG.out.below hwp);clear hwp x0 x1 x2 x3 x4 x5 x6 x7 x8;obtain ⟨x0,x1,x2,x3,x4,x5,x6,x7,x8,_⟩:=BG.out.r0.rc9;go_wp2_with fail
  refine (KL.out _ _ BG.out.own (by omega)).mono ?_
  rintro e wp ⟨rfl,hwp⟩;have BG:=hid (BG.out.below hwp);clear hwp x0 x1 x2 x3 x4 x5 x6 x7 x8;obtain ⟨x0,x1,x2,x3,x4,x5,x6,x7,x8,_⟩:=BG.out.r0.rc9;go_wp2_with fail
  refine (KX.out _).mono ?_
  rintro e wx ⟨rfl,hwx⟩;rw [hwx];clear hwx;go_wp2_with fail
  refine (KW.out _).mono ?_
  rintro e w9 ⟨rfl,hw9⟩;go_wp2;go_ret;exact ⟨rfl,BG.out.bel.trans (hw9.mono BG.out.bel.size)⟩
 ·have e0:((cs.length:Int)==0)=false:=by simpa using h
  have e1:decide (a1 < 0)=false:=decide_eq_false (by omega);have e2:decide (549755813888 < a1)=false:=decide_eq_false (by omega);rw [h3] at KT;rw [h6] at KX;have e4:decide (0≤placeP (pbsL cs) tag)=false:=decide_eq_false (by omega);have e5:decide (0≤placeP (pbsL cs) tx)=false:=decide_eq_false (by omega);have hcl:0 < cs.length:=by omega
  have hSl:0 < S.l.length:=by rw [HD.out.1,pbsL_len]; exact hcl
  obtain ⟨s1,s2,d1,d2,d3,d4,d5,e12,c1,c2⟩:=tags_plain HOK.out.2 HD.out.2.1 h1 h2 hSl h3 h6 (by rw [HD.out.1]; exact h4) (by rw [HD.out.1]; exact h5) htn;have hp0:S.l[0]=cs[0].p:=by simp only [HD.out.1]; exact pbsL_get cs hcl
  rw [hp0] at d1 d2 d3 d4 d5;have hl0:=HD.out.2.2.1;have l1:s1.last≤21:=by rcases doS_last S a1 (askP cs[0].p.who cs[0].p.tag 60 tag) with h | h <;> (rw [d1] at h; simp only at h; omega)
  have l2:s2.last≤22:=by rcases doS_last s1 a1 (askP cs[0].p.who tag 0 tx) with h | h <;> (rw [d4] at h; simp only at h; omega)
  have e12':(s2.l.length:Int)=(cs.length:Int) - 1:=by rw [HD.out.1,pbsL_len] at e12; omega
  have hbd:=(BG.out.small S.l[0] (List.getElem_mem hSl)).2;rw [hp0] at hbd;obtain ⟨oa',oc',hv',hcp',hat'⟩:=BG.out.own.pbsAt;obtain ⟨ad,hoa,hab,hpb⟩:=hat' 0 hcl
  injection hv' with g1 g2 g3
  subst g1;subst hoa;have PBA:=hid (show ∀ u,Below W.heap.size W u → PbAt u ad 0 cs[0] from fun u hu=>hpb.below hu hab);have BW:=hid (Below.refl W.heap.size W);obtain ⟨⟨ta,tc,hts,_⟩,⟨na,nc,hns,_⟩⟩:=HD.out.2.2.2 _ BG.out.bel _ (List.getElem_mem hcl);generalize cs[0]=p at *;have HL:=hid (And.intro e12' (And.intro hl0 (And.intro l1 (And.intro l2 (And.intro d1 (And.intro d2 (And.intro d3 (And.intro d4 d5))))))));clear h1 h2 h3 h4 h5 h6 hp0 e12 c1 c2 hcp' hat' hpb g2 g3 hab e12' hl0 l1 l2 HD HOK hSl d1 d2 d3 d4 d5;obtain ⟨x0,x1,x2,x3,x4,x5,x6,x7,x8,_⟩:=BG.out.r0.rc9;go_wp2_with fail
  refine (KT.out _).mono ?_
  rintro e wx ⟨rfl,hwx⟩;rw [hwx];clear hwx;go_wp2_with fail
  refine (KL.out _ _ BG.out.own (by omega)).mono ?_
  rintro e wp ⟨rfl,hwp⟩;have BG:=hid (BG.out.below hwp);have BW:=hid (BW.out.trans (hwp.mono BW.out.size));clear hwp x0 x1 x2 x3 x4 x5 x6 x7 x8;obtain ⟨x0,x1,x2,x3,x4,x5,x6,x7,x8,_⟩:=BG.out.r0.rc9;go_wp2_with fail
  refine (KL.out _ _ BG.out.own (by omega)).mono ?_
  rintro e wp ⟨rfl,hwp⟩;have BG:=hid (BG.out.below hwp);have BW:=hid (BW.out.trans (hwp.mono BW.out.size));clear hwp x0 x1 x2 x3 x4 x5 x6 x7 x8;obtain ⟨x0,x1,x2,x3,x4,x5,x6,x7,x8,_⟩:=BG.out.r0.rc9;go_wp2_with fail
  refine (KX.out _).mono ?_
  rintro e wx ⟨rfl,hwx⟩;rw [hwx];clear hwx
  go_upto_region 6 with fail
  obtain ⟨y0,y1,y2,y3,y4,y5,y6⟩:=(PBA.out _ BW.out).seven;rw [hts] at y5;rw [hns] at y6;have BG6:=hid (BG.out.new [.int .i64 p.p.num,.string ⟨p.p.who.toArray⟩,.string ⟨p.p.tag.toArray⟩,.int .i64 p.p.til,.string ⟨p.p.doc.entity.toArray⟩,.slice ta p.p.doc.tuples.length tc,.slice na p.p.doc.notes.length nc] 62 tyPub);have n0:ad.add 0=ad:=by simp [Addr.add]
  simp only [Nat.zero_mul,n0] at y0 y1 y2 y3 y4 y5 y6;have hcl':(0:Int) < (cs.length:Int):=by omega
  clear BG BW PBA
  go_upto_region 7 with fail
  generalize wp.heap.size=bp at BG6 ⊢;generalize World.alloc _ _=W6 at BG6 ⊢;clear y0 y1 y2 y3 y4 y5 y6 x0 x1 x2 x3 x4 x5 x6 x7 x8 KL KT KX;obtain ⟨s0,s1',s2',s3,s4,s5,s6,_⟩:=BG6.out.r0.rp7;have KD:=hid (does_askP BG6.out (by have:=HL.out; omega) (HL.out.2.2.2.2.1) (hbd.1) (hbd.2) (by omega));simp only at KD;go_wp2_with fail
  refine KD.out.mono ?_
  rintro e w7 ⟨rfl,BGn⟩;have BG7:=hid (BGn.new [.int .i64 200,.int .i64 60,.string ⟨tag.toArray⟩,.bool false] 46 tyTold);clear BGn KD s0 s1' s2' s3 s4 s5 s6
  go_upto_region 8 with fail
  generalize w7.heap.size=g7 at BG7 ⊢;generalize World.alloc _ _=W7 at BG7 ⊢;obtain ⟨s0,s1',s2',s3,s4,s5,s6,_⟩:=BG7.out.tl.r0.rp7;have KD:=hid (does_askP BG7.out (by have:=HL.out; omega) (HL.out.2.2.2.2.2.1) (hbd.1) (hbd.2) (by omega));simp only at KD;go_wp2_with fail
  refine KD.out.mono ?_
  rintro e w8 ⟨rfl,BGn⟩;have BG8:=hid (BGn.new [.int .i64 412,.int .i64 0,.string ⟨([]:List UInt8).toArray⟩,.bool false] 46 tyTold);clear BGn KD s0 s1' s2' s3 s4 s5 s6
  go_upto_region 9 with fail
  generalize w8.heap.size=g8 at BG8 ⊢;generalize World.alloc _ _=W8 at BG8 ⊢;obtain ⟨u0,u1,u2,u3,_⟩:=BG8.out.r0.rc4;obtain ⟨t0,t1,t2,t3,_⟩:=BG8.out.tl.r0.rc4
  go_upto_region 11 with fail
  clear t0 t1 t2 t3 u0 u1 u2 u3;obtain ⟨s0,s1',s2',s3,s4,s5,s6,_⟩:=BG8.out.tl.tl.r0.rp7
  have hor:(oth==p.p.who)=true∨((oth==p.p.who)=false∧oth ≠ p.p.who):=by
   by_cases h:oth=p.p.who
   ·exact .inl (by simp [h])
   ·exact .inr ⟨by simp [h],h⟩
  rcases hor with hoe | ⟨hoe,hne⟩
  ·have hoe2:(oth != p.p.who)=false:=by unfold bne; rw [hoe]; rfl
   go_upto_region 15 with fail
   clear s0 s1' s2' s3 s4 s5 s6;obtain ⟨s0,s1',s2',s3,s4,s5,s6,_⟩:=BG8.out.tl.tl.r0.rp7;have KD:=hid (does_askP BG8.out (by have:=HL.out; omega) (HL.out.2.2.2.2.2.2.2.1) (hbd.1) (by omega) (by omega));simp only at KD;go_wp2_with fail
   refine KD.out.mono ?_
   rintro e wA ⟨rfl,BGn⟩;have BGA:=hid (BGn.new [.int .i64 200,.int .i64 0,.string ⟨tx.toArray⟩,.bool true] 46 tyTold);clear BGn KD s0 s1' s2' s3 s4 s5 s6
   go_upto_region 16 with fail
   generalize wA.heap.size=gA at BGA ⊢;generalize World.alloc _ _=WA at BGA ⊢;obtain ⟨s0,s1',s2',s3,s4,s5,s6,_⟩:=BGA.out.tl.tl.tl.r0.rp7;have KD:=hid (does_askP BGA.out (by have:=HL.out; omega) (HL.out.2.2.2.2.2.2.2.2) (hbd.1) (by omega) (by omega));simp only at KD;go_wp2_with fail
   refine KD.out.mono ?_
   rintro e wB ⟨rfl,BGn⟩;have BGB:=hid (BGn.new [.int .i64 412,.int .i64 0,.string ⟨([]:List UInt8).toArray⟩,.bool false] 46 tyTold);clear BGn KD s0 s1' s2' s3 s4 s5 s6
   go_upto_region 17 with fail
   generalize wB.heap.size=gB at BGB ⊢;generalize World.alloc _ _=WB at BGB ⊢;obtain ⟨u0,u1,u2,u3,_⟩:=BGB.out.r0.rc4;obtain ⟨t0,t1,t2,t3,_⟩:=BGB.out.tl.r0.rc4;have x8:=BGB.out.tl.tl.tl.tl.tl.r0.rc9.c8;have hwl:wrap64 ((cs.length:Int) - 1)=(cs.length:Int) - 1:=by unfold wrap64; omega
   have KN:∀ u,Below WB.heap.size WB u → Calls Tryz.prog 24 #[.pointer (some ⟨bt,0,none⟩)] u fun e w'=>e=.returned (.int .i64 ((cs.length:Int) - 1))∧Below u.heap.size u w':=fun u hu=>(plen_tab (BGB.out.below hu).tab).mono fun e w' ⟨h1,h2⟩=>⟨by rw [h1,HL.out.1],by rw [h2]; exact Below.refl _ _⟩
   have cL:=hid (fun (d:Nat) (os:Array Obj)=>Calls.regrown_of (KN (Sort.grow (redrawn WB d) os) (below_regrown WB d os)));have cW:=hid (fun (d:Nat) (os:Array Obj)=>Calls.regrown_of (KW.out (Sort.grow (redrawn WB d) os)));have hll:(((cs.length:Int) - 1)==((cs.length:Int) - 1))=true:=by simp
   have bel:=hid BGB.out.bel;clear KN BGB KW HL;replace x8:=cell_regrown x8;replace t0:=cell_regrown t0;replace t1:=cell_regrown t1;replace t2:=cell_regrown t2;replace t3:=cell_regrown t3;replace u0:=cell_regrown u0;replace u1:=cell_regrown u1;replace u2:=cell_regrown u2;replace u3:=cell_regrown u3;refine wp_region_quiet_below followsMixed5 (by kernel_rfl) ?_
   repeat (go_big_quiet_step (first | with_reducible exact cL.out _ _ | with_reducible exact cW.out _ _))
   refine wpQuiet_nil ?_
   intro _ hw';obtain ⟨⟨dq,osq⟩,hw''⟩:=hw';subst hw'';go_wp2;go_ret;exact ⟨rfl,bel.out.trans ((below_regrown WB dq osq).mono bel.out.size)⟩
  ·have hoe2:(oth != p.p.who)=true:=by unfold bne; rw [hoe]; rfl
   go_upto_region 12 with fail
   clear s0 s1' s2' s3 s4 s5 s6;obtain ⟨s0,s1',s2',s3,s4,s5,s6,_⟩:=BG8.out.tl.tl.r0.rp7;have KD:=hid (does_askP BG8.out (by have:=HL.out; omega) (HL.out.2.2.2.2.2.2.1 oth hne) (by omega) (by omega) (by omega));simp only at KD;go_wp2_with fail
   refine KD.out.mono ?_
   rintro e w9 ⟨rfl,BGn⟩;have BG9:=hid (BGn.new [.int .i64 412,.int .i64 0,.string ⟨([]:List UInt8).toArray⟩,.bool false] 46 tyTold);clear BGn KD s0 s1' s2' s3 s4 s5 s6
   go_upto_region 13 with fail
   generalize w9.heap.size=g9 at BG9 ⊢;generalize World.alloc _ _=W9 at BG9 ⊢;obtain ⟨u0,u1,u2,u3,_⟩:=BG9.out.r0.rc4
   go_upto_region 15 with fail
   clear u0 u1 u2 u3;obtain ⟨s0,s1',s2',s3,s4,s5,s6,_⟩:=BG9.out.tl.tl.tl.r0.rp7;have KD:=hid (does_askP BG9.out (by have:=HL.out; omega) (HL.out.2.2.2.2.2.2.2.1) (hbd.1) (by omega) (by omega));simp only at KD;go_wp2_with fail
   refine KD.out.mono ?_
   rintro e wA ⟨rfl,BGn⟩;have BGA:=hid (BGn.new [.int .i64 200,.int .i64 0,.string ⟨tx.toArray⟩,.bool true] 46 tyTold);clear BGn KD s0 s1' s2' s3 s4 s5 s6
   go_upto_region 16 with fail
   generalize wA.heap.size=gA at BGA ⊢;generalize World.alloc _ _=WA at BGA ⊢;obtain ⟨s0,s1',s2',s3,s4,s5,s6,_⟩:=BGA.out.tl.tl.tl.tl.r0.rp7;have KD:=hid (does_askP BGA.out (by have:=HL.out; omega) (HL.out.2.2.2.2.2.2.2.2) (hbd.1) (by omega) (by omega));simp only at KD;go_wp2_with fail
   refine KD.out.mono ?_
   rintro e wB ⟨rfl,BGn⟩;have BGB:=hid (BGn.new [.int .i64 412,.int .i64 0,.string ⟨([]:List UInt8).toArray⟩,.bool false] 46 tyTold);clear BGn KD s0 s1' s2' s3 s4 s5 s6
   go_upto_region 17 with fail
   generalize wB.heap.size=gB at BGB ⊢;generalize World.alloc _ _=WB at BGB ⊢;obtain ⟨u0,u1,u2,u3,_⟩:=BGB.out.r0.rc4;obtain ⟨t0,t1,t2,t3,_⟩:=BGB.out.tl.r0.rc4;have x8:=BGB.out.tl.tl.tl.tl.tl.tl.r0.rc9.c8;have hwl:wrap64 ((cs.length:Int) - 1)=(cs.length:Int) - 1:=by unfold wrap64; omega
   have KN:∀ u,Below WB.heap.size WB u → Calls Tryz.prog 24 #[.pointer (some ⟨bt,0,none⟩)] u fun e w'=>e=.returned (.int .i64 ((cs.length:Int) - 1))∧Below u.heap.size u w':=fun u hu=>(plen_tab (BGB.out.below hu).tab).mono fun e w' ⟨h1,h2⟩=>⟨by rw [h1,HL.out.1],by rw [h2]; exact Below.refl _ _⟩
   have cL:=hid (fun (d:Nat) (os:Array Obj)=>Calls.regrown_of (KN (Sort.grow (redrawn WB d) os) (below_regrown WB d os)));have cW:=hid (fun (d:Nat) (os:Array Obj)=>Calls.regrown_of (KW.out (Sort.grow (redrawn WB d) os)));have hll:(((cs.length:Int) - 1)==((cs.length:Int) - 1))=true:=by simp
   have bel:=hid BGB.out.bel;clear KN BGB KW HL;replace x8:=cell_regrown x8;replace t0:=cell_regrown t0;replace t1:=cell_regrown t1;replace t2:=cell_regrown t2;replace t3:=cell_regrown t3;replace u0:=cell_regrown u0;replace u1:=cell_regrown u1;replace u2:=cell_regrown u2;replace u3:=cell_regrown u3;refine wp_region_quiet_below followsMixed5 (by kernel_rfl) ?_
   repeat (go_big_quiet_step (first | with_reducible exact cL.out _ _ | with_reducible exact cW.out _ _))
   refine wpQuiet_nil ?_
   intro _ hw';obtain ⟨⟨dq,osq⟩,hw''⟩:=hw';subst hw'';go_wp2;go_ret;exact ⟨rfl,bel.out.trans ((below_regrown WB dq osq).mono bel.out.size)⟩
end Go.Proofs.YteicmbhilambpaaGreatDoor.pubTags
