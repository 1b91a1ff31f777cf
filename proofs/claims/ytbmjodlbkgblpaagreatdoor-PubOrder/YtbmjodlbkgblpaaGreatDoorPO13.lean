/-
  PsX, PsY, PubN, PsZ, XmlPadL, PidfRoundL, AnySet, XTrim.
-/
import Derived.Test.YtbmjodlbkgblpaaGreatDoorPO12
import Derived.Lib.AsciiSet
import Derived.Laws.RangeAny
import Derived.Laws.Runes
import Derived.Laws.ResultCell
import Derived.Deep.WholeRow
import Derived.Deep.LoopGhost
set_option linter.unusedVariables false
set_option linter.unusedSimpArgs false
set_option maxRecDepth 20000
namespace Go.Proofs.YtbmjodlbkgblpaaGreatDoor
open Go.RowKit Go.Maps Go.WideMaps Sc
section
variable {B bt mn ma be mw : Nat} {w u u' : World} {c : Cf} {last : Int} {l la l' la' : List PbC} {r r' : List Tm} {a : Pa} {ts ns : Value} {x : PbC} {pb : Nat}
set_option maxHeartbeats 4000000 in
set_option maxRecDepth 100000 in
theorem pchg_on1 (h:Sp2 B bt mn ma be mw w c last l l r) {now:Int} {ok:Bool} (hfx:SlF x.ts∧SlF x.ns) (hF:∀ u,Sp2 B bt mn ma be mw u c last l l r → Calls Tryz.prog 61 #[.pointer (some ⟨bt,0,none⟩),.string ⟨a.who.toArray⟩,.string ⟨a.mt.toArray⟩] u fun e u'=>e=.returned (.tuple #[pbV x,.bool ok])∧Below u.heap.size u u') (hok:ok=true) {n:Int} (hs1:(secC c a.exp).1=n) (hs2:(secC c a.exp).2=true) (hn0:(n==0)=false) (hh:a.has=true) (htag:a.tag.length≤281474976710656) {l1:List PbC} (hD:∀ u,Sp2 B bt mn ma be mw u c last l l r → ∃ u',(Builtin.delete_ #[53,9] 0 #[.map (some mn),.string ⟨x.p.tag.toArray⟩]).run Tryz.prog u=.ok (.tuple #[]) u'∧Sp2 B bt mn ma be mw u' c last l1 l r∧FrP B u u') {L2:Value → Value → List PbC} {r2:List Tm} (hK:∀ u t2 n2,SlF t2∧SlF n2 → Sp2 B bt mn ma be mw u c last l1 l r → Calls Tryz.prog 60 #[.pointer (some ⟨bt,0,none⟩),.int .i64 now,.int .i64 n,.string ⟨a.tag.toArray⟩,pbV ⟨⟨x.p.num,x.p.who,x.p.tag,x.p.til,a.doc⟩,t2,n2⟩] u fun e u'=>e=.returned (.tuple #[])∧(Sp2 B bt mn ma be mw u' c last (L2 t2 n2) (L2 t2 n2) r2∧FrP B u u')) (hsm:SmallD 140737488355328 a.doc) (htl:a.doc.tuples.length≤1000000) (hnl:a.doc.notes.length≤1000000) (hts:∀ u,Below B w u → TusAt u ts a.doc.tuples∧StrsAt u ns a.doc.notes) :
  Calls Tryz.prog 34 #[.pointer (some ⟨bt,0,none⟩),.int .i64 now,askV a ts ns] w fun e w'=>e=.returned (tdV ⟨200,n,a.tag,true⟩)∧∃ t2 n2,Sp2 B bt mn ma be mw w' c last (L2 t2 n2) (L2 t2 n2) r2∧FrP B w w'∧OwnU w' w.heap.size t2 a.doc.tuples∧Own w' w.heap.size 9 n2 (strs a.doc.notes):=by
 have HH:=hid hh;clear hh;have K4:=hid (fun (u:World)=>clonep a.tag u htag);have HDEL:=hid hD;have KK:=hid hK;have KD:=hid (fun (u:World) (hu:FrP B w u)=>pcopydoc_any a.doc ts ns u hsm htl hnl (hts u hu.below).1 (hts u hu.below).2);clear htag hD hK hsm htl hnl hts;subst hok;obtain ⟨ta,tn,tc,na,nn,nc,e1,e2⟩:=pb_oneP hfx;obtain ⟨xp,xts,xns⟩:=x;simp only at e1 e2;subst e1 e2;have hB:=h.lo;have HFX:=hid hfx;clear hfx;have KF:=hid hF;unfold pbV at KF
 try simp only at KF
 clear hF;have HI:=hid (BgG.of (BgF.start (a:=a) (ts:=ts) (ns:=ns) h) hB);clear h
 go_enter Tryz.func34,Tryz.ntmps34
 unfold askV
 go_upto_region 1 with fail
 generalize World.alloc (World.alloc _ _) _=W at HI ⊢;obtain ⟨a0,a1,a2,a3,a4,a5,a6,a7⟩:=bgA_of HI.out.ask;go_wp2_with fail
 refine (KF.out _ HI.out.sp).mono ?_
 rintro e w3 ⟨rfl,hb3⟩;have HN:=hid (ChF.new ⟨xp,.slice ta tn tc,.slice na nn nc⟩ (HI.out.step hb3));clear a0 a1 a2 a3 a4 a5 a6 a7 HI KF hb3
 try simp only at HN
 go_upto_region 2 with fail
 generalize World.alloc _ _=W5 at HN ⊢;generalize w3.heap.size=pb at HN ⊢;have KK:=hid KK.out;unfold pbV at KK
 try simp only at KK
 obtain ⟨a0,a1,a2,a3,a4,a5,a6,a7,x0,x1,x2,x3,x4,x5,x6,x8,p0,p1,p2,p3,p4,p5,p6⟩:=HN.out.all;obtain ⟨z0,z1,z2,z3,f0,f1,f2,f3⟩:=HN.out.g.td.rc4;have HD:=hid (HN.out.step (Below.refl _ W5).drew);obtain ⟨a0d,a1d,a2d,a3d,a4d,a5d,a6d,a7d,x0d,x1d,x2d,x3d,x4d,x5d,x6d,x8d,p0d,p1d,p2d,p3d,p4d,p5d,p6d⟩:=HD.out.all;obtain ⟨z0d,z1d,z2d,z3d,f0d,f1d,f2d,f3d⟩:=HD.out.g.td.rc4;have KS:=hid (fun (u:World)=>psec_any c a.exp u);rw [hs1,hs2] at KS;unfold cfV at KS
 go_upto_region 4 with fail
 go_region_law (go_simp; go_at_call 57; refine (KS.out _).mono ?_; rintro e w4 ⟨rfl,hb4⟩; replace HN:=hid (HD.out.step hb4); clear hb4)
 all_goals (
  have HD2:=HN.out.step (Below.refl _ _).drew;obtain ⟨w5,hrun5,S5,F5⟩:=HDEL.out _ HD2.g.sp;have HX:=hid HD2;have HN:=hid (HD2.turn F5 S5);clear HD2 S5 F5;obtain ⟨a0g,a1g,a2g,a3g,a4g,a5g,a6g,a7g,x0g,x1g,x2g,x3g,x4g,x5g,x6g,x8g,p0g,p1g,p2g,p3g,p4g,p5g,p6g⟩:=HX.out.all;obtain ⟨z0g,z1g,z2g,z3g,f0g,f1g,f2g,f3g⟩:=HX.out.g.td.rc4;have hh:=HH.out;clear a0 a1 a2 a3 a4 a5 a6 a7 x0 x1 x2 x3 x4 x5 x6 x8 p0 p1 p2 p3 p4 p5 p6 z0 z1 z2 z3 f0 f1 f2 f3
  go_upto_region 12 with fail
  go_region
  all_goals (
   obtain ⟨a0,a1,a2,a3,a4,a5,a6,a7,x0,x1,x2,x3,x4,x5,x6,x8,p0,p1,p2,p3,p4,p5,p6⟩:=HN.out.all;obtain ⟨z0,z1,z2,z3,f0,f1,f2,f3⟩:=HN.out.g.td.rc4;rw [hh] at a3;go_wp2_with fail
   refine (KD.out _ HN.out.g.fr).mono ?_
   rintro e w6 ⟨t2,n2,rfl,ho6,hn6,hb6⟩;have hw5:=HN.out.g.td.bl;have hpb:=HN.out.pv.bl;have HN:=hid (HN.out.step hb6);clear hb6 KD;clear a0 a1 a2 a3 a4 a5 a6 a7 x0 x1 x2 x3 x4 x5 x6 x8 p0 p1 p2 p3 p4 p5 p6 z0 z1 z2 z3 f0 f1 f2 f3;obtain ⟨xa,xk,e5⟩:=ho6.form;obtain ⟨ya,yk,e6⟩:=own_formP hn6;rw [show (strs a.doc.notes).length=a.doc.notes.length by simp [strs]] at e6;subst e5 e6;unfold docV;have HO:=hid (And.intro ho6 hn6);have HF:=hid (And.intro (own_slF ho6) (own_slF hn6));have HW5:=hid hw5;have hPB:=hid hpb;have hWL:=hid (show w.heap.size≤_ from Nat.le_trans (Nat.le_succ _) (Nat.le_of_lt hw5));clear ho6 hn6 hw5 hpb;obtain ⟨_,_,_,_,_,_,_,g0,g1,g2,g3,g4,g5,g6⟩:=(show RowIs _ pb 37 [_,_,_,_,_,_,_] from HN.out.pv).rp7;have KEEP:=hid (And.intro (HN.out.doc hB a.doc (.slice xa a.doc.tuples.length xk) (.slice ya a.doc.notes.length yk)) (And.intro (own_set3P HO.out.1 hPB.out (.string ⟨a.doc.entity.toArray⟩) (.slice xa a.doc.tuples.length xk) (.slice ya a.doc.notes.length yk)) (own_set3P HO.out.2 hPB.out (.string ⟨a.doc.entity.toArray⟩) (.slice xa a.doc.tuples.length xk) (.slice ya a.doc.notes.length yk))))
   go_upto_region 15 with fail
   clear g0 g1 g2 g3 g4 g5 g6;generalize World.setCell _ _ _=w7 at KEEP ⊢;have HN:=hid KEEP.out.1;have HO:=hid KEEP.out.2;clear KEEP;obtain ⟨a0,a1,a2,a3,a4,a5,a6,a7,x0,x1,x2,x3,x4,x5,x6,x8,p0,p1,p2,p3,p4,p5,p6⟩:=HN.out.all;obtain ⟨z0,z1,z2,z3,f0,f1,f2,f3⟩:=HN.out.g.td.rc4;rw [hh] at a3;go_wp2_with fail
   refine (KK.out _ _ _ HF.out HN.out.g.sp).mono ?_
   rintro e w9 ⟨rfl,hS6,hF6⟩;replace HN:=hid (HN.out.turn hF6 hS6);have HO:=hid (And.intro (hF6.ownU HO.out.1) (hF6.ownS HO.out.2));clear a0 a1 a2 a3 a4 a5 a6 a7 x0 x1 x2 x3 x4 x5 x6 x8 p0 p1 p2 p3 p4 p5 p6 z0 z1 z2 z3 f0 f1 f2 f3 hS6 hF6;obtain ⟨a0,a1,a2,a3,a4,a5,a6,a7,x0,x1,x2,x3,x4,x5,x6,x8,p0,p1,p2,p3,p4,p5,p6⟩:=HN.out.all;obtain ⟨z0,z1,z2,z3,f0,f1,f2,f3⟩:=HN.out.g.td.rc4;rw [hh] at a3
   go_upto_region 16 with fail
   have HT:=hid (HN.out.step (Below.refl _ _).drew);have HO:=hid (And.intro (HO.out.1.below (Below.refl _ _).drew) (HO.out.2.below (Below.refl _ _).drew));clear a0 a1 a2 a3 a4 a5 a6 a7 x0 x1 x2 x3 x4 x5 x6 x8 p0 p1 p2 p3 p4 p5 p6 z0 z1 z2 z3 f0 f1 f2 f3;obtain ⟨a0t,a1t,a2t,a3t,a4t,a5t,a6t,a7t,x0t,x1t,x2t,x3t,x4t,x5t,x6t,x8t,p0t,p1t,p2t,p3t,p4t,p5t,p6t⟩:=HT.out.all;obtain ⟨z0t,z1t,z2t,z3t,f0t,f1t,f2t,f3t⟩:=HT.out.g.td.rc4;rw [hh] at a3t
   go_region_law (go_simp; go_at_call 24; refine (K4.out _).mono ?_; rintro e w8 ⟨rfl,hb8⟩; have HN:=hid (HT.out.step hb8); have HO:=hid (And.intro (HO.out.1.below hb8) (HO.out.2.below hb8)); have KEEP:=hid (And.intro (HN.out.g.keep hB (.int .i64 200) (.int .i64 n) (.string ⟨a.tag.toArray⟩) (.bool true)) (And.intro (own_set4 HO.out.1 HW5.out (.int .i64 200) (.int .i64 n) (.string ⟨a.tag.toArray⟩) (.bool true)) (own_set4 HO.out.2 HW5.out (.int .i64 200) (.int .i64 n) (.string ⟨a.tag.toArray⟩) (.bool true)))); clear hb8 K4 a0t a1t a2t a3t a4t a5t a6t a7t x0t x1t x2t x3t x4t x5t x6t x8t p0t p1t p2t p3t p4t p5t p6t z0t z1t z2t z3t f0t f1t f2t f3t; obtain ⟨a0,a1,a2,a3,a4,a5,a6,a7,x0,x1,x2,x3,x4,x5,x6,x8,p0,p1,p2,p3,p4,p5,p6⟩:=HN.out.all; obtain ⟨z0,z1,z2,z3,f0,f1,f2,f3⟩:=HN.out.g.td.rc4; rw [hh] at a3)
   all_goals (
    go_wp2;generalize World.setCell _ _ _=wA at KEEP ⊢;obtain ⟨⟨⟨d0,d1,d2,d3,_,_,_,_⟩,hFA,hSA⟩,hO1,hO2⟩:=KEEP.out
    try simp only [Exit.inBlock,Exit.then]
    refine bodyPost_ret (v:=.agg #[.int .i64 200,.int .i64 n,.string ⟨a.tag.toArray⟩,.bool true]) (by simp [results,Tryz.results34,go_sem,d0,d1,d2,d3]; try rfl) rfl ?_
    exact ⟨rfl,_,_,hSA,hFA,own_lower hO1 hWL.out,own_lower hO2 hWL.out⟩)))
end
def clrC (c:Cf):Cf:=⟨[],c.calls,c.pubs,c.subs,c.least,c.most,c.usual⟩
theorem secC_clr (c:Cf) (a:Int):secC (clrC c) a=secC c a:=rfl
structure TabP (B bt:Nat) (w:World) (s:Sto):Prop where
 right:rightC s.c=true
 ok:StOK s
 has:∃ mn ma be mw cs r,s.l=pbsL cs∧(∀ x ∈ cs,SmallPb x)∧(∀ x ∈ cs,OwnU w B x.ts x.p.doc.tuples∧Own w B 9 x.ns (strs x.p.doc.notes))∧Sp2 B bt mn ma be mw w (clrC s.c) s.last cs cs r∧EndsP cs r
section
variable {B bt : Nat} {w w' : World} {s : Sto} {a : Pa} {ts ns : Value} {now : Int}
theorem TabP.below (h:TabP B bt w s) (hb:Below w.heap.size w w'):TabP B bt w' s:=by
 obtain ⟨mn,ma,be,mw,cs,r,h1,h2,h3,h4,h5⟩:=h.has;exact ⟨h.right,h.ok,mn,ma,be,mw,cs,r,h1,h2,fun x hx=>⟨(h3 x hx).1.below hb,(h3 x hx).2.below hb⟩,h4.below hb,h5⟩
theorem TabP.lo (h:TabP B bt w s):B≤w.heap.size:=by
 obtain ⟨mn,ma,be,mw,cs,r,h1,h2,h3,h4,h5⟩:=h.has;exact h4.lo
theorem pbsL_get (cs:List PbC) {k:Nat} (hk:k < cs.length):(pbsL cs)[k]'(by simpa [pbsL] using hk)=cs[k].p:=by simp [pbsL]
theorem nums_pw {cs:List PbC} (h:(pbsL cs).Pairwise fun p q=>p.num < q.num):cs.Pairwise fun a b=>a.p.num < b.p.num:=by
 unfold pbsL at h;exact (List.pairwise_map (f:=PbC.p) (R:=fun p q:Pb=>p.num < q.num)).1 h
theorem tags_pw {s:Sto} (h:StOK s) {cs:List PbC} (he:s.l=pbsL cs):cs.Pairwise fun a b=>a.p.tag ≠ b.p.tag:=by
 rw [List.pairwise_iff_getElem];intro i j hi hj hij e
 have:=h.tags i j (by rw [he,pbsL_len]; exact hi) (by rw [he,pbsL_len]; exact hj) (by simp only [he]; rw [pbsL_get cs hi,pbsL_get cs hj]; exact e)
 omega
theorem ends_len {cs:List PbC} {r:List Tm} (h:EndsP cs r):r.length=cs.length:=by
 have:=List.Perm.length_eq h
 simpa using this
theorem few_pubs (hr:rightC s.c=true) (h:StOK s):s.l.length≤200:=by
 have:=h.len
 simp only [rightC,decide_eq_true_eq] at hr;omega
theorem none_nil {s:Sto} {a:Pa} (hm:a.mt=[]):noneP s a=false:=by
 unfold noneP;rw [hm]
 rfl
structure SmA (a:Pa):Prop where
 who:a.who.length≤281474976710656
 mt:a.mt.length≤281474976710656
 tag:a.tag.length≤281474976710656
 doc:SmallD 140737488355328 a.doc
 tl:a.doc.tuples.length≤1000000
 nl:a.doc.notes.length≤1000000
def Did (B bt:Nat) (w:World) (s:Sto) (now:Int) (a:Pa):Ending → World → Prop:=fun e w'=>e=.returned (tdV (doS s now a).2.1)∧TabP B bt w' (doS s now a).1∧FrP B w w'
theorem did_same {e:Ending} {td:Td} (h:TabP B bt w s) (hd:doS s now a=(s,td,0)) (he:e=.returned (tdV td)) (hb:Below w.heap.size w w'):Did B bt w s now a e w':=by
 unfold Did;rw [hd];exact ⟨he,h.below hb,FrP.of hb h.lo⟩
theorem pbegin_did (h:TabP B bt w s) (hs:SmA a) (hb:badA s now a=false) (hm:a.mt=[]) (hl9:s.last≤1000000000) (hts:a.has=true → ∀ u,Below B w u → TusAt u ts a.doc.tuples∧StrsAt u ns a.doc.notes) :
  Calls Tryz.prog 33 #[.pointer (some ⟨bt,0,none⟩),.int .i64 now,askV a ts ns] w (Did B bt w s now a):=by
 obtain ⟨mn,ma,be,mw,cs,r,e1,h2,h3,h4,h5⟩:=h.has;obtain ⟨b0,b1,b2,b3,b4⟩:=badA_no hb;have hn:=none_nil (s:=s) hm;have hbt:¬ badA s now a=true:=by rw [hb]; simp
 have hnt:¬ noneP s a=true:=by rw [hn]; simp
 have hrng:=secC_rng h.right a.exp
 cases h6:(secC s.c a.exp).2 with
 | false =>
  have hd:doS s now a=(s,⟨423,s.c.least,[],false⟩,0):=by unfold doS; rw [if_neg hbt,if_neg hnt,if_pos h6]
  exact (pbeg_423 h4 (a:=a) (ts:=ts) (ns:=ns) (now:=now) rfl (by rw [secC_clr]; exact h6)).mono fun e w' ⟨he,hw⟩=>did_same h hd he hw
 | true =>
  have h6':¬ (secC s.c a.exp).2=false:=by rw [h6]; simp
  cases hh:a.has with
  | false =>
   have hd:doS s now a=(s,⟨400,0,[],false⟩,0):=by unfold doS; rw [if_neg hbt,if_neg hnt,if_neg h6',if_pos hm,if_pos (.inl hh)]
   exact (pbeg_400 h4 (a:=a) (ts:=ts) (ns:=ns) (now:=now) rfl (by rw [secC_clr]; exact h6) hh).mono fun e w' ⟨he,hw⟩=>did_same h hd he hw
  | true =>
   by_cases h7:(secC s.c a.exp).1=0
   ·have hd:doS s now a=(s,⟨400,0,[],false⟩,0):=by unfold doS; rw [if_neg hbt,if_neg hnt,if_neg h6',if_pos hm,if_pos (.inr h7)]
    exact (pbeg_400b h4 (a:=a) (ts:=ts) (ns:=ns) (now:=now) rfl (by rw [secC_clr]; exact h6) hh (by rw [secC_clr,h7]; rfl)).mono fun e w' ⟨he,hw⟩=>did_same h hd he hw
   ·have h8:¬ (a.has=false∨(secC s.c a.exp).1=0):=by rw [hh]; simp [h7]
    have h7b:((secC s.c a.exp).1==0)=false:=by simpa using h7
    by_cases h9:s.c.pubs≤(s.l.length:Int)
    ·have hd:doS s now a=(s,⟨503,0,[],false⟩,0):=by unfold doS; rw [if_neg hbt,if_neg hnt,if_neg h6',if_pos hm,if_neg h8,if_pos h9]
     have h9':(clrC s.c).pubs≤(cs.length:Int):=by rw [← pbsL_len cs,← e1]; exact h9
     exact (pbeg_503 h4 (a:=a) (ts:=ts) (ns:=ns) (now:=now) rfl (by rw [secC_clr]; exact h6) hh (by rw [secC_clr]; exact h7b) h9').mono fun e w' ⟨he,hw⟩=>did_same h hd he hw
    ·have hd:doS s now a=(⟨s.c,s.last+1,s.l++[newP s now (secC s.c a.exp).1 a]⟩,⟨200,(secC s.c a.exp).1,a.tag,true⟩,0):=by unfold doS; rw [if_neg hbt,if_neg hnt,if_neg h6',if_pos hm,if_neg h8,if_neg h9]
     have h9':¬ (clrC s.c).pubs≤(cs.length:Int):=by rw [← pbsL_len cs,← e1]; exact h9
     have hf:=few_pubs h.right h.ok;have hcl:cs.length≤200:=by rw [← pbsL_len cs,← e1]; exact hf
     have hrl:r.length < 4096:=by rw [ends_len h5]; omega
     have hmem:∀ y ∈ cs,y.p ∈ s.l:=fun y hy=>by rw [e1]; exact List.mem_map_of_mem hy
     have hno:∀ y ∈ cs,y.p.tag ≠ a.tag:=fun y hy=>place_no b3 _ (hmem y hy);have hnx:∀ y ∈ cs,y.p.num ≠ s.last+1:=fun y hy=>by have:=(h.ok.num1 _ (hmem y hy)).2; omega
     have hl0:=h.ok.last;have hok:=doS_ok h.right h.ok now a;refine (pbeg_200 h4 (a:=a) (ts:=ts) (ns:=ns) (now:=now) (n:=(secC s.c a.exp).1) (by rw [secC_clr]) (by rw [secC_clr]; exact h6) hh h7b h9' hl0 hl9 hs.tag hs.who hno hnx hrng.1 hrng.2 b0 b1 hrl (by omega) hs.doc hs.tl hs.nl (hts hh)).mono ?_
     rintro e w' ⟨he,ts2,ns2,hS,hF,hO,hN⟩;unfold Did;rw [hd] at hok ⊢;have hwf:(Lit.int .i64 (s.last+1)).wf=true:=by simp [Lit.wf,IntKind.min,IntKind.max,IntKind.signed,IntKind.bits]; omega
     refine ⟨he,⟨h.right,hok,mn,ma,be,mw,_,_,?_,?_,?_,hS,ends_newP h5 (x:=⟨⟨s.last+1,a.who,a.tag,now+10 * (secC s.c a.exp).1,a.doc⟩,ts2,ns2⟩) hnx⟩,hF⟩
     ·show s.l++_=_
      rw [e1]
      simp [pbsL,newP]
     ·intro x hx
      rcases List.mem_append.1 hx with hx | hx
      ·exact h2 x hx
      ·rw [List.mem_singleton] at hx;subst hx;exact ⟨hs.who,hs.tag,hs.doc,hs.tl,hs.nl,hwf,own_slF hO,own_slF hN⟩
     ·intro x hx
      rcases List.mem_append.1 hx with hx | hx
      ·exact ⟨hF.ownU (h3 x hx).1,hF.ownS (h3 x hx).2⟩
      ·rw [List.mem_singleton] at hx;subst hx;exact ⟨own_lower hO h.lo,own_lower hN h.lo⟩
end
end Go.Proofs.YtbmjodlbkgblpaaGreatDoor
namespace Go.Proofs.YtbmjodlbkgblpaaGreatDoor
open Go.RowKit Sc
def plainC (k:Int):Cf:=⟨[],1,k,1,60,3600,600⟩
theorem plain_right {k:Int} (h1:1≤k) (h2:k≤200):rightC (plainC k)=true:=by
 unfold rightC;rw [decide_eq_true_eq];exact ⟨show (1:Int)≤1 by decide,show (1:Int)≤200 by decide,h1,h2,show (1:Int)≤1 by decide,show (1:Int)≤200 by decide,show (1:Int)≤60 by decide,show (60:Int)≤600 by decide,show (600:Int)≤3600 by decide,show (3600:Int)≤2147483647 by decide⟩
theorem place_neg {l:List Pb} {tag:List UInt8} (h:∀ p ∈ l,p.tag ≠ tag):placeP l tag < 0:=by
 rcases idx_two l tag with ⟨_,h2,_⟩ | ⟨k,hk,_,_,h3,_⟩
 ·omega
 ·exact absurd h3 (h _ (List.getElem_mem _))
theorem none_yes {s:Sto} {a:Pa} (hm:a.mt ≠ []) (h:∀ p ∈ s.l,p.tag ≠ a.mt):noneP s a=true:=by
 unfold noneP;rw [decide_eq_true (place_neg h)]
 cases hh:a.mt with
 | nil=>exact absurd hh hm
 | cons=>rfl
theorem none_other {s:Sto} {a:Pa} (hm:a.mt ≠ []) {k:Nat} (hk:k < s.l.length) (hi:pidxP s.l a.mt=k) (hw:s.l[k].who ≠ a.who):noneP s a=true:=by
 unfold noneP;rw [hi,List.getElem?_eq_getElem hk]
 have:decide ((some s.l[k]).map Pb.who=some a.who)=false:=decide_eq_false (by simpa using hw)
 rw [this]
 cases hh:a.mt with
 | nil=>exact absurd hh hm
 | cons=>simp
theorem none_no {s:Sto} {a:Pa} {k:Nat} (hk:k < s.l.length) (hi:pidxP s.l a.mt=k) (hp:placeP s.l a.mt=(k:Int)) (hw:s.l[k].who=a.who):noneP s a=false:=by
 unfold noneP;rw [hi,hp,List.getElem?_eq_getElem hk];have h1:decide ((some s.l[k]).map Pb.who=some a.who)=true:=decide_eq_true (by simpa using hw);rw [h1,decide_eq_false (by omega)]
 simp
theorem doS_412 {s:Sto} {now:Int} {a:Pa} (hb:badA s now a=false) (hn:noneP s a=true):doS s now a=(s,⟨412,0,[],false⟩,0):=by
 unfold doS;rw [if_neg (by rw [hb]; simp),if_pos hn]
theorem doS_end {s:Sto} {now:Int} {a:Pa} {k:Nat} (hb:badA s now a=false) (hn:noneP s a=false) (hl:(secC s.c a.exp).2=true) (hm:a.mt ≠ []) (hh:a.has=false) (h0:(secC s.c a.exp).1=0) (hi:pidxP s.l a.mt=k) :
  doS s now a=(⟨s.c,s.last,s.l.eraseIdx k⟩,⟨200,0,a.tag,true⟩,0):=by
 unfold doS;rw [if_neg (by rw [hb]; simp),if_neg (by rw [hn]; simp),if_neg (by rw [hl]; simp),if_neg hm,if_neg (by rw [hh]; simp),if_pos h0,hi]
end Go.Proofs.YtbmjodlbkgblpaaGreatDoor
namespace Go.Proofs.YtbmjodlbkgblpaaGreatDoor
open Go.RowKit Go.Maps Go.WideMaps Sc
section
variable {B bt : Nat} {w w' : World} {s : Sto} {a : Pa} {ts ns : Value} {now : Int}
theorem erase_pbs {cs:List PbC} {k:Nat} {n:Int} (h:cs.filter (notN n)=cs.take k++cs.drop (k+1)):pbsL (cs.filter (notN n))=(pbsL cs).eraseIdx k:=by
 rw [h];unfold pbsL;rw [List.eraseIdx_eq_take_drop_succ,List.map_append,List.map_take,List.map_drop]
theorem modify_pbs {cs:List PbC} {k:Nat} (hk:k < cs.length) {f:Pb → Pb} {x:PbC} (hx:x.p=f cs[k].p):pbsL (cs.set k x)=(pbsL cs).modify k f:=by
 unfold pbsL;rw [List.map_set,hx]
 apply List.ext_getElem (by simp)
 intro i h1 h2;rw [List.getElem_set,List.getElem_modify];by_cases hi:k=i
 ·subst hi; simp
 ·simp [hi]
set_option maxHeartbeats 1000000 in
theorem pchange_did (h:TabP B bt w s) (hs:SmA a) (hb:badA s now a=false) (hm:a.mt ≠ []) (hts:a.has=true → ∀ u,Below B w u → TusAt u ts a.doc.tuples∧StrsAt u ns a.doc.notes) :
  Calls Tryz.prog 34 #[.pointer (some ⟨bt,0,none⟩),.int .i64 now,askV a ts ns] w (Did B bt w s now a):=by
 obtain ⟨mn,ma,be,mw,cs,r,e1,h2,h3,h4,h5⟩:=h.has;obtain ⟨b0,b1,b2,b3,b4⟩:=badA_no hb;have hbt:¬ badA s now a=true:=by rw [hb]; simp
 have hrng:=secC_rng h.right a.exp;have hpw:cs.Pairwise fun a b=>a.p.num < b.p.num:=nums_pw (by rw [← e1]; exact h.ok.nums);have htp:=tags_pw h.ok e1;have hmem:∀ y ∈ cs,y.p ∈ s.l:=fun y hy=>by rw [e1]; exact List.mem_map_of_mem hy
 have hcl:cs.length≤200:=by rw [← pbsL_len cs,← e1]; exact few_pubs h.right h.ok
 have hsame:∀ {e w'} {td:Td},doS s now a=(s,td,0) → e=.returned (tdV td) → (Sp2 B bt mn ma be mw w' (clrC s.c) s.last cs cs r∧FrP B w w') → Did B bt w s now a e w':=by
  rintro e w' td hd he ⟨hS,hF⟩;unfold Did;rw [hd];exact ⟨he,⟨h.right,h.ok,mn,ma,be,mw,cs,r,e1,h2,fun x hx=>⟨hF.ownU (h3 x hx).1,hF.ownS (h3 x hx).2⟩,hS,h5⟩,hF⟩
 rcases idx_two s.l a.mt with ⟨i1,i2,i3⟩ | ⟨k,hk,i1,i2,i3,_⟩
 ·have hn:noneP s a=true:=none_yes hm i3;have hd:=doS_412 hb hn;exact (pchg_412 h4 (x:=zeroP) (a:=a) (ts:=ts) (ns:=ns) (now:=now) zeroP_f (fun u hu=>pfind_no hu hs.mt (fun x hx=>i3 _ (hmem x hx)) (fun x hx=>by have:=(h.ok.num1 _ (hmem x hx)).1; omega) a.who) rfl).mono fun e w' ⟨he,hw⟩=>hsame hd he hw
 ·have hkc:k < cs.length:=by rw [← pbsL_len cs,← e1]; exact hk
  have hck:cs[k].p=s.l[k]:=by simp only [e1]; rw [pbsL_get cs hkc]
  have hxm:cs[k] ∈ cs:=List.getElem_mem hkc;have hsm:=h2 _ hxm;have htg:cs[k].p.tag=a.mt:=by rw [hck]; exact i3
  have hfind:∀ u,Sp2 B bt mn ma be mw u (clrC s.c) s.last cs cs r → Calls Tryz.prog 61 #[.pointer (some ⟨bt,0,none⟩),.string ⟨a.who.toArray⟩,.string ⟨a.mt.toArray⟩] u fun e u'=>e=.returned (.tuple #[pbV cs[k],.bool (cs[k].p.who==a.who)])∧Below u.heap.size u u':=fun u hu=>by
   rw [← htg];exact pfind_yes hu hxm hxm hsm a.who
  by_cases hw:s.l[k].who=a.who
  case neg =>
   have hd:=doS_412 hb (none_other hm hk i1 hw);exact (pchg_412 h4 (a:=a) (ts:=ts) (ns:=ns) (now:=now) hsm.f hfind (by rw [hck]; simpa using hw)).mono fun e w' ⟨he,hw⟩=>hsame hd he hw
  case pos =>
   have hok:(cs[k].p.who==a.who)=true:=by rw [hck]; simpa using hw
   have hn:=none_no hk i1 i2 hw;have hnt:¬ noneP s a=true:=by rw [hn]; simp
   cases h6:(secC s.c a.exp).2 with
   | false =>
    have hd:doS s now a=(s,⟨423,s.c.least,[],false⟩,0):=by unfold doS; rw [if_neg hbt,if_neg hnt,if_pos h6]
    exact (pchg_423 h4 (a:=a) (ts:=ts) (ns:=ns) (now:=now) hsm.f hfind hok rfl (by rw [secC_clr]; exact h6)).mono fun e w' ⟨he,hw⟩=>hsame hd he hw
   | true =>
    have h6':¬ (secC s.c a.exp).2=false:=by rw [h6]; simp
    have hsc:(secC (clrC s.c) a.exp).2=true:=by rw [secC_clr]; exact h6
    have hok1:=doS_ok h.right h.ok now a;by_cases h7:(secC s.c a.exp).1=0
    ·have hn0:((secC s.c a.exp).1==0)=true:=by rw [h7]; rfl
     cases hh:a.has with
     | true =>
      have hd:doS s now a=(s,⟨400,0,[],false⟩,0):=by unfold doS; rw [if_neg hbt,if_neg hnt,if_neg h6',if_neg hm,if_pos ⟨hh,h7⟩]
      exact (pchg_400 h4 (a:=a) (ts:=ts) (ns:=ns) (now:=now) hsm.f hfind hok (n:=(secC s.c a.exp).1) (by rw [secC_clr]) hsc hn0 hh).mono fun e w' ⟨he,hw⟩=>hsame hd he hw
     | false =>
      have hd:=doS_end hb hn h6 hm hh h7 i1;refine (pchg_end h4 (a:=a) (ts:=ts) (ns:=ns) (now:=now) hsm.f hfind hok (n:=(secC s.c a.exp).1) (by rw [secC_clr]) hsc hn0 hh hs.tag (fun u hu=>pend_any hu h2 hpw htp hkc)).mono ?_
      rintro e w' ⟨he,hS,hF⟩;unfold Did;rw [hd] at hok1 ⊢;have hwo:=(withoutP hpw hkc).2;refine ⟨he,⟨h.right,hok1,mn,ma,be,mw,_,_,?_,fun x hx=>h2 x (List.mem_filter.1 hx).1,fun x hx=>⟨hF.ownU (h3 x (List.mem_filter.1 hx).1).1,hF.ownS (h3 x (List.mem_filter.1 hx).1).2⟩,hS,ends_stopP h5 _⟩,hF⟩
      show s.l.eraseIdx k=_
      rw [e1];exact (erase_pbs hwo).symm
    ·have hn0:((secC s.c a.exp).1==0)=false:=by simpa using h7
     have hwo:=(withoutP hpw hkc).2;have hrl:r.length < 4096:=by rw [ends_len h5]; omega
     have hn1:0≤cs[k].p.num:=by have:=(h.ok.num1 _ (hmem _ hxm)).1; omega
     have hdel:∀ u,Sp2 B bt mn ma be mw u (clrC s.c) s.last cs cs r → ∃ u',(Builtin.delete_ #[53,9] 0 #[.map (some mn),.string ⟨cs[k].p.tag.toArray⟩]).run Tryz.prog u=.ok (.tuple #[]) u'∧Sp2 B bt mn ma be mw u' (clrC s.c) s.last (cs.filter (notN cs[k].p.num)) cs r∧FrP B u u':=fun u hu=>hu.dropN hpw htp hkc hsm.tag 0;have hno:∀ y ∈ cs.filter (notN cs[k].p.num),y.p.tag ≠ a.tag:=fun y hy=>place_no b3 _ (hmem y (List.mem_filter.1 hy).1)
     have hd:doS s now a=(⟨s.c,s.last,s.l.modify k (fun p=>goP p now (secC s.c a.exp).1 a)⟩,⟨200,(secC s.c a.exp).1,a.tag,a.has⟩,0):=by
      unfold doS;rw [if_neg hbt,if_neg hnt,if_neg h6',if_neg hm,if_neg (fun x=>h7 x.2),if_neg h7,i1]
     have hfin:∀ {e w'} (t2 n2:Value) (d:Dc),d=(if a.has=true then a.doc else cs[k].p.doc) → SmallPb ⟨⟨cs[k].p.num,cs[k].p.who,a.tag,now+10 * (secC s.c a.exp).1,d⟩,t2,n2⟩ → OwnU w' B t2 d.tuples∧Own w' B 9 n2 (strs d.notes) → e=.returned (tdV ⟨200,(secC s.c a.exp).1,a.tag,a.has⟩) → Sp2 B bt mn ma be mw w' (clrC s.c) s.last (cs.set k ⟨⟨cs[k].p.num,cs[k].p.who,a.tag,now+10 * (secC s.c a.exp).1,d⟩,t2,n2⟩) (cs.set k ⟨⟨cs[k].p.num,cs[k].p.who,a.tag,now+10 * (secC s.c a.exp).1,d⟩,t2,n2⟩) (setT r cs[k].p.num (now+10 * (secC s.c a.exp).1)) → FrP B w w' → Did B bt w s now a e w':=by
      rintro e w' t2 n2 d hdd hsx hox he hS hF;unfold Did;rw [hd] at hok1 ⊢;refine ⟨he,⟨h.right,hok1,mn,ma,be,mw,_,_,?_,?_,?_,hS,ends_putP h5 hkc hwo rfl⟩,hF⟩
      ·show s.l.modify k _=_
       rw [e1];exact (modify_pbs hkc (by rw [hdd]; rfl)).symm
      ·intro x hx
       rcases List.mem_or_eq_of_mem_set hx with hx | rfl
       ·exact h2 x hx
       ·exact hsx
      ·intro x hx
       rcases List.mem_or_eq_of_mem_set hx with hx | rfl
       ·exact ⟨hF.ownU (h3 x hx).1,hF.ownS (h3 x hx).2⟩
       ·exact hox
     have hK0:∀ u,Sp2 B bt mn ma be mw u (clrC s.c) s.last (cs.filter (notN cs[k].p.num)) cs r → Calls Tryz.prog 60 #[.pointer (some ⟨bt,0,none⟩),.int .i64 now,.int .i64 (secC s.c a.exp).1,.string ⟨a.tag.toArray⟩,pbV cs[k]] u fun e u'=>e=.returned (.tuple #[])∧(Sp2 B bt mn ma be mw u' (clrC s.c) s.last (cs.set k (keepC cs[k] a.tag now (secC s.c a.exp).1)) (cs.set k (keepC cs[k] a.tag now (secC s.c a.exp).1)) (setT r cs[k].p.num (now+10 * (secC s.c a.exp).1))∧FrP B u u'):=fun u hu=>pkeep_put hu hkc hpw rfl (x:=cs[k]) (tag:=a.tag) hs.tag hsm.num hn1 hsm.f rfl hno (by omega) hrng.1 hrng.2 b0 b1 hrl;have hK1:∀ u t2 n2,SlF t2∧SlF n2 → Sp2 B bt mn ma be mw u (clrC s.c) s.last (cs.filter (notN cs[k].p.num)) cs r → Calls Tryz.prog 60 #[.pointer (some ⟨bt,0,none⟩),.int .i64 now,.int .i64 (secC s.c a.exp).1,.string ⟨a.tag.toArray⟩,pbV ⟨⟨cs[k].p.num,cs[k].p.who,cs[k].p.tag,cs[k].p.til,a.doc⟩,t2,n2⟩] u fun e u'=>e=.returned (.tuple #[])∧(Sp2 B bt mn ma be mw u' (clrC s.c) s.last (cs.set k (keepC ⟨⟨cs[k].p.num,cs[k].p.who,cs[k].p.tag,cs[k].p.til,a.doc⟩,t2,n2⟩ a.tag now (secC s.c a.exp).1)) (cs.set k (keepC ⟨⟨cs[k].p.num,cs[k].p.who,cs[k].p.tag,cs[k].p.til,a.doc⟩,t2,n2⟩ a.tag now (secC s.c a.exp).1)) (setT r cs[k].p.num (now+10 * (secC s.c a.exp).1))∧FrP B u u'):=fun u t2 n2 hf hu=>pkeep_put hu hkc hpw rfl (x:=⟨⟨cs[k].p.num,cs[k].p.who,cs[k].p.tag,cs[k].p.til,a.doc⟩,t2,n2⟩) (tag:=a.tag) hs.tag hsm.num hn1 hf rfl hno (by omega) hrng.1 hrng.2 b0 b1 hrl
     cases hh:a.has with
     | false =>
      refine (pchg_on0 h4 (x:=cs[k]) (ok:=(cs[k].p.who==a.who)) (a:=a) (ts:=ts) (ns:=ns) (now:=now) hsm.f hfind hok (n:=(secC s.c a.exp).1) (by rw [secC_clr]) hsc hn0 hh hs.tag hdel hK0).mono ?_
      rintro e w' ⟨he,hS,hF⟩;exact hfin cs[k].ts cs[k].ns cs[k].p.doc (by rw [hh]; rfl) ⟨hsm.who,hs.tag,hsm.doc,hsm.tl,hsm.nl,hsm.num,hsm.f⟩ ⟨hF.ownU (h3 _ hxm).1,hF.ownS (h3 _ hxm).2⟩ (by rw [hh]; exact he) hS hF
     | true =>
      refine (pchg_on1 h4 (x:=cs[k]) (ok:=(cs[k].p.who==a.who)) (a:=a) (ts:=ts) (ns:=ns) (now:=now) hsm.f hfind hok (n:=(secC s.c a.exp).1) (by rw [secC_clr]) hsc hn0 hh hs.tag hdel hK1 hs.doc hs.tl hs.nl (hts hh)).mono ?_
      rintro e w' ⟨he,t2,n2,hS,hF,hO,hN⟩;exact hfin t2 n2 a.doc (by rw [hh]; rfl) ⟨hsm.who,hs.tag,hs.doc,hs.tl,hs.nl,hsm.num,own_slF hO,own_slF hN⟩ ⟨own_lower hO h.lo,own_lower hN h.lo⟩ (by rw [hh]; exact he) hS hF
end
end Go.Proofs.YtbmjodlbkgblpaaGreatDoor
namespace Go.Proofs.YtbmjodlbkgblpaaGreatDoor
open Go.RowKit Sc
def blanksX (l:List UInt8):Prop:=∀ b ∈ l,xblk b=true
theorem drop_blanks {l:List UInt8} (h:blanksX l):l.dropWhile xblk=[]:=by
 induction l with
 | nil=>rfl
 | cons x l ih=>rw [List.dropWhile_cons,h x (by simp),if_pos rfl]; exact ih (fun b hb=>h b (by simp [hb]))
theorem attrs_none:attrsOk []=true:=rfl
theorem infoSet:(Tryz.prog.info? 207).map (fun i=>(i.zero,i.size))=some (some (.agg (Array.replicate 256 (.bool false))),256):=by kernel_rfl
theorem underSet:Tryz.prog.underlying 207=some (.array 256 4):=by kernel_rfl
theorem wp_load_new {P:Program} {w:World} {ops:Array Oper} {rest:List Oper} {o:Oper} {a:Act} {Q:Exit → Act → World → Prop} (hgd:o.guard=none) (p:Operand) (t:TypeId) (ho:o.op=Op.load t p)
  (c:Array Value) (n:Nat) (e:TypeId) (hu:P.underlying t=some (.array n e)) (hi:(P.info? t).map (·.size)=some c.size) (hp:a.eval p=.pointer (some ⟨w.heap.size,0,none⟩))
  (h:wpList P ops Q rest (a.put o.dst (.agg c)) (w.alloc (.cells c t))):wpList P ops Q (o :: rest) a (w.alloc (.cells c t)):=by
 refine wpList_plain hgd fun K hK=>?_
 have hr:=run_loadAt_new (P:=P) w t c n e hu hi;unfold Oper.wp execOp;simp only [ho,hp,Sem.run_bind,Sem.run_pure,Result.andThen_ok,hr];exact hK _ _ h
theorem wp_store_new {P:Program} {w:World} {ops:Array Oper} {rest:List Oper} {o:Oper} {a:Act} {Q:Exit → Act → World → Prop} (hgd:o.guard=none) (p x:Operand) (t:TypeId) (ho:o.op=Op.store t p x) (hd:o.dst=none)
  (c c':Array Value) (hi:(P.info? t).map (·.size)=some c'.size) (hcc:c.size=c'.size) (h1:c'.all (·.oneCell')=true) (g:Nat) (hg:w.heap.size=g) (hp:a.eval p=.pointer (some ⟨g,0,none⟩)) (hx:a.eval x=.agg c')
  (h:wpList P ops Q rest a (w.alloc (.cells c' t))):wpList P ops Q (o :: rest) a (w.alloc (.cells c t)):=by
 refine wpList_plain hgd fun K hK=>?_
 have hr:=run_storeAt_new (P:=P) w t c c' hi hcc h1;rw [hg] at hr;unfold Oper.wp execOp;simp only [ho,hp,hx,Sem.run_bind,Sem.run_pure,Result.andThen_ok,hr];exact hK _ _ (by rw [hd]; exact h)
set_option maxHeartbeats 1000000 in
set_option maxRecDepth 100000 in
theorem makeSet_any (chars:ByteArray) (w:World) (hs:chars.size < 4294967281) (hascii:∀ (j:Nat) b,chars.data.toList[j]? = some b → b.toNat < 128) :
  Calls Tryz.prog 166 #[.string chars] w fun e w'=>e=.returned (.tuple #[.agg (Lib.setCells chars.data.toList),.bool true])∧w'=w.alloc (.cells (Lib.setCells chars.data.toList) 207):=by
 have HA:=hid hascii;clear hascii;have hzv:=(zero_of_info infoSet).1
 go_enter Tryz.func166,Tryz.ntmps166
 go_wp2;rw [← Lib.setCells_nil]
 go_loopg [4] chars.size (fun g s4 wx=>∃ i:Nat,i+g=chars.size∧s4=.int .i64 i∧wx=w.alloc (.cells (Lib.setCells (chars.data.toList.take i)) 207))
 case atStart=>exact ⟨0,by omega,rfl,rfl⟩
 case round =>
  obtain ⟨i,hig,rfl,rfl⟩:=hrel
  cases gk with
  | zero =>
   obtain rfl:i=chars.size:=by omega
   have hiz:¬ ((chars.size:Int) < (chars.size:Int)):=by omega
   rw [show chars.data.toList.take chars.size=chars.data.toList from take_all chars chars.size (Nat.le_refl _)];have hi138:=(zero_of_info infoSet).2;have hsz:=Lib.setCells_size chars.data.toList;have hi2:=hid (show (Tryz.prog.info? 207).map (·.size)=some (Lib.setCells chars.data.toList).size by rw [hsz]; exact hi138);have hld:=run_loadVar_new (P:=Tryz.prog) w 207 (Lib.setCells chars.data.toList) 256 4 underSet (by rw [hsz]; exact hi138);clear hig;have HLD:=hid hld;clear hld hi138;go_wp2_with (first | (refine wp_load_new rfl (.tmp 2) 207 rfl (Lib.setCells chars.data.toList) 256 4 underSet hi2.out rfl ?_) | (refine wp_store_new rfl (.tmp 2) (.tmp 20) 207 rfl rfl (Lib.setCells chars.data.toList) (Lib.setCells chars.data.toList) hi2.out rfl (Lib.setCells_one _) _ rfl rfl rfl ?_))
   (try simp only [Exit.inBlock,Exit.then])
   refine bodyPost_ret (v:=.tuple #[.agg (Lib.setCells chars.data.toList),.bool true]) ?_ rfl ⟨rfl,rfl⟩
   rw [results_cell_tmp rfl]
   simp [asAddr,Result.andThen,HLD.out]
  | succ g =>
   have hi:i < chars.size:=by omega
   have hiz:(i:Int) < (chars.size:Int):=by omega
   obtain ⟨x,hx⟩:∃ x:UInt8,chars[i]'hi=x:=⟨_,rfl⟩
   have hxl:chars.data.toList[i]? = some x:=by rw [← hx]; exact getL chars i hi
   have hx128:¬ ((128:Int)≤(x.toNat:Int)):=by have:=HA.out i x hxl; omega
   have hx256:(x.toNat:Int) < 256:=by have:=HA.out i x hxl; omega
   have hcell:=Lib.setCells_at (chars.data.toList.take i) x;have Hx:=hid hxl;clear hxl;go_wp2
   go_roundg g
   case measure=>omega
   case rel=>exact ⟨i+1,by omega,by first | rfl | simp,by rw [List.take_add_one,Hx.out]; simp only [Option.toList]; rw [Lib.setCells_snoc]⟩
set_option maxHeartbeats 400000 in
theorem setHas_any (b:Nat) (x:UInt8) (v:Bool) (w:World) (hc:w.cell? ⟨b,x.toNat,none⟩=some (.bool v)) :
  Calls Tryz.prog 177 #[.pointer (some ⟨b,0,none⟩),.int .u8 x.toNat] w fun e w'=>e=.returned (.bool v)∧w'=w:=by
 have hx256:(x.toNat:Int) < 256:=by have:=UInt8.toNat_lt x; omega
 go_enter Tryz.func177,Tryz.ntmps177
 go_wp2;go_ret;exact ⟨rfl,rfl⟩
def xbL:List UInt8:=[32,9,13,10]
theorem xbL_is (b:UInt8):xbL.contains b=xblk b:=by
 have:∀ b:UInt8,xbL.contains b=xblk b:=by apply byte_all; decide +kernel
 exact this b
theorem xb_ascii:∀ (j:Nat) (b:UInt8),(⟨#[32,9,13,10]⟩:ByteArray).data.toList[j]? = some b → b.toNat < 128:=by
 intro j b h
 have:b ∈ [32,9,13,10]:=List.mem_of_getElem? h
 simp at this
 rcases this with rfl | rfl | rfl | rfl <;> decide
theorem xbehind_drop {l:List UInt8} {b:UInt8} (h:xblk b=true):xbehind (l++[b])=xbehind l:=by
 unfold xbehind; simp [h]
theorem xbehind_stop {l:List UInt8} {b:UInt8} (h:xblk b=false):xbehind (l++[b])=l++[b]:=by
 unfold xbehind; simp [h]
theorem xbehind_len (l:List UInt8):(xbehind l).length≤l.length:=by
 unfold xbehind
 have:=(List.dropWhile_suffix (l:=l.reverse) xblk).length_le
 simpa using this
theorem xlast_split (t:ByteArray) (h:0 < t.size):t.data.toList=(t.extract 0 (t.size - 1)).data.toList++[t[t.size - 1]]:=by
 have:=take_snoc t (t.size - 1) (by omega)
 rw [show t.size - 1+1=t.size by omega,take_all t t.size (Nat.le_refl _)] at this;rw [Lib.extract_from_zero,← this]
theorem xfirst_split (t:ByteArray) (h:0 < t.size):t.data.toList=t[0] :: (t.extract 1 t.size).data.toList:=by
 have e:=ext_list t 1 t.size
 have e2:(t.extract 1 t.size).data.toList=t.data.toList.drop 1:=by
  rw [e]
  show (t.data.toList.drop 1).take (t.size - 1)=_
  rw [List.take_of_length_le];rw [List.length_drop,len_data]; omega
 rw [e2];have hl:=len_data t
 have:=getL t 0 h
 cases hd:t.data.toList with
 | nil=>rw [hd] at hl; simp at hl; omega
 | cons a r=>rw [hd] at this; simp at this; rw [this]; rfl
def xstrSize:Value → Nat | .string t=>t.size | _=>0
theorem xret_data {t:ByteArray} {l:List UInt8} (h:t.data.toList=l):Ending.returned (.string t)=.returned (.string ⟨l.toArray⟩):=by
 rw [← h]
set_option maxHeartbeats 400000 in
theorem xtrimR_any (s:ByteArray) (b:Nat) (w:World) (hs:s.size≤140737488355328) (hc:∀ x:UInt8,w.cell? ⟨b,x.toNat,none⟩=some (.bool (xblk x))) :
  Calls Tryz.prog 168 #[.string s,.pointer (some ⟨b,0,none⟩)] w fun e w'=>e=.returned (.string ⟨(xbehind s.data.toList).toArray⟩)∧w'=w:=by
 have HC:=hid hc;clear hc
 go_enter Tryz.func168,Tryz.ntmps168
 go_wp2
 go_loop [0] (fun x=>∃ t:ByteArray,x=.string t∧t.size≤s.size∧Hid (xbehind s.data.toList=xbehind t.data.toList)) (fun x=>xstrSize x)
 case atStart=>exact ⟨s,rfl,Nat.le_refl _,hid rfl⟩
 case round =>
  obtain ⟨t,rfl,hts,hv⟩:=hrel;by_cases h0:0 < t.size
  ·have hl:=xlast_split t h0;have ht1:((t.size:Int) - 1).toNat=t.size - 1:=by omega
   have HZ:Hid ((t.extract 0 (t.size - 1)).size=t.size - 1):=show _=_ by rw [ByteArray.size_extract]; omega
   have KH:=hid (setHas_any b t[t.size - 1] _ _ (HC.out t[t.size - 1]));by_cases hb:xblk t[t.size - 1]=true
   ·rw [hb] at KH;have hnx:Hid (xbehind s.data.toList=xbehind (t.extract 0 (t.size - 1)).data.toList):=show _=_ by rw [hv.out,hl,xbehind_drop hb]
    clear hl hb hv;go_wp2_with (go_at_call 177; refine KH.out.mono ?_; rintro e w' ⟨rfl,hw⟩; rw [hw])
    go_round
    case rel=>exact ⟨t.extract 0 (t.size - 1),rfl,by rw [HZ.out]; omega,hnx⟩
    case measure=>show (t.extract 0 (t.size - 1)).size < t.size; rw [HZ.out]; omega
   ·have hb2:xblk t[t.size - 1]=false:=by simpa using hb
    rw [hb2] at KH;have hE:Hid (t.data.toList=xbehind s.data.toList):=show _=_ by rw [hv.out,hl,xbehind_stop hb2]
    clear hl hb hb2 hv;go_wp2_with (go_at_call 177; refine KH.out.mono ?_; rintro e w' ⟨rfl,hw⟩; rw [hw])
    go_ret;exact ⟨xret_data hE.out,rfl⟩
  ·have hE:Hid (t.data.toList=xbehind s.data.toList):=show _=_ by
    have:t.data.toList=[]:=List.eq_nil_of_length_eq_zero (by rw [len_data]; omega)
    rw [hv.out,this]; rfl
   clear hv;go_wp2;go_ret;exact ⟨xret_data hE.out,rfl⟩
set_option maxHeartbeats 400000 in
theorem xtrimL_any (s:ByteArray) (b:Nat) (w:World) (hs:s.size≤140737488355328) (hc:∀ x:UInt8,w.cell? ⟨b,x.toNat,none⟩=some (.bool (xblk x))) :
  Calls Tryz.prog 167 #[.string s,.pointer (some ⟨b,0,none⟩)] w fun e w'=>e=.returned (.string ⟨(s.data.toList.dropWhile xblk).toArray⟩)∧w'=w:=by
 have HC:=hid hc;clear hc
 go_enter Tryz.func167,Tryz.ntmps167
 go_wp2
 go_loop [0] (fun x=>∃ t:ByteArray,x=.string t∧t.size≤s.size∧Hid (s.data.toList.dropWhile xblk=t.data.toList.dropWhile xblk)) (fun x=>xstrSize x)
 case atStart=>exact ⟨s,rfl,Nat.le_refl _,hid rfl⟩
 case round =>
  obtain ⟨t,rfl,hts,hv⟩:=hrel;by_cases h0:0 < t.size
  ·have hl:=xfirst_split t h0;have HZ:Hid ((t.extract 1 t.size).size=t.size - 1):=show _=_ by rw [ByteArray.size_extract]; omega
   have KH:=hid (setHas_any b t[0] _ _ (HC.out t[0]));have h1:(1:Int)≤(t.size:Int):=by omega
   by_cases hb:xblk t[0]=true
   ·rw [hb] at KH;have hnx:Hid (s.data.toList.dropWhile xblk=(t.extract 1 t.size).data.toList.dropWhile xblk):=show _=_ by rw [hv.out,hl,List.dropWhile_cons,if_pos hb]
    clear hl hb hv;go_wp2_with (go_at_call 177; refine KH.out.mono ?_; rintro e w' ⟨rfl,hw⟩; rw [hw])
    go_round
    case rel=>exact ⟨t.extract 1 t.size,rfl,by rw [HZ.out]; omega,hnx⟩
    case measure=>show (t.extract 1 t.size).size < t.size; rw [HZ.out]; omega
   ·have hb2:xblk t[0]=false:=by simpa using hb
    rw [hb2] at KH;have hE:Hid (t.data.toList=s.data.toList.dropWhile xblk):=show _=_ by rw [hv.out,hl,List.dropWhile_cons,if_neg hb]
    clear hl hb hb2 hv;go_wp2_with (go_at_call 177; refine KH.out.mono ?_; rintro e w' ⟨rfl,hw⟩; rw [hw])
    go_ret;exact ⟨xret_data hE.out,rfl⟩
  ·have hE:Hid (t.data.toList=s.data.toList.dropWhile xblk):=show _=_ by
    have:t.data.toList=[]:=List.eq_nil_of_length_eq_zero (by rw [len_data]; omega)
    rw [hv.out,this]; rfl
   clear hv;go_wp2;go_ret;exact ⟨xret_data hE.out,rfl⟩
theorem xtrim_two (l:List UInt8):(xbehind l).dropWhile xblk=xtrim l:=by
 unfold xtrim xbehind;by_cases h:∀ b ∈ l,xblk b=true
 ·rw [drop_blanks h];have h2:l.reverse.dropWhile xblk=[]:=drop_blanks (fun b hb=>h b (List.mem_reverse.1 hb));rw [h2]; rfl
 ·have hx:∃ a c r,l=a++c :: r∧(∀ b ∈ a,xblk b=true)∧xblk c=false:=by
   have e:=List.takeWhile_append_dropWhile (p:=xblk) (l:=l)
   cases hd:l.dropWhile xblk with
   | nil =>
    exfalso
    apply h
    intro b hb;rw [hd,List.append_nil] at e;rw [← e] at hb;exact List.all_eq_true.1 (List.all_takeWhile) b hb
   | cons c r =>
    refine ⟨l.takeWhile xblk,c,r,by rw [← hd]; exact e.symm,fun b hb=>List.all_eq_true.1 (List.all_takeWhile) b hb,?_⟩
    have:=List.head?_dropWhile_not xblk l
    rw [hd] at this; simpa using this
  obtain ⟨a,c,r,rfl,ha,hc⟩:=hx;have e1:∀ q:List UInt8,(a++c :: q).dropWhile xblk=c :: q:=fun q=>(takeW_app ha hc).2;rw [e1]
  have e2:∀ q:List UInt8,xblk c=false → ((c :: q).reverse.dropWhile xblk).reverse=c :: (q.reverse.dropWhile xblk).reverse:=fun q _=>by
   rw [List.reverse_cons];by_cases hq:∀ b ∈ q,xblk b=true
   ·have h2:q.reverse.dropWhile xblk=[]:=drop_blanks (fun b hb=>hq b (List.mem_reverse.1 hb));rw [h2,List.dropWhile_append,h2]; simp [hc]
   ·rw [List.dropWhile_append]
    have:(q.reverse.dropWhile xblk).isEmpty=false:=by
     cases hh:q.reverse.dropWhile xblk with
     | nil =>
      exfalso; apply hq
      intro b hb;have e3:=List.takeWhile_append_dropWhile (p:=xblk) (l:=q.reverse);rw [hh,List.append_nil] at e3;have hb2:b ∈ q.reverse.takeWhile xblk:=by rw [e3]; exact List.mem_reverse.2 hb
      exact List.all_eq_true.1 (List.all_takeWhile) b hb2
     | cons x y=>rfl
    rw [if_neg (by simp [this])]
    simp
  have e4:((a++c :: r).reverse.dropWhile xblk).reverse=a++((c :: r).reverse.dropWhile xblk).reverse:=by
   rw [List.reverse_append,List.dropWhile_append]
   have:((c :: r).reverse.dropWhile xblk).isEmpty=false:=by
    cases hh:(c :: r).reverse.dropWhile xblk with
    | nil=>have:=e2 r hc; rw [hh] at this; simp at this
    | cons x y=>rfl
   rw [if_neg (by rw [this]; exact Bool.false_ne_true)]; simp
  rw [e4,e2 r hc,e1]
end Go.Proofs.YtbmjodlbkgblpaaGreatDoor
