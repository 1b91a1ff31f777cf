/-
  PsP, PsQ, PsR, PsS, PsV.
-/
import Derived.Test.YtbmjodlbkgblpaaGreatDoorPO10
set_option linter.unusedVariables false
set_option linter.unusedSimpArgs false
set_option maxRecDepth 20000
namespace Go.Proofs.YtbmjodlbkgblpaaGreatDoor
open Go.RowKit Go.Maps Go.WideMaps Sc
set_option maxHeartbeats 4000000 in
set_option maxRecDepth 100000 in
theorem pcopypub_any (c:PbC) (w:World) (hs:SmallPb c) (ht:TusAt w c.ts c.p.doc.tuples) (hn:StrsAt w c.ns c.p.doc.notes) :
  Calls Tryz.prog 13 #[pbV c] w fun e w'=>∃ ts' ns',e=.returned (pbV ⟨c.p,ts',ns'⟩)∧OwnU w' w.heap.size ts' c.p.doc.tuples∧Own w' w.heap.size 9 ns' (strs c.p.doc.notes)∧Below w.heap.size w w':=by
 have hs0:=rp_row7 w (.int .i64 c.p.num) (.string ⟨c.p.who.toArray⟩) (.string ⟨c.p.tag.toArray⟩) (.int .i64 c.p.til) (.string ⟨c.p.doc.entity.toArray⟩) c.ts c.ns 37;have hb0:Below w.heap.size w (w.alloc (.cells #[.int .i64 c.p.num,.string ⟨c.p.who.toArray⟩,.string ⟨c.p.tag.toArray⟩,.int .i64 c.p.til,.string ⟨c.p.doc.entity.toArray⟩,c.ts,c.ns] 37)):=(Below.refl _ w).alloc (Nat.le_refl _) _;have e0:(w.alloc (.cells #[.int .i64 c.p.num,.string ⟨c.p.who.toArray⟩,.string ⟨c.p.tag.toArray⟩,.int .i64 c.p.til,.string ⟨c.p.doc.entity.toArray⟩,c.ts,c.ns] 37)).heap.size=w.heap.size+1:=by simp
 generalize hw0:w.alloc (.cells #[.int .i64 c.p.num,.string ⟨c.p.who.toArray⟩,.string ⟨c.p.tag.toArray⟩,.int .i64 c.p.til,.string ⟨c.p.doc.entity.toArray⟩,c.ts,c.ns] 37)=w0 at hb0 hs0 e0;have hr1:=rp_row7 w0 (.int .i64 0) (.string ⟨#[]⟩) (.string ⟨#[]⟩) (.int .i64 0) (.string ⟨#[]⟩) (.slice none 0 0) (.slice none 0 0) 37;have hb1:Below w0.heap.size w0 (w0.alloc (.cells #[.int .i64 0,.string ⟨#[]⟩,.string ⟨#[]⟩,.int .i64 0,.string ⟨#[]⟩,.slice none 0 0,.slice none 0 0] 37)):=(Below.refl _ w0).alloc (Nat.le_refl _) _;generalize hw1:w0.alloc (.cells #[.int .i64 0,.string ⟨#[]⟩,.string ⟨#[]⟩,.int .i64 0,.string ⟨#[]⟩,.slice none 0 0,.slice none 0 0] 37)=w1 at hb1 hr1;rw [e0] at hr1;have HI:Hid (CP w w1 c):=⟨hs0.below hb1 hs0.bl,hr1,hb0.trans (hb1.mono hb0.size)⟩
 have K1:=hid (fun (u:World)=>clonep c.p.who u hs.who);have K2:=hid (fun (u:World)=>clonep c.p.tag u hs.tag);have K3:=hid (fun (u:World) (hu:Below w.heap.size w u)=>pcopydoc_any c.p.doc c.ts c.ns u hs.doc hs.tl hs.nl (ht.below hu) (hn.below hu));obtain ⟨ta,tc,hta⟩:∃ a k,c.ts=.slice a c.p.doc.tuples.length k:=by obtain ⟨a,k,e,_⟩:=ht; exact ⟨a,k,e⟩
 obtain ⟨na,nc,hna⟩:∃ a k,c.ns=.slice a c.p.doc.notes.length k:=by obtain ⟨a,k,e,_⟩:=hn; exact ⟨a,k,e⟩
 clear hr1 hb0 hb1 hs0 hs ht hn;obtain ⟨p,ts,ns⟩:=c;obtain ⟨num,who,tag,til,⟨en,tl,nl⟩⟩:=p;simp only at hta hna K1 K2 K3 hw0;subst hta hna;obtain ⟨n1,hn1⟩:∃ n,n=tl.length:=⟨_,rfl⟩
 obtain ⟨n2,hn2⟩:∃ n,n=nl.length:=⟨_,rfl⟩
 rw [← hn1,← hn2] at HI K3 hw0 ⊢;have HN1:=hid hn1;have HN2:=hid hn2;clear hn1 hn2;obtain ⟨s0,s1,s2,s3,s4,s5,s6,g0,g1,g2,g3,g4,g5,g6⟩:=HI.out.s.rp7
 go_enter Tryz.func13,Tryz.ntmps13
 unfold pbV;unfold docV at K3;simp only at K3 s0 s1 s2 s3 s4 s5 s6 ⊢;go_wp2_with fail
 refine (K1.out _).mono ?_
 rintro e w2 ⟨rfl,hb2⟩;replace HI:=hid (HI.out.step hb2);clear s0 s1 s2 s3 s4 s5 s6 g0 g1 g2 g3 g4 g5 g6 hb2;obtain ⟨s0,s1,s2,s3,s4,s5,s6,g0,g1,g2,g3,g4,g5,g6⟩:=HI.out.s.rp7;simp only at s0 s1 s2 s3 s4 s5 s6;go_wp2_with fail
 refine (K2.out _).mono ?_
 rintro e w3 ⟨rfl,hb3⟩;replace HI:=hid (HI.out.set1.step hb3);clear s0 s1 s2 s3 s4 s5 s6 g0 g1 g2 g3 g4 g5 g6 hb3;obtain ⟨s0,s1,s2,s3,s4,s5,s6,g0,g1,g2,g3,g4,g5,g6⟩:=HI.out.s.rp7;simp only at s0 s1 s2 s3 s4 s5 s6
 go_upto_region 3 with fail
 replace HI:=hid HI.out.set2;clear s0 s1 s2 s3 s4 s5 s6 g0 g1 g2 g3 g4 g5 g6
 try simp only at HI
 generalize World.setCell _ _ _=w4 at HI ⊢;obtain ⟨s0,s1,s2,s3,s4,s5,s6,g0,g1,g2,g3,g4,g5,g6⟩:=HI.out.s.rp7;simp only at s0 s1 s2 s3 s4 s5 s6;have hsz:w.heap.size+1 < w4.heap.size:=HI.out.r.bl;go_wp2_with fail
 refine (K3.out _ HI.out.b).mono ?_
 rintro e w5 ⟨ts',ns',rfl,ho5,hn5,hb5⟩;replace HI:=hid (HI.out.step hb5);clear s0 s1 s2 s3 s4 s5 s6 g0 g1 g2 g3 g4 g5 g6 hb5 K1 K2 K3;obtain ⟨xa,xk,e5⟩:=ho5.form;obtain ⟨ya,yk,e6⟩:=own_formP hn5;rw [show (strs nl).length=nl.length by simp [strs],← HN2.out] at e6;rw [← HN1.out] at e5;subst e5 e6;obtain ⟨s0,s1,s2,s3,s4,s5,s6,g0,g1,g2,g3,g4,g5,g6⟩:=HI.out.s.rp7;simp only at s0 s1 s2 s3 s4 s5 s6;replace HI:=hid (And.intro (HI.out.set4 (.slice xa n1 xk) (.slice ya n2 yk)) (And.intro (own_set3P ho5 (show w.heap.size < w4.heap.size by omega) (.string ⟨en.toArray⟩) (.slice xa n1 xk) (.slice ya n2 yk)) (own_set3P hn5 (show w.heap.size < w4.heap.size by omega) (.string ⟨en.toArray⟩) (.slice xa n1 xk) (.slice ya n2 yk))));clear ho5 hn5
 go_upto_region 4 with fail
 clear s0 s1 s2 s3 s4 s5 s6 g0 g1 g2 g3 g4 g5 g6
 try simp only at HI
 generalize World.setCell _ _ _=w6 at HI ⊢;obtain ⟨s0,s1,s2,s3,s4,s5,s6,g0,g1,g2,g3,g4,g5,g6⟩:=HI.out.1.s.rp7;obtain ⟨z0,z1,z2,z3,z4,z5,z6,y0,y1,y2,y3,y4,y5,y6⟩:=HI.out.1.r.rp7;simp only at s0 s1 s2 s3 s4 s5 s6;have KEEP:=hid (And.intro (rp_store7 HI.out.1.r (.int .i64 num) (.string ⟨who.toArray⟩) (.string ⟨tag.toArray⟩) (.int .i64 til) (.string ⟨en.toArray⟩) (.slice xa n1 xk) (.slice ya n2 yk)) (And.intro (rp_below7 HI.out.1.b (w.heap.size+1) (by omega) (.int .i64 num) (.string ⟨who.toArray⟩) (.string ⟨tag.toArray⟩) (.int .i64 til) (.string ⟨en.toArray⟩) (.slice xa n1 xk) (.slice ya n2 yk)) (And.intro (rp_own7 HI.out.2.1 hsz (.int .i64 num) (.string ⟨who.toArray⟩) (.string ⟨tag.toArray⟩) (.int .i64 til) (.string ⟨en.toArray⟩) (.slice xa n1 xk) (.slice ya n2 yk)) (rp_own7 HI.out.2.2 hsz (.int .i64 num) (.string ⟨who.toArray⟩) (.string ⟨tag.toArray⟩) (.int .i64 til) (.string ⟨en.toArray⟩) (.slice xa n1 xk) (.slice ya n2 yk)))));clear HI;go_wp2;generalize World.setCell _ _ _=wB at KEEP ⊢;obtain ⟨hrA,hbA,hoA,hnA⟩:=KEEP.out;obtain ⟨d0,d1,d2,d3,d4,d5,d6,_,_,_,_,_,_,_⟩:=hrA.rp7
 try simp only [Exit.inBlock,Exit.then]
 refine bodyPost_ret (v:=.agg #[.int .i64 num,.string ⟨who.toArray⟩,.string ⟨tag.toArray⟩,.int .i64 til,.string ⟨en.toArray⟩,.slice xa n1 xk,.slice ya n2 yk]) (by simp [results,Tryz.results13,go_sem,d0,d1,d2,d3,d4,d5,d6]; try rfl) rfl ?_
 exact ⟨_,_,rfl,own_lower hoA (by omega),own_lower hnA (by omega),hbA⟩
theorem neqPm (w:World) (r:Option Nat):(binOp .neq 54 (.map r) (.map none)).run Tryz.prog w=.ok (.bool (!r.isNone)) w:=run_neq_map_nil w _ _ _ r Tryz.underlying54
section
variable {B bt mn ma be mw : Nat} {w w' : World} {c : Cf} {last : Int} {l la : List PbC} {r : List Tm}
set_option maxHeartbeats 4000000 in
set_option maxRecDepth 100000 in
theorem pmade_any (h:Sp2 B bt mn ma be mw w c last l la r) :
  Calls Tryz.prog 12 #[.pointer (some ⟨bt,0,none⟩)] w fun e w'=>e=.returned (.bool true)∧w'=w:=by
 have cm:=h.c9;have q61:=neqPm;clear h
 go_enter Tryz.func12,Tryz.ntmps12
 go_wp2;go_ret;exact ⟨rfl,rfl⟩
set_option maxHeartbeats 4000000 in
set_option maxRecDepth 100000 in
theorem plen_any (h:Sp2 B bt mn ma be mw w c last l la r) :
  Calls Tryz.prog 59 #[.pointer (some ⟨bt,0,none⟩)] w fun e w'=>e=.returned (.int .i64 la.length)∧w'=w:=by
 have KM:=hid (pmade_any h);have cm:=h.c9;have hl:=h.len;clear h
 go_enter Tryz.func59,Tryz.ntmps59
 go_wp2_with (go_at_call 12; refine KM.out.mono ?_; rintro e w0 ⟨rfl,hw0⟩; rw [hw0]; clear hw0)
 go_ret;exact ⟨rfl,rfl⟩
set_option maxHeartbeats 4000000 in
set_option maxRecDepth 100000 in
theorem ptag_yes (h:Sp2 B bt mn ma be mw w c last l la r) {x:PbC} (hx:x ∈ l) (hs:x.p.tag.length≤281474976710656) :
  Calls Tryz.prog 31 #[.pointer (some ⟨bt,0,none⟩),.string ⟨x.p.tag.toArray⟩] w fun e w'=>e=.returned (.bool false)∧w'=w:=by
 have c8:=h.c8;obtain ⟨hlk,_⟩:=h.lookN hx hs;clear h
 go_enter Tryz.func31,Tryz.ntmps31
 go_wp2;go_ret;exact ⟨rfl,rfl⟩
set_option maxHeartbeats 4000000 in
set_option maxRecDepth 100000 in
theorem ptag_no (h:Sp2 B bt mn ma be mw w c last l la r) {tag:List UInt8} (hs:tag.length≤140737488355328) (hno:∀ x ∈ l,x.p.tag ≠ tag) :
  Calls Tryz.prog 31 #[.pointer (some ⟨bt,0,none⟩),.string ⟨tag.toArray⟩] w fun e w'=>e=.returned (.bool (tokenB tag))∧w'=w:=by
 have c8:=h.c8;obtain ⟨hlk,_⟩:=h.lookN_no (tag:=tag) (by omega) hno;have KT:=hid (token_list tag w hs);clear h
 go_enter Tryz.func31,Tryz.ntmps31
 go_wp2_with (go_at_call 53; refine KT.out.mono ?_; rintro e w0 ⟨rfl,hw0⟩; rw [hw0]; clear hw0)
 go_ret;exact ⟨rfl,rfl⟩
structure TdAt (w u:World) (g:Nat):Prop where
 row:RowIs u g 66 [.int .i64 0,.int .i64 0,.string ⟨#[]⟩,.bool false]
 bel:Below w.heap.size w u
 lo:w.heap.size≤g
theorem tdAt_new (w:World):TdAt w (w.alloc (.cells #[.int .i64 0,.int .i64 0,.string ⟨#[]⟩,.bool false] 66)) w.heap.size:=⟨rc_row4 w _ _ _ _ _,(Below.refl _ w).alloc (Nat.le_refl _) _,Nat.le_refl _⟩
theorem TdAt.keep {w u:World} {g:Nat} (h:TdAt w u g) (v0 v1 v2 v3:Value):RowC4 ((((u.setCell ⟨g,0,none⟩ v0).setCell ⟨g,1,none⟩ v1).setCell ⟨g,2,none⟩ v2).setCell ⟨g,3,none⟩ v3) g v0 v1 v2 v3∧Below w.heap.size w ((((u.setCell ⟨g,0,none⟩ v0).setCell ⟨g,1,none⟩ v1).setCell ⟨g,2,none⟩ v2).setCell ⟨g,3,none⟩ v3) :=
 ⟨(rc_store4 h.row v0 v1 v2 v3).rc4,rc_below4 h.bel g h.lo v0 v1 v2 v3⟩
theorem chg4 (u:World) (g:Nat) (v0 v1 v2 v3:Value):Chg (fun k=>k=g) u ((((u.setCell ⟨g,0,none⟩ v0).setCell ⟨g,1,none⟩ v1).setCell ⟨g,2,none⟩ v2).setCell ⟨g,3,none⟩ v3):=by
 have c0:=(Chg.refl (fun k=>k=g) u).setCell (p:=⟨g,0,none⟩) (fun _=>rfl) v0;have c1:=c0.setCell (p:=⟨g,1,none⟩) (fun _=>rfl) v1;have c2:=c1.setCell (p:=⟨g,2,none⟩) (fun _=>rfl) v2;exact c2.setCell (p:=⟨g,3,none⟩) (fun _=>rfl) v3
set_option maxHeartbeats 4000000 in
set_option maxRecDepth 100000 in
theorem pbrief_any (h:Sp2 B bt mn ma be mw w c last l la r) :
  Calls Tryz.prog 58 #[.pointer (some ⟨bt,0,none⟩)] w fun e w'=>e=.returned (tdV ⟨423,c.least,[],false⟩)∧Below w.heap.size w w':=by
 have TD:=tdAt_new w;have c4:=(h.new (.cells #[.int .i64 0,.int .i64 0,.string ⟨#[]⟩,.bool false] 66)).c4;clear h;generalize hW:w.alloc (.cells #[.int .i64 0,.int .i64 0,.string ⟨#[]⟩,.bool false] 66)=W at TD c4;obtain ⟨z0,z1,z2,z3,f0,f1,f2,f3⟩:=TD.row.rc4;have KEEP:=hid (TD.keep (.int .i64 423) (.int .i64 c.least) (.string ⟨#[]⟩) (.bool false));clear TD
 go_enter Tryz.func58,Tryz.ntmps58
 go_wp2;generalize World.setCell _ _ _=wA at KEEP ⊢;obtain ⟨⟨d0,d1,d2,d3,_,_,_,_⟩,hbA⟩:=KEEP.out
 try simp only [Exit.inBlock,Exit.then]
 refine bodyPost_ret (v:=.agg #[.int .i64 423,.int .i64 c.least,.string ⟨#[]⟩,.bool false]) (by simp [results,Tryz.results58,go_sem,d0,d1,d2,d3]; try rfl) rfl ?_
 exact ⟨rfl,hbA⟩
end
set_option maxHeartbeats 1000000 in
theorem psize_any (n:Int) (w:World):Calls Tryz.prog 51 #[.int .i64 n] w fun e w'=>e=.returned (.bool (decide (1≤n) && decide (n≤200)))∧w'=w:=by
 by_cases h1:1≤n
 ·have d1:decide (1≤n)=true:=decide_eq_true h1;rw [d1,Bool.true_and];by_cases h2:n≤200
  ·have d2:decide (n≤200)=true:=decide_eq_true h2;rw [d2]
   go_enter Tryz.func51,Tryz.ntmps51
   go_wp2;go_ret;exact ⟨rfl,rfl⟩
  ·have d2:decide (n≤200)=false:=decide_eq_false h2;rw [d2]
   go_enter Tryz.func51,Tryz.ntmps51
   go_wp2;go_ret;exact ⟨rfl,rfl⟩
 ·have d1:decide (1≤n)=false:=decide_eq_false h1;rw [d1,Bool.false_and]
  go_enter Tryz.func51,Tryz.ntmps51
  go_wp2;go_ret;exact ⟨rfl,rfl⟩
def timesB (c:Cf):Bool:=decide (1≤c.least) && (decide (c.least≤c.usual) && (decide (c.usual≤c.most) && decide (c.most≤2147483647)))
set_option maxHeartbeats 4000000 in
set_option maxRecDepth 100000 in
theorem ptimes_any (c:Cf) (w:World):Calls Tryz.prog 52 #[cfV c] w fun e w'=>e=.returned (.bool (timesB c))∧Below w.heap.size w w':=by
 have HB:=hid ((Below.refl _ w).alloc (Nat.le_refl _) (objF c));have hbx:=boxF_new w c;unfold timesB;obtain ⟨ho,ca,pu,su,le,mo,us⟩:=c;unfold cfV;unfold objF at HB hbx;simp only at HB hbx ⊢;obtain ⟨x0,x1,x2,x3,x4,x5,x6⟩:=hbx;simp only at x0 x1 x2 x3 x4 x5 x6
 go_enter Tryz.func52,Tryz.ntmps52
 by_cases q6:1≤le
 case neg =>
  have d6:decide (1≤le)=false:=decide_eq_false q6;rw [d6,Bool.false_and];go_wp2;go_ret;exact ⟨rfl,HB.out⟩
 have d6:decide (1≤le)=true:=decide_eq_true q6;rw [d6,Bool.true_and];by_cases q7:le≤us
 case neg =>
  have d7:decide (le≤us)=false:=decide_eq_false q7;rw [d7,Bool.false_and];go_wp2;go_ret;exact ⟨rfl,HB.out⟩
 have d7:decide (le≤us)=true:=decide_eq_true q7;rw [d7,Bool.true_and];by_cases q8:us≤mo
 case neg =>
  have d8:decide (us≤mo)=false:=decide_eq_false q8;rw [d8,Bool.false_and];go_wp2;go_ret;exact ⟨rfl,HB.out⟩
 have d8:decide (us≤mo)=true:=decide_eq_true q8;rw [d8,Bool.true_and];by_cases q9:mo≤2147483647
 case neg =>
  have d9:decide (mo≤2147483647)=false:=decide_eq_false q9;rw [d9];go_wp2;go_ret;exact ⟨rfl,HB.out⟩
 have d9:decide (mo≤2147483647)=true:=decide_eq_true q9;rw [d9];go_wp2;go_ret;exact ⟨rfl,HB.out⟩
theorem right_is (c:Cf):rightC c=(((((decide (1≤c.calls) && decide (c.calls≤200)) && (decide (1≤c.pubs) && decide (c.pubs≤200))) && (decide (1≤c.subs) && decide (c.subs≤200)))) && timesB c):=by
 unfold rightC timesB;rw [Bool.eq_iff_iff];simp only [decide_eq_true_eq,Bool.and_eq_true]
 constructor
 ·intro h; refine ⟨⟨⟨⟨?_,?_⟩,?_,?_⟩,?_,?_⟩,?_,?_,?_,?_⟩ <;> omega
 ·rintro ⟨⟨⟨⟨_,_⟩,_,_⟩,_,_⟩,_,_,_,_⟩; omega
set_option maxHeartbeats 4000000 in
set_option maxRecDepth 100000 in
theorem pright_any (c:Cf) (w:World):Calls Tryz.prog 29 #[cfV c] w fun e w'=>e=.returned (.bool (rightC c))∧Below w.heap.size w w':=by
 have hb1:=(Below.refl _ w).alloc (Nat.le_refl _) (objF c);have HB:=hid hb1;have hbx:=boxF_new w c;have hR:=right_is c;have K1:=hid (fun u=>psize_any c.calls u);have K2:=hid (fun u=>psize_any c.pubs u);have K3:=hid (fun u=>psize_any c.subs u);have K4:=hid (fun u=>ptimes_any c u);generalize rightC c=R at hR ⊢;generalize timesB c=b4 at hR K4;generalize (decide (1≤c.calls) && decide (c.calls≤200))=b1 at hR K1;generalize (decide (1≤c.pubs) && decide (c.pubs≤200))=b2 at hR K2;generalize (decide (1≤c.subs) && decide (c.subs≤200))=b3 at hR K3;have HR:=hid hR;unfold cfV at K4 ⊢;unfold objF at HB hbx hb1;clear hR;generalize hW:w.alloc (.cells #[.string ⟨c.host.toArray⟩,.int .i64 c.calls,.int .i64 c.pubs,.int .i64 c.subs,.int .i64 c.least,.int .i64 c.most,.int .i64 c.usual] 25)=W at HB hbx hb1;obtain ⟨x0,x1,x2,x3,x4,x5,x6⟩:=hbx;clear hb1
 go_enter Tryz.func29,Tryz.ntmps29
 go_wp2_with fail
 refine (K1.out _).mono ?_
 rintro e w0 ⟨rfl,hw0⟩;rw [hw0];clear hw0
 cases b1
 ·go_wp2;go_ret;exact ⟨by rw [HR.out]; rfl,HB.out⟩
 go_wp2_with fail
 refine (K2.out _).mono ?_
 rintro e w0 ⟨rfl,hw0⟩;rw [hw0];clear hw0
 cases b2
 ·go_wp2;go_ret;exact ⟨by rw [HR.out]; rfl,HB.out⟩
 go_wp2_with fail
 refine (K3.out _).mono ?_
 rintro e w0 ⟨rfl,hw0⟩;rw [hw0];clear hw0
 cases b3
 ·go_wp2;go_ret;exact ⟨by rw [HR.out]; rfl,HB.out⟩
 go_wp2_with fail
 refine (K4.out _).mono ?_
 rintro e w1 ⟨rfl,hb1⟩;have HB1:=hid (HB.out.trans (hb1.mono HB.out.size));clear hb1;go_wp2;go_ret;exact ⟨by rw [HR.out]; simp,HB1.out⟩
set_option maxHeartbeats 4000000 in
set_option maxRecDepth 100000 in
theorem psec_any (c:Cf) (a:Int) (w:World):Calls Tryz.prog 57 #[cfV c,.int .i64 a] w fun e w'=>e=.returned (.tuple #[.int .i64 (secC c a).1,.bool (secC c a).2])∧Below w.heap.size w w':=by
 have HB:=hid ((Below.refl _ w).alloc (Nat.le_refl _) (objF c));have hbx:=boxF_new w c;have h0:a < 0 → (c.usual,true)=secC c a:=fun h=>by unfold secC; rw [if_pos h]
 have h1:¬ a < 0 → c.most < a → (c.most,true)=secC c a:=fun h h'=>by unfold secC; rw [if_neg h,if_pos h']
 have h2:¬ a < 0 → ¬ c.most < a → (a,(decide (a=0) || decide (c.least≤a)))=secC c a:=fun h h'=>by unfold secC; rw [if_neg h,if_neg h']
 generalize secC c a=R at h0 h1 h2 ⊢;obtain ⟨ho,ca,pu,su,le,mo,us⟩:=c;unfold cfV;unfold objF at HB hbx;simp only at HB hbx h0 h1 h2 ⊢;obtain ⟨x0,x1,x2,x3,x4,x5,x6⟩:=hbx;simp only at x0 x1 x2 x3 x4 x5 x6;by_cases q0:a < 0
 ·have HV:=hid (h0 q0);have d0:decide (a < 0)=true:=decide_eq_true q0;clear h0 h1 h2 q0
  go_enter Tryz.func57,Tryz.ntmps57
  go_wp2;go_ret2;exact ⟨ret_sec HV.out,HB.out⟩
 by_cases q1:mo < a
 ·have HV:=hid (h1 q0 q1);have d0:decide (a < 0)=false:=decide_eq_false q0;have d1:decide (mo < a)=true:=decide_eq_true q1;clear h0 h1 h2 q0 q1
  go_enter Tryz.func57,Tryz.ntmps57
  go_wp2;go_ret2;exact ⟨ret_sec HV.out,HB.out⟩
 have HV:=hid (h2 q0 q1);have d0:decide (a < 0)=false:=decide_eq_false q0;have d1:decide (mo < a)=false:=decide_eq_false q1;clear h0 h1 h2 q0 q1;by_cases q2:a=0
 ·have d2:(a==0)=true:=by simpa using q2
  have HV:=hid (show (a,true)=R by rw [← HV.out,decide_eq_true q2]; rfl);clear q2
  go_enter Tryz.func57,Tryz.ntmps57
  go_wp2
  go_quiet (fail)
  go_wp2;go_ret2;exact ⟨ret_sec HV.out,HB.out.trans ((below_drewN _ _).mono (by simp))⟩
 ·have d2:(a==0)=false:=by simpa using q2
  by_cases q3:le≤a
  ·have d3:decide (le≤a)=true:=decide_eq_true q3;have HV:=hid (show (a,true)=R by rw [← HV.out,decide_eq_true q3]; simp);clear q2 q3
   go_enter Tryz.func57,Tryz.ntmps57
   go_wp2
   go_quiet (fail)
   go_wp2;go_ret2;exact ⟨ret_sec HV.out,HB.out.trans ((below_drewN _ _).mono (by simp))⟩
  ·have d3:decide (le≤a)=false:=decide_eq_false q3;have HV:=hid (show (a,false)=R by rw [← HV.out,decide_eq_false q3,decide_eq_false q2]; rfl);clear q2 q3
   go_enter Tryz.func57,Tryz.ntmps57
   go_wp2
   go_quiet (fail)
   go_wp2;go_ret2;exact ⟨ret_sec HV.out,HB.out.trans ((below_drewN _ _).mono (by simp))⟩
theorem pb_oneP {x:PbC} (h:SlF x.ts∧SlF x.ns):∃ ta tn tc na nn nc,x.ts=.slice ta tn tc∧x.ns=.slice na nn nc:=by
 obtain ⟨h1,h2⟩:=h
 rcases h1 with ⟨_,_,e1⟩ | ⟨_,_,_,e1⟩ <;> rcases h2 with ⟨_,_,e2⟩ | ⟨_,_,_,e2⟩ <;> exact ⟨_,_,_,_,_,_,e1,e2⟩
section
variable {B bt mn ma be mw : Nat} {w w' : World} {c : Cf} {last : Int} {l la : List PbC} {r : List Tm}
set_option maxHeartbeats 4000000 in
set_option maxRecDepth 100000 in
theorem pfind_of (h:Sp2 B bt mn ma be mw w c last l la r) {tag who:List UInt8} {n:Int} {x:PbC} {ok:Bool} (hf:SlF x.ts∧SlF x.ns)
  (h1:∀ u,Sp2 B bt mn ma be mw u c last l la r → (Instr.lookup 53 (.map (some mn)) (.string ⟨tag.toArray⟩) false).run Tryz.prog u=.ok (.int .i64 n) u)
  (h2:∀ u,Sp2 B bt mn ma be mw u c last l la r → (Instr.lookup 54 (.map (some ma)) (.int .i64 n) true).run Tryz.prog u=.ok (.tuple #[pbV x,.bool ok]) u) :
  Calls Tryz.prog 61 #[.pointer (some ⟨bt,0,none⟩),.string ⟨who.toArray⟩,.string ⟨tag.toArray⟩] w fun e w'=>e=.returned (.tuple #[pbV x,.bool (ok && x.p.who==who)])∧Below w.heap.size w w':=by
 obtain ⟨ta,tn,tc,na,nn,nc,e1,e2⟩:=pb_oneP hf;obtain ⟨⟨num,xw,xt,til,⟨en,tl,nl⟩⟩,ts,ns⟩:=x;simp only at e1 e2 hf;subst e1 e2;have hr1:=rp_row7 w (.int .i64 0) (.string ⟨#[]⟩) (.string ⟨#[]⟩) (.int .i64 0) (.string ⟨#[]⟩) (.slice none 0 0) (.slice none 0 0) 37;have hb1:Below w.heap.size w (w.alloc (.cells #[.int .i64 0,.string ⟨#[]⟩,.string ⟨#[]⟩,.int .i64 0,.string ⟨#[]⟩,.slice none 0 0,.slice none 0 0] 37)):=(Below.refl _ w).alloc (Nat.le_refl _) _;generalize hw1:w.alloc (.cells #[.int .i64 0,.string ⟨#[]⟩,.string ⟨#[]⟩,.int .i64 0,.string ⟨#[]⟩,.slice none 0 0,.slice none 0 0] 37)=w1 at hb1 hr1;have S1:=h.below hb1;have SD:=S1.drew;have q8:=S1.c8;have q9:=S1.c9;have p8:=SD.c8;have p9:=SD.c9;have l1:=h1 _ S1;have l2:=h2 _ S1;have m1:=h1 _ SD;have m2:=h2 _ SD;have S3:=(S1.new (.cells #[.int .i64 0,.string ⟨#[]⟩,.string ⟨#[]⟩,.int .i64 0,.string ⟨#[]⟩,.slice none 0 0,.slice none 0 0] 37)).drew;have r8:=S3.c8;have r9:=S3.c9;have n1:=h1 _ S3;have n2:=h2 _ S3;have HB1:=hid hb1;have HR1:=hid hr1;unfold pbV at l2 m2 n2 ⊢;simp only at l2 m2 n2 ⊢;clear h h1 h2 S1 SD S3 hb1 hr1 hf
 go_enter Tryz.func61,Tryz.ntmps61
 go_upto_region 1 with fail
 clear hw1
 go_region
 all_goals (
  clear q8 q9 p8 p9 l1 l2 m1 m2 n1 n2 r8 r9;have R2:=rp_row7 w1 (.int .i64 num) (.string ⟨xw.toArray⟩) (.string ⟨xt.toArray⟩) (.int .i64 til) (.string ⟨en.toArray⟩) (.slice ta tn tc) (.slice na nn nc) 37;have hal:Below w1.heap.size w1 (w1.alloc (.cells #[.int .i64 num,.string ⟨xw.toArray⟩,.string ⟨xt.toArray⟩,.int .i64 til,.string ⟨en.toArray⟩,.slice ta tn tc,.slice na nn nc] 37)):=(Below.refl _ w1).alloc (Nat.le_refl _) _;have RZ:=HR1.out.below hal HR1.out.bl;have HB2:=hid (HB1.out.trans (hal.mono HB1.out.size));clear hal;generalize World.alloc w1 _=W2 at R2 RZ HB2 ⊢;obtain ⟨s0,s1,s2,s3,s4,s5,s6,_,_,_,_,_,_,_⟩:=R2.rp7;obtain ⟨z0,z1,z2,z3,z4,z5,z6,y0,y1,y2,y3,y4,y5,y6⟩:=RZ.rp7;obtain ⟨t0,t1,t2,t3,t4,t5,t6,_,_,_,_,_,_,_⟩:=(show RowIs W2.drew.drew _ _ _ from R2).rp7;obtain ⟨b0,b1,b2,b3,b4,b5,b6,a0,a1,a2,a3,a4,a5,a6⟩:=(show RowIs W2.drew.drew _ _ _ from RZ).rp7;have KEEP:=hid (And.intro (rp_store7 RZ (.int .i64 num) (.string ⟨xw.toArray⟩) (.string ⟨xt.toArray⟩) (.int .i64 til) (.string ⟨en.toArray⟩) (.slice ta tn tc) (.slice na nn nc)) (rp_below7 HB2.out w.heap.size (Nat.le_refl _) (.int .i64 num) (.string ⟨xw.toArray⟩) (.string ⟨xt.toArray⟩) (.int .i64 til) (.string ⟨en.toArray⟩) (.slice ta tn tc) (.slice na nn nc)));have hne:w1.heap.size ≠ w.heap.size:=by have:=HR1.out.bl; omega
  have hne2:w.heap.size ≠ w1.heap.size:=by omega
  clear R2 RZ HB2 HB1 HR1
  cases ok
  ·go_upto_region 2 with fail
   go_region
   all_goals (
    go_wp2;generalize World.setCell _ _ _=wA at KEEP ⊢;obtain ⟨hrA,hbA⟩:=KEEP.out;obtain ⟨d0,d1,d2,d3,d4,d5,d6,_,_,_,_,_,_,_⟩:=hrA.rp7
    try simp only [Exit.inBlock,Exit.then]
    refine bodyPost_ret (v:=.tuple #[.agg #[.int .i64 num,.string ⟨xw.toArray⟩,.string ⟨xt.toArray⟩,.int .i64 til,.string ⟨en.toArray⟩,.slice ta tn tc,.slice na nn nc],.bool false]) (by simp [results,Tryz.results61,go_sem,d0,d1,d2,d3,d4,d5,d6]; try rfl) rfl ?_
    first | exact ⟨(by first | rfl | (rw [hw]; rfl)),hbA⟩ | exact ⟨(by first | rfl | (rw [hw]; rfl)),hbA.drew⟩ | exact ⟨(by first | rfl | (rw [hw]; rfl)),hbA.drew.drew⟩)
  ·cases hw:(xw==who)
   ·go_upto_region 2 with fail
    go_region
    all_goals (
     go_wp2;generalize World.setCell _ _ _=wA at KEEP ⊢;obtain ⟨hrA,hbA⟩:=KEEP.out;obtain ⟨d0,d1,d2,d3,d4,d5,d6,_,_,_,_,_,_,_⟩:=hrA.rp7
     try simp only [Exit.inBlock,Exit.then]
     refine bodyPost_ret (v:=.tuple #[.agg #[.int .i64 num,.string ⟨xw.toArray⟩,.string ⟨xt.toArray⟩,.int .i64 til,.string ⟨en.toArray⟩,.slice ta tn tc,.slice na nn nc],.bool false]) (by simp [results,Tryz.results61,go_sem,d0,d1,d2,d3,d4,d5,d6]; try rfl) rfl ?_
     first | exact ⟨(by first | rfl | (rw [hw]; rfl)),hbA⟩ | exact ⟨(by first | rfl | (rw [hw]; rfl)),hbA.drew⟩ | exact ⟨(by first | rfl | (rw [hw]; rfl)),hbA.drew.drew⟩)
   ·go_upto_region 2 with fail
    go_region
    all_goals (
     go_wp2;generalize World.setCell _ _ _=wA at KEEP ⊢;obtain ⟨hrA,hbA⟩:=KEEP.out;obtain ⟨d0,d1,d2,d3,d4,d5,d6,_,_,_,_,_,_,_⟩:=hrA.rp7
     try simp only [Exit.inBlock,Exit.then]
     refine bodyPost_ret (v:=.tuple #[.agg #[.int .i64 num,.string ⟨xw.toArray⟩,.string ⟨xt.toArray⟩,.int .i64 til,.string ⟨en.toArray⟩,.slice ta tn tc,.slice na nn nc],.bool true]) (by simp [results,Tryz.results61,go_sem,d0,d1,d2,d3,d4,d5,d6]; try rfl) rfl ?_
     first | exact ⟨(by first | rfl | (rw [hw]; rfl)),hbA⟩ | exact ⟨(by first | rfl | (rw [hw]; rfl)),hbA.drew⟩ | exact ⟨(by first | rfl | (rw [hw]; rfl)),hbA.drew.drew⟩))
theorem pfind_yes (h:Sp2 B bt mn ma be mw w c last l la r) {x:PbC} (hx:x ∈ l) (hy:x ∈ la) (hs:SmallPb x) (who:List UInt8) :
  Calls Tryz.prog 61 #[.pointer (some ⟨bt,0,none⟩),.string ⟨who.toArray⟩,.string ⟨x.p.tag.toArray⟩] w fun e w'=>e=.returned (.tuple #[pbV x,.bool (x.p.who==who)])∧Below w.heap.size w w':=by
 have:=pfind_of h (tag:=x.p.tag) (who:=who) (n:=x.p.num) (x:=x) (ok:=true) hs.f (fun u hu=>(hu.lookN hx hs.tag).2) (fun u hu=>(hu.lookA hy hs).1)
 simpa using this
theorem pfind_no (h:Sp2 B bt mn ma be mw w c last l la r) {tag:List UInt8} (ht:tag.length≤281474976710656) (hno:∀ x ∈ l,x.p.tag ≠ tag) (h0:∀ x ∈ la,x.p.num ≠ 0) (who:List UInt8) :
  Calls Tryz.prog 61 #[.pointer (some ⟨bt,0,none⟩),.string ⟨who.toArray⟩,.string ⟨tag.toArray⟩] w fun e w'=>e=.returned (.tuple #[pbV zeroP,.bool false])∧Below w.heap.size w w':=by
 have:=pfind_of h (tag:=tag) (who:=who) (n:=0) (x:=zeroP) (ok:=false) zeroP_f (fun u hu=>(hu.lookN_no ht hno).2) (fun u hu=>hu.lookA_no (by decide) h0)
 simpa using this
theorem field_tagP (x:PbC) (h:SlF x.ts∧SlF x.ns) (u:World):(Instr.field 37 (pbV x) 2).run Tryz.prog u=.ok (.string ⟨x.p.tag.toArray⟩) u:=by kernel_rfl
set_option maxHeartbeats 4000000 in
set_option maxRecDepth 100000 in
theorem pend_any (h:Sp2 B bt mn ma be mw w c last l l r) (hl:∀ x ∈ l,SmallPb x) (hr:l.Pairwise fun a b=>a.p.num < b.p.num) (hkey:l.Pairwise fun a b=>a.p.tag ≠ b.p.tag) {k:Nat} (hk:k < l.length) :
  Calls Tryz.prog 62 #[.pointer (some ⟨bt,0,none⟩),.int .i64 l[k].p.num] w fun e w'=>e=.returned (.tuple #[])∧(Sp2 B bt mn ma be mw w' c last (l.filter (notN l[k].p.num)) (l.filter (notN l[k].p.num)) (stopT r l[k].p.num)∧FrP B w w'):=by
 have hs:=hl _ (List.getElem_mem hk);have hlk:=(h.drew.lookA (List.getElem_mem hk) hs).2;have c8:=cell_dr h.c8;have c9:=cell_dr h.c9;obtain ⟨w1,hr1,S1,F1⟩:=h.drew.dropN hr hkey hk hs.tag 0;have d9:=S1.c9;obtain ⟨w2,hr2,S2,F2⟩:=S1.dropA hr hk hs.num 0;have d10:=S2.c10;have KS:=hid (wmstop_any S2.wheel hs.num);have HE:Hid (Sp2 B bt mn ma be mw w2 c last (l.filter (notN l[k].p.num)) (l.filter (notN l[k].p.num)) r∧FrP B w w2):=⟨S2,((FrP.refl B w).drew.trans F1).trans F2⟩
 have hfk:=field_tagP l[k] hs.f;unfold pbV at hlk hfk;clear h hl hr hkey S1 S2 F1 F2 hs
 go_enter Tryz.func62,Tryz.ntmps62
 go_wp2
 go_region
 all_goals (
  go_wp2_with (go_at_call 80; refine KS.out.mono ?_; rintro e w3 ⟨rfl,hw3,hf3⟩; have HF:=hid (And.intro (HE.out.1.turnW hw3 hf3) (HE.out.2.trans hf3.frp)); clear hw3 hf3)
  go_end0
  exact ⟨rfl,HF.out.1,HF.out.2⟩)
theorem wmsetT (h:WWm mw B be w r) {id a:Int} (hwf:(Lit.int .i64 id).wf=true) (hbad:¬ badS id a) (hlen:r.length < 4096) :
  Calls Tryz.prog 79 #[.pointer (some ⟨be,0,none⟩),.int .i64 id,.int .i64 a] w fun e w'=>e=.returned (.int .i64 0)∧WWm mw B be w' (setT r id a)∧FrM mw B w w':=by
 refine (wmset_any h (id:=id) (a:=a) hwf).mono ?_
 rintro e w' ⟨rfl,hw,hf⟩;have e1:setE r id a=0:=by unfold setE; rw [if_neg hbad,if_neg (fun x=>by omega)]
 have e2:setR r id a=setT r id a:=by unfold setR; rw [if_neg hbad,if_neg (fun x=>by omega)]
 rw [e1];rw [e2] at hw;exact ⟨rfl,hw,hf⟩
def keepC (x:PbC) (tag:List UInt8) (now n:Int):PbC:=⟨⟨x.p.num,x.p.who,tag,now+10 * n,x.p.doc⟩,x.ts,x.ns⟩
set_option maxHeartbeats 4000000 in
set_option maxRecDepth 100000 in
theorem pkeep_of (h:Sp2 B bt mn ma be mw w c last l la r) {now n:Int} {x:PbC} {tag:List UInt8} {la':List PbC} (htag:tag.length≤281474976710656) (hnum:(Lit.int .i64 x.p.num).wf=true) (hn0:0≤x.p.num) (hf:SlF x.ts∧SlF x.ns)
  (hno:∀ y ∈ l,y.p.tag ≠ tag) (hl:l.length≤1000000) (h0:0≤n) (h9:n≤2147483647) (w0:0≤now) (w9:now≤549755813888) (hrl:r.length < 4096)
  (hA:∀ u,Sp2 B bt mn ma be mw u c last (l++[keepC x tag now n]) la r → ∃ u',(Instr.mapUpdate 54 (.map (some ma)) (.int .i64 x.p.num) (pbV (keepC x tag now n))).run Tryz.prog u=.ok () u'∧Sp2 B bt mn ma be mw u' c last (l++[keepC x tag now n]) la' r∧FrP B u u') :
  Calls Tryz.prog 60 #[.pointer (some ⟨bt,0,none⟩),.int .i64 now,.int .i64 n,.string ⟨tag.toArray⟩,pbV x] w fun e w'=>e=.returned (.tuple #[])∧(Sp2 B bt mn ma be mw w' c last (l++[keepC x tag now n]) la' (setT r x.p.num (now+10 * n))∧FrP B w w'):=by
 obtain ⟨ta,tn,tc,na,nn,nc,e1,e2⟩:=pb_oneP hf;have hr1:=rp_row7 w (.int .i64 x.p.num) (.string ⟨x.p.who.toArray⟩) (.string ⟨x.p.tag.toArray⟩) (.int .i64 x.p.til) (.string ⟨x.p.doc.entity.toArray⟩) x.ts x.ns 37;have hb1:Below w.heap.size w (w.alloc (.cells #[.int .i64 x.p.num,.string ⟨x.p.who.toArray⟩,.string ⟨x.p.tag.toArray⟩,.int .i64 x.p.til,.string ⟨x.p.doc.entity.toArray⟩,x.ts,x.ns] 37)):=(Below.refl _ w).alloc (Nat.le_refl _) _;have wr1:IntKind.i64.wrap (n * 10)=10 * n:=by rw [IntKind.wrap_i64]; omega
 have wr2:IntKind.i64.wrap (now+10 * n)=now+10 * n:=by rw [IntKind.wrap_i64]; omega
 have hbad:¬ badS x.p.num (now+10 * n):=by unfold badS; omega
 have hB:=h.lo;have HN:=hid (fun (u:World) (hu:Sp2 B bt mn ma be mw u c last l la r)=>hu.addN (x:=keepC x tag now n) htag hno hl);have HA:=hid hA;have KC:=hid (fun (u:World)=>clonep tag u htag);have KW:=hid (fun (u:World) (hu:Sp2 B bt mn ma be mw u c last (l++[keepC x tag now n]) la' r)=>wmsetT hu.wheel (id:=x.p.num) (a:=now+10 * n) hnum hbad hrl);have H0:=hid h;clear h hA hno hbad h0 h9 w0 w9;unfold pbV;rw [e1,e2] at hr1 hb1 ⊢;generalize hw1:w.alloc (.cells #[.int .i64 x.p.num,.string ⟨x.p.who.toArray⟩,.string ⟨x.p.tag.toArray⟩,.int .i64 x.p.til,.string ⟨x.p.doc.entity.toArray⟩,.slice ta tn tc,.slice na nn nc] 37)=w1 at hr1 hb1
 go_enter Tryz.func60,Tryz.ntmps60
 go_wp2_with fail
 refine (KC.out _).mono ?_
 rintro e w2 ⟨rfl,hb2⟩;have r2:=hr1.below hb2 hr1.bl;have HB2:=hid (hb1.trans (hb2.mono hb1.size));have S2:=hid (H0.out.below HB2.out)
 have r4:RowIs ((w2.setCell ⟨w.heap.size,2,none⟩ (.string ⟨tag.toArray⟩)).setCell ⟨w.heap.size,3,none⟩ (.int .i64 (now+10 * n))) w.heap.size 37 [.int .i64 x.p.num,.string ⟨x.p.who.toArray⟩,.string ⟨tag.toArray⟩,.int .i64 (now+10 * n),.string ⟨x.p.doc.entity.toArray⟩,.slice ta tn tc,.slice na nn nc]:=by
  have:=(r2.set 2 (.string ⟨tag.toArray⟩)).set 3 (.int .i64 (now+10 * n))
  simpa using this
 have ch:Chg (fun k=>k=w.heap.size) w2 ((w2.setCell ⟨w.heap.size,2,none⟩ (.string ⟨tag.toArray⟩)).setCell ⟨w.heap.size,3,none⟩ (.int .i64 (now+10 * n))):=by
  have c0:=(Chg.refl (fun k=>k=w.heap.size) w2).setCell (p:=⟨w.heap.size,2,none⟩) (fun _=>rfl) (.string ⟨tag.toArray⟩);exact c0.setCell (p:=⟨w.heap.size,3,none⟩) (fun _=>rfl) (.int .i64 (now+10 * n))
 have S4:=hid (S2.out.put r2 (by decide) (by decide) (by decide) (by decide) ch);have B4:Hid (Below w.heap.size w ((w2.setCell ⟨w.heap.size,2,none⟩ (.string ⟨tag.toArray⟩)).setCell ⟨w.heap.size,3,none⟩ (.int .i64 (now+10 * n)))):=hid ((HB2.out.setCell (Nat.le_refl _) (p:=⟨w.heap.size,2,none⟩) _).setCell (Nat.le_refl _) (p:=⟨w.heap.size,3,none⟩) _);obtain ⟨s0,s1,s2,s3,s4,s5,s6,f0,f1,f2,f3,f4,f5,f6⟩:=r2.rp7;have l1:=hr1.bl;clear r2 ch hr1 hb1 hb2 HB2 S2 H0 KC
 go_upto_region 3 with fail
 clear s0 s1 s2 s3 s4 s5 s6 f0 f1 f2 f3 f4 f5 f6;generalize World.setCell _ _ _=w4 at r4 S4 B4 ⊢;have SD:=S4.out.drew;obtain ⟨w5,hrun5,S5,F5⟩:=HN.out _ SD;have r4d:RowIs w4.drew w.heap.size 37 _:=r4;have r5:=F5.row r4d (by decide) (by decide) (by decide) (by decide);obtain ⟨w6,hrun6,S6,F6⟩:=HA.out _ S5.drew;have r5d:RowIs w5.drew w.heap.size 37 _:=r5;have r6:=F6.row r5d (by decide) (by decide) (by decide) (by decide);have FF:=hid (((FrP.of B4.out hB).trans (((FrP.refl B w4).drew.trans F5).drew.trans F6)));have a8:=SD.c8;have a9:=S5.drew.c9;have b9:=S5.c9;have a10:=S6.drew.c10;have b10:=S6.c10;have KS:=hid (KW.out _ S6.drew);have KE:=hid (fun (u:World) (r':List Tm) hw hf=>S6.drew.turnW (w':=u) (r':=r') hw hf);obtain ⟨s0,s1,s2,s3,s4,s5,s6,_,_,_,_,_,_,_⟩:=r4d.rp7;obtain ⟨t0,t1,t2,t3,t4,t5,t6,_,_,_,_,_,_,_⟩:=r5d.rp7;obtain ⟨u0,u1,u2,u3,u4,u5,u6,_,_,_,_,_,_,_⟩:=(show RowIs w6.drew _ _ _ from r6).rp7;unfold keepC at hrun5;unfold pbV keepC at hrun6;simp only at hrun5 hrun6;rw [e1,e2] at hrun6;clear r4 S4 B4 SD S5 S6 F5 F6 r4d r5 r5d r6 HN HA KW hw1
 go_region
 all_goals (
  go_wp2
  go_region
  all_goals (
   go_wp2
   go_region_law (go_simp; go_at_call 79; refine KS.out.mono ?_; rintro e w7 ⟨rfl,hw7,hf7⟩; have HE:=hid (And.intro (KE.out _ _ hw7 hf7) (FF.out.drew.trans hf7.frp)); clear hw7 hf7)
   all_goals (
    go_wp2
    go_end0
    exact ⟨rfl,HE.out.1,HE.out.2⟩)))
theorem pkeep_new (h:Sp2 B bt mn ma be mw w c last l l r) {now n:Int} {x:PbC} {tag:List UInt8} (htag:tag.length≤281474976710656) (hnum:(Lit.int .i64 x.p.num).wf=true) (hn0:0≤x.p.num) (hf:SlF x.ts∧SlF x.ns)
  (hno:∀ y ∈ l,y.p.tag ≠ tag) (hnx:∀ y ∈ l,y.p.num ≠ x.p.num) (hl:l.length≤1000000) (h0:0≤n) (h9:n≤2147483647) (w0:0≤now) (w9:now≤549755813888) (hrl:r.length < 4096) :
  Calls Tryz.prog 60 #[.pointer (some ⟨bt,0,none⟩),.int .i64 now,.int .i64 n,.string ⟨tag.toArray⟩,pbV x] w fun e w'=>e=.returned (.tuple #[])∧(Sp2 B bt mn ma be mw w' c last (l++[keepC x tag now n]) (l++[keepC x tag now n]) (setT r x.p.num (now+10 * n))∧FrP B w w') :=
 pkeep_of h htag hnum hn0 hf hno hl h0 h9 w0 w9 hrl (fun u hu=>hu.addA (x:=keepC x tag now n) hnum hf hnx hl)
theorem pkeep_put {l0:List PbC} (h:Sp2 B bt mn ma be mw w c last l l0 r) {k:Nat} (hk:k < l0.length) (hr:l0.Pairwise fun a b=>a.p.num < b.p.num) (hll:l=l0.filter (notN l0[k].p.num)) {now n:Int} {x:PbC} {tag:List UInt8} (htag:tag.length≤281474976710656) (hnum:(Lit.int .i64 x.p.num).wf=true) (hn0:0≤x.p.num) (hf:SlF x.ts∧SlF x.ns)
  (hx:x.p.num=l0[k].p.num) (hno:∀ y ∈ l,y.p.tag ≠ tag) (hl:l0.length≤1000000) (h0:0≤n) (h9:n≤2147483647) (w0:0≤now) (w9:now≤549755813888) (hrl:r.length < 4096) :
  Calls Tryz.prog 60 #[.pointer (some ⟨bt,0,none⟩),.int .i64 now,.int .i64 n,.string ⟨tag.toArray⟩,pbV x] w fun e w'=>e=.returned (.tuple #[])∧(Sp2 B bt mn ma be mw w' c last (l0.set k (keepC x tag now n)) (l0.set k (keepC x tag now n)) (setT r x.p.num (now+10 * n))∧FrP B w w'):=by
 have hlen:l.length≤1000000:=by rw [hll]; exact Nat.le_trans (List.length_filter_le _ _) hl
 refine (pkeep_of h htag hnum hn0 hf hno hlen h0 h9 w0 w9 hrl (la':=l0.set k (keepC x tag now n)) (fun u hu=>hu.putA (x:=keepC x tag now n) hk hnum hf hx hr hl)).mono ?_
 rintro e w' ⟨he,hS,hF⟩;refine ⟨he,hS.permN ?_,hF⟩
 rw [hll];exact perm_putP hk (withoutP hr hk).2 _
end
def pskL (a:Pa) (ts ns:Value):List Value:=[.string ⟨a.who.toArray⟩,.string ⟨a.mt.toArray⟩,.int .i64 a.exp,.bool a.has,.string ⟨a.doc.entity.toArray⟩,ts,ns,.string ⟨a.tag.toArray⟩]
structure BgF (B bt mn ma be mw:Nat) (c:Cf) (last:Int) (l:List PbC) (r:List Tm) (a:Pa) (ts ns:Value) (w u:World):Prop where
 ask:RowIs u w.heap.size 69 (pskL a ts ns)
 td:RowIs u (w.heap.size+1) 66 [.int .i64 0,.int .i64 0,.string ⟨#[]⟩,.bool false]
 bel:Below w.heap.size w u
 sp:Sp2 B bt mn ma be mw u c last l l r
section
variable {B bt mn ma be mw : Nat} {w u u' : World} {c : Cf} {last : Int} {l : List PbC} {r : List Tm} {a : Pa} {ts ns : Value}
theorem BgF.step (h:BgF B bt mn ma be mw c last l r a ts ns w u) (hb:Below u.heap.size u u'):BgF B bt mn ma be mw c last l r a ts ns w u' :=
 ⟨h.ask.below hb h.ask.bl,h.td.below hb h.td.bl,h.bel.trans (hb.mono h.bel.size),h.sp.below hb⟩
theorem BgF.start (h:Sp2 B bt mn ma be mw w c last l l r):BgF B bt mn ma be mw c last l r a ts ns w ((w.alloc (.cells #[.string ⟨a.who.toArray⟩,.string ⟨a.mt.toArray⟩,.int .i64 a.exp,.bool a.has,.string ⟨a.doc.entity.toArray⟩,ts,ns,.string ⟨a.tag.toArray⟩] 69)).alloc (.cells #[.int .i64 0,.int .i64 0,.string ⟨#[]⟩,.bool false] 66)):=by
 have h1:RowIs (w.alloc (.cells #[.string ⟨a.who.toArray⟩,.string ⟨a.mt.toArray⟩,.int .i64 a.exp,.bool a.has,.string ⟨a.doc.entity.toArray⟩,ts,ns,.string ⟨a.tag.toArray⟩] 69)) w.heap.size 69 (pskL a ts ns):=by unfold RowIs; rw [heap_alloc_new]; rfl
 have b1:Below w.heap.size w (w.alloc (.cells #[.string ⟨a.who.toArray⟩,.string ⟨a.mt.toArray⟩,.int .i64 a.exp,.bool a.has,.string ⟨a.doc.entity.toArray⟩,ts,ns,.string ⟨a.tag.toArray⟩] 69)):=(Below.refl _ w).alloc (Nat.le_refl _) _;have e1:(w.alloc (.cells #[.string ⟨a.who.toArray⟩,.string ⟨a.mt.toArray⟩,.int .i64 a.exp,.bool a.has,.string ⟨a.doc.entity.toArray⟩,ts,ns,.string ⟨a.tag.toArray⟩] 69)).heap.size=w.heap.size+1:=by simp
 generalize w.alloc _=w1 at h1 b1 e1 ⊢;have h2:=rc_row4 w1 (.int .i64 0) (.int .i64 0) (.string ⟨#[]⟩) (.bool false) 66;have b2:Below w1.heap.size w1 (w1.alloc (.cells #[.int .i64 0,.int .i64 0,.string ⟨#[]⟩,.bool false] 66)):=(Below.refl _ w1).alloc (Nat.le_refl _) _;rw [e1] at h2;exact ⟨h1.below b2 h1.bl,h2,b1.trans (b2.mono b1.size),(h.below b1).below b2⟩
structure BgA (w u:World) (a:Pa) (ts ns:Value):Prop where
 a0:u.cell? ⟨w.heap.size,0,none⟩=some (.string ⟨a.who.toArray⟩)
 a1:u.cell? ⟨w.heap.size,1,none⟩=some (.string ⟨a.mt.toArray⟩)
 a2:u.cell? ⟨w.heap.size,2,none⟩=some (.int .i64 a.exp)
 a3:u.cell? ⟨w.heap.size,3,none⟩=some (.bool a.has)
 a4:u.cell? ⟨w.heap.size,4,none⟩=some (.string ⟨a.doc.entity.toArray⟩)
 a5:u.cell? ⟨w.heap.size,5,none⟩=some ts
 a6:u.cell? ⟨w.heap.size,6,none⟩=some ns
 a7:u.cell? ⟨w.heap.size,7,none⟩=some (.string ⟨a.tag.toArray⟩)
theorem bgA_of (h:RowIs u w.heap.size 69 (pskL a ts ns)):BgA w u a ts ns :=
 ⟨h.cell 0 (by simp [pskL]),h.cell 1 (by simp [pskL]),h.cell 2 (by simp [pskL]),h.cell 3 (by simp [pskL]),h.cell 4 (by simp [pskL]),h.cell 5 (by simp [pskL]),h.cell 6 (by simp [pskL]),h.cell 7 (by simp [pskL])⟩
theorem BgF.cfg (h:BgF B bt mn ma be mw c last l r a ts ns w u):BoxF u bt c:=⟨h.sp.c0,h.sp.c1,h.sp.c2,h.sp.c3,h.sp.c4,h.sp.c5,h.sp.c6⟩
theorem BgF.keep (h:BgF B bt mn ma be mw c last l r a ts ns w u) (v0 v1 v2 v3:Value):RowC4 ((((u.setCell ⟨w.heap.size+1,0,none⟩ v0).setCell ⟨w.heap.size+1,1,none⟩ v1).setCell ⟨w.heap.size+1,2,none⟩ v2).setCell ⟨w.heap.size+1,3,none⟩ v3) (w.heap.size+1) v0 v1 v2 v3∧Below w.heap.size w ((((u.setCell ⟨w.heap.size+1,0,none⟩ v0).setCell ⟨w.heap.size+1,1,none⟩ v1).setCell ⟨w.heap.size+1,2,none⟩ v2).setCell ⟨w.heap.size+1,3,none⟩ v3) :=
 ⟨(rc_store4 h.td v0 v1 v2 v3).rc4,rc_below4 h.bel (w.heap.size+1) (by omega) v0 v1 v2 v3⟩
set_option maxHeartbeats 4000000 in
set_option maxRecDepth 100000 in
theorem pbeg_423 (h:Sp2 B bt mn ma be mw w c last l l r) {now:Int} {n:Int} (hs1:(secC c a.exp).1=n) (hs2:(secC c a.exp).2=false) :
  Calls Tryz.prog 33 #[.pointer (some ⟨bt,0,none⟩),.int .i64 now,askV a ts ns] w fun e w'=>e=.returned (tdV ⟨423,c.least,[],false⟩)∧Below w.heap.size w w':=by
 have HI:=hid (BgF.start (a:=a) (ts:=ts) (ns:=ns) h);clear h
 go_enter Tryz.func33,Tryz.ntmps33
 unfold askV
 go_upto_region 1 with fail
 generalize World.alloc (World.alloc _ _) _=W at HI ⊢;have HD:=hid (HI.out.step (Below.refl _ W).drew);obtain ⟨a0,a1,a2,a3,a4,a5,a6,a7⟩:=bgA_of HI.out.ask;obtain ⟨x0,x1,x2,x3,x4,x5,x6⟩:=HI.out.cfg;obtain ⟨z0,z1,z2,z3,f0,f1,f2,f3⟩:=HI.out.td.rc4;obtain ⟨a0d,a1d,a2d,a3d,a4d,a5d,a6d,a7d⟩:=bgA_of HD.out.ask;obtain ⟨x0d,x1d,x2d,x3d,x4d,x5d,x6d⟩:=HD.out.cfg;obtain ⟨z0d,z1d,z2d,z3d,f0d,f1d,f2d,f3d⟩:=HD.out.td.rc4;have KS:=hid (fun (u:World)=>psec_any c a.exp u);rw [hs1,hs2] at KS;unfold cfV at KS
 go_region_law (go_simp; go_at_call 57; refine (KS.out _).mono ?_; rintro e w3 ⟨rfl,hb3⟩; replace HI:=hid (HD.out.step hb3); clear hb3)
 all_goals (
  clear a0 a1 a2 a3 a4 a5 a6 a7 x0 x1 x2 x3 x4 x5 x6 z0 z1 z2 z3 f0 f1 f2 f3;obtain ⟨a0,a1,a2,a3,a4,a5,a6,a7⟩:=bgA_of HI.out.ask;obtain ⟨x0,x1,x2,x3,x4,x5,x6⟩:=HI.out.cfg;obtain ⟨z0,z1,z2,z3,f0,f1,f2,f3⟩:=HI.out.td.rc4;have KB:=hid (pbrief_any HI.out.sp);go_wp2_with fail
  refine KB.out.mono ?_
  rintro e w4 ⟨rfl,hb4⟩;replace HI:=hid (HI.out.step hb4);clear a0 a1 a2 a3 a4 a5 a6 a7 x0 x1 x2 x3 x4 x5 x6 z0 z1 z2 z3 f0 f1 f2 f3 hb4;obtain ⟨a0,a1,a2,a3,a4,a5,a6,a7⟩:=bgA_of HI.out.ask;obtain ⟨x0,x1,x2,x3,x4,x5,x6⟩:=HI.out.cfg;obtain ⟨z0,z1,z2,z3,f0,f1,f2,f3⟩:=HI.out.td.rc4;unfold tdV;have KEEP:=hid (HI.out.keep (.int .i64 423) (.int .i64 c.least) (.string ⟨#[]⟩) (.bool false));go_wp2;generalize World.setCell _ _ _=wA at KEEP ⊢;obtain ⟨⟨d0,d1,d2,d3,_,_,_,_⟩,hbA⟩:=KEEP.out
  try simp only [Exit.inBlock,Exit.then]
  refine bodyPost_ret (v:=.agg #[.int .i64 423,.int .i64 c.least,.string ⟨#[]⟩,.bool false]) (by simp [results,Tryz.results33,go_sem,d0,d1,d2,d3]; try rfl) rfl ?_
  exact ⟨rfl,hbA⟩)
end
end Go.Proofs.YtbmjodlbkgblpaaGreatDoor
