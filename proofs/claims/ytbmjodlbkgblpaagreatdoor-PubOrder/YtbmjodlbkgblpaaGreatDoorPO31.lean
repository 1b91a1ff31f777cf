/-
  PtN, PtO, WPubOrder.
-/
import Derived.Test.YtbmjodlbkgblpaaGreatDoorPO30
set_option linter.unusedVariables false
set_option linter.unusedSimpArgs false
set_option maxRecDepth 20000
namespace Go.Proofs.YtbmjodlbkgblpaaGreatDoor
open Go.RowKit Go.Maps Go.WideMaps Sc
theorem wp_next_pb (w:World) {ops:Array Oper} {rest:List Oper} {o:Oper} {a:Act} {Q:Exit → Act → World → Prop} (hg:o.guard=none) (it:Operand) (hop:o.op=Op.next it false)
  (b r n:Nat) (D:DataW Unit) {la done todo:List PbC} (left:Lit → Bool) (cnt:Nat) (hM:MpG kAp pbD la D) (hr:la.Pairwise fun a b=>a.p.num < b.p.num) (hs:∀ x ∈ la,SlF x.ts∧SlF x.ns) (hc:ComeP la done todo left)
  (hit:a.eval it=.pointer (some ⟨r,0,none⟩)) (h:w.ranges Tryz.prog 3 pbE b r n D left cnt)
  (hDone:cnt=0 → la.Perm done → wpList Tryz.prog ops Q rest (a.put o.dst (.tuple #[.bool false])) w)
  (hMore:∀ (x:PbC) (w':World) (left':Lit → Bool) (cnt':Nat) (todo':List PbC),x ∈ la → ComeP la (done++[x]) todo' left' → w'.ranges Tryz.prog 3 pbE b r n D left' cnt' → cnt' < cnt →
   w.grownBy w' (some r) → w'.heap.size=w.heap.size → (Instr.entry (.pointer (some ⟨r,0,none⟩))).run Tryz.prog w'=.ok (.tuple #[.int .i64 x.p.num,pbV x]) w' → wpList Tryz.prog ops Q rest (a.put o.dst (.tuple #[.bool true,.int .i64 x.p.num,pbV x])) w') :
  wpList Tryz.prog ops Q (o :: rest) a w:=by
 refine wpList_next_ranges w hg it hop 3 keyI pbE (Value.int .i64) pbV (fun key kl hk=>?_) (fun v y hv=>pbE_pbV hv) b r n D left cnt hit h (fun h0 hl=>hDone h0 (hc.none hl)) ?_
 ·obtain ⟨x,rfl,_⟩:=Maps.keyOf_int_inv Tryz.underlying3 hk;exact ⟨x,rfl⟩
 ·intro i c kl y w' cnt' hk hl hR hat hrg hlt hgr hsz hen;obtain ⟨i',e1,rfl,hwf⟩:=Maps.keyOf_int_inv Tryz.underlying3 hk
  cases e1
  obtain ⟨x,hx,hxk⟩:=hc.sub _ hl;have hi:x.p.num=i:=by unfold kAp idK at hxk; injection hxk
  subst hi
  have hy:y.1=pbD x:=by
   rw [← hat (.lit (.int .i64 0))];exact hM.at' x hx _
  obtain ⟨y1,y2⟩:=y;simp only at hy;subst hy;have hv:=pbE_inv hR (hs x hx);obtain ⟨todo',hc'⟩:=hc.one hr hx hl;rw [hv] at hen ⊢;exact hMore x w' _ cnt' todo' hx hc' hrg hlt hgr hsz hen
theorem tuNeP:89 ≠ 37:=by decide
theorem liveS_app (a b:List Pb) (who:List UInt8):liveS (a++b) who=liveS a who++liveS b who:=by simp [liveS]
structure LiveI (w:World) (who:List UInt8) (wr:World) (v:Value) (ds done:List PbC):Prop where
 bel:Below w.heap.size w wr
 own:OwnPb wr w.heap.size v ds
 docs:∀ c ∈ ds,OwnU wr w.heap.size c.ts c.p.doc.tuples∧Own wr w.heap.size 9 c.ns (strs c.p.doc.notes)
 is:pbsL ds=liveS (pbsL done) who
section
variable {w wr w' : World} {who : List UInt8} {v : Value} {ds done : List PbC}
theorem LiveI.start (w:World) (who:List UInt8) (hb:Below w.heap.size w w'):LiveI w who w' (.slice none 0 0) [] [] :=
 ⟨hb,OwnPb.nil _ _,fun c hc=>by simp at hc,rfl⟩
theorem LiveI.below (h:LiveI w who wr v ds done) (hb:Below wr.heap.size wr w'):LiveI w who w' v ds done :=
 ⟨h.bel.trans (hb.mono h.bel.size),h.own.below hb,fun c hc=>⟨(h.docs c hc).1.below hb,(h.docs c hc).2.below hb⟩,h.is⟩
theorem LiveI.iter {b r n cnt:Nat} {D:DataW Unit} {left:Lit → Bool} (h:LiveI w who wr v ds done) (hr:wr.ranges Tryz.prog 3 pbE b r n D left cnt) (hge:w.heap.size≤r) (hg:wr.grownBy w' (some r)):LiveI w who w' v ds done:=by
 have hn:∀ {B e s n:Nat} {x:Value} {xs:List Value},wr.ownsRow B e s x n xs → x.ownBlock=none∨x.ownBlock ≠ some r:=fun ho=>.inr (Ne.symm (row_ne_iter ho hr));refine ⟨h.bel.grown hg h.bel.size fun k hk=>by injection hk with hk; omega,World.ownsRow.kept h.own hg (hn h.own),fun c hc=>?_,h.is⟩
 obtain ⟨h1,h2⟩:=h.docs c hc;exact ⟨World.ownsRow.kept h1 hg (hn h1),World.ownsRow.kept h2 hg (hn h2)⟩
theorem LiveI.skip (h:LiveI w who wr v ds done) {x:PbC} (hx:(x.p.who==who)=false):LiveI w who wr v ds (done++[x]):=by
 refine ⟨h.bel,h.own,h.docs,?_⟩
 rw [h.is,pbsL_app,liveS_app]
 simp [liveS,pbsL,hx]
theorem LiveI.app (h:LiveI w who wr v ds done) {v':Value} {x y:PbC} (hx:(x.p.who==who)=true) (hy:y.p=x.p) (hd:OwnU wr w.heap.size y.ts y.p.doc.tuples∧Own wr w.heap.size 9 y.ns (strs y.p.doc.notes))
  (ho:OwnPb w' w.heap.size v' (ds++[y])) (hg:wr.grownBy w' v.ownBlock):LiveI w who w' v' (ds++[y]) (done++[x]):=by
 refine ⟨h.bel.grown hg h.bel.size fun k hk=>(World.ownsRow.lt h.own k hk).1,ho,fun c hc=>?_,?_⟩
 ·have hh:OwnU wr w.heap.size c.ts c.p.doc.tuples∧Own wr w.heap.size 9 c.ns (strs c.p.doc.notes):=by
   rcases List.mem_append.1 hc with hc | hc
   ·exact h.docs c hc
   ·rw [List.mem_singleton] at hc;subst hc;exact hd
  exact ⟨World.ownsRow.kept hh.1 hg (ow_rows_ne h.own hh.1 tuNeP),World.ownsRow.kept hh.2 hg (ow_rows_ne h.own hh.2 strNe)⟩
 ·rw [pbsL_app,h.is,pbsL_app,liveS_app]
  simp [liveS,pbsL,hx,hy]
end
theorem IsSl_own {w:World} {B e s n:Nat} {v:Value} {xs:List Value} (h:w.ownsRow B e s v n xs):IsSl v:=by
 rcases h.2 with ⟨rfl,_⟩ | ⟨g,cap,cur,rfl,_⟩
 ·exact ⟨_,_,_,rfl⟩
 ·exact ⟨_,_,_,rfl⟩
theorem pubs_sorted {l:List Pb} (hl:l.Pairwise fun p q=>p.num < q.num) {who:List UInt8} {done ds es cs:List PbC} (hc:pbsL cs=l) (hp:cs.Perm done) (hd:pbsL ds=liveS (pbsL done) who) (he:es.Perm ds) (hs:es.Pairwise fun a b=>a.p.num≤b.p.num):pbsL es=liveS l who:=by
 have h1:(pbsL es).Perm (liveS l who):=by
  refine (List.Perm.map PbC.p he).trans ?_
  rw [show ds.map PbC.p=pbsL ds from rfl,hd,← hc];unfold liveS;exact (List.Perm.filter _ (List.Perm.map PbC.p hp)).symm
 have h2:(liveS l who).Pairwise fun p q=>p.num < q.num:=hl.sublist List.filter_sublist
 have h3:(pbsL es).Pairwise fun p q=>p.num≤q.num:=by
  unfold pbsL;exact List.pairwise_map.2 hs
 refine List.Perm.eq_of_pairwise (le:=fun p q=>p.num≤q.num) (fun a b ha hb hab hba=>?_) h3 (h2.imp fun h=>by omega) h1
 have ha':=h1.mem_iff.1 ha;obtain ⟨i,hi,rfl⟩:=List.mem_iff_getElem.1 ha';obtain ⟨j,hj,rfl⟩:=List.mem_iff_getElem.1 hb;have hP:=List.pairwise_iff_getElem.1 h2
 rcases Nat.lt_trichotomy i j with h | h | h
 ·have:=hP i j hi hj h; omega
 ·subst h; rfl
 ·have:=hP j i hj hi h; omega
theorem LiveI.len {w wr:World} {who:List UInt8} {v:Value} {ds done:List PbC} (h:LiveI w who wr v ds done):ds.length≤done.length:=by
 have:=congrArg List.length h.is
 rw [pbsL_len] at this;rw [this];refine Nat.le_trans (List.length_filter_le _ _) ?_
 rw [pbsL_len]; exact Nat.le_refl _
theorem ComeP.len {la done todo:List PbC} {left:Lit → Bool} (h:ComeP la done todo left):done.length≤la.length:=by
 rw [h.perm.length_eq,List.length_append]; omega
theorem own_strsAtO {w:World} {B:Nat} {v:Value} {ps:List (List UInt8)} (h:Own w B 9 v (strs ps)):StrsAt w v ps:=by
 have h0:=h;have e:(strs ps).length=ps.length:=by simp [strs]
 rcases h.2 with ⟨rfl,hn⟩ | ⟨g,cap,cur,rfl,hb,hg,_⟩
 ·rw [e] at hn;exact ⟨none,0,by rw [hn],fun k hk=>by omega⟩
 ·refine ⟨some ⟨g,0,none⟩,cap,by rw [e],fun k hk=>⟨_,rfl,(Array.getElem?_eq_some_iff.1 hg).1,?_⟩⟩
  exact World.ownsRow.cells h0 (g:=g) rfl k _ (by simp [strs,hk])
set_option maxHeartbeats 4000000 in
set_option maxRecDepth 100000 in
theorem plive_tab {B bt:Nat} {w:World} {s:Sto} (h:TabP B bt w s) (who:List UInt8) :
  Calls Tryz.prog 5 #[.pointer (some ⟨bt,0,none⟩),.string ⟨who.toArray⟩] w fun e w'=>∃ v ds,e=.returned v∧OwnPb w' w.heap.size v ds∧(∀ c ∈ ds,OwnU w' w.heap.size c.ts c.p.doc.tuples∧Own w' w.heap.size 9 c.ns (strs c.p.doc.notes))∧pbsL ds=liveS s.l who∧Below w.heap.size w w':=by
 obtain ⟨i0,hi,hz0,hz1,hz2⟩:=info_parts infoPub;have hT:=h;obtain ⟨mn,ma,be,mw,cs,r,e1,h2,h3,h4,h5⟩:=h.has;obtain ⟨D,hown,hMp⟩:=h4.all;have KM:=pmade_any h4;have hpw:cs.Pairwise fun a b=>a.p.num < b.p.num:=nums_pw (by rw [← e1]; exact h.ok.nums);have hln:cs.length≤200:=by rw [← pbsL_len cs,← e1]; exact few_pubs h.right h.ok
 have cm:=h4.c9;have hmlt:=hown.lt;have hcs:∀ x ∈ cs,SlF x.ts∧SlF x.ns:=fun x hx=>(h2 x hx).f;have HS:=hid (And.intro hT (And.intro e1 (And.intro h2 (And.intro h3 (And.intro hpw hcs)))));clear h h4 h5 hT e1 h2 h3 hpw hcs
 go_enter Tryz.func5,Tryz.ntmps5
 go_wp2_with (first
  | (go_at_call 12; refine KM.mono ?_; rintro e w2 ⟨rfl,hw2⟩; rw [hw2]; clear hw2)
  | (at_range; refine wpList_range_own _ rfl _ 54 rfl 3 37 keyI Tryz.underlying54 _ ma cs.length _ rfl hown ?_; intro w0 hrg0 hg0 hs0)
  | go_in)
 go_frame
 have hb0:Below w.heap.size w w0:=(Below.refl _ _).grown hg0 (Nat.le_refl _) fun k hk=>by cases hk
 have HC:=hid (ComeP.start hMp);have HL:=hid (LiveI.start w who hb0);have HR:=hid hrg0;clear hrg0 hg0 hs0 hown hb0 KM cm
 go_loopw [5] (fun v wr=>∃ ds done todo left cnt,Hid (LiveI w who wr v ds done)∧Hid (ComeP cs done todo left)∧Hid (wr.ranges Tryz.prog 3 pbE ma w.heap.size cs.length D left cnt)) (fun _ wr=>wr.rangeLeft ma w.heap.size)
 case atStart=>exact ⟨[],[],cs,_,_,HL,HC,HR⟩
 case round =>
  clear HL HC HR;obtain ⟨ds,done,todo,left,cnt,HL,HC,HR⟩:=hrel;have hrg:=HR.out;have hcp:=HC.out;have hpw:=HS.out.2.2.2.2.1;have hcs:=HS.out.2.2.2.2.2;have hdl:=HL.out.len;have hcl:=hcp.len
  go_wp2_with (first
   | (at_next; refine wp_next_pb _ rfl _ rfl ma w.heap.size cs.length D left cnt hMp hpw hcs hcp rfl hrg ?_ ?_)
   | go_in)
  ·intro hc0 hperm;have KS:=hid (sort_pubs HL.out.own (fun c hc=>⟨IsSl_own (HL.out.docs c hc).1,IsSl_own (HL.out.docs c hc).2⟩) (by omega));clear hrg HR HC hcp;go_wp2_with (go_at_call 14; refine KS.out.mono ?_; rintro e u2 ⟨rfl,es,ho2,hp2,hs2,hg2⟩)
   go_ret;refine ⟨_,es,rfl,ho2,fun c hc=>?_,pubs_sorted (by rw [← HS.out.2.1]; exact HS.out.1.ok.nums) rfl hperm HL.out.is hp2 hs2 |>.trans (by rw [HS.out.2.1]),HL.out.bel.grown hg2 HL.out.bel.size fun k hk=>(World.ownsRow.lt HL.out.own k hk).1⟩
   have hd:=HL.out.docs c (hp2.mem_iff.1 hc);exact ⟨World.ownsRow.kept hd.1 hg2 (ow_rows_ne HL.out.own hd.1 tuNeP),World.ownsRow.kept hd.2 hg2 (ow_rows_ne HL.out.own hd.2 strNe)⟩
  ·intro x w1 left1 cnt1 todo1 hx hc1 hrg1 hlt1 hg1 hs1 hen;have hl:=hrg.left_eq;have L1:=hid (HL.out.iter hrg (Nat.le_refl _) hg1);have C1:=hid hc1;have hms:cnt1 < wr.rangeLeft ma w.heap.size:=by rw [hl]; exact hlt1
   have SX:=hid (HS.out.2.2.1 x hx);have OX:=hid (HS.out.2.2.2.1 x hx);have hb1:Below w.heap.size w w1:=L1.out.bel;have b2:Below w1.heap.size w1 (w1.alloc (.cells #[.int .i64 x.p.num,.string ⟨x.p.who.toArray⟩,.string ⟨x.p.tag.toArray⟩,.int .i64 x.p.til,.string ⟨x.p.doc.entity.toArray⟩,x.ts,x.ns] 37)):=(Below.refl _ w1).alloc (Nat.le_refl _) _;have RX:=hid (rp_row7 w1 (.int .i64 x.p.num) (.string ⟨x.p.who.toArray⟩) (.string ⟨x.p.tag.toArray⟩) (.int .i64 x.p.til) (.string ⟨x.p.doc.entity.toArray⟩) x.ts x.ns 37);have L2:=hid (L1.out.below b2);have R2:=hid (hrg1.alloc (.cells #[.int .i64 x.p.num,.string ⟨x.p.who.toArray⟩,.string ⟨x.p.tag.toArray⟩,.int .i64 x.p.til,.string ⟨x.p.doc.entity.toArray⟩,x.ts,x.ns] 37));have hsl:IsSl x.ts∧IsSl x.ns:=⟨IsSl_own OX.out.1,IsSl_own OX.out.2⟩
   clear hc1 hrg1 hg1 hs1 hrg HR HC hcp HL hl hlt1 L1 b2 hb1;unfold pbV at hen ⊢;obtain ⟨⟨xa,xn,xc,hxt⟩,⟨ya,yn,yc,hyt⟩⟩:=hsl;rw [hxt,hyt] at hen RX L2 R2 ⊢
   go_upto_region 7 with fail
   generalize w1.heap.size=gx at RX ⊢;generalize World.alloc _ _=w2 at RX L2 R2 ⊢;obtain ⟨x0,x1,x2,x3,x4,x5,x6,_⟩:=RX.out.rp7
   cases heb:x.p.who==who
   ·go_wp2;go_roundw
    case rel=>exact ⟨ds,done++[x],todo1,left1,cnt1,L2.out.skip heb,C1.out,R2.out⟩
    case measure=>rw [R2.out.left_eq]; exact hms
   ·have TX:=HS.out.1.below L2.out.bel;have KC:=hid (pcopypub_any x w2 SX.out ((OX.out.1.below L2.out.bel).tusAt) (own_strsAtO (OX.out.2.below L2.out.bel)));unfold pbV at KC;simp only [hxt,hyt] at KC;clear TX;go_wp2_with fail
    refine KC.out.mono ?_
    rintro e w3 ⟨ts',ns',rfl,ho3,hn3,hb3⟩;have L3:=hid (L2.out.below hb3);have R3:=hid (show w3.ranges Tryz.prog 3 pbE ma w.heap.size cs.length D left1 cnt1 from R2.out.kept (row:=none) ⟨hb3.os,hb3.tape,hb3.output,hb3.size,fun k hk _=>hb3.block k hk⟩ (by simp) (by simp));have OY:=hid (And.intro (own_lower ho3 L2.out.bel.size) (own_lower hn3 L2.out.bel.size));obtain ⟨a3,n3,c3,rfl⟩:=IsSl_own ho3;obtain ⟨a4,n4,c4,rfl⟩:=IsSl_own hn3;clear L2 R2 RX x0 x1 x2 x3 x4 x5 x6 KC ho3 hn3 hb3 hen;have hle:=L3.out.bel.size;go_wp2_with (at_builtin; refine wp_appPg _ rfl (.tmp 24) (.tmp 27) 26 rfl w.heap.size i0 _ Tryz.underlying26 hi hz0 hz1 hz2 rfl _ ds rfl (L3.out.own.alloc _) ⟨_,0,none⟩ 1 [⟨x.p,.slice a3 n3 c3,.slice a4 n4 c4⟩] 1 rfl (fun d hd=>by simp at hd; subst hd; exact ⟨rfl,rfl⟩) rfl (pb_new1 _ ⟨x.p,.slice a3 n3 c3,.slice a4 n4 c4⟩) (by omega) (by simp) (Nat.le_trans hle (by simp)) ?_; intro v4 w4 hown4 hgr4)
    go_roundw
    case rel =>
     have L4:=L3.out.below ((Below.refl _ w3).alloc (Nat.le_refl _) (.cells #[.int .i64 x.p.num,.string ⟨x.p.who.toArray⟩,.string ⟨x.p.tag.toArray⟩,.int .i64 x.p.til,.string ⟨x.p.doc.entity.toArray⟩,.slice a3 n3 c3,.slice a4 n4 c4] 37));have R4:=R3.out.alloc (.cells #[.int .i64 x.p.num,.string ⟨x.p.who.toArray⟩,.string ⟨x.p.tag.toArray⟩,.int .i64 x.p.til,.string ⟨x.p.doc.entity.toArray⟩,.slice a3 n3 c3,.slice a4 n4 c4] 37);exact ⟨_,done++[x],todo1,left1,cnt1,L4.app (y:=⟨x.p,.slice a3 n3 c3,.slice a4 n4 c4⟩) heb rfl ⟨OY.out.1.alloc _,OY.out.2.alloc _⟩ hown4 hgr4,C1.out,R4.kept hgr4 (row_ne_low L4.own hmlt) (row_ne_iter L4.own R4)⟩
    case measure =>
     have L4:=L3.out.below ((Below.refl _ w3).alloc (Nat.le_refl _) (.cells #[.int .i64 x.p.num,.string ⟨x.p.who.toArray⟩,.string ⟨x.p.tag.toArray⟩,.int .i64 x.p.til,.string ⟨x.p.doc.entity.toArray⟩,.slice a3 n3 c3,.slice a4 n4 c4] 37));have R4:=R3.out.alloc (.cells #[.int .i64 x.p.num,.string ⟨x.p.who.toArray⟩,.string ⟨x.p.tag.toArray⟩,.int .i64 x.p.til,.string ⟨x.p.doc.entity.toArray⟩,.slice a3 n3 c3,.slice a4 n4 c4] 37);rw [(R4.kept hgr4 (row_ne_low L4.own hmlt) (row_ne_iter L4.own R4)).left_eq];exact hms
end Go.Proofs.YtbmjodlbkgblpaaGreatDoor
namespace Go.Proofs.YtbmjodlbkgblpaaGreatDoor.pubOrder
open Go.RowKit Go.Maps Go.WideMaps Sc
theorem str_ofo (s:ByteArray):∃ l:List UInt8,s=⟨l.toArray⟩:=⟨s.data.toList,by apply ByteArray.ext; simp⟩
theorem order_plain {S:Sto} (h:StOK S) {who:List UInt8} {ds:List PbC} (hd:pbsL ds=liveS S.l who):(∀ k (hk:k < ds.length),ds[k].p.who=who∧1≤ds[k].p.num∧ds[k].p.num≤S.last)∧∀ j (hj:j+1 < ds.length),ds[j].p.num < ds[j+1].p.num:=by
 have hmem:∀ k (hk:k < ds.length),ds[k].p ∈ S.l∧ds[k].p.who=who:=fun k hk=>by
  have h1:ds[k].p ∈ pbsL ds:=List.mem_map_of_mem (List.getElem_mem hk);rw [hd] at h1;obtain ⟨h2,h3⟩:=List.mem_filter.1 h1;exact ⟨h2,by simpa using h3⟩
 refine ⟨fun k hk=>⟨(hmem k hk).2,h.num1 _ (hmem k hk).1⟩,fun j hj=>?_⟩
 have h1:(pbsL ds).Pairwise fun p q=>p.num < q.num:=by rw [hd]; exact h.nums.sublist List.filter_sublist
 have h2:=List.pairwise_iff_getElem.1 h1 j (j+1) (by rw [pbsL_len]; omega) (by rw [pbsL_len]; exact hj) (by omega)
 rwa [pbsL_get ds (by omega),pbsL_get ds hj] at h2
set_option maxHeartbeats 8000000 in
set_option maxRecDepth 100000 in
theorem law_walk (w:World) (v0:Value) (a1:ByteArray) (k0:AcpsIn 140737488351232 w v0) (b1:a1.size≤140737488351232) :
  Calls Tryz.prog 3 #[v0,.string a1] w fun e w'=>e=.returned (.bool true)∧Below w.heap.size w w':=by
 obtain ⟨who,rfl⟩:=str_ofo a1;obtain ⟨acts,hat,hal,hao⟩:=k0;have KF:=hid (filled_any hat hao hal);obtain ⟨ao,cap,rfl,_⟩:=hat;have KW:=hid awake16_any;clear hal hao b1
 go_enter Tryz.func3,Tryz.ntmps3
 go_wp2_with fail
 refine KF.out.mono ?_
 rintro e w1 ⟨bt,S,v,cs,rfl,hT,hO,hd,hs,hc,hl,hb⟩;have BG:=hid ((⟨hT,fun x hx=>by simp at hx,hb,hO⟩:Bag w w1 bt S v cs []).new (stoL S v) 28 tySto);have HOK:=hid hT.ok;obtain ⟨oa,oc,rfl⟩:=hO.form;clear hT hO hb hs hc hl hd KF;unfold stoV;unfold stoL at BG
 go_upto_region 2 with fail
 generalize w1.heap.size=br at BG ⊢;generalize World.alloc _ _=W at BG ⊢;have KL:=hid (plive_tab BG.out.tab who);go_wp2_with fail
 refine KL.out.mono ?_
 rintro e w3 ⟨lv,ds,rfl,ho,_,hds,hb3⟩;have FX:=hid (order_plain HOK.out hds)
 have hdl:ds.length≤200:=by
  have h1:=congrArg List.length hds;rw [pbsL_len] at h1;have h2:(liveS S.l who).length≤S.l.length:=List.length_filter_le _ _;have h3:=few_pubs BG.out.tab.right BG.out.tab.ok;omega
 have BG3:=hid (BG.out.below hb3);have PA:=hid ho.pbsAt;obtain ⟨la,lc,rfl⟩:=ho.form;clear ho hds hb3 KL BG;go_wp2
 go_loopw [8] (fun i wr=>∃ k:Nat,k≤ds.length∧i=.int .i64 k∧Hid (Below w3.heap.size w3 wr)) (fun i _=>ds.length - (intOf i).toNat)
 case atStart=>exact ⟨0,by omega,rfl,Below.refl _ _⟩
 case round =>
  obtain ⟨k,hk,rfl,HB⟩:=hrel;by_cases hlt:k < ds.length
  ·have hlt':(k:Int) < (ds.length:Int):=by omega
   obtain ⟨f1,f2,f3⟩:=FX.out.1 k hlt;obtain ⟨la',lc',hv',hcp',hat'⟩:=PA.out;obtain ⟨ad,hoa,hab,hpb⟩:=hat' k hlt
   injection hv' with g1 g2 g3
   subst g1;subst g3;subst hoa;have hb:=HB.out;have x7:wr.cell? ⟨br,7,none⟩=some (.int .i64 S.last):=cell_below hb BG3.out.r0.bl BG3.out.r0.rc9.c7;have hlow:decide (ds[k].p.num < 1)=false:=decide_eq_false (by omega);have hhigh:decide (S.last < ds[k].p.num)=false:=decide_eq_false (by omega);have hnw:(who != who)=false:=by simp
   obtain ⟨d0,d1,_⟩:=(hpb.below hb hab).seven;rw [f1] at d1;by_cases hk0:k=0
   ·subst hk0;generalize ds[0]=y at d0 d1 hlow hhigh;have n0:ad.add 0=ad:=by simp [Addr.add]
    simp only [Nat.zero_mul,n0] at d0 d1;clear hpb hat' hcp' f1 f2 f3;go_wp2
    go_quiet (fail)
    have hbq:=hid (HB.out.trans ((below_drewN wr nq).mono HB.out.size));generalize wr.drewN nq=wz at hbq ⊢;go_wp2;go_roundw
    case rel=>exact ⟨1,by omega,by go_num,hbq⟩
    case measure=>simp [intOf]; omega
   ·obtain ⟨j,hj⟩:∃ j,k=j+1:=⟨k - 1,by omega⟩
    subst hj;have hjl:j < ds.length:=by omega
    obtain ⟨ad',hoa',hab',hpj⟩:=hat' j hjl
    injection hoa' with hoa'
    subst hoa';obtain ⟨e0,_⟩:=(hpj.below hb hab').seven;have hrise:decide (ds[j+1].p.num≤ds[j].p.num)=false:=decide_eq_false (by have:=FX.out.2 j hlt; omega);generalize ds[j+1]=y at d0 d1 hlow hhigh hrise;generalize ds[j]=z at e0 hrise;clear hpb hat' hcp' f1 f2 f3 hpj hk0;have hsub:((j+1:Nat):Int) - 1=(j:Int):=by omega
    have hjle:(j:Int) < (ds.length:Int):=by omega
    have hpos:¬ ((j+1:Nat):Int)≤0:=by omega
    go_wp2
    go_quiet (fail)
    have hbq:=hid (HB.out.trans ((below_drewN wr nq).mono HB.out.size));generalize wr.drewN nq=wz at hbq ⊢;go_wp2;go_roundw
    case rel=>exact ⟨j+1+1,by omega,by go_num,hbq⟩
    case measure=>simp [intOf]; omega
  ·have hlt':¬ (k:Int) < (ds.length:Int):=by omega
   have bel:=hid ((BG3.out.bel:Below w.heap.size w w3).trans (HB.out.mono BG3.out.bel.size));clear hlt BG3 PA FX HOK HB;go_wp2_with fail
   refine (KW.out _).mono ?_
   rintro e w9 ⟨rfl,hw9⟩;go_wp2;go_ret;exact ⟨rfl,bel.out.trans (hw9.mono bel.out.size)⟩
end Go.Proofs.YtbmjodlbkgblpaaGreatDoor.pubOrder
