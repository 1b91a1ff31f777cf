/-
  CpT, CpR, WCompAgain.
-/
import Derived.Test.YtldkidljjbkmbaaGreatDoorPZ26
import Derived.BigRegion
set_option linter.unusedVariables false
set_option linter.unusedSimpArgs false
set_option maxRecDepth 20000
namespace Go.Proofs.YtldkidljjbkmbaaGreatDoor
open Go.RowKit Sc
set_option maxHeartbeats 4000000 in
set_option maxRecDepth 100000 in
theorem ag7_region {ops:Array Oper} (S:ag7Ops ops) (hlow:lowB .any ops=true) {Q:Exit → Act → World → Prop} {id:Nat} (a0:Act) (w:World) (who:List UInt8) (oa:Option Addr) (n cap:Nat) (cs:List PbC) (cp:PbC) (d:Dc) (er:Int) (gp:Nat)
  (hsz:a0.tmps.size=80) (hdf:a0.defers=[]) (B0:a0.eval (.tmp 0)=.string ⟨who.toArray⟩) (B1:a0.eval (.tmp 1)=.slice oa n cap) (B9:a0.eval (.tmp 9)=.pointer (some ⟨gp,0,none⟩))
  (hrow:RowIs w gp 43 (pbCells cp)) (hv:PbsAt w (.slice oa n cap) cs) (hn:n=cs.length) (hpos:0 < n) (hlen:n≤1999999) (hc1:cp.ts.oneCell'=true∧cp.ns.oneCell'=true)
  (KC:∀ u v,Below w.heap.size w u → OwnPb u w.heap.size v (cs++[cp]) → Calls Tryz.prog 11 #[.string ⟨who.toArray⟩,v] u fun e w'=>∃ vt vn,e=.returned (.tuple #[docV d vt vn,.int .i64 er])∧DocG u.heap.size w' d vt vn∧Below u.heap.size u w')
  (fin:∀ (nb:Nat) (ta:Option Addr) (tc:Nat) (na:Option Addr) (nc:Nat) (us:List Value) (u:World),us.length=58 → RowIs u nb 28 [.string ⟨d.entity.toArray⟩,.slice ta d.tuples.length tc,.slice na d.notes.length nc] → DocG 0 u d (.slice ta d.tuples.length tc) (.slice na d.notes.length nc) → Below w.heap.size w u → Q .normal ⟨(a0.tmps.toList.take 10++((.pointer (some ⟨nb,0,none⟩) :: .int .i64 er :: us)++a0.tmps.toList.drop 70)).toArray,[]⟩ u) :
  (Code.region id ops true).wp Tryz.prog Q a0 w:=by
 have hb0:Below w.heap.size w { w with drawn:=w.drawn+1 }:=⟨rfl,rfl,rfl,Nat.le_refl _,fun _ _=>rfl⟩
 have HP:∀ u,Below ({ w with drawn:=w.drawn+1 }:World).heap.size { w with drawn:=w.drawn+1 } u → RowIs u gp 43 (pbCells cp):=fun u hu=>hrow.below (hb0.trans hu) hrow.bl;have HV:∀ u,Below ({ w with drawn:=w.drawn+1 }:World).heap.size { w with drawn:=w.drawn+1 } u → PbsAt u (.slice oa n cap) cs:=fun u hu=>hv.below (hb0.trans hu);have KC':∀ u v,Below ({ w with drawn:=w.drawn+1 }:World).heap.size { w with drawn:=w.drawn+1 } u → OwnPb u w.heap.size v (cs++[cp]) → Calls Tryz.prog 11 #[.string ⟨who.toArray⟩,v] u fun e w'=>∃ vt vn,e=.returned (.tuple #[docV d vt vn,.int .i64 er])∧DocG u.heap.size w' d vt vn∧Below u.heap.size u w':=fun u v hu ho=>KC u v (hb0.trans hu) ho
 refine wp_region_mid2 followsC (ag7P a0 { w with drawn:=w.drawn+1 } who oa n cap cs cp d er w.heap.size) (ag7Q a0 { w with drawn:=w.drawn+1 } who oa n cap cs cp d er w.heap.size) 12 6 rfl rfl hsz hdf (by decide) (by rw [S.sz]; decide) hlow (fun L i hi hlt=>by
   have h14:=(ready_nots hi).2;rw [S.sz] at h14;obtain rfl:i=13:=by omega
   exact S.w13_12.on hi) (fun L hi=>S.w12_6.on hi) (fun L a u=>∃ (nb:Nat) (ta:Option Addr) (tc:Nat) (na:Option Addr) (nc:Nat) (X:Value),Outs (ag7Q a0 { w with drawn:=w.drawn+1 } who oa n cap cs cp d er w.heap.size) a0 a∧a.eval (.tmp 10)=.pointer (some ⟨nb,0,none⟩)∧(L.getD 10 false=true → a.eval (.tmp 69)=.int .i64 er)∧a.eval (.tmp 59)=.tuple #[X,.int .i64 er]∧(L.getD 13 false=true → a.eval (.tmp 11)=.int .i64 er)∧RowIs u nb 28 [.string ⟨d.entity.toArray⟩,.slice ta d.tuples.length tc,.slice na d.notes.length nc]∧DocG 0 u d (.slice ta d.tuples.length tc) (.slice na d.notes.length nc)∧Below w.heap.size w u∧(∀ i,i < 12 → i ≠ 10 → L.getD i false=true))
  (fun L a u i h1 h2 h3 h4 h5 h6=>ag7_head1 S a0 { w with drawn:=w.drawn+1 } who oa n cap cs cp d er w.heap.size gp B0 B1 B9 rfl HP HV hn hpos hlen hc1 KC' Q L a u i h1 h2 h3 h4 h5 h6) ?_
  (fun L a u i h1 h2 h3 h4 h5 h6=>ag7_head2 S a0 { w with drawn:=w.drawn+1 } who oa n cap cs cp d er w.heap.size gp B0 B1 B9 rfl HP HV hn hpos hlen hc1 KC' Q L a u i h1 h2 h3 h4 h5 h6) ?_ ?_ ?_
 ·intro L a u hs hi hI;have q3:=hI.val 3 (by simp [ag7P]) (S.w6_3.on hi);have q5:=hI.val 5 (by simp [ag7P]) (S.w6_5.on hi);simp only [ag7P,ag7R,ag7D] at q3 q5;obtain ⟨g2,q5,_,hnew⟩:=q5;obtain ⟨hn6,_⟩:=ready_nots hi;have hBu:w.heap.size≤u.heap.size:=hI.bel.size;obtain ⟨i1,hj,hy0,hy1,hy2⟩:=info_parts infoPub;obtain ⟨o,ho1,hg,hd,hop⟩:=S.p6;refine wpOp_of (E:=True) ho1 (step_appPb1 hg (.tmp 63) (.tmp 65) 22 hop w.heap.size i1 _ Tryz.underlying22 hj hy0 hy1 hy2 rfl _ cs rfl q3 ⟨g2,0,none⟩ 1 cp q5 hc1 hnew (by omega) hBu ?_) hg
  intro v' w' hown' hgr;rw [hd];have hop':=hI.o.put 66 v' (by simp [ag7P]) (by simp [ag7P]);refine ⟨⟨hop'.sz,hop'.df,hop'.out⟩,hI.bel.grown hgr hBu (fun g hg=>(World.ownsRow.lt q3 g hg).1),fun i hik hl=>?_,down_set hi hs hI.dn⟩
  have hik:i < 12:=hik;by_cases e6:i=6
  ·subst e6
   show OwnPb w' w.heap.size ((a.put (some 66) v').eval (.tmp 66)) (cs++[cp])
   rw [eval_put_same (by rw [hI.o.sz]; simp [ag7P])]; exact hown'
  rw [getD_set_ne e6] at hl
  rcases (show i=0∨i=1∨i=2∨i=3∨i=4∨i=5∨i=7∨i=8∨i=9∨i=10∨i=11 by omega) with rfl | rfl | rfl | rfl | rfl | rfl | rfl | rfl | rfl | rfl | rfl
  ·show (a.put (some 66) v').eval (.tmp 60)=_
   rw [eval_put_ne (by decide)]; exact hI.val 0 (by simp [ag7P]) hl
  ·exact trivial
  ·show (a.put (some 66) v').eval (.tmp 62)=_
   rw [eval_put_ne (by decide)]; exact hI.val 2 (by simp [ag7P]) hl
  ·exact trivial
  ·show (a.put (some 66) v').eval (.tmp 64)=_
   rw [eval_put_ne (by decide)]; exact hI.val 4 (by simp [ag7P]) hl
  ·exact trivial
  ·have h6:=hI.dn 7 6 S.w7_6 hl;rw [hn6] at h6; cases h6
  ·have h6:=hI.dn 7 6 S.w7_6 (hI.dn 8 7 S.w8_7 hl);rw [hn6] at h6; cases h6
  ·have h6:=hI.dn 7 6 S.w7_6 (hI.dn 8 7 S.w8_7 (hI.dn 9 8 S.w9_8 hl));rw [hn6] at h6; cases h6
  ·have h6:=hI.dn 7 6 S.w7_6 (hI.dn 8 7 S.w8_7 (hI.dn 10 8 S.w10_8 hl));rw [hn6] at h6; cases h6
  ·obtain ⟨nb,h1,h2,h3⟩:∃ nb,a.eval (.tmp 10)=.pointer (some ⟨nb,0,none⟩)∧w.heap.size≤nb∧RowIs u nb 28 [.string ⟨#[]⟩,.slice none 0 0,.slice none 0 0]:=hI.val 11 (by simp [ag7P]) hl;refine ⟨nb,?_,h2,row_grown h3 hgr (fun e=>?_)⟩
   ·show (a.put (some 66) v').eval (.tmp 10)=_
    rw [eval_put_ne (by decide)]; exact h1
   ·rcases own_neC q3 h3 (by decide) with h | h
    ·rw [h] at e; cases e
    ·exact h e
 ·intro L a u hs hi hI;have q9:=hI.val 9 (by simp [ag7Q]) (S.w12_9.on hi);have q8:=hI.val 8 (by simp [ag7Q]) (S.w12_8.on hi);have q11:=hI.val 11 (by simp [ag7Q]) (S.w12_11.on hi);have q10:L.getD 10 false=true → a.eval (.tmp 69)=.int .i64 er:=fun hl=>hI.val 10 (by simp [ag7Q]) hl;simp only [ag7Q,ag7S,ag7D] at q9 q8 q11;obtain ⟨ta,tc,na,nc,q9,hG⟩:=q9;obtain ⟨_,_,_,_,q8,_⟩:=q8;obtain ⟨nb,q11,hnb,hr⟩:=q11
  have hall:∀ i,i < 12 → i ≠ 10 → L.getD i false=true:=fun i h1 h2=>by
   rcases (show i=0∨i=1∨i=2∨i=3∨i=4∨i=5∨i=6∨i=7∨i=8∨i=9∨i=11 by omega) with rfl | rfl | rfl | rfl | rfl | rfl | rfl | rfl | rfl | rfl | rfl
   ·exact S.w12_0.on hi
   ·exact S.w12_1.on hi
   ·exact S.w12_2.on hi
   ·exact S.w12_3.on hi
   ·exact S.w12_4.on hi
   ·exact S.w12_5.on hi
   ·exact S.w12_6.on hi
   ·exact S.w12_7.on hi
   ·exact S.w12_8.on hi
   ·exact S.w12_9.on hi
   ·exact S.w12_11.on hi
  have h13:¬ L.getD 13 false=true:=fun h=>by
   have:=hI.dn 13 12 S.w13_12 h
   rw [(ready_nots hi).1] at this; cases this
  have bel:=hb0.trans hI.bel;have r1:=hr.set 0 (.string ⟨d.entity.toArray⟩);have r2:=r1.set 1 (.slice ta d.tuples.length tc);have r3:=r2.set 2 (.slice na d.notes.length nc);have g1:=hG.put (j:=0) (v:=.string ⟨d.entity.toArray⟩) hr;have g2:=g1.put (j:=1) (v:=.slice ta d.tuples.length tc) r1;have g3:=g2.put (j:=2) (v:=.slice na d.notes.length nc) r2;have c1:=((bel.setCell (p:=⟨nb,0,none⟩) hnb (.string ⟨d.entity.toArray⟩)).setCell (p:=⟨nb,1,none⟩) hnb (.slice ta d.tuples.length tc)).setCell (p:=⟨nb,2,none⟩) hnb (.slice na d.notes.length nc);obtain ⟨s0,s1,s2,f0,f1,f2⟩:=hr.rc3;refine S.p12.skip (w':=((u.setCell ⟨nb,0,none⟩ (.string ⟨d.entity.toArray⟩)).setCell ⟨nb,1,none⟩ (.slice ta d.tuples.length tc)).setCell ⟨nb,2,none⟩ (.slice na d.notes.length nc)) (fun o ho=>?_) ⟨nb,ta,tc,na,nc,_,hI.o,q11,fun hl=>by rw [getD_set_ne (by decide)] at hl; exact q10 hl,q8,fun hl=>by rw [getD_set_ne (by decide)] at hl; exact absurd hl h13,by simpa using r3,g3,c1,fun i h1 h2=>by rw [getD_set_ne (by omega)]; exact hall i h1 h2⟩
  simp only [execOp,ho,q11,q9];clear r1 r2 r3 g1 g2 g3 c1 hI bel hG HP HV KC KC' fin hall;go_simp
 ·rintro L a u i hs h12 hi ⟨nb,ta,tc,na,nc,X,ho,h10,h69,h59,h11,hr,hG,hb,hall⟩;obtain ⟨hn,hlt⟩:=ready_nots hi;rw [S.sz] at hlt;by_cases hi12:i < 12∧i ≠ 10
  ·rw [hall i hi12.1 hi12.2] at hn; cases hn
  rcases (show i=10∨i=12∨i=13 by omega) with rfl | rfl | rfl
  ·refine S.p10.val (v:=.int .i64 er) (w':=u) (fun o hop=>?_) ⟨nb,ta,tc,na,nc,X,ho.put 69 _ (by simp [ag7Q]) (by simp [ag7Q]),by rw [eval_put_ne (by decide)]; exact h10,fun _=>eval_put_same (by rw [ho.sz]; simp [ag7Q]),by rw [eval_put_ne (by decide)]; exact h59,fun hl=>by rw [getD_set_ne (by decide)] at hl; rw [eval_put_ne (by decide)]; exact h11 hl,hr,hG,hb,fun i h1 h2=>by rw [getD_set_ne (by omega)]; exact hall i h1 h2⟩
   simp only [execOp,hop,h59];clear ho hr hG hb fin hall;go_simp
  ·rw [h12] at hn; cases hn
  ·have q69:=h69 (S.w13_10.on hi);refine S.p13.val (v:=.int .i64 er) (w':=u) (fun o hop=>?_) ⟨nb,ta,tc,na,nc,X,ho.put 11 _ (by simp [ag7Q]) (by simp [ag7Q]),by rw [eval_put_ne (by decide)]; exact h10,fun hl=>by rw [eval_put_ne (by decide)]; exact q69,by rw [eval_put_ne (by decide)]; exact h59,fun _=>eval_put_same (by rw [ho.sz]; simp [ag7Q]),hr,hG,hb,fun i h1 h2=>by rw [getD_set_ne (by omega)]; exact hall i h1 h2⟩
   simp only [execOp,hop,q69];clear ho hr hG hb fin hall;go_simp
 ·rintro L a u hs hall9 ⟨nb,ta,tc,na,nc,X,ho,h10,_,_,h11,hr,hG,hb,_⟩;have h11:=h11 (hall9 13 (by rw [S.sz]; decide));obtain ⟨us,hus,hau⟩:=ho.fin hsz (by simp [ag7Q]) (by simp [ag7Q]);simp only [ag7Q] at hus hau;have hus:us.length=59+1:=hus;obtain ⟨u0,us1,rfl,hus1⟩:=cons_len hus;obtain ⟨u1,us2,rfl,hus2⟩:=cons_len (show us1.length=58+1 from hus1);have hl10:(a0.tmps.toList.take 10).length=10:=by simp; omega
  have e10:a.eval (.tmp 10)=u0:=by
   rw [hau]
   simp [Act.eval,Array.getD_eq_getD_getElem?,List.getElem?_append,hsz]
  have e11:a.eval (.tmp 11)=u1:=by
   rw [hau]
   simp [Act.eval,Array.getD_eq_getD_getElem?,List.getElem?_append,hsz]
  rw [h10] at e10;rw [h11] at e11;subst e10 e11;rw [hau];exact fin nb ta tc na nc us2 u hus2 hr hG hb
end Go.Proofs.YtldkidljjbkmbaaGreatDoor
namespace Go.Proofs.YtldkidljjbkmbaaGreatDoor
open Go.RowKit Go.Maps Go.WideMaps Sc
set_option maxHeartbeats 2000000 in
set_option maxRecDepth 100000 in
theorem small17_len {w:World} {v:Value} {cs:List PbC} (hv:PbsAt w v cs) (hn:cs.length≤2000000) (hg:∀ c ∈ cs,PbGot w c∧SmallD 1048576 c.p.doc) :
  Calls Tryz.prog 9 #[v] w fun e w'=>∃ b:Bool,e=.returned (.bool b)∧(b=true → cs.length≤400)∧Below w.heap.size w w':=by
 have HV:=hid hv;have HG:=hid hg;obtain ⟨oa,cap,rfl,_⟩:=hv;obtain ⟨n,hnn⟩:∃ n,n=cs.length:=⟨_,rfl⟩
 have HN:=hid hnn;rw [← hnn] at hn ⊢;clear hnn hg
 go_enter Tryz.func9,Tryz.ntmps9
 go_wp2
 go_loopw [3,4] (fun s i wr=>∃ (k t:Nat),k≤n∧k≤t∧t≤k * 3000000∧i=.int .i64 k∧s=.int .i64 t∧Hid (Below w.heap.size w wr)) (fun _ i _=>n - (intOf i).toNat)
 case atStart=>exact ⟨0,0,by omega,by omega,by omega,rfl,rfl,Below.refl _ _⟩
 case round =>
  obtain ⟨k,t,hk,hkt,ht,rfl,rfl,HB⟩:=hrel;by_cases hlt:k < n
  ·have hlt':(k:Int) < (n:Int):=by omega
   have hkl:k < cs.length:=by rw [← HN.out]; exact hlt
   obtain ⟨oa',cap',hv',_,hat⟩:=HV.out;obtain ⟨ad,hoa,hab,hpb⟩:=hat k hkl
   injection hv' with g1 g2 g3
   subst g1;subst hoa;obtain ⟨c0,c1,c2,c3,c4,c5,c6⟩:=(hpb.below HB.out hab).seven;have hm:=List.getElem_mem hkl;obtain ⟨hgk,hsk⟩:=HG.out _ hm;generalize cs[k]=c at c0 c1 c2 c3 c4 c5 c6 hgk hsk;obtain ⟨ta,tc,hts,_⟩:=hgk.tus;obtain ⟨na,nc,hns,_⟩:=hgk.strs;rw [hts] at c5;rw [hns] at c6;have z1:=hsk.tl;have z2:=hsk.nl;generalize c.p.doc.tuples.length=t1 at c5 z1;generalize c.p.doc.notes.length=t2 at c6 z2;have htk:t+1+t1+t2≤(k+1) * 3000000:=by omega
   have htk2:t+1+t1+t2≤9000000000000:=by omega
   clear hat hpb g2 g3 hgk hsk hts hns hm;go_wp2
   go_quiet (fail)
   go_wp2;go_roundw
   case rel=>exact ⟨k+1,t+1+t1+t2,by omega,by omega,htk,by go_num,by go_num,hid (HB.out.trans ((below_drewN _ _).mono HB.out.size))⟩
   case measure=>simp [intOf]; omega
  ·have hlt':¬ (k:Int) < (n:Int):=by omega
   have hd:decide ((t:Int)≤400)=true∨decide ((t:Int)≤400)=false:=by cases decide ((t:Int)≤400) <;> simp
   rcases hd with hd | hd
   ·go_wp2;go_ret;have hle:(t:Int)≤400:=of_decide_eq_true hd;have hcl:n≤400:=by omega
    exact .inr ⟨rfl,hcl,HB.out⟩
   ·go_wp2;go_ret;exact .inl ⟨rfl,HB.out⟩
end Go.Proofs.YtldkidljjbkmbaaGreatDoor
namespace Go.Proofs.YtldkidljjbkmbaaGreatDoor.compAgain
open Go.RowKit Go.Maps Go.WideMaps Sc
set_option maxHeartbeats 4000000 in
set_option maxRecDepth 100000 in
theorem law_walk (w:World) (a0:ByteArray) (v1:Value) (a2:Int) (b0:a0.size≤1048576) (k1:PubsIn 1048576 w v1) (w2:(Lit.int .u64 a2).wf=true) :
  Calls Tryz.prog 7 #[.string a0,v1,.int .u64 a2] w fun e w'=>e=.returned (.bool true)∧Below w.heap.size w w':=by
 obtain ⟨who,rfl⟩:=str_offC a0;have b0:who.length≤1048576:=by simpa [ByteArray.size] using b0
 obtain ⟨cs,hv,hn,hg⟩:=k1;have KM:=hid (small17_len hv (by omega) hg);have KC:=hid (compose_in hv hn hg b0);have KW:=hid awake17_any;have HNUM:=hid (nums_in hg);have HV:=hid hv;have HG:=hid hg;obtain ⟨oa,cap,rfl⟩:=hv.form;obtain ⟨n,hnn⟩:∃ n,n=cs.length:=⟨_,rfl⟩
 rw [← hnn] at KM KC HV hn ⊢;have HN:=hid hnn;have w2':=u64_of w2;obtain ⟨d,er,hd⟩:∃ d er,compC who (pbsL cs)=(d,er):=⟨_,_,rfl⟩
 rw [hd] at KC;clear hnn hv hg w2
 go_enter Tryz.func7,Tryz.ntmps7
 go_wp2_with fail
 refine KM.out.mono ?_
 rintro e w1 ⟨b,rfl,h400,hb1⟩;have bel:=hid hb1;clear hb1 KM
 cases b with
 | false =>
  go_wp2_with fail
  refine (KW.out _).mono ?_
  rintro e w4 ⟨rfl,hb4⟩;have bel:=hid (bel.out.trans (hb4.mono bel.out.size));clear hb4;go_wp2;go_ret;exact ⟨rfl,bel.out⟩
 | true =>
 have h400:=h400 rfl;by_cases hn0:n=0
 ·have hn0':((n:Int)==0)=true:=by simp [hn0]
  go_wp2_with fail
  refine (KW.out _).mono ?_
  rintro e w4 ⟨rfl,hb4⟩;have bel:=hid (bel.out.trans (hb4.mono bel.out.size));clear hb4;go_wp2;go_ret;exact ⟨rfl,bel.out⟩
 have hn0':((n:Int)==0)=false:=by simp; omega
 go_wp2_with fail
 refine (KC.out w1 bel.out).mono ?_
 rintro e w2 ⟨vt,vn,rfl,hG,hb2⟩;simp only at hG ⊢;unfold docV;obtain ⟨ta,tc,na,nc,rfl,rfl⟩:=hG.forms;have R1:=hid (rc_row3 w2 (.string ⟨d.entity.toArray⟩) (.slice ta d.tuples.length tc) (.slice na d.notes.length nc) 28);have b2:Below w2.heap.size w2 (w2.alloc (.cells #[.string ⟨d.entity.toArray⟩,.slice ta d.tuples.length tc,.slice na d.notes.length nc] 28)):=(Below.refl _ w2).alloc (Nat.le_refl _) _;have HT:=hid (hG.below b2);have bel:=hid (bel.out.trans ((hb2.trans (b2.mono hb2.size)).mono bel.out.size));clear hG hb2 b2 KC
 go_upto_region 4 with fail
 generalize w2.heap.size=ga at R1 ⊢;generalize World.alloc _ _=u2 at R1 HT bel ⊢;by_cases h0:er=0
 case neg =>
  have h0':(er != 0)=true:=by simpa using h0
  go_wp2_with fail
  refine (KW.out _).mono ?_
  rintro e w4 ⟨rfl,hb4⟩;have bel:=hid (bel.out.trans (hb4.mono bel.out.size));clear hb4;go_wp2;go_ret;exact ⟨rfl,bel.out⟩
 subst h0;obtain ⟨kl,hkl⟩:∃ kl,n=kl+1:=⟨n - 1,by omega⟩
 have hll:kl < cs.length:=by have:=HN.out; omega
 obtain ⟨oa',cap',hv',hcp,hat⟩:=HV.out;obtain ⟨ad,hoa,hab,hpb⟩:=hat kl hll
 injection hv' with g1 g2 g3
 subst g1;subst hoa;obtain ⟨c0,c1,c2,c3,c4,c5,c6⟩:=(hpb.below bel.out hab).seven;have qsub:(n:Int) - 1=(kl:Int):=by omega
 have hlast:∀ x,(pbsL cs).getLast? = some x → x=cs[kl].p:=fun x hx=>by
  have hlen:(pbsL cs).length=kl+1:=by rw [pbsL_len]; have:=HN.out; omega
  rw [List.getLast?_eq_getElem?,hlen] at hx;simp only [Nat.add_sub_cancel,pbsL,List.getElem?_map,List.getElem?_eq_getElem hll,Option.map_some,Option.some.injEq] at hx;exact hx.symm
 have HLAST:=hid hlast;have HL0:=hid hpb;have hnum1:=chk_num (comp_parts hd).2.1 cs[kl].p (List.mem_map.2 ⟨_,List.getElem_mem hll,rfl⟩);generalize hcl:cs[kl]=cl at c0 c1 c2 c3 c4 c5 c6 HLAST HL0 hnum1;by_cases hmx:1099511627776≤cl.p.num
 ·have hmx':decide (1099511627776≤cl.p.num)=true:=decide_eq_true hmx;go_wp2_with fail
  refine (KW.out _).mono ?_
  rintro e w4 ⟨rfl,hb4⟩;have bel:=hid (bel.out.trans (hb4.mono bel.out.size));clear hb4;go_wp2;go_ret;exact ⟨rfl,bel.out⟩
 have hmx':decide (1099511627776≤cl.p.num)=false:=decide_eq_false hmx
 go_upto_region 6 with fail
 clear c0 c1 c2 c3 c4 c5 c6;obtain ⟨kq,hkq⟩:∃ kq:Nat,(kq:Int)=a2 % (n:Int):=⟨(a2 % (n:Int)).toNat,by have:=Int.emod_nonneg a2 (show (n:Int) ≠ 0 by omega); omega⟩
 have hkqn:kq < n:=by have:=Int.emod_lt_of_pos a2 (show (0:Int) < (n:Int) by omega); omega
 have hkl2:kq < cs.length:=by have:=HN.out; omega
 obtain ⟨ad2,hoa2,hab2,hpb2⟩:=hat kq hkl2
 injection hoa2 with hoa2
 subst hoa2;obtain ⟨hgk,hsk⟩:=HG.out _ (List.getElem_mem hkl2);have hmem:cs[kq].p ∈ pbsL cs:=List.mem_map.2 ⟨_,List.getElem_mem hkl2,rfl⟩;have HMEM:=hid hmem;generalize hcke:cs[kq]=ck at hpb2 hgk hsk HMEM;clear hmem;have bz:Below u2.heap.size u2 (u2.alloc (.cells #[.int .i64 0,.string ⟨#[]⟩,.string ⟨#[]⟩,.int .i64 0,.string ⟨#[]⟩,.slice none 0 0,.slice none 0 0] 43)).drew:=((Below.refl _ u2).alloc (Nat.le_refl _) _).drew;obtain ⟨tb,tbc,hts,_⟩:=hgk.tus;obtain ⟨nb,nbc,hns,_⟩:=hgk.strs;have bd:=bel.out.trans ((Below.refl _ u2).drew.mono bel.out.size);have bdz:=bel.out.trans (bz.mono bel.out.size);have k0:u2.drew.cell? (ad.add (kl * 7))=_:=(HL0.out.below bd hab).seven.c0;have k0z:=(HL0.out.below bdz hab).seven.c0;obtain ⟨-,-,-,-,c4,c5,c6⟩:=(hpb2.below bd hab).seven;obtain ⟨-,-,-,-,d4,d5,d6⟩:=(hpb2.below bdz hab).seven;have qn1:wrap64 (cl.p.num+1)=cl.p.num+1:=by unfold wrap64; omega
 have qk:wrap64 (a2 % (n:Int))=(kq:Int):=by rw [← hkq]; unfold wrap64; omega
 have qk2:wrap64 (a2 % ((kl:Int)+1))=(kq:Int):=by rw [show ((kl:Int)+1)=(n:Int) by omega]; exact qk
 have hkl3:kl < n:=by omega
 rw [hts] at c5 d5;rw [hns] at c6 d6
 have HOK:=hid (show ∀ u,Below w.heap.size w u → PbsOk u (cs++[⟨⟨cl.p.num+1,[],[],0,ck.p.doc⟩,.slice tb ck.p.doc.tuples.length tbc,.slice nb ck.p.doc.notes.length nbc⟩]) from fun u hu=>PbsOk.below (pbs_ok (W:=w) (fun c hc=>by
  rcases List.mem_append.1 hc with hc | hc
  ·exact HG.out c hc
  ·rw [List.mem_singleton] at hc;subst hc;refine ⟨⟨?_,?_,?_,hgk.wf,?_⟩,hsk⟩
   ·show TusAt w (.slice tb ck.p.doc.tuples.length tbc) ck.p.doc.tuples
    rw [← hts]; exact hgk.tus
   ·show StrsAt w (.slice nb ck.p.doc.notes.length nbc) ck.p.doc.notes
    rw [← hns]; exact hgk.strs
   ·show CapTu (.slice tb ck.p.doc.tuples.length tbc)
    rw [← hts]; exact hgk.cap
   ·show (Lit.int .i64 (cl.p.num+1)).wf=true
    simp [Lit.wf,IntKind.min,IntKind.max,IntKind.signed,IntKind.bits]; omega)) hu)
 have KCF:=hid (show ∀ u v B,Below w.heap.size w u → OwnPb u B v (cs++[⟨⟨cl.p.num+1,[],[],0,ck.p.doc⟩,.slice tb ck.p.doc.tuples.length tbc,.slice nb ck.p.doc.notes.length nbc⟩]) → Calls Tryz.prog 11 #[.string ⟨who.toArray⟩,v] u fun e w'=>∃ vt vn,e=.returned (.tuple #[docV d vt vn,.int .i64 0])∧DocG u.heap.size w' d vt vn∧Below u.heap.size u w' from fun u v B hu ho=>by
  have h:=ccomp_any (who:=who) ho.pbsAt (HOK.out u hu) (by omega) (by rw [List.length_append,List.length_singleton]; have:=HN.out; omega) (fun c hc=>by
   rcases List.mem_append.1 hc with hc | hc
   ·exact (HG.out c hc).1.le
   ·rw [List.mem_singleton] at hc;subst hc
    show cl.p.num+1≤9223372036854775807
    omega)
  rw [show pbsL (cs++[⟨⟨cl.p.num+1,[],[],0,ck.p.doc⟩,.slice tb ck.p.doc.tuples.length tbc,.slice nb ck.p.doc.notes.length nbc⟩])=pbsL cs++[⟨cl.p.num+1,[],[],0,ck.p.doc⟩] from by simp [pbsL],again_plain (p:=⟨cl.p.num+1,[],[],0,ck.p.doc⟩) hd HMEM.out rfl (fun x hx=>by rw [HLAST.out x hx]; show cl.p.num < cl.p.num+1; omega)] at h;exact h)
 have hck:=(right_plain HNUM.out hd).1;have hsm:=(small_checked hck).upB (C:=140737488355328) (by omega);have KS:=hid (fun (u:World) (ts ns ts' ns':Value) (h1:TusAt u ts d.tuples) (h2:StrsAt u ns d.notes) (h3:TusAt u ts' d.tuples) (h4:StrsAt u ns' d.notes)=>rsame14_any d ts ns ts' ns' u hsm h1 h2 h3 h4);unfold docV at KS;have L:=hid (show RowIs (u2.alloc (.cells #[.int .i64 (cl.p.num+1),.string ⟨#[]⟩,.string ⟨#[]⟩,.int .i64 0,.string ⟨ck.p.doc.entity.toArray⟩,.slice tb ck.p.doc.tuples.length tbc,.slice nb ck.p.doc.notes.length nbc] 43)).drew u2.heap.size 43 [.int .i64 (cl.p.num+1),.string ⟨#[]⟩,.string ⟨#[]⟩,.int .i64 0,.string ⟨ck.p.doc.entity.toArray⟩,.slice tb ck.p.doc.tuples.length tbc,.slice nb ck.p.doc.notes.length nbc]∧Below u2.heap.size u2 (u2.alloc (.cells #[.int .i64 (cl.p.num+1),.string ⟨#[]⟩,.string ⟨#[]⟩,.int .i64 0,.string ⟨ck.p.doc.entity.toArray⟩,.slice tb ck.p.doc.tuples.length tbc,.slice nb ck.p.doc.notes.length nbc] 43)).drew from ⟨rp_row7 u2 _ _ _ _ _ _ _ _,((Below.refl _ u2).alloc (Nat.le_refl _) _).drew⟩);clear hat hkq bz bd bdz hpb2 hgk hsk
 go_region
 all_goals (
  clear k0 k0z c4 c5 c6 d4 d5 d6;have HT:=hid (HT.out.below L.out.2);have R1:=hid (R1.out.below L.out.2 R1.out.bl);have bel:=hid (bel.out.trans (L.out.2.mono bel.out.size));have RP:=hid L.out.1;clear L HL0
  go_upto_region 7 with fail
  generalize u2.heap.size=gp at RP ⊢;generalize World.drew (World.alloc u2 _)=u3 at HT R1 bel RP ⊢;refine ag7_region ⟨rfl,⟨_,rfl,rfl,rfl,rfl⟩,⟨_,rfl,rfl,rfl,rfl⟩,⟨_,rfl,rfl,rfl,rfl⟩,⟨_,rfl,rfl,rfl,rfl⟩,⟨_,rfl,rfl,rfl,rfl⟩,⟨_,rfl,rfl,rfl,rfl⟩,⟨_,rfl,rfl,rfl,rfl⟩,⟨_,rfl,rfl,rfl,rfl⟩,⟨_,rfl,rfl,rfl,rfl⟩,⟨_,rfl,rfl,rfl,rfl⟩,⟨_,rfl,rfl,rfl,rfl⟩,⟨_,rfl,rfl,rfl,rfl⟩,⟨_,rfl,rfl,rfl,rfl⟩,⟨_,rfl,rfl,rfl,rfl⟩,waits_of (by kernel_rfl),waits_of (by kernel_rfl),waits_of (by kernel_rfl),waits_of (by kernel_rfl),waits_of (by kernel_rfl),waits_of (by kernel_rfl),waits_of (by kernel_rfl),waits_of (by kernel_rfl),waits_of (by kernel_rfl),waits_of (by kernel_rfl),waits_of (by kernel_rfl),waits_of (by kernel_rfl),waits_of (by kernel_rfl),waits_of (by kernel_rfl),waits_of (by kernel_rfl),waits_of (by kernel_rfl),waits_of (by kernel_rfl),waits_of (by kernel_rfl),waits_of (by kernel_rfl),waits_of (by kernel_rfl),waits_of (by kernel_rfl),waits_of (by kernel_rfl),waits_of (by kernel_rfl)⟩ (by kernel_rfl) _ u3 who (some ad) n cap cs ⟨⟨cl.p.num+1,[],[],0,ck.p.doc⟩,.slice tb ck.p.doc.tuples.length tbc,.slice nb ck.p.doc.notes.length nbc⟩ d 0 gp rfl rfl rfl rfl rfl RP.out (HV.out.below bel.out) HN.out (by omega) (by omega) ⟨rfl,rfl⟩ (fun u v hu ho=>KCF.out u v _ (bel.out.trans (hu.mono bel.out.size)) ho) ?_
  intro nb2 ta2 tc2 na2 nc2 us u hus hr hG hb;obtain ⟨x0,us1,e0,hus1⟩:=cons_len (show us.length=57+1 from hus);subst e0;obtain ⟨x1,us2,e1,hus2⟩:=cons_len (show us1.length=56+1 from hus1);subst e1;obtain ⟨x2,us3,e2,hus3⟩:=cons_len (show us2.length=55+1 from hus2);subst e2;obtain ⟨x3,us4,e3,hus4⟩:=cons_len (show us3.length=54+1 from hus3);subst e3;obtain ⟨x4,us5,e4,hus5⟩:=cons_len (show us4.length=53+1 from hus4);subst e4;obtain ⟨x5,us6,e5,hus6⟩:=cons_len (show us5.length=52+1 from hus5);subst e5;obtain ⟨x6,us7,e6,hus7⟩:=cons_len (show us6.length=51+1 from hus6);subst e6;obtain ⟨x7,us8,e7,hus8⟩:=cons_len (show us7.length=50+1 from hus7);subst e7;obtain ⟨x8,us9,e8,hus9⟩:=cons_len (show us8.length=49+1 from hus8);subst e8;obtain ⟨x9,us10,e9,hus10⟩:=cons_len (show us9.length=48+1 from hus9);subst e9;obtain ⟨x10,us11,e10,hus11⟩:=cons_len (show us10.length=47+1 from hus10);subst e10;obtain ⟨x11,us12,e11,hus12⟩:=cons_len (show us11.length=46+1 from hus11);subst e11;obtain ⟨x12,us13,e12,hus13⟩:=cons_len (show us12.length=45+1 from hus12);subst e12;obtain ⟨x13,us14,e13,hus14⟩:=cons_len (show us13.length=44+1 from hus13);subst e13;obtain ⟨x14,us15,e14,hus15⟩:=cons_len (show us14.length=43+1 from hus14);subst e14;obtain ⟨x15,us16,e15,hus16⟩:=cons_len (show us15.length=42+1 from hus15);subst e15;obtain ⟨x16,us17,e16,hus17⟩:=cons_len (show us16.length=41+1 from hus16);subst e16;obtain ⟨x17,us18,e17,hus18⟩:=cons_len (show us17.length=40+1 from hus17);subst e17;obtain ⟨x18,us19,e18,hus19⟩:=cons_len (show us18.length=39+1 from hus18);subst e18;obtain ⟨x19,us20,e19,hus20⟩:=cons_len (show us19.length=38+1 from hus19);subst e19;obtain ⟨x20,us21,e20,hus21⟩:=cons_len (show us20.length=37+1 from hus20);subst e20;obtain ⟨x21,us22,e21,hus22⟩:=cons_len (show us21.length=36+1 from hus21);subst e21;obtain ⟨x22,us23,e22,hus23⟩:=cons_len (show us22.length=35+1 from hus22);subst e22;obtain ⟨x23,us24,e23,hus24⟩:=cons_len (show us23.length=34+1 from hus23);subst e23;obtain ⟨x24,us25,e24,hus25⟩:=cons_len (show us24.length=33+1 from hus24);subst e24;obtain ⟨x25,us26,e25,hus26⟩:=cons_len (show us25.length=32+1 from hus25);subst e25;obtain ⟨x26,us27,e26,hus27⟩:=cons_len (show us26.length=31+1 from hus26);subst e26;obtain ⟨x27,us28,e27,hus28⟩:=cons_len (show us27.length=30+1 from hus27);subst e27;obtain ⟨x28,us29,e28,hus29⟩:=cons_len (show us28.length=29+1 from hus28);subst e28;obtain ⟨x29,us30,e29,hus30⟩:=cons_len (show us29.length=28+1 from hus29);subst e29;obtain ⟨x30,us31,e30,hus31⟩:=cons_len (show us30.length=27+1 from hus30);subst e30;obtain ⟨x31,us32,e31,hus32⟩:=cons_len (show us31.length=26+1 from hus31);subst e31;obtain ⟨x32,us33,e32,hus33⟩:=cons_len (show us32.length=25+1 from hus32);subst e32;obtain ⟨x33,us34,e33,hus34⟩:=cons_len (show us33.length=24+1 from hus33);subst e33;obtain ⟨x34,us35,e34,hus35⟩:=cons_len (show us34.length=23+1 from hus34);subst e34;obtain ⟨x35,us36,e35,hus36⟩:=cons_len (show us35.length=22+1 from hus35);subst e35;obtain ⟨x36,us37,e36,hus37⟩:=cons_len (show us36.length=21+1 from hus36);subst e36;obtain ⟨x37,us38,e37,hus38⟩:=cons_len (show us37.length=20+1 from hus37);subst e37;obtain ⟨x38,us39,e38,hus39⟩:=cons_len (show us38.length=19+1 from hus38);subst e38;obtain ⟨x39,us40,e39,hus40⟩:=cons_len (show us39.length=18+1 from hus39);subst e39;obtain ⟨x40,us41,e40,hus41⟩:=cons_len (show us40.length=17+1 from hus40);subst e40;obtain ⟨x41,us42,e41,hus42⟩:=cons_len (show us41.length=16+1 from hus41);subst e41;obtain ⟨x42,us43,e42,hus43⟩:=cons_len (show us42.length=15+1 from hus42);subst e42;obtain ⟨x43,us44,e43,hus44⟩:=cons_len (show us43.length=14+1 from hus43);subst e43;obtain ⟨x44,us45,e44,hus45⟩:=cons_len (show us44.length=13+1 from hus44);subst e44;obtain ⟨x45,us46,e45,hus46⟩:=cons_len (show us45.length=12+1 from hus45);subst e45;obtain ⟨x46,us47,e46,hus47⟩:=cons_len (show us46.length=11+1 from hus46);subst e46;obtain ⟨x47,us48,e47,hus48⟩:=cons_len (show us47.length=10+1 from hus47);subst e47;obtain ⟨x48,us49,e48,hus49⟩:=cons_len (show us48.length=9+1 from hus48);subst e48;obtain ⟨x49,us50,e49,hus50⟩:=cons_len (show us49.length=8+1 from hus49);subst e49;obtain ⟨x50,us51,e50,hus51⟩:=cons_len (show us50.length=7+1 from hus50);subst e50;obtain ⟨x51,us52,e51,hus52⟩:=cons_len (show us51.length=6+1 from hus51);subst e51;obtain ⟨x52,us53,e52,hus53⟩:=cons_len (show us52.length=5+1 from hus52);subst e52;obtain ⟨x53,us54,e53,hus54⟩:=cons_len (show us53.length=4+1 from hus53);subst e53;obtain ⟨x54,us55,e54,hus55⟩:=cons_len (show us54.length=3+1 from hus54);subst e54;obtain ⟨x55,us56,e55,hus56⟩:=cons_len (show us55.length=2+1 from hus55);subst e55;obtain ⟨x56,us57,e56,hus57⟩:=cons_len (show us56.length=1+1 from hus56);subst e56;obtain ⟨x57,us58,e57,hus58⟩:=cons_len (show us57.length=0+1 from hus57);subst e57;obtain rfl:=List.eq_nil_of_length_eq_zero hus58;simp only [List.take_succ_cons,List.take_zero,List.drop_succ_cons,List.drop_zero,List.cons_append,List.nil_append];have bel:=hid (bel.out.trans (hb.mono bel.out.size));have HT:=hid (HT.out.below hb);have R1:=hid (R1.out.below hb R1.out.bl);have hT1:TusAt u (.slice ta d.tuples.length tc) d.tuples:=OwnU.tusAt HT.out.t;have hN1:StrsAt u (.slice na d.notes.length nc) d.notes:=strsAt_own HT.out.n;have hT2:TusAt u (.slice ta2 d.tuples.length tc2) d.tuples:=OwnU.tusAt hG.t;have hN2:StrsAt u (.slice na2 d.notes.length nc2) d.notes:=strsAt_own hG.n;have KSS:=hid (KS.out u _ _ _ _ hT1 hN1 hT2 hN2);clear hT1 hN1 hT2 hN2 KS HT hG hb RP;obtain ⟨y0,y1,y2,-,-,-⟩:=R1.out.rc3;obtain ⟨z0,z1,z2,-,-,-⟩:=hr.rc3;go_wp2_with fail
  refine KSS.out.mono ?_
  rintro e w8 ⟨rfl,hb8⟩;have bel:=hid (bel.out.trans (hb8.mono bel.out.size));clear hb8 KSS y0 y1 y2 z0 z1 z2;go_wp2_with fail
  refine (KW.out _).mono ?_
  rintro e w9 ⟨rfl,hb9⟩;have bel:=hid (bel.out.trans (hb9.mono bel.out.size));clear hb9;go_wp2;go_ret;exact ⟨rfl,bel.out⟩)
end Go.Proofs.YtldkidljjbkmbaaGreatDoor.compAgain
