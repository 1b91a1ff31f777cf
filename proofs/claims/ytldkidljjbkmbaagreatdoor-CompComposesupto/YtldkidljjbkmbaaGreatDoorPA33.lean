/-
  CpV, CpW, CpX.
-/
import Derived.Test.YtldkidljjbkmbaaGreatDoorPX02
import Derived.Test.YtldkidljjbkmbaaGreatDoorPA32
set_option linter.unusedVariables false
set_option linter.unusedSimpArgs false
set_option maxRecDepth 20000
namespace Go.Proofs.YtldkidljjbkmbaaGreatDoor
open Go.RowKit Sc
set_option maxHeartbeats 4000000 in
set_option maxRecDepth 100000 in
theorem rt9_head {ops:Array Oper} (S:rt9Ops ops) (a0:Act) (W:World) (v0:Value) (ts:List Tu) (t:Tu) (B:Nat) (gp:Nat)
  (B0:a0.eval (.tmp 0)=v0) (B4:a0.eval (.tmp 4)=.pointer (some ⟨gp,0,none⟩)) (hB:B=W.heap.size)
  (HP:∀ u,Below W.heap.size W u → RowIs u gp 48 (tuCells t)) (HV:∀ u,Below W.heap.size W u → TusAt u v0 ts) (hnil:ts=[] → v0=.slice none 0 0) (hlen:ts.length≤1999999)
  (Q:Exit → Act → World → Prop) (L:Array Bool) (a:Act) (w:World) (i:Nat) (hsz:L.size=ops.size) (hm:L.getD 5 false=false) (hne:i ≠ 5) (hi:i ∈ Region.ready .any ops L) (hI:MI (rt9P a0 W v0 ts t B) ops L a w) :
  wpOp Tryz.prog ops Q i (MI (rt9P a0 W v0 ts t B) ops (L.setIfInBounds i true)) a w:=by
 have hik:i < 7:=by have:=(ready_nots hi).2; rw [S.sz] at this; exact this
 have b0:=(hI.o.out 0 (.inl (by simp [rt9P]))).trans B0;have b4:=(hI.o.out 4 (.inl (by simp [rt9P]))).trans B4;have hP:=HP w hI.bel;have hV:=HV w hI.bel;have hBw:B≤w.heap.size:=by rw [hB]; exact hI.bel.size
 have put:∀ (i d':Nat) (hi:i ∈ Region.ready .any ops L) (hk:i < 7) (hd:rt9D i=d') (h1:6≤d') (h2:d' < 39) (v:Value) (w':World) (hb:Below w.heap.size w w') (hR:rt9R v0 ts t B i v w'),MI (rt9P a0 W v0 ts t B) ops (L.setIfInBounds i true) (a.put (some d') v) w':=fun i d' hi hk hd h1 h2 v w' hb hR =>
  hI.put hsz i hi d' hd (fun j hj hji=>by subst hd; exact rt9_inj j hj i hk hji) h1 h2 (by simp [rt9P]) (fun j v hj h=>rt9_st v0 ts t B hb j v hj h) v hb hR
 rcases (show i=0∨i=1∨i=2∨i=3∨i=4∨i=5∨i=6 by omega) with rfl | rfl | rfl | rfl | rfl | rfl | rfl
 ·refine S.p0.val (v:=.slice (some ⟨w.heap.size,0,none⟩) 0 0) (w':=w.alloc (.cells #[] 48)) (fun o ho=>?_) (put 0 33 hi (by decide) rfl (by decide) (by decide) _ _ ((Below.refl _ w).alloc (Nat.le_refl _) _) ⟨_,rfl,hBw,by unfold RowIs; rw [heap_alloc_new]⟩)
  simp only [execOp,ho];clear hI S hi hsz put HP HV hP hV;go_simp
 ·refine S.p1.val (v:=v0) (w':=w) (fun o ho=>?_) (put 1 34 hi (by decide) rfl (by decide) (by decide) _ _ (Below.refl _ _) rfl)
  simp only [execOp,ho,b0];clear hI S hi hsz put HP HV hP hV;go_simp
 ·have q0:=hI.val 0 (by simp [rt9P]) (S.w2_0.on hi);simp only [rt9P,rt9R,rt9D] at q0;have q1:=hI.val 1 (by simp [rt9P]) (S.w2_1.on hi);simp only [rt9P,rt9R,rt9D] at q1;obtain ⟨g1,q0,hg1,hr1⟩:=q0;obtain ⟨i1,hj,hy0,hy1,hy2⟩:=info_parts infoTup;obtain ⟨o,ho1,hg,hd,hop⟩:=S.p2;refine wpOp_of (E:=True) ho1 (step_appTu0 hg (.tmp 33) (.tmp 34) 25 hop B i1 _ Tryz.underlying25 hj hy0 hy1 hy2 rfl g1 q0 hg1 hr1 v0 ts q1 hV hnil (by omega) hBw ?_) hg
  intro v' w' hown' hb;rw [hd];exact put 2 35 hi (by decide) rfl (by decide) (by decide) _ _ hb hown'
 ·obtain ⟨s0,s1,s2,s3,s4,-,-,-,-,-⟩:=RowIs.rc5 (show RowIs w gp 48 [.string ⟨t.id.toArray⟩,.bool t.opn,.string ⟨t.contact.toArray⟩,.int .i64 t.prio,.string ⟨t.note.toArray⟩] from hP);refine S.p3.val (v:=tuV t) (w':=w) (fun o ho=>?_) (put 3 36 hi (by decide) rfl (by decide) (by decide) _ _ (Below.refl _ _) rfl)
  simp only [execOp,ho,b4,tuV];clear hI S hi hsz put HP HV hP hV;go_simp
 ·have q3:=hI.val 3 (by simp [rt9P]) (S.w4_3.on hi);simp only [rt9P,rt9R,rt9D] at q3;refine S.p4.val (v:=.slice (some ⟨w.heap.size,0,none⟩) 1 1) (w':=w.alloc (.cells #[.string ⟨t.id.toArray⟩,.bool t.opn,.string ⟨t.contact.toArray⟩,.int .i64 t.prio,.string ⟨t.note.toArray⟩] 48)) (fun o ho=>?_) (put 4 37 hi (by decide) rfl (by decide) (by decide) _ _ ((Below.refl _ w).alloc (Nat.le_refl _) _) ⟨_,rfl,by simp,by exact tu_newP w t _ rfl⟩)
  simp only [execOp,ho];have em:Array.map (fun x:Nat × Operand=>(x.fst,a.eval x.snd)) #[(0,Operand.tmp 36)]=#[(0,tuV t)]:=by simp only [List.map_toArray,List.map_cons,List.map_nil,q3]
  rw [em];unfold tuV;clear hI S hi hsz put HP HV hP hV;go_simp
 ·exact absurd rfl hne
 ·have h6:=S.w6_5.on hi;rw [hm] at h6; cases h6
set_option maxHeartbeats 4000000 in
set_option maxRecDepth 100000 in
theorem rt9_region {ops:Array Oper} (S:rt9Ops ops) (hlow:lowB .any ops=true) {Q:Exit → Act → World → Prop} {id:Nat} (a0:Act) (w:World) (v0:Value) (ts:List Tu) (t:Tu) (gp:Nat)
  (hsz:a0.tmps.size=39) (hdf:a0.defers=[]) (B0:a0.eval (.tmp 0)=v0) (B4:a0.eval (.tmp 4)=.pointer (some ⟨gp,0,none⟩))
  (hrow:RowIs w gp 48 (tuCells t)) (hv:TusAt w v0 ts) (hnil:ts=[] → v0=.slice none 0 0) (hlen:ts.length≤1999999)
  (fin:∀ (v':Value) (us:List Value) (u:World),us.length=32 → OwnU u w.heap.size v' (ts++[t]) → Below w.heap.size w u → Q .normal ⟨(a0.tmps.toList.take 6++(v' :: us)).toArray,[]⟩ u) :
  (Code.region id ops true).wp Tryz.prog Q a0 w:=by
 have hb0:Below w.heap.size w { w with drawn:=w.drawn+1 }:=⟨rfl,rfl,rfl,Nat.le_refl _,fun _ _=>rfl⟩
 have HP:∀ u,Below ({ w with drawn:=w.drawn+1 }:World).heap.size { w with drawn:=w.drawn+1 } u → RowIs u gp 48 (tuCells t):=fun u hu=>hrow.below (hb0.trans hu) hrow.bl;have HV:∀ u,Below ({ w with drawn:=w.drawn+1 }:World).heap.size { w with drawn:=w.drawn+1 } u → TusAt u v0 ts:=fun u hu=>hv.below (hb0.trans hu)
 refine wp_region_two followsC (rt9P a0 { w with drawn:=w.drawn+1 } v0 ts t w.heap.size) 5 rfl rfl hsz hdf (by rw [S.sz]; decide) hlow
  (fun L a u=>∃ v':Value,Outs (rt9P a0 { w with drawn:=w.drawn+1 } v0 ts t w.heap.size) a0 a∧a.eval (.tmp 38)=v'∧(L.getD 6 false=true → a.eval (.tmp 6)=v')∧OwnU u w.heap.size v' (ts++[t])∧Below w.heap.size w u∧(∀ i,i < 5 → L.getD i false=true))
  (fun L a u i h1 h2 h3 h4 h5=>rt9_head S a0 { w with drawn:=w.drawn+1 } v0 ts t w.heap.size gp B0 B4 rfl HP HV hnil hlen Q L a u i h1 h2 h3 h4 h5) ?_ ?_ ?_
 ·intro L a u hs hi hI;have q2:=hI.val 2 (by simp [rt9P]) (S.w5_2.on hi);have q4:=hI.val 4 (by simp [rt9P]) (S.w5_4.on hi);simp only [rt9P,rt9R,rt9D] at q2 q4;obtain ⟨g2,q4,_,hnew⟩:=q4;have hBu:w.heap.size≤u.heap.size:=hI.bel.size
  have h6:¬ L.getD 6 false=true:=fun h=>by
   have:=hI.dn 6 5 S.w6_5 h
   rw [(ready_nots hi).1] at this; cases this
  obtain ⟨i1,hj,hy0,hy1,hy2⟩:=info_parts infoTup;obtain ⟨o,ho1,hg,hd,hop⟩:=S.p5;refine wpOp_of (E:=True) ho1 (step_appTu hg (.tmp 35) (.tmp 37) 25 hop w.heap.size i1 _ Tryz.underlying25 hj hy0 hy1 hy2 rfl _ ts rfl q2 ⟨g2,0,none⟩ 1 t q4 hnew (by omega) hBu ?_) hg
  intro v' w' hown' hgr;rw [hd];refine ⟨v',hI.o.put 38 v' (by simp [rt9P]) (by simp [rt9P]),eval_put_same (by rw [hI.o.sz]; simp [rt9P]),fun hl=>?_,hown',hb0.trans (hI.bel.grown hgr hBu (fun g hg=>(World.ownsRow.lt q2 g hg).1)),fun i h=>?_⟩
  ·rw [getD_set_ne (by decide)] at hl; exact absurd hl h6
  ·rw [getD_set_ne (by omega)]
   rcases (show i=0∨i=1∨i=2∨i=3∨i=4 by omega) with rfl | rfl | rfl | rfl | rfl
   ·exact hI.dn 2 0 S.w2_0 (S.w5_2.on hi)
   ·exact hI.dn 2 1 S.w2_1 (S.w5_2.on hi)
   ·exact S.w5_2.on hi
   ·exact hI.dn 4 3 S.w4_3 (S.w5_4.on hi)
   ·exact S.w5_4.on hi
 ·rintro L a u i hs hm hi ⟨v',ho,h38,_,hown',hb,hall⟩;obtain ⟨hn,hlt⟩:=ready_nots hi;rw [S.sz] at hlt;by_cases hi5:i < 5
  ·rw [hall i hi5] at hn; cases hn
  rcases (show i=5∨i=6 by omega) with rfl | rfl
  ·rw [hm] at hn; cases hn
  ·refine S.p6.val (v:=v') (w':=u) (fun o hop=>?_) ⟨v',ho.put 6 _ (by simp [rt9P]) (by simp [rt9P]),by rw [eval_put_ne (by decide)]; exact h38,fun _=>eval_put_same (by rw [ho.sz]; simp [rt9P]),hown',hb,fun i h=>by rw [getD_set_ne (by omega)]; exact hall i h⟩
   simp only [execOp,hop,h38];clear ho hown' hb fin hall HP HV;go_simp
 ·rintro L a u hs hall ⟨v',ho,_,h6,hown',hb,_⟩;have h6:=h6 (hall 6 (by rw [S.sz]; decide));obtain ⟨us,hus,hau⟩:=ho.fin hsz (by simp [rt9P]) (by simp [rt9P]);simp only [rt9P] at hus hau;have hus:us.length=32+1:=hus;obtain ⟨u0,us1,rfl,hus1⟩:=cons_len hus;have hl:(a0.tmps.toList.take 6).length=6:=by simp; omega
  have hd0:a0.tmps.toList.drop 39=[]:=List.drop_of_length_le (by simp; omega);rw [hd0,List.append_nil] at hau
  have e6:a.eval (.tmp 6)=u0:=by
   rw [hau]
   simp [Act.eval,Array.getD_eq_getD_getElem?,List.getElem?_append,hsz]
  rw [h6] at e6;subst e6;rw [hau];exact fin v' us1 u hus1 hown' hb
end Go.Proofs.YtldkidljjbkmbaaGreatDoor
namespace Go.Proofs.YtldkidljjbkmbaaGreatDoor
open Go.RowKit Go.Maps Go.WideMaps Sc
theorem rdig17 (n:Int) (w:World) (h0:0≤n) (h1:n≤9223372036854775807) :
  Calls Tryz.prog 41 #[.int .i64 n] w fun e w'=>e=.returned (.string ⟨(digL n.toNat).toArray⟩)∧Below w.heap.size w w' :=
 (refdigits_any n.toNat n w (by omega) h0 h1).mono fun e w' h=>by
  obtain ⟨h1,q,rfl⟩:=h;exact ⟨h1,below_drewN w q⟩
set_option maxHeartbeats 4000000 in
set_option maxRecDepth 100000 in
theorem rtaken_full {w:World} {v:Value} {ts:List Tu} (hv:TusAt w v ts) (hf:16≤ts.length) (hz:ts.length≤2000000) (t:Tu) (num:Int) :
  Calls Tryz.prog 25 #[v,tuV t,.int .i64 num] w fun e w'=>e=.returned v∧Below w.heap.size w w':=by
 obtain ⟨ao,cap,rfl,_⟩:=hv;obtain ⟨n,hnn⟩:∃ n,n=ts.length:=⟨_,rfl⟩
 rw [← hnn] at hz hf ⊢;have hq:(16:Int)≤(n:Int):=by omega
 unfold tuV;have b0:Below w.heap.size w (w.alloc (.cells #[.string ⟨t.id.toArray⟩,.bool t.opn,.string ⟨t.contact.toArray⟩,.int .i64 t.prio,.string ⟨t.note.toArray⟩] 48)):=(Below.refl _ w).alloc (Nat.le_refl _) _
 go_enter Tryz.func25,Tryz.ntmps25
 go_wp2;go_ret;exact ⟨rfl,b0⟩
set_option maxHeartbeats 4000000 in
set_option maxRecDepth 100000 in
theorem rtaken_any {w:World} {v:Value} {ts:List Tu} (hv:TusAt w v ts) (hnil:ts=[] → v=.slice none 0 0) (hf:ts.length < 16) (t:Tu) (num:Int) (h0:0≤num) (h9:num≤9223372036854775807) :
  Calls Tryz.prog 25 #[v,tuV t,.int .i64 num] w fun e w'=>∃ v',e=.returned v'∧OwnU w' w.heap.size v' (ts++[⟨giveC ts num.toNat 17 1 t.id,t.opn,t.contact,t.prio,t.note⟩])∧Below w.heap.size w w':=by
 have KN:=hid (fun (u:World) (hb:Below w.heap.size w u) (id:List UInt8)=>rnamed_any (hv.below hb) (by omega) id);have KD:=hid (fun (u:World)=>rdig17 num u h0 h9);have KK:=hid (fun (u:World) (k:Nat) (hk:k≤18)=>rdig17 (k:Int) u (by omega) (by omega));have HV:=hid hv;have HNIL:=hid hnil;have HF:=hid (given_free hf num.toNat t.id);have HL:=hid (show (digL num.toNat).length≤19 from digL_len19 (by omega));obtain ⟨R,hR⟩:∃ R,R=giveC ts num.toNat 17 1 t.id:=⟨_,rfl⟩
 rw [← hR] at HF ⊢;have HR:=hid hR.symm;obtain ⟨ao,cap,rfl,_⟩:=hv;obtain ⟨n,hnn⟩:∃ n,n=ts.length:=⟨_,rfl⟩
 rw [← hnn] at hf KN HV HNIL ⊢;have HN:=hid hnn;have hq:¬ (16:Int)≤(n:Int):=by omega
 unfold tuV;have r0:=rc_row5 w (.string ⟨t.id.toArray⟩) (.bool t.opn) (.string ⟨t.contact.toArray⟩) (.int .i64 t.prio) (.string ⟨t.note.toArray⟩) 48;have b0:Below w.heap.size w (w.alloc (.cells #[.string ⟨t.id.toArray⟩,.bool t.opn,.string ⟨t.contact.toArray⟩,.int .i64 t.prio,.string ⟨t.note.toArray⟩] 48)):=(Below.refl _ w).alloc (Nat.le_refl _) _;clear hnil hR hnn
 go_enter Tryz.func25,Tryz.ntmps25
 go_upto_region 1 with fail
 have R0:=hid r0;have B0:=hid b0;have hwg:w.heap.size≤w.heap.size:=Nat.le_refl _;clear r0 b0;generalize hgt:w.heap.size=gt at R0 hwg ⊢;generalize World.alloc w _=w0 at R0 B0 ⊢;obtain ⟨y0,y1,y2,y3,y4,-,-,-,-,-⟩:=R0.out.rc5;go_wp2;clear y0 y1 y2 y3 y4;generalize num.toNat=N at KD HF HL HR
 go_loopw [7,8] (fun i k wr=>∃ (f k':Nat) (id:List UInt8),k'+f=18∧1≤k'∧i=.string ⟨id.toArray⟩∧k=.int .i64 k'∧Hid (giveC ts N f k' id=R)∧Hid (Below w0.heap.size w0 wr)) (fun _ k _=>18 - (intOf k).toNat)
 case atStart=>exact ⟨17,1,t.id,rfl,by omega,rfl,rfl,HR,hid (Below.refl _ _)⟩
 case round =>
  clear HR;obtain ⟨f,k,id,hkf,hk1,rfl,rfl,HG,HB⟩:=hrel;have HBw:=hid (B0.out.trans (HB.out.mono B0.out.size))
  cases f with
  | zero =>
   have hk17:¬ (k:Int)≤17:=by omega
   have hid0:id=R:=HG.out;subst hid0;clear HG;have HRt:=hid (R0.out.below HB.out R0.out.bl);have HBt:=hid (B0.out.trans (HB.out.mono B0.out.size));obtain ⟨y0,y1,y2,y3,y4,f0,f1,f2,f3,f4⟩:=HRt.out.rc5
   go_upto_region 9 with fail
   clear y0 y1 y2 y3 y4 f0 f1 f2 f3 f4;have RT5:=hid (show RowIs (wr.setCell ⟨gt,0,none⟩ (.string ⟨id.toArray⟩)) gt 48 (tuCells ⟨id,t.opn,t.contact,t.prio,t.note⟩) from by simpa [tuCells] using HRt.out.set 0 (.string ⟨id.toArray⟩));have HB5:=hid (HBt.out.setCell (p:=⟨gt,0,none⟩) (Nat.le_of_eq hgt) (.string ⟨id.toArray⟩));clear HRt HBt;generalize World.setCell _ _ _=u5 at RT5 HB5 ⊢;refine rt9_region ⟨rfl,⟨_,rfl,rfl,rfl,rfl⟩,⟨_,rfl,rfl,rfl,rfl⟩,⟨_,rfl,rfl,rfl,rfl⟩,⟨_,rfl,rfl,rfl,rfl⟩,⟨_,rfl,rfl,rfl,rfl⟩,⟨_,rfl,rfl,rfl,rfl⟩,⟨_,rfl,rfl,rfl,rfl⟩,waits_of (by kernel_rfl),waits_of (by kernel_rfl),waits_of (by kernel_rfl),waits_of (by kernel_rfl),waits_of (by kernel_rfl),waits_of (by kernel_rfl)⟩ (by kernel_rfl) _ u5 (.slice ao n cap) ts ⟨id,t.opn,t.contact,t.prio,t.note⟩ gt rfl rfl rfl rfl RT5.out (HV.out.below HB5.out) HNIL.out (by have:=HN.out; omega) ?_
   intro v' us u hus ho hb;obtain ⟨x0,us1,e0,hus1⟩:=cons_len (show us.length=31+1 from hus);subst e0;obtain ⟨x1,us2,e1,hus2⟩:=cons_len (show us1.length=30+1 from hus1);subst e1;obtain ⟨x2,us3,e2,hus3⟩:=cons_len (show us2.length=29+1 from hus2);subst e2;obtain ⟨x3,us4,e3,hus4⟩:=cons_len (show us3.length=28+1 from hus3);subst e3;obtain ⟨x4,us5,e4,hus5⟩:=cons_len (show us4.length=27+1 from hus4);subst e4;obtain ⟨x5,us6,e5,hus6⟩:=cons_len (show us5.length=26+1 from hus5);subst e5;obtain ⟨x6,us7,e6,hus7⟩:=cons_len (show us6.length=25+1 from hus6);subst e6;obtain ⟨x7,us8,e7,hus8⟩:=cons_len (show us7.length=24+1 from hus7);subst e7;obtain ⟨x8,us9,e8,hus9⟩:=cons_len (show us8.length=23+1 from hus8);subst e8;obtain ⟨x9,us10,e9,hus10⟩:=cons_len (show us9.length=22+1 from hus9);subst e9;obtain ⟨x10,us11,e10,hus11⟩:=cons_len (show us10.length=21+1 from hus10);subst e10;obtain ⟨x11,us12,e11,hus12⟩:=cons_len (show us11.length=20+1 from hus11);subst e11;obtain ⟨x12,us13,e12,hus13⟩:=cons_len (show us12.length=19+1 from hus12);subst e12;obtain ⟨x13,us14,e13,hus14⟩:=cons_len (show us13.length=18+1 from hus13);subst e13;obtain ⟨x14,us15,e14,hus15⟩:=cons_len (show us14.length=17+1 from hus14);subst e14;obtain ⟨x15,us16,e15,hus16⟩:=cons_len (show us15.length=16+1 from hus15);subst e15;obtain ⟨x16,us17,e16,hus17⟩:=cons_len (show us16.length=15+1 from hus16);subst e16;obtain ⟨x17,us18,e17,hus18⟩:=cons_len (show us17.length=14+1 from hus17);subst e17;obtain ⟨x18,us19,e18,hus19⟩:=cons_len (show us18.length=13+1 from hus18);subst e18;obtain ⟨x19,us20,e19,hus20⟩:=cons_len (show us19.length=12+1 from hus19);subst e19;obtain ⟨x20,us21,e20,hus21⟩:=cons_len (show us20.length=11+1 from hus20);subst e20;obtain ⟨x21,us22,e21,hus22⟩:=cons_len (show us21.length=10+1 from hus21);subst e21;obtain ⟨x22,us23,e22,hus23⟩:=cons_len (show us22.length=9+1 from hus22);subst e22;obtain ⟨x23,us24,e23,hus24⟩:=cons_len (show us23.length=8+1 from hus23);subst e23;obtain ⟨x24,us25,e24,hus25⟩:=cons_len (show us24.length=7+1 from hus24);subst e24;obtain ⟨x25,us26,e25,hus26⟩:=cons_len (show us25.length=6+1 from hus25);subst e25;obtain ⟨x26,us27,e26,hus27⟩:=cons_len (show us26.length=5+1 from hus26);subst e26;obtain ⟨x27,us28,e27,hus28⟩:=cons_len (show us27.length=4+1 from hus27);subst e27;obtain ⟨x28,us29,e28,hus29⟩:=cons_len (show us28.length=3+1 from hus28);subst e28;obtain ⟨x29,us30,e29,hus30⟩:=cons_len (show us29.length=2+1 from hus29);subst e29;obtain ⟨x30,us31,e30,hus31⟩:=cons_len (show us30.length=1+1 from hus30);subst e30;obtain ⟨x31,us32,e31,hus32⟩:=cons_len (show us31.length=0+1 from hus31);subst e31;obtain rfl:=List.eq_nil_of_length_eq_zero hus32;simp only [List.take_succ_cons,List.take_zero,List.drop_succ_cons,List.drop_zero,List.cons_append,List.nil_append];go_wp2;go_ret;subst hgt;exact ⟨v',rfl,own_lower ho HB5.out.size,HB5.out.trans (hb.mono HB5.out.size)⟩
  | succ f =>
   have hk17:(k:Int)≤17:=by omega
   have KNk:=hid (KN.out wr HBw.out id)
   cases hnm:namedC ts id
   ·rw [hnm] at KNk
    have hid0:id=R:=by
     have:=HG.out
     unfold giveC at this; rw [if_neg (by rw [hnm]; simp)] at this; exact this
    subst hid0;clear HG;go_wp2_with fail
    refine KNk.out.mono ?_
    rintro e w2 ⟨rfl,hb2⟩;have HB2:=hid (HB.out.trans (hb2.mono HB.out.size));clear hb2 KNk;have HRt:=hid (R0.out.below HB2.out R0.out.bl);have HBt:=hid (B0.out.trans (HB2.out.mono B0.out.size));obtain ⟨y0,y1,y2,y3,y4,f0,f1,f2,f3,f4⟩:=HRt.out.rc5
    go_upto_region 9 with fail
    clear y0 y1 y2 y3 y4 f0 f1 f2 f3 f4;have RT5:=hid (show RowIs (w2.setCell ⟨gt,0,none⟩ (.string ⟨id.toArray⟩)) gt 48 (tuCells ⟨id,t.opn,t.contact,t.prio,t.note⟩) from by simpa [tuCells] using HRt.out.set 0 (.string ⟨id.toArray⟩));have HB5:=hid (HBt.out.setCell (p:=⟨gt,0,none⟩) (Nat.le_of_eq hgt) (.string ⟨id.toArray⟩));clear HRt HBt;generalize World.setCell _ _ _=u5 at RT5 HB5 ⊢;refine rt9_region ⟨rfl,⟨_,rfl,rfl,rfl,rfl⟩,⟨_,rfl,rfl,rfl,rfl⟩,⟨_,rfl,rfl,rfl,rfl⟩,⟨_,rfl,rfl,rfl,rfl⟩,⟨_,rfl,rfl,rfl,rfl⟩,⟨_,rfl,rfl,rfl,rfl⟩,⟨_,rfl,rfl,rfl,rfl⟩,waits_of (by kernel_rfl),waits_of (by kernel_rfl),waits_of (by kernel_rfl),waits_of (by kernel_rfl),waits_of (by kernel_rfl),waits_of (by kernel_rfl)⟩ (by kernel_rfl) _ u5 (.slice ao n cap) ts ⟨id,t.opn,t.contact,t.prio,t.note⟩ gt rfl rfl rfl rfl RT5.out (HV.out.below HB5.out) HNIL.out (by have:=HN.out; omega) ?_
    intro v' us u hus ho hb;obtain ⟨x0,us1,e0,hus1⟩:=cons_len (show us.length=31+1 from hus);subst e0;obtain ⟨x1,us2,e1,hus2⟩:=cons_len (show us1.length=30+1 from hus1);subst e1;obtain ⟨x2,us3,e2,hus3⟩:=cons_len (show us2.length=29+1 from hus2);subst e2;obtain ⟨x3,us4,e3,hus4⟩:=cons_len (show us3.length=28+1 from hus3);subst e3;obtain ⟨x4,us5,e4,hus5⟩:=cons_len (show us4.length=27+1 from hus4);subst e4;obtain ⟨x5,us6,e5,hus6⟩:=cons_len (show us5.length=26+1 from hus5);subst e5;obtain ⟨x6,us7,e6,hus7⟩:=cons_len (show us6.length=25+1 from hus6);subst e6;obtain ⟨x7,us8,e7,hus8⟩:=cons_len (show us7.length=24+1 from hus7);subst e7;obtain ⟨x8,us9,e8,hus9⟩:=cons_len (show us8.length=23+1 from hus8);subst e8;obtain ⟨x9,us10,e9,hus10⟩:=cons_len (show us9.length=22+1 from hus9);subst e9;obtain ⟨x10,us11,e10,hus11⟩:=cons_len (show us10.length=21+1 from hus10);subst e10;obtain ⟨x11,us12,e11,hus12⟩:=cons_len (show us11.length=20+1 from hus11);subst e11;obtain ⟨x12,us13,e12,hus13⟩:=cons_len (show us12.length=19+1 from hus12);subst e12;obtain ⟨x13,us14,e13,hus14⟩:=cons_len (show us13.length=18+1 from hus13);subst e13;obtain ⟨x14,us15,e14,hus15⟩:=cons_len (show us14.length=17+1 from hus14);subst e14;obtain ⟨x15,us16,e15,hus16⟩:=cons_len (show us15.length=16+1 from hus15);subst e15;obtain ⟨x16,us17,e16,hus17⟩:=cons_len (show us16.length=15+1 from hus16);subst e16;obtain ⟨x17,us18,e17,hus18⟩:=cons_len (show us17.length=14+1 from hus17);subst e17;obtain ⟨x18,us19,e18,hus19⟩:=cons_len (show us18.length=13+1 from hus18);subst e18;obtain ⟨x19,us20,e19,hus20⟩:=cons_len (show us19.length=12+1 from hus19);subst e19;obtain ⟨x20,us21,e20,hus21⟩:=cons_len (show us20.length=11+1 from hus20);subst e20;obtain ⟨x21,us22,e21,hus22⟩:=cons_len (show us21.length=10+1 from hus21);subst e21;obtain ⟨x22,us23,e22,hus23⟩:=cons_len (show us22.length=9+1 from hus22);subst e22;obtain ⟨x23,us24,e23,hus24⟩:=cons_len (show us23.length=8+1 from hus23);subst e23;obtain ⟨x24,us25,e24,hus25⟩:=cons_len (show us24.length=7+1 from hus24);subst e24;obtain ⟨x25,us26,e25,hus26⟩:=cons_len (show us25.length=6+1 from hus25);subst e25;obtain ⟨x26,us27,e26,hus27⟩:=cons_len (show us26.length=5+1 from hus26);subst e26;obtain ⟨x27,us28,e27,hus28⟩:=cons_len (show us27.length=4+1 from hus27);subst e27;obtain ⟨x28,us29,e28,hus29⟩:=cons_len (show us28.length=3+1 from hus28);subst e28;obtain ⟨x29,us30,e29,hus30⟩:=cons_len (show us29.length=2+1 from hus29);subst e29;obtain ⟨x30,us31,e30,hus31⟩:=cons_len (show us30.length=1+1 from hus30);subst e30;obtain ⟨x31,us32,e31,hus32⟩:=cons_len (show us31.length=0+1 from hus31);subst e31;obtain rfl:=List.eq_nil_of_length_eq_zero hus32;simp only [List.take_succ_cons,List.take_zero,List.drop_succ_cons,List.drop_zero,List.cons_append,List.nil_append];go_wp2;go_ret;subst hgt;exact ⟨v',rfl,own_lower ho HB5.out.size,HB5.out.trans (hb.mono HB5.out.size)⟩
   ·rw [hnm] at KNk
    have HG2:=hid (show giveC ts N f (k+1) (candC N k)=R by
     have:=HG.out
     unfold giveC at this;rw [if_pos hnm] at this;exact this)
    obtain ⟨P1,P2,g1,g2,g3,l1,l2⟩:=giveglue N k;have KKk:=hid (fun (u:World)=>KK.out u k (by omega));have l0:=HL.out;have l4:(digL k).length≤19:=digL_len19 (by omega);have t1:=size_list (digL N);have t2:=size_list P1;have t3:=size_list P2;have t4:=size_list (digL k);clear HG;go_wp2_with fail
    refine KNk.out.mono ?_
    rintro e w2 ⟨rfl,hb2⟩;have HB2:=hid (HB.out.trans (hb2.mono HB.out.size));clear hb2 KNk HB;go_wp2_with fail
    refine (KD.out _).mono ?_
    rintro e w3 ⟨rfl,hb3⟩;have HB3:=hid (HB2.out.trans (hb3.mono HB2.out.size));clear hb3 HB2;go_wp2_with fail
    refine (KKk.out _).mono ?_
    rintro e w4 ⟨rfl,hb4⟩;have HB4:=hid (HB3.out.trans (hb4.mono HB3.out.size));clear hb4 HB3;go_wp2;go_roundw
    case rel=>exact ⟨f,k+1,candC N k,by omega,by omega,rfl,by go_num,HG2,HB4⟩
    case measure=>simp [intOf]; omega
structure Rc3 (w:World) (b6 b7:Nat) (u:World) (who:List UInt8):Prop where
 r4:RowIs u w.heap.size 28 [.string ⟨#[]⟩,.slice none 0 0,.slice none 0 0]
 r6:RowIs u b6 28 [.string ⟨#[]⟩,.slice none 0 0,.slice none 0 0]
 r7:RowIs u b7 28 [.string ⟨who.toArray⟩,.slice none 0 0,.slice none 0 0]
 bel:Below w.heap.size w u
 l6:w.heap.size < b6
 l7:b6 < b7
theorem Rc3.step {w u u':World} {b6 b7:Nat} {who:List UInt8} (h:Rc3 w b6 b7 u who) (hb:Below u.heap.size u u'):Rc3 w b6 b7 u' who :=
 ⟨h.r4.below hb h.r4.bl,h.r6.below hb h.r6.bl,h.r7.below hb h.r7.bl,h.bel.trans (hb.mono h.bel.size),h.l6,h.l7⟩
theorem rc3_new (w:World) (who:List UInt8):Rc3 w (w.heap.size+1) (w.heap.size+1+1) (((w.alloc (.cells #[.string ⟨#[]⟩,.slice none 0 0,.slice none 0 0] 28)).alloc (.cells #[.string ⟨#[]⟩,.slice none 0 0,.slice none 0 0] 28)).alloc (.cells #[.string ⟨who.toArray⟩,.slice none 0 0,.slice none 0 0] 28)) who:=by
 have h1:=rc_row3 w (.string ⟨#[]⟩) (.slice none 0 0) (.slice none 0 0) 28;have b1:Below w.heap.size w (w.alloc (.cells #[.string ⟨#[]⟩,.slice none 0 0,.slice none 0 0] 28)):=(Below.refl _ w).alloc (Nat.le_refl _) _;have s1:(w.alloc (.cells #[.string ⟨#[]⟩,.slice none 0 0,.slice none 0 0] 28)).heap.size=w.heap.size+1:=by simp
 generalize w.alloc _=u1 at h1 b1 s1 ⊢;have h2:=rc_row3 u1 (.string ⟨#[]⟩) (.slice none 0 0) (.slice none 0 0) 28;have b2:Below u1.heap.size u1 (u1.alloc (.cells #[.string ⟨#[]⟩,.slice none 0 0,.slice none 0 0] 28)):=(Below.refl _ u1).alloc (Nat.le_refl _) _;have s2:(u1.alloc (.cells #[.string ⟨#[]⟩,.slice none 0 0,.slice none 0 0] 28)).heap.size=w.heap.size+2:=by simp [s1]
 rw [s1] at h2;have h12:=h1.below b2 h1.bl;have b12:=b1.trans (b2.mono b1.size);generalize u1.alloc _=u2 at h2 h12 b12 s2 ⊢;have h3:=rc_row3 u2 (.string ⟨who.toArray⟩) (.slice none 0 0) (.slice none 0 0) 28;have b3:Below u2.heap.size u2 (u2.alloc (.cells #[.string ⟨who.toArray⟩,.slice none 0 0,.slice none 0 0] 28)):=(Below.refl _ u2).alloc (Nat.le_refl _) _;rw [s2] at h3;exact ⟨h12.below b3 h12.bl,h2.below b3 h2.bl,h3,b12.trans (b3.mono b12.size),by omega,by omega⟩
set_option maxHeartbeats 4000000 in
set_option maxRecDepth 100000 in
theorem rcomp_bad0 {w:World} {who:List UInt8} {v:Value} (hw:who.length+4≤1048640) (hc:checkD ⟨who,[],[]⟩ ≠ 0) :
  Calls Tryz.prog 12 #[.string ⟨who.toArray⟩,v] w fun e w'=>e=.returned (.tuple #[.agg #[.string ⟨#[]⟩,.slice none 0 0,.slice none 0 0],.int .i64 (checkD ⟨who,[],[]⟩)])∧Below w.heap.size w w':=by
 have KD:=hid (fun (u:World)=>rcheck14_any ⟨who,[],[]⟩ (.slice none 0 0) (.slice none 0 0) u ⟨by show who.length≤_; omega,by simp,by simp,by simp,by simp⟩ hw ⟨none,0,rfl,fun k hk=>by simp at hk⟩ ⟨none,0,rfl,fun k hk=>by simp at hk⟩);unfold docV at KD;simp only at KD;generalize checkD ⟨who,[],[]⟩=C at KD hc ⊢;have hc':(C != 0)=true:=by simpa using hc
 have H3:=hid (rc3_new w who)
 go_enter Tryz.func12,Tryz.ntmps12
 go_upto_region 3 with fail
 generalize World.alloc (World.alloc (World.alloc _ _) _) _=u3 at H3 ⊢;generalize w.heap.size+1+1=b7 at H3 ⊢;generalize w.heap.size+1=b6 at H3 ⊢;obtain ⟨z0,z1,z2,-,-,-⟩:=H3.out.r7.rc3;go_wp2_with fail
 refine (KD.out _).mono ?_
 rintro e u4 ⟨rfl,hb4⟩;have H4:=hid (H3.out.step hb4);clear hb4 z0 z1 z2
 go_upto_region 4 with fail
 have HD:=hid (H4.out.step (Below.refl _ u4).drew);obtain ⟨x0,x1,x2,f0,f1,f2⟩:=HD.out.r4.rc3;obtain ⟨y0,y1,y2,-,-,-⟩:=HD.out.r6.rc3;obtain ⟨z0,z1,z2,-,-,-⟩:=HD.out.r7.rc3;have n6:¬ b6=w.heap.size:=by have:=HD.out.l6; omega
 have n7:¬ b7=w.heap.size:=by have:=HD.out.l6; have:=HD.out.l7; omega
 have n6':¬ w.heap.size=b6:=fun e=>n6 e.symm;have n7':¬ w.heap.size=b7:=fun e=>n7 e.symm;clear H3 H4
 go_region_held3 (fun w'=>(w'.cell? ⟨b6,0,none⟩=some (.string ⟨#[]⟩)∧w'.cell? ⟨b6,1,none⟩=some (.slice none 0 0)∧w'.cell? ⟨b6,2,none⟩=some (.slice none 0 0))∧w'.cell? ⟨b7,0,none⟩=some (.string ⟨who.toArray⟩)∧w'.cell? ⟨b7,1,none⟩=some (.slice none 0 0)∧w'.cell? ⟨b7,2,none⟩=some (.slice none 0 0)) (go_keep) (first
  | (go_at_call 23; refine (KD.out _).mono ?_; rintro e w7 ⟨rfl,hw7⟩; have HD:=hid (HD.out.step hw7); clear x0 x1 x2 f0 f1 f2 y0 y1 y2 z0 z1 z2; obtain ⟨x0,x1,x2,f0,f1,f2⟩:=HD.out.r4.rc3; obtain ⟨y0,y1,y2,_,_,_⟩:=HD.out.r6.rc3; obtain ⟨z0,z1,z2,_,_,_⟩:=HD.out.r7.rc3; clear hw7))
 all_goals (
  have KEEP:=hid (keep3 HD.out.bel HD.out.r4 (.string ⟨#[]⟩) (.slice none 0 0) (.slice none 0 0));clear HD;generalize World.setCell _ _ _=w9 at KEEP ⊢;obtain ⟨d0,d1,d2,_⟩:=KEEP.out.1.rc3
  try go_wp2
  try simp only [Exit.inBlock,Exit.then]
  refine bodyPost_ret (v:=.tuple #[.agg #[.string ⟨#[]⟩,.slice none 0 0,.slice none 0 0],.int .i64 C]) (by simp [results,Tryz.results12,go_sem,d0,d1,d2]; try rfl) rfl ?_
  exact ⟨rfl,KEEP.out.2⟩)
theorem chk_step {cs:List PbC} {k:Nat} (hk:k < cs.length) {last:Int}:(last < cs[k].p.num → checkD cs[k].p.doc=0 → chkC last (pbsL (cs.drop k))=chkC cs[k].p.num (pbsL (cs.drop (k+1))))∧(cs[k].p.num≤last → chkC last (pbsL (cs.drop k))=1)∧(last < cs[k].p.num → checkD cs[k].p.doc ≠ 0 → chkC last (pbsL (cs.drop k))=checkD cs[k].p.doc):=by
 have h:=chk_drop hk last;refine ⟨fun h1 h2=>?_,fun h1=>?_,fun h1 h2=>?_⟩
 ·rw [h,if_neg (by omega),if_neg (fun e=>e h2)]
 ·rw [h,if_pos h1]
 ·rw [h,if_neg (by omega),if_pos h2]
set_option maxHeartbeats 4000000 in
set_option maxRecDepth 100000 in
theorem rcomp_bad1 {w:World} {who:List UInt8} {v:Value} {cs:List PbC} (hv:PbsAt w v cs) (ho:PbsOk w cs) (hw:who.length+4≤1048640) (hn:cs.length≤2000000) (hc:checkD ⟨who,[],[]⟩=0) (he:chkC 0 (pbsL cs) ≠ 0) :
  Calls Tryz.prog 12 #[.string ⟨who.toArray⟩,v] w fun e w'=>e=.returned (.tuple #[.agg #[.string ⟨#[]⟩,.slice none 0 0,.slice none 0 0],.int .i64 (chkC 0 (pbsL cs))])∧Below w.heap.size w w':=by
 have KD:=hid (fun (u:World)=>rcheck14_any ⟨who,[],[]⟩ (.slice none 0 0) (.slice none 0 0) u ⟨by show who.length≤_; omega,by simp,by simp,by simp,by simp⟩ hw ⟨none,0,rfl,fun k hk=>by simp at hk⟩ ⟨none,0,rfl,fun k hk=>by simp at hk⟩);rw [hc] at KD;unfold docV at KD;simp only at KD;have KC:=hid (fun (u:World) (c:PbC) (hc:c ∈ cs) (hb:Below w.heap.size w u)=>rcheck14_any c.p.doc c.ts c.ns u (ho.small c hc).1 (ho.small c hc).2 ((ho.docs.below hb) c hc).1 ((ho.docs.below hb) c hc).2);unfold docV at KC;have HV:=hid hv;have HO:=hid ho;obtain ⟨oa,cap,rfl⟩:=hv.form;obtain ⟨n,hnn⟩:∃ n,n=cs.length:=⟨_,rfl⟩
 rw [← hnn] at hn HV ⊢;have HN:=hid hnn;have HE:=hid he;have H3:=hid (rc3_new w who);clear hnn hv ho he
 go_enter Tryz.func12,Tryz.ntmps12
 go_upto_region 3 with fail
 generalize World.alloc (World.alloc (World.alloc _ _) _) _=u3 at H3 ⊢;generalize w.heap.size+1+1=b7 at H3 ⊢;generalize w.heap.size+1=b6 at H3 ⊢;obtain ⟨z0,z1,z2,-,-,-⟩:=H3.out.r7.rc3;go_wp2_with fail
 refine (KD.out _).mono ?_
 rintro e u4 ⟨rfl,hb4⟩;have H4:=hid (H3.out.step hb4);clear hb4 z0 z1 z2 H3;go_wp2
 go_loopw [8] (fun i wr=>∃ (k:Nat) (last:Int),k≤n∧i=.int .i64 k∧Hid (chkC 0 (pbsL cs)=chkC last (pbsL (cs.drop k)))∧0≤last∧Hid (k=0 → last=0)∧Hid (∀ j (hj:j < cs.length),k=j+1 → last=cs[j].p.num)∧Hid (Rc3 w b6 b7 wr who)) (fun i _=>n - (intOf i).toNat)
 case atStart=>exact ⟨0,0,by omega,rfl,hid rfl,by omega,hid (fun _=>rfl),hid (fun j hj e=>by omega),H4⟩
 case round =>
  clear H4;obtain ⟨k,last,hk,rfl,HC,hl0,HL0,HL1,H5⟩:=hrel;by_cases hlt:k < n
  ·have hlt':(k:Int) < (n:Int):=by omega
   have hkl:k < cs.length:=by rw [← HN.out]; exact hlt
   obtain ⟨oa',cap',hv',_,hat⟩:=HV.out;obtain ⟨ad,hoa,hab,hpb⟩:=hat k hkl
   injection hv' with g1 g2 g3
   subst g1;subst hoa;have hm:=List.getElem_mem hkl;have HDC:=hid (HO.out.docs _ hm);have HCS:=hid (chk_step hkl (last:=last));have HNUMK0:=hid (show cs[k].p.num=cs[k].p.num from rfl);have KCk:=hid (fun (u:World) (hb:Below w.heap.size w u)=>KC.out u cs[k] hm hb);have c0:=(hpb.below H5.out.bel hab).seven.c0;have HPB:=hid (fun (u:World) (hb:Below w.heap.size w u)=>(hpb.below hb hab).seven);obtain ⟨num,hnum⟩:∃ num,num=cs[k].p.num:=⟨_,rfl⟩
   have HNUMK:=hid hnum;obtain ⟨⟨ta,tc,hts,_⟩,⟨na2,nc,hns,_⟩⟩:=HDC.out;have HS1:=hid HCS.out.1;have HS2:=hid HCS.out.2.1;have HS3:=hid HCS.out.2.2;clear HCS HNUMK0 HDC hat hpb g2 g3 hm HNUMK;have HNUMJ:=hid (show ∀ (j:Nat) (hj:j < cs.length),k=j → num=cs[j].p.num from fun j hj e=>by subst e; exact hnum);generalize hcke:checkD cs[k].p.doc=ck at HS1 HS3 KCk;generalize hcpp:cs[k]=c at *;rw [← hnum] at c0 HS1 HS2 HS3;obtain ⟨tn,htn⟩:∃ tn,tn=c.p.doc.tuples.length:=⟨_,rfl⟩
   obtain ⟨qn,hqn⟩:∃ qn,qn=c.p.doc.notes.length:=⟨_,rfl⟩
   obtain ⟨ent,hent⟩:∃ ent,ent=c.p.doc.entity:=⟨_,rfl⟩
   rw [← htn] at hts;rw [← hqn] at hns;have HP3:=hid (show ∀ (u:World) (hb:Below w.heap.size w u),u.cell? ⟨(ad.add (k * 7)).block,(ad.add (k * 7)).off+4,none⟩=some (.string ⟨ent.toArray⟩)∧u.cell? ⟨(ad.add (k * 7)).block,(ad.add (k * 7)).off+5,none⟩=some (.slice ta tn tc)∧u.cell? ⟨(ad.add (k * 7)).block,(ad.add (k * 7)).off+6,none⟩=some (.slice na2 qn nc) from fun u hb=>⟨by rw [hent]; exact (HPB.out u hb).c4,by rw [← hts]; exact (HPB.out u hb).c5,by rw [← hns]; exact (HPB.out u hb).c6⟩);rw [hts,hns,← hent] at KCk;clear HPB hent hts hns htn hqn hcke hcpp hnum;by_cases hk0:k=0
   ·have hl:=HL0.out hk0;have qk:decide ((0:Int) < (k:Int))=false:=decide_eq_false (by omega);have qk2:decide (0 < k)=false:=decide_eq_false (by omega);have HK0:=hid hk0;have hl:=hid hl;have hll:last≤0:=by rw [hl.out]; exact Int.le_refl _
    clear hk0 hl;by_cases hn1:num < 1
    ·have q1:decide (num < 1)=true:=decide_eq_true hn1;have HX:=hid (HC.out.trans (HS2.out (by omega)));go_wp2
     go_quiet (fail)
     have HD:=hid (H5.out.step (below_drewN wr nq));clear c0
     try clear m0
     generalize World.drewN wr _=u6 at HD ⊢;obtain ⟨x0,x1,x2,f0,f1,f2⟩:=HD.out.r4.rc3;obtain ⟨y0,y1,y2,-,-,-⟩:=HD.out.r6.rc3;go_wp2;have KEEP:=hid (keep3 HD.out.bel HD.out.r4 (.string ⟨#[]⟩) (.slice none 0 0) (.slice none 0 0));clear HD;generalize World.setCell _ _ _=w9 at KEEP ⊢;obtain ⟨d0,d1,d2,_⟩:=KEEP.out.1.rc3
     try go_wp2
     try simp only [Exit.inBlock,Exit.then]
     refine bodyPost_ret (v:=.tuple #[.agg #[.string ⟨#[]⟩,.slice none 0 0,.slice none 0 0],.int .i64 1]) (by simp [results,Tryz.results12,go_sem,d0,d1,d2]; try rfl) rfl ?_
     exact ⟨by rw [HX.out],KEEP.out.2⟩
    ·have q1:decide (num < 1)=false:=decide_eq_false hn1;have HGT:=hid (show last < num by omega);go_wp2
     go_quiet (fail)
     have HD:=hid (H5.out.step (below_drewN wr nq));clear c0
     try clear m0
     generalize World.drewN wr _=u6 at HD ⊢;obtain ⟨c4,c5,c6⟩:=HP3.out u6 HD.out.bel;go_wp2_with fail
     refine (KCk.out u6 HD.out.bel).mono ?_
     rintro e u7 ⟨rfl,hb7⟩;have HD:=hid (HD.out.step hb7);clear hb7 c4 c5 c6;by_cases hck:ck=0
     ·subst hck;have HNX:=hid (HC.out.trans (HS1.out HGT.out rfl));go_wp2;go_roundw
      case rel=>exact ⟨k+1,num,by omega,by go_num,HNX,by have:=HGT.out; omega,hid (fun e=>by omega),hid (fun j hj e=>HNUMJ.out j hj (by omega)),HD⟩
      case measure=>simp [intOf]; omega
     ·have hck':(ck != 0)=true:=by simpa using hck
      have HX:=hid (HC.out.trans (HS3.out HGT.out hck))
      go_upto_region 11 with fail
      have HD:=hid (HD.out.step (Below.refl _ u7).drew);obtain ⟨x0,x1,x2,f0,f1,f2⟩:=HD.out.r4.rc3;obtain ⟨y0,y1,y2,-,-,-⟩:=HD.out.r6.rc3;obtain ⟨c4,c5,c6⟩:=HP3.out _ HD.out.bel;have n6:¬ b6=w.heap.size:=by have:=HD.out.l6; omega
      have n6':¬ w.heap.size=b6:=fun e=>n6 e.symm;have na:¬ (ad.add (k * 7)).block=w.heap.size:=by rw [add_block]; omega
      have na':¬ w.heap.size=(ad.add (k * 7)).block:=fun e=>na e.symm
      go_region_held3 (fun w'=>(w'.cell? ⟨b6,0,none⟩=some (.string ⟨#[]⟩)∧w'.cell? ⟨b6,1,none⟩=some (.slice none 0 0)∧w'.cell? ⟨b6,2,none⟩=some (.slice none 0 0))∧w'.cell? ⟨(ad.add (k * 7)).block,(ad.add (k * 7)).off+4,none⟩=some (.string ⟨ent.toArray⟩)∧w'.cell? ⟨(ad.add (k * 7)).block,(ad.add (k * 7)).off+5,none⟩=some (.slice ta tn tc)∧w'.cell? ⟨(ad.add (k * 7)).block,(ad.add (k * 7)).off+6,none⟩=some (.slice na2 qn nc)) (go_keep) (first
       | (go_at_call 23; refine (KCk.out _ HD.out.bel).mono ?_; rintro e w7 ⟨rfl,hw7⟩; have HD:=hid (HD.out.step hw7); clear x0 x1 x2 f0 f1 f2 y0 y1 y2 c4 c5 c6; obtain ⟨x0,x1,x2,f0,f1,f2⟩:=HD.out.r4.rc3; obtain ⟨y0,y1,y2,_,_,_⟩:=HD.out.r6.rc3; obtain ⟨c4,c5,c6⟩:=HP3.out _ HD.out.bel; clear hw7))
      all_goals (
       have KEEP:=hid (keep3 HD.out.bel HD.out.r4 (.string ⟨#[]⟩) (.slice none 0 0) (.slice none 0 0));clear HD;generalize World.setCell _ _ _=w9 at KEEP ⊢;obtain ⟨d0,d1,d2,_⟩:=KEEP.out.1.rc3
       try go_wp2
       try simp only [Exit.inBlock,Exit.then]
       refine bodyPost_ret (v:=.tuple #[.agg #[.string ⟨#[]⟩,.slice none 0 0,.slice none 0 0],.int .i64 ck]) (by simp [results,Tryz.results12,go_sem,d0,d1,d2]; try rfl) rfl ?_
       exact ⟨by rw [HX.out],KEEP.out.2⟩)
   ·obtain ⟨j,hj⟩:∃ j,k=j+1:=⟨k - 1,by omega⟩
    have hjl:j < cs.length:=by omega
    have hjn:j < n:=by omega
    obtain ⟨_,_,hv9,_,hat9⟩:=HV.out;obtain ⟨ad9,hoa9,hab9,hpb9⟩:=hat9 j hjl
    injection hv9 with hv9 hv9b hv9c
    clear hv9b hv9c;rw [← hv9] at hoa9
    injection hoa9 with hoa9
    subst hoa9;have m0:=(hpb9.below H5.out.bel hab9).seven.c0;rw [← HL1.out j hjl hj] at m0;have qs:(k:Int) - 1=(j:Int):=by omega
    have qk:decide ((0:Int) < (k:Int))=true:=decide_eq_true (by omega);have qk2:decide (0 < k)=true:=decide_eq_true (by omega);have qk3:0 < k:=by omega
    have hjn':(j:Int) < (n:Int):=by omega
    have HJ:=hid hj;clear hat9 hpb9 hj hv9;by_cases hn1:num < 1
    ·have q1:decide (num < 1)=true:=decide_eq_true hn1;have HX:=hid (HC.out.trans (HS2.out (by omega)));go_wp2
     go_quiet (fail)
     have HD:=hid (H5.out.step (below_drewN wr nq));clear c0
     try clear m0
     generalize World.drewN wr _=u6 at HD ⊢;obtain ⟨x0,x1,x2,f0,f1,f2⟩:=HD.out.r4.rc3;obtain ⟨y0,y1,y2,-,-,-⟩:=HD.out.r6.rc3;go_wp2;have KEEP:=hid (keep3 HD.out.bel HD.out.r4 (.string ⟨#[]⟩) (.slice none 0 0) (.slice none 0 0));clear HD;generalize World.setCell _ _ _=w9 at KEEP ⊢;obtain ⟨d0,d1,d2,_⟩:=KEEP.out.1.rc3
     try go_wp2
     try simp only [Exit.inBlock,Exit.then]
     refine bodyPost_ret (v:=.tuple #[.agg #[.string ⟨#[]⟩,.slice none 0 0,.slice none 0 0],.int .i64 1]) (by simp [results,Tryz.results12,go_sem,d0,d1,d2]; try rfl) rfl ?_
     exact ⟨by rw [HX.out],KEEP.out.2⟩
    ·have q1:decide (num < 1)=false:=decide_eq_false hn1;by_cases hle:num≤last
     ·have q2:decide (num≤last)=true:=decide_eq_true hle;have HX:=hid (HC.out.trans (HS2.out hle));go_wp2
      go_quiet (fail)
      have HD:=hid (H5.out.step (below_drewN wr nq));clear c0
      try clear m0
      generalize World.drewN wr _=u6 at HD ⊢;obtain ⟨x0,x1,x2,f0,f1,f2⟩:=HD.out.r4.rc3;obtain ⟨y0,y1,y2,-,-,-⟩:=HD.out.r6.rc3;go_wp2;have KEEP:=hid (keep3 HD.out.bel HD.out.r4 (.string ⟨#[]⟩) (.slice none 0 0) (.slice none 0 0));clear HD;generalize World.setCell _ _ _=w9 at KEEP ⊢;obtain ⟨d0,d1,d2,_⟩:=KEEP.out.1.rc3
      try go_wp2
      try simp only [Exit.inBlock,Exit.then]
      refine bodyPost_ret (v:=.tuple #[.agg #[.string ⟨#[]⟩,.slice none 0 0,.slice none 0 0],.int .i64 1]) (by simp [results,Tryz.results12,go_sem,d0,d1,d2]; try rfl) rfl ?_
      exact ⟨by rw [HX.out],KEEP.out.2⟩
     ·have q2:decide (num≤last)=false:=decide_eq_false hle;have HGT:=hid (show last < num by omega);go_wp2
      go_quiet (fail)
      have HD:=hid (H5.out.step (below_drewN wr nq));clear c0
      try clear m0
      generalize World.drewN wr _=u6 at HD ⊢;obtain ⟨c4,c5,c6⟩:=HP3.out u6 HD.out.bel;go_wp2_with fail
      refine (KCk.out u6 HD.out.bel).mono ?_
      rintro e u7 ⟨rfl,hb7⟩;have HD:=hid (HD.out.step hb7);clear hb7 c4 c5 c6;by_cases hck:ck=0
      ·subst hck;have HNX:=hid (HC.out.trans (HS1.out HGT.out rfl));go_wp2;go_roundw
       case rel=>exact ⟨k+1,num,by omega,by go_num,HNX,by have:=HGT.out; omega,hid (fun e=>by omega),hid (fun j hj e=>HNUMJ.out j hj (by omega)),HD⟩
       case measure=>simp [intOf]; omega
      ·have hck':(ck != 0)=true:=by simpa using hck
       have HX:=hid (HC.out.trans (HS3.out HGT.out hck))
       go_upto_region 11 with fail
       have HD:=hid (HD.out.step (Below.refl _ u7).drew);obtain ⟨x0,x1,x2,f0,f1,f2⟩:=HD.out.r4.rc3;obtain ⟨y0,y1,y2,-,-,-⟩:=HD.out.r6.rc3;obtain ⟨c4,c5,c6⟩:=HP3.out _ HD.out.bel;have n6:¬ b6=w.heap.size:=by have:=HD.out.l6; omega
       have n6':¬ w.heap.size=b6:=fun e=>n6 e.symm;have na:¬ (ad.add (k * 7)).block=w.heap.size:=by rw [add_block]; omega
       have na':¬ w.heap.size=(ad.add (k * 7)).block:=fun e=>na e.symm
       go_region_held3 (fun w'=>(w'.cell? ⟨b6,0,none⟩=some (.string ⟨#[]⟩)∧w'.cell? ⟨b6,1,none⟩=some (.slice none 0 0)∧w'.cell? ⟨b6,2,none⟩=some (.slice none 0 0))∧w'.cell? ⟨(ad.add (k * 7)).block,(ad.add (k * 7)).off+4,none⟩=some (.string ⟨ent.toArray⟩)∧w'.cell? ⟨(ad.add (k * 7)).block,(ad.add (k * 7)).off+5,none⟩=some (.slice ta tn tc)∧w'.cell? ⟨(ad.add (k * 7)).block,(ad.add (k * 7)).off+6,none⟩=some (.slice na2 qn nc)) (go_keep) (first
        | (go_at_call 23; refine (KCk.out _ HD.out.bel).mono ?_; rintro e w7 ⟨rfl,hw7⟩; have HD:=hid (HD.out.step hw7); clear x0 x1 x2 f0 f1 f2 y0 y1 y2 c4 c5 c6; obtain ⟨x0,x1,x2,f0,f1,f2⟩:=HD.out.r4.rc3; obtain ⟨y0,y1,y2,_,_,_⟩:=HD.out.r6.rc3; obtain ⟨c4,c5,c6⟩:=HP3.out _ HD.out.bel; clear hw7))
       all_goals (
        have KEEP:=hid (keep3 HD.out.bel HD.out.r4 (.string ⟨#[]⟩) (.slice none 0 0) (.slice none 0 0));clear HD;generalize World.setCell _ _ _=w9 at KEEP ⊢;obtain ⟨d0,d1,d2,_⟩:=KEEP.out.1.rc3
        try go_wp2
        try simp only [Exit.inBlock,Exit.then]
        refine bodyPost_ret (v:=.tuple #[.agg #[.string ⟨#[]⟩,.slice none 0 0,.slice none 0 0],.int .i64 ck]) (by simp [results,Tryz.results12,go_sem,d0,d1,d2]; try rfl) rfl ?_
        exact ⟨by rw [HX.out],KEEP.out.2⟩)
  ·exfalso
   have h:=HC.out;rw [List.drop_of_length_le (by have:=HN.out; omega)] at h;exact HE.out h
end Go.Proofs.YtldkidljjbkmbaaGreatDoor
