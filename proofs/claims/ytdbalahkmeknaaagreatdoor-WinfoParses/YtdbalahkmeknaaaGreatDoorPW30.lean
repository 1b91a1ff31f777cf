/-
  WR7, RX15, WR8, WnP, RX12L, RX12.
-/
import Derived.Test.YtdbalahkmeknaaaGreatDoorPW31
import Derived.Test.YtdbalahkmeknaaaGreatDoorPW19
import Derived.Test.YtdbalahkmeknaaaGreatDoorPW25
set_option linter.unusedVariables false
set_option linter.unusedSimpArgs false
set_option maxRecDepth 20000
namespace Go.Proofs.YtdbalahkmeknaaaGreatDoor
open Go.RowKit Sc
set_option maxHeartbeats 4000000 in
set_option maxRecDepth 100000 in
theorem rg15_steps {ops:Array Oper} (S:rg15Ops ops) (a0:Act) (W:World) (B b n cap k tn tc:Nat) (vo:Option Addr) (ad:Addr) (wid:Int) (tx st ev:List UInt8)
  (B0:a0.eval (.tmp 0)=.slice (some ad) n cap)
  (B3:a0.eval (.tmp 3)=.pointer (some ⟨b,0,none⟩))
  (B8:a0.eval (.tmp 8)=.int .i64 (k:Int))
  (B11:a0.eval (.tmp 11)=.string ⟨st.toArray⟩)
  (B13:a0.eval (.tmp 13)=.string ⟨ev.toArray⟩)
  (B15:a0.eval (.tmp 15)=.int .i64 wid)
  (hkn:k < n) (htx:tx.length≤140737488355328) (HR:∀ u,Below W.heap.size W u → u.cell? ⟨b,2,none⟩=some (.slice vo tn tc)) (HT:∀ u,Below W.heap.size W u → u.cell? ⟨(ad.add (k * 4)).block,(ad.add (k * 4)).off+3,none⟩=some (.string ⟨tx.toArray⟩))
  (Q:Exit → Act → World → Prop) (L:Array Bool) (a:Act) (w:World) (i:Nat) (hsz:L.size=ops.size) (hm:L.getD 13 false=false) (hne:i ≠ 13) (hi:i ∈ Region.ready .any ops L) (hI:MI (rg15P a0 W B b n cap k tn tc vo ad wid tx st ev) ops L a w) :
  wpOp Tryz.prog ops Q i (MI (rg15P a0 W B b n cap k tn tc vo ad wid tx st ev) ops (L.setIfInBounds i true)) a w:=by
 have evc:∀ v,a.eval (.const v)=v:=fun _=>rfl;have hik:i < 16:=by have:=(ready_nots hi).2; rw [S.sz] at this; exact this
 have b0:=(hI.o.out 0 (.inl (by simp [rg15P]))).trans B0;have b3:=(hI.o.out 3 (.inl (by simp [rg15P]))).trans B3;have b8:=(hI.o.out 8 (.inl (by simp [rg15P]))).trans B8;have b11:=(hI.o.out 11 (.inl (by simp [rg15P]))).trans B11;have b13:=(hI.o.out 13 (.inl (by simp [rg15P]))).trans B13;have b15:=(hI.o.out 15 (.inl (by simp [rg15P]))).trans B15;have hR:=HR w hI.bel;have hT:=HT w hI.bel;have hki:(k:Int) < (n:Int):=by omega
 have put:∀ (i d:Nat) (hi:i ∈ Region.ready .any ops L) (hk:i < 15) (hd:rg15D i=d) (h1:80≤d) (h2:d < 95) (v:Value) (w':World) (hb:Below w.heap.size w w') (hR:rg15R B b n cap k tn tc vo ad wid tx st ev i v w'),MI (rg15P a0 W B b n cap k tn tc vo ad wid tx st ev) ops (L.setIfInBounds i true) (a.put (some d) v) w':=fun i d hi hk hd h1 h2 v w' hb hR =>
  hI.put hsz i hi d hd (fun j hj hji=>by subst hd; exact rg15_inj j hj i hk hji) h1 h2 (by simp [rg15P]) (fun j v hj h=>rg15_st B b n cap k tn tc vo ad wid tx st ev hb j v hj h) v hb hR
 rcases (show i=0∨i=1∨i=2∨i=3∨i=4∨i=5∨i=6∨i=7∨i=8∨i=9∨i=10∨i=11∨i=12∨i=13∨i=14∨i=15 by omega) with rfl | rfl | rfl | rfl | rfl | rfl | rfl | rfl | rfl | rfl | rfl | rfl | rfl | rfl | rfl | rfl
 ·refine S.p0.val (v:=.pointer (some ⟨b,2,none⟩)) (w':=w) (fun o ho=>?_) (put 0 80 hi (by decide) rfl (by decide) (by decide) _ _ (Below.refl _ _) rfl)
  simp only [execOp,ho,b3];clear hI S hi hsz put evc HR HT;go_simp
 ·have q0:=hI.val 0 (by simp [rg15P]) (S.w1_0.on hi);simp only [rg15P,rg15R,rg15D] at q0;refine S.p1.val (v:=.slice vo tn tc) (w':=w) (fun o ho=>?_) (put 1 81 hi (by decide) rfl (by decide) (by decide) _ _ (Below.refl _ _) rfl)
  simp only [execOp,ho,q0];clear hI S hi hsz put evc HR HT;go_simp
 ·refine S.p2.val (v:=.int .i64 wid) (w':=w) (fun o ho=>?_) (put 2 82 hi (by decide) rfl (by decide) (by decide) _ _ (Below.refl _ _) rfl)
  simp only [execOp,ho,b15];clear hI S hi hsz put evc HR HT;go_simp
 ·refine S.p3.val (v:=.slice (some ad) n cap) (w':=w) (fun o ho=>?_) (put 3 83 hi (by decide) rfl (by decide) (by decide) _ _ (Below.refl _ _) rfl)
  simp only [execOp,ho,b0];clear hI S hi hsz put evc HR HT;go_simp
 ·refine S.p4.val (v:=.int .i64 (k:Int)) (w':=w) (fun o ho=>?_) (put 4 84 hi (by decide) rfl (by decide) (by decide) _ _ (Below.refl _ _) rfl)
  simp only [execOp,ho,b8];clear hI S hi hsz put evc HR HT;go_simp
 ·have q3:=hI.val 3 (by simp [rg15P]) (S.w5_3.on hi);simp only [rg15P,rg15R,rg15D] at q3;have q4:=hI.val 4 (by simp [rg15P]) (S.w5_4.on hi);simp only [rg15P,rg15R,rg15D] at q4;refine S.p5.val (v:=.pointer (some (ad.add (k * 4)))) (w':=w) (fun o ho=>?_) (put 5 85 hi (by decide) rfl (by decide) (by decide) _ _ (Below.refl _ _) rfl)
  simp only [execOp,ho,q3,q4];clear hI S hi hsz put evc HR HT;go_simp
  try omega
 ·have q5:=hI.val 5 (by simp [rg15P]) (S.w6_5.on hi);simp only [rg15P,rg15R,rg15D] at q5;refine S.p6.val (v:=.pointer (some ⟨(ad.add (k * 4)).block,(ad.add (k * 4)).off+3,none⟩)) (w':=w) (fun o ho=>?_) (put 6 86 hi (by decide) rfl (by decide) (by decide) _ _ (Below.refl _ _) rfl)
  simp only [execOp,ho,q5];clear hI S hi hsz put evc HR HT;go_simp
 ·have q6:=hI.val 6 (by simp [rg15P]) (S.w7_6.on hi);simp only [rg15P,rg15R,rg15D] at q6;refine S.p7.val (v:=.string ⟨tx.toArray⟩) (w':=w) (fun o ho=>?_) (put 7 87 hi (by decide) rfl (by decide) (by decide) _ _ (Below.refl _ _) rfl)
  simp only [execOp,ho,q6];clear hI S hi hsz put evc HR HT;go_simp
 ·have q7:=hI.val 7 (by simp [rg15P]) (S.w8_7.on hi);simp only [rg15P,rg15R,rg15D] at q7;refine S.p8.enter (vals:=#[.string ⟨tx.toArray⟩,.int .i64 4]) (by simp only [List.map_toArray,List.map_cons,List.map_nil,evc,q7]) (fun xs u=>by kernel_rfl) ?_
  refine (rbehind_any tx 4 w htx (by decide)).mono ?_
  rintro e w' ⟨rfl,hw'⟩; subst hw'
  exact ⟨_,rfl,put 8 88 hi (by decide) rfl (by decide) (by decide) _ _ (Below.refl _ _) rfl⟩
 ·refine S.p9.val (v:=.string ⟨st.toArray⟩) (w':=w) (fun o ho=>?_) (put 9 89 hi (by decide) rfl (by decide) (by decide) _ _ (Below.refl _ _) rfl)
  simp only [execOp,ho,b11];clear hI S hi hsz put evc HR HT;go_simp
 ·refine S.p10.val (v:=.string ⟨ev.toArray⟩) (w':=w) (fun o ho=>?_) (put 10 90 hi (by decide) rfl (by decide) (by decide) _ _ (Below.refl _ _) rfl)
  simp only [execOp,ho,b13];clear hI S hi hsz put evc HR HT;go_simp
 ·have q2:=hI.val 2 (by simp [rg15P]) (S.w11_2.on hi);simp only [rg15P,rg15R,rg15D] at q2;have q8:=hI.val 8 (by simp [rg15P]) (S.w11_8.on hi);simp only [rg15P,rg15R,rg15D] at q8;have q9:=hI.val 9 (by simp [rg15P]) (S.w11_9.on hi);simp only [rg15P,rg15R,rg15D] at q9;have q10:=hI.val 10 (by simp [rg15P]) (S.w11_10.on hi);simp only [rg15P,rg15R,rg15D] at q10;refine S.p11.val (v:=.agg #[.int .i64 wid,.string ⟨(tx.drop 4).toArray⟩,.string ⟨st.toArray⟩,.string ⟨ev.toArray⟩]) (w':=w) (fun o ho=>?_) (put 11 91 hi (by decide) rfl (by decide) (by decide) _ _ (Below.refl _ _) rfl)
  simp only [execOp,ho,q2,q8,q9,q10];have em:Array.map (fun x:Nat × Operand=>(x.fst,a.eval x.snd)) #[(0,Operand.tmp 82),(1,Operand.tmp 88),(2,Operand.tmp 89),(3,Operand.tmp 90)]=#[(0,.int .i64 wid),(1,.string ⟨(tx.drop 4).toArray⟩),(2,.string ⟨st.toArray⟩),(3,.string ⟨ev.toArray⟩)]:=by simp only [List.map_toArray,List.map_cons,List.map_nil,q2,q8,q9,q10]
  try rw [em]
  clear hI S hi hsz put evc HR HT;go_simp
 ·have q11:=hI.val 11 (by simp [rg15P]) (S.w12_11.on hi);simp only [rg15P,rg15R,rg15D] at q11;refine S.p12.val (v:=.slice (some ⟨w.heap.size,0,none⟩) 1 1) (w':=w.alloc (.cells #[.int .i64 wid,.string ⟨(tx.drop 4).toArray⟩,.string ⟨st.toArray⟩,.string ⟨ev.toArray⟩] 51)) (fun o ho=>?_) (put 12 92 hi (by decide) rfl (by decide) (by decide) _ _ ((Below.refl _ w).alloc (Nat.le_refl _) _) ⟨_,rfl,by simp,by exact wt_new w ⟨wid,tx.drop 4,st,ev⟩ _ rfl⟩)
  simp only [execOp,ho];have em:Array.map (fun x:Nat × Operand=>(x.fst,a.eval x.snd)) #[(0,Operand.tmp 91)]=#[(0,.agg #[.int .i64 wid,.string ⟨(tx.drop 4).toArray⟩,.string ⟨st.toArray⟩,.string ⟨ev.toArray⟩])]:=by simp only [List.map_toArray,List.map_cons,List.map_nil,q11]
  rw [em];clear hI S hi hsz put evc HR HT;go_simp
 ·exact absurd rfl hne
 ·refine S.p14.val (v:=.pointer (some ⟨b,2,none⟩)) (w':=w) (fun o ho=>?_) (put 14 94 hi (by decide) rfl (by decide) (by decide) _ _ (Below.refl _ _) rfl)
  simp only [execOp,ho,b3];clear hI S hi hsz put evc HR HT;go_simp
 ·have:=S.w15_13.on hi
  rw [hm] at this; cases this
set_option maxHeartbeats 4000000 in
set_option maxRecDepth 100000 in
theorem rg15_region {ops:Array Oper} (S:rg15Ops ops) (hlow:lowB .any ops=true) (hpar:parentB ops 13=true) {Q:Exit → Act → World → Prop} {id:Nat} (a0:Act) (w:World) (B b n cap k tn tc:Nat) (vo:Option Addr) (ad:Addr) (wid:Int) (tx st ev:List UInt8)
  (hsz:a0.tmps.size=96) (hdf:a0.defers=[]) (B0:a0.eval (.tmp 0)=.slice (some ad) n cap) (B3:a0.eval (.tmp 3)=.pointer (some ⟨b,0,none⟩)) (B8:a0.eval (.tmp 8)=.int .i64 (k:Int)) (B11:a0.eval (.tmp 11)=.string ⟨st.toArray⟩) (B13:a0.eval (.tmp 13)=.string ⟨ev.toArray⟩) (B15:a0.eval (.tmp 15)=.int .i64 wid)
  (hkn:k < n) (htx:tx.length≤140737488355328) (x0 x1:Value) (hrow:RowIs w b 24 [x0,x1,.slice vo tn tc]) (hbB:b < B) (hBw:B≤w.heap.size) (hadB:ad.block < w.heap.size)
  (hT:w.cell? ⟨(ad.add (k * 4)).block,(ad.add (k * 4)).off+3,none⟩=some (.string ⟨tx.toArray⟩))
  (ts:List Wt) (hown:OwnW w B (.slice vo tn tc) ts) (hlen:ts.length≤1000000)
  (fin:∀ (v':Value) (us:List Value) (u:World),us.length=15 → OwnW u B v' (ts++[⟨wid,tx.drop 4,st,ev⟩]) → Below B w u → Q .normal ⟨(a0.tmps.toList.take 80++(us++a0.tmps.toList.drop 95)).toArray,[]⟩ (u.setCell ⟨b,2,none⟩ v')) :
  (Code.region id ops true).wp Tryz.prog Q a0 w:=by
 have hb0:Below w.heap.size w { w with drawn:=w.drawn+1 }:=⟨rfl,rfl,rfl,Nat.le_refl _,fun _ _=>rfl⟩
 have HR:∀ u,Below ({ w with drawn:=w.drawn+1 }:World).heap.size { w with drawn:=w.drawn+1 } u → u.cell? ⟨b,2,none⟩=some (.slice vo tn tc):=fun u hu=>(RowIs.rc3 (hrow.below (hb0.trans hu) (Nat.lt_of_lt_of_le hbB hBw))).3;have HT:∀ u,Below ({ w with drawn:=w.drawn+1 }:World).heap.size { w with drawn:=w.drawn+1 } u → u.cell? ⟨(ad.add (k * 4)).block,(ad.add (k * 4)).off+3,none⟩=some (.string ⟨tx.toArray⟩):=fun u hu=>cell_below (hb0.trans hu) (by simp only [add_block]; exact hadB) hT;obtain ⟨i1,hj,hy0,hy1,hy2⟩:=info_parts infoWt
 refine wp_region_two followsM (rg15P a0 { w with drawn:=w.drawn+1 } B b n cap k tn tc vo ad wid tx st ev) 13 rfl rfl hsz hdf (by rw [S.sz]; decide) hlow
  (fun L a u=>∃ v':Value,Outs (rg15P a0 { w with drawn:=w.drawn+1 } B b n cap k tn tc vo ad wid tx st ev) a0 a∧a.eval (.tmp 93)=v'∧(L.getD 14 false=true → a.eval (.tmp 94)=.pointer (some ⟨b,2,none⟩))∧(∀ i,i < 13 → L.getD i false=true)∧∃ u0,OwnW u0 B v' (ts++[⟨wid,tx.drop 4,st,ev⟩])∧Below B w u0∧u=if L.getD 15 false=true then u0.setCell ⟨b,2,none⟩ v' else u0)
  (fun L a u i h1 h2 h3 h4 h5=>rg15_steps S a0 { w with drawn:=w.drawn+1 } B b n cap k tn tc vo ad wid tx st ev B0 B3 B8 B11 B13 B15 hkn htx HR HT Q L a u i h1 h2 h3 h4 h5) ?_ ?_ ?_
 ·intro L a u hs hi hI;have q1:=hI.val 1 (by simp [rg15P]) (S.w13_1.on hi);have q12:=hI.val 12 (by simp [rg15P]) (S.w13_12.on hi);simp only [rg15P,rg15R,rg15D] at q1 q12;obtain ⟨g2,q12,_,hnew⟩:=q12;have hb1:Below w.heap.size w u:=hb0.trans hI.bel;have hall:=parent_all hpar hi hI.dn;have h14:L.getD 14 false=true → a.eval (.tmp 94)=.pointer (some ⟨b,2,none⟩):=fun hl=>hI.val 14 (by simp [rg15P]) hl
  have h15:L.getD 15 false=false:=by
   cases h:L.getD 15 false with
   | false=>rfl
   | true=>have:=hI.dn 15 13 S.w15_13 h; rw [(ready_nots hi).1] at this; cases this
  obtain ⟨o,ho1,hg,hd,hop⟩:=S.p13;refine wpOp_of (E:=True) ho1 (step_appW hg (.tmp 81) (.tmp 92) 22 hop B i1 _ Tryz.underlying22 hj hy0 hy1 hy2 rfl (.slice vo tn tc) ts q1 (hown.below hb1) ⟨g2,0,none⟩ 1 ⟨wid,tx.drop 4,st,ev⟩ q12 hnew (by omega) (Nat.le_trans hBw hb1.size) ?_) hg
  intro v' w' hown' hfr;rw [hd];refine ⟨v',hI.o.put 93 v' (by simp [rg15P]) (by simp [rg15P]),eval_put_same (by rw [hI.o.sz]; simp [rg15P]),fun hl=>?_,fun j hj=>?_,w',hown',(hb1.mono hBw).trans hfr,?_⟩
  ·rw [getD_set_ne (by decide)] at hl;rw [eval_put_ne (by decide)]; exact h14 hl
  ·rw [getD_set_ne (by omega)]; exact hall j hj
  ·rw [getD_set_ne (by decide),h15]; rfl
 ·rintro L a u i hs hm hi ⟨v',ho,he,h14,hall,u0,hown',hbu,hu⟩;obtain ⟨hn,hlt⟩:=ready_nots hi;rw [S.sz] at hlt;by_cases hi13:i < 13
  ·rw [hall i hi13] at hn; cases hn
  rcases (show i=13∨i=14∨i=15 by omega) with rfl | rfl | rfl
  ·rw [hm] at hn; cases hn
  ·have b3:=(ho.out 3 (.inl (by simp [rg15P]))).trans B3;refine S.p14.val (v:=.pointer (some ⟨b,2,none⟩)) (w':=u) (fun o ho2=>?_) ⟨v',ho.put 94 _ (by simp [rg15P]) (by simp [rg15P]),by rw [eval_put_ne (by decide)]; exact he,fun _=>eval_put_same (by rw [ho.sz]; simp [rg15P]),fun j hj=>by rw [getD_set_ne (by omega)]; exact hall j hj,u0,hown',hbu,by rw [getD_set_ne (by decide)]; exact hu⟩
   simp only [execOp,ho2,b3];clear hu hbu hown' hall h14 ho;go_simp
  ·have q14:=h14 (S.w15_14.on hi);rw [hn] at hu;simp only [Bool.false_eq_true,if_false] at hu;subst hu;have hr:=RowIs.rc3 (hrow.below hbu hbB);refine S.p15.skip (w':=u.setCell ⟨b,2,none⟩ v') (fun o ho2=>?_) ⟨v',ho,he,fun _=>q14,fun j hj=>by rw [getD_set_ne (by omega)]; exact hall j hj,u,hown',hbu,by rw [getD_set_same (by rw [hs,S.sz]; decide)]; rfl⟩
   obtain ⟨va,vcap,hvf⟩:=hown'.form;subst hvf;have hc:=hr.3;obtain ⟨_,_,_,_,_,hf⟩:=hr;simp only [execOp,ho2,q14,he];clear hall h14 ho hbu hown' hT HT HR;go_simp
 ·rintro L a u hs hall ⟨v',ho,he,h14,_,u0,hown',hbu,hu⟩;rw [hall 15 (by rw [S.sz]; decide)] at hu;simp only [if_true] at hu;subst hu;obtain ⟨us,hus,hau⟩:=ho.fin hsz (by simp [rg15P]) (by simp [rg15P]);rw [hau];exact fin v' us u0 hus hown' hbu
theorem attG_at {nm:List UInt8} {l:List Par} {k:Nat} (hk:k < l.length):attG nm (l.drop k)=if l[k].name=nm then some l[k].value else attG nm (l.drop (k+1)):=by
 rw [List.drop_eq_getElem_cons hk,attG]
theorem attG_end {nm:List UInt8} {l:List Par} {k:Nat} (hk:l.length≤k):attG nm (l.drop k)=none:=by
 rw [List.drop_eq_nil_of_le hk,attG]
def attV (o:Option (List UInt8)):Value:=match o with
 | none=>.tuple #[.string ⟨#[]⟩,.bool false]
 | some v=>.tuple #[.string ⟨v.toArray⟩,.bool true]
set_option maxHeartbeats 2000000 in
set_option maxRecDepth 100000 in
theorem rattG_any (x:Nd) (a:Value) (nm:List UInt8) (w:World) (hz:x.attrs.length≤140737488355328) (hv:ParsAt w a x.attrs) :
  Calls Tryz.prog 62 #[ndV x a,.string ⟨nm.toArray⟩] w fun e w'=>e=.returned (attV (attG nm x.attrs))∧Below w.heap.size w w':=by
 obtain ⟨xd,xn,ps,xt⟩:=x;unfold ndV;simp only at hz hv ⊢;obtain ⟨ao,cap,rfl,hc⟩:=hv.open;have HC:=hid hc;have hbn:Below w.heap.size w (w.alloc (.cells #[.int .i64 xd,.string ⟨xn.toArray⟩,.slice ao ps.length cap,.string ⟨xt.toArray⟩] 49)):=(Below.refl _ w).alloc (Nat.le_refl _) _;have hr:=rc_row4 w (.int .i64 xd) (.string ⟨xn.toArray⟩) (.slice ao ps.length cap) (.string ⟨xt.toArray⟩) 49;obtain ⟨R,hR⟩:∃ R,R=attG nm ps:=⟨_,rfl⟩
 rw [← hR];have HR:Hid (R=attG nm (ps.drop 0)):=hR;obtain ⟨n,hn⟩:∃ n,n=ps.length:=⟨_,rfl⟩
 rw [← hn] at hz hbn hr ⊢;have HL:=hid hn;clear hn hR hc hv;obtain ⟨b0,b1,b2,b3,_,_,_,_⟩:=hr.rc4;clear hr
 go_enter Tryz.func62,Tryz.ntmps62
 go_wp2;generalize World.alloc w _=W at hbn b0 b1 b2 b3 ⊢
 go_loopw [6] (fun i wr=>∃ k:Nat,k≤n∧i=.int .i64 k∧Hid (R=attG nm (ps.drop k))∧wr=W) (fun i _=>n - (intOf i).toNat)
 case atStart=>exact ⟨0,Nat.zero_le _,rfl,HR,rfl⟩
 case round =>
  obtain ⟨k,hk,rfl,hv,rfl⟩:=hrel;clear HR;by_cases hlt:k < n
  ·have hkl:k < ps.length:=by have:=HL.out; omega
   obtain ⟨ad,hao,hab,c0,c1,c2⟩:=HC.out k hkl;subst hao;have hv2:=hv.out;rw [attG_at hkl] at hv2;have q6:(k:Int) < (n:Int):=by omega
   have a0:=cell_below hbn (by rw [add_block]; exact hab) c0;have a1:=cell_below hbn (by simp only [add_block]; exact hab) c1;clear c0 c1 c2;generalize ps[k]=P at a0 a1 hv2;obtain ⟨pn,pv,ph⟩:=P;simp only at a0 a1 hv2;by_cases he:pn=nm
   ·rw [if_pos he] at hv2;have hE:=hid hv2;have e1:(pn==nm)=true:=by rw [beq_iff_eq]; exact he
    clear hv hv2 he;go_wp2;go_ret2;exact ⟨by rw [hE.out]; rfl,hbn⟩
   ·rw [if_neg he] at hv2;have hE:=hid hv2;have e1:(pn==nm)=false:=by rw [beq_eq_false_iff_ne]; exact he
    clear hv hv2 he;go_wp2;go_roundw
    case rel=>exact ⟨k+1,by omega,by go_num,hE,by first | rfl | trivial⟩
    case measure=>simp [intOf]; omega
  ·have hE:Hid (R=none):=show _=_ by rw [hv.out]; exact attG_end (by have:=HL.out; omega)
   have q6:¬ (k:Int) < (n:Int):=by omega
   clear hv;go_wp2;go_ret2;exact ⟨by rw [hE.out]; rfl,hbn⟩
theorem wattV_is (o:Option (List UInt8)):attV o=.tuple #[.string ⟨(o.getD []).toArray⟩,.bool o.isSome]:=by cases o <;> rfl
theorem rattW_any (x:Nd) (a:Value) (nm:List UInt8) (w:World) (hz:x.attrs.length≤140737488355328) (hv:ParsAt w a x.attrs) :
  Calls Tryz.prog 62 #[ndV x a,.string ⟨nm.toArray⟩] w fun e w'=>e=.returned (.tuple #[.string ⟨(wattV nm x).toArray⟩,.bool (attG nm x.attrs).isSome])∧Below w.heap.size w w':=by
 have K:=rattG_any x a nm w hz hv;rw [wattV_is] at K;exact K
theorem rnumW_any (l:List UInt8) (most:Int) (w:World) (hl:l.length≤140737488355328) (h0:0≤most) (h1:most≤1099511627776) :
  Calls Tryz.prog 63 #[.string ⟨l.toArray⟩,.int .i64 most] w fun e w'=>e=.returned (.tuple #[.int .i64 (numV most l).1,.int .i64 (numV most l).2])∧w'=w:=by
 have K:=refnumber_any ⟨l.toArray⟩ most w (by rw [size_list]; unfold maxLen; omega) (by omega) (by omega)
 simpa using K
theorem guess_get {l:List Nd} (h:2≤l.length):guessI l=⟨(numV 2147483647 (wattV versionK (l[0]'(by omega)))).1,(wattV resourceK (l[1]'(by omega))).drop 4,(l.drop 2).map wtOf⟩:=by
 match l,h with
 | a :: b :: r,_=>rfl
theorem guess_few {l:List Nd} (h:l.length < 2):guessI l=noI:=by
 match l,h with
 | [],_=>rfl
 | [a],_=>rfl
theorem gnext {l:List Nd} {k:Nat} (h2:2≤k) (hk:k < l.length):((l.take (k+1)).drop 2).map wtOf=((l.take k).drop 2).map wtOf++[wtOf l[k]]:=by
 rw [List.take_succ_eq_append_getElem hk,List.drop_append_of_le_length (by rw [List.length_take]; omega),List.map_append]; rfl
theorem list15I {α:Type} {l:List α} (h:l.length=15):∃ a0 a1 a2 a3 a4 a5 a6 a7 a8 a9 a10 a11 a12 a13 a14,l=[a0,a1,a2,a3,a4,a5,a6,a7,a8,a9,a10,a11,a12,a13,a14]:=by
 match l,h with
 | [a0,a1,a2,a3,a4,a5,a6,a7,a8,a9,a10,a11,a12,a13,a14],_=>exact ⟨a0,a1,a2,a3,a4,a5,a6,a7,a8,a9,a10,a11,a12,a13,a14,rfl⟩
theorem nds_at {W:World} {ad:Addr} {cn vc:Nat} {cs:List NdC} (h:NdsAt W (.slice (some ad) cn vc) cs) (k:Nat) (hk:k < cs.length):ad.block < W.heap.size∧NdAt W ad k cs[k]∧ParsAt W cs[k].a cs[k].nd.attrs:=by
 obtain ⟨ao,cap,e,hc⟩:=h;obtain ⟨ad',e1,h1⟩:=hc k hk
 injection e with e
 rw [e1] at e
 injection e with e
 subst e;exact h1
theorem node0 {W:World} {ad:Addr} {v:Value} (h:W.cell? (ad.add (0 * 4))=some v):W.cell? ad=some v:=by simpa [Addr.add] using h
theorem node0b {W:World} {ad:Addr} {j:Nat} {v:Value} (h:W.cell? ⟨(ad.add (0 * 4)).block,(ad.add (0 * 4)).off+j,none⟩=some v):W.cell? ⟨ad.block,ad.off+j,none⟩=some v:=by simpa [Addr.add] using h
theorem node1 {W:World} {ad:Addr} {v:Value} (h:W.cell? (ad.add (1 * 4))=some v):W.cell? ⟨ad.block,ad.off+4,none⟩=some v:=by simpa [Addr.add] using h
theorem node1b {W:World} {ad:Addr} {j:Nat} {v:Value} (h:W.cell? ⟨(ad.add (1 * 4)).block,(ad.add (1 * 4)).off+j,none⟩=some v):W.cell? ⟨ad.block,ad.off+4+j,none⟩=some v:=by simpa [Addr.add] using h
set_option maxHeartbeats 4000000 in
set_option maxRecDepth 100000 in
theorem rguess_any (v:Value) (cs:List NdC) (w:World) (hz:cs.length≤1000) (hsm:∀ c ∈ cs,SmallN 1048576 c.nd) (hv:NdsAt w v cs) :
  Calls Tryz.prog 32 #[v] w fun e w'=>GuP (guessI (ndsL cs)) w e w':=by
 have HNW:=hid (fun (W':World) (h:Below w.heap.size w W')=>hv.below h);have HSM:=hid hsm;obtain ⟨va,vc,hvf⟩:=hv.form;obtain ⟨cn,hcn⟩:∃ cn,cn=cs.length:=⟨_,rfl⟩
 rw [← hcn] at hvf hz;subst hvf;have HCN:=hid hcn;clear hv hsm;have hG:=hid (gu_new w);by_cases h2:cn < 2
 ·have r1:(cn:Int) < 2:=by omega
  have hR:=guess_few (l:=ndsL cs) (by rw [ndsL_len]; omega);rw [hR];clear hR h2 hz hcn HSM HNW
  go_enter Tryz.func32,Tryz.ntmps32
  go_upto_region 2 with fail
  generalize World.alloc (World.alloc w _) _=W0 at hG ⊢;obtain ⟨x0,x1,x2,_,_,_⟩:=hG.out.row.rc3;obtain ⟨y0,y1,y2,f0,f1,f2⟩:=hG.out.res.rc3;have hD:=hid hG.out.done;clear hG;go_wp2;generalize World.setCell _ _ _=w9 at hD ⊢;obtain ⟨d1,d2,d3⟩:=hD.out;obtain ⟨e0,e1,e2,_,_,_⟩:=d2.rc3
  try simp only [Exit.inBlock,Exit.then]
  refine bodyPost_ret (v:=infV noI (.slice none 0 0)) (by simp [results,Tryz.results32,go_sem,e0,e1,e2,infV,noI]; try rfl) rfl ?_
  exact ⟨_,rfl,d1,d3⟩
 have r1:¬ (cn:Int) < 2:=by omega
 have hl2:2≤(ndsL cs).length:=by rw [ndsL_len]; omega
 have h0c:0 < cs.length:=by omega
 have h1c:1 < cs.length:=by omega
 have hR:=guess_get hl2;have e0:(ndsL cs)[0]'(by omega)=cs[0].nd:=ndsL_get h0c;have e1:(ndsL cs)[1]'(by omega)=cs[1].nd:=ndsL_get h1c;rw [e0,e1] at hR;obtain ⟨R,hRR⟩:∃ R,R=guessI (ndsL cs):=⟨_,rfl⟩
 rw [← hRR] at hR ⊢;have KA:=hid (fun (j:Nat) (hj:j < cs.length) nm w' (h:ParsAt w' cs[j].a cs[j].nd.attrs)=>rattW_any cs[j].nd cs[j].a nm w' (by have:=(HSM.out _ (List.getElem_mem hj)).2.2.1.1; omega) h);have KL:=hid (fun (j:Nat) (hj:j < cs.length) nm=>watt_small (nm:=nm) (HSM.out _ (List.getElem_mem hj)).2.2.1);have KN:=hid (fun l most w' (h:l.length≤1048576) h0 h1=>rnumW_any l most w' (by omega) h0 h1);have hsV:=KL.out 0 h0c versionK;have hsR:=KL.out 1 h1c resourceK;have KA0:=hid (KA.out 0 h0c versionK);have KA1:=hid (KA.out 1 h1c resourceK);have HR:=hid hR;have HN0:=hid (fun (W':World) (h:Below w.heap.size w W')=>by obtain ⟨ao,cap,e,hc⟩:=HNW.out W' h; exact (show ∃ ad,va=some ad∧ad.block < W'.heap.size∧NdAt W' ad 0 cs[0]∧ParsAt W' cs[0].a cs[0].nd.attrs by obtain ⟨ad,q1,q2⟩:=hc 0 h0c; injection e with e; exact ⟨ad,e.trans q1,q2⟩));have HN1:=hid (fun (W':World) (h:Below w.heap.size w W')=>by obtain ⟨ao,cap,e,hc⟩:=HNW.out W' h; exact (show ∃ ad,va=some ad∧ad.block < W'.heap.size∧NdAt W' ad 1 cs[1]∧ParsAt W' cs[1].a cs[1].nd.attrs by obtain ⟨ad,q1,q2⟩:=hc 1 h1c; injection e with e; exact ⟨ad,e.trans q1,q2⟩));generalize hVV:wattV versionK cs[0].nd=VV at hsV KA0 HR;generalize hRV:wattV resourceK cs[1].nd=RV at hsR KA1 HR;have KV:=hid (fun w'=>KN.out VV 2147483647 w' hsV (by decide) (by decide));have KB:=hid (fun w'=>rbehind_any RV 4 w' (by omega) (by decide));generalize numV 2147483647 VV=NV at KV HR;generalize (attG versionK cs[0].nd.attrs).isSome=b0 at KA0;generalize (attG resourceK cs[1].nd.attrs).isSome=b1 at KA1;have HC0:=hid (show ∃ c,c=cs[0] from ⟨_,rfl⟩);obtain ⟨ad,hva,_,n0,p0⟩:=HN0.out _ hG.out.bel;subst hva;obtain ⟨ad1,had1,_,n1,p1⟩:=HN1.out _ hG.out.bel
 injection had1 with had1
 subst had1;generalize cs[0]=C0 at n0 p0 KA0 HN0;generalize cs[1]=C1 at n1 p1 KA1 HN1;obtain ⟨⟨d0,nm0,as0,tx0⟩,av0⟩:=C0;obtain ⟨⟨d1,nm1,as1,tx1⟩,av1⟩:=C1;obtain ⟨c00,c01,c02,c03⟩:=n0;simp only at c00 c01 c02 c03 p0 KA0;have c00:=node0 c00;have c01:=node0b c01;have c02:=node0b c02;have c03:=node0b c03;clear hVV hRV hsV hsR hR hRR e0 e1 hl2 h2 hcn n1 p1 HC0 HN0
 go_enter Tryz.func32,Tryz.ntmps32
 go_upto_region 4 with fail
 generalize World.alloc (World.alloc w _) _=W0 at hG c00 c01 c02 c03 p0 ⊢;unfold ndV at KA0;simp only at KA0;obtain ⟨pa,pc,hpf⟩:=p0.form;subst hpf;go_wp2_with fail
 refine (KA0.out W0 p0).mono ?_
 rintro e w1 ⟨rfl,hw1⟩;have hG1:=hid (hG.out.below hw1);clear c00 c01 c02 c03 p0 KA0 hw1 hG;obtain ⟨ad1,had1,_,n1,p1⟩:=HN1.out _ hG1.out.bel
 injection had1 with had1
 subst had1;obtain ⟨c10,c11,c12,c13⟩:=n1;simp only at c10 c11 c12 c13 p1 KA1;have c10:=node1 c10;have c11:=node1b c11;have c12:=node1b c12;have c13:=node1b c13;unfold ndV at KA1;simp only at KA1;obtain ⟨pa1,pc1,hpf⟩:=p1.form;subst hpf;go_wp2_with fail
 refine (KA1.out w1 p1).mono ?_
 rintro e w2 ⟨rfl,hw2⟩;have hG2:=hid (hG1.out.below hw2);clear c10 c11 c12 c13 p1 KA1 hw2 hG1 HN1;obtain ⟨y0,y1,y2,f0,f1,f2⟩:=hG2.out.row.rc3
 go_upto_region 6 with fail
 go_wp2_with fail
 refine (KV.out _).mono ?_
 rintro e w3 ⟨rfl,hw3⟩;rw [hw3];clear hw3 w3;have hG3:=hid (hG2.out.set0 (.int .i64 NV.1))
 go_upto_region 7 with fail
 generalize World.setCell _ _ _=w3 at hG3 ⊢;clear hG2 y0 y1 y2 f0 f1 f2 KV;obtain ⟨y0,y1,y2,f0,f1,f2⟩:=hG3.out.row.rc3;go_wp2_with fail
 refine (KB.out _).mono ?_
 rintro e w4 ⟨rfl,hw4⟩;rw [hw4];clear hw4 w4;have hG4:=hid (hG3.out.set1 (.string ⟨(RV.drop 4).toArray⟩))
 go_upto_region 8 with fail
 generalize World.setCell _ _ _=w4 at hG4 ⊢;clear hG3 y0 y1 y2 f0 f1 f2 KB;go_wp2
 go_loopw [8] (fun i wr=>∃ (k:Nat) (ts:List Wt) (vo:Option Addr) (tn tc:Nat),2≤k∧k≤cn∧i=.int .i64 (k:Int)∧Hid (ts=(((ndsL cs).take k).drop 2).map wtOf)∧Hid (tn=ts.length)∧tn≤k∧Hid (GuS w wr (.int .i64 NV.1) (.string ⟨(RV.drop 4).toArray⟩) (.slice vo tn tc) ts)) (fun i _=>cn - (intOf i).toNat)
 case atStart=>exact ⟨2,[],none,0,0,Nat.le_refl _,by omega,rfl,show _=_ by rw [List.drop_of_length_le (by rw [List.length_take]; omega)]; rfl,show _=_ from rfl,by omega,hG4⟩
 case round =>
  clear hG4;obtain ⟨k,ts,vo,tn,tc,hk2,hkn,rfl,hts,htn,htk,hG⟩:=hrel;by_cases hlt:k < cn
  ·have hkl:k < cs.length:=by have:=HCN.out; omega
   have q6:(k:Int) < (cn:Int):=by omega
   obtain ⟨hab,n0,p0⟩:=nds_at (HNW.out wr hG.out.bel) k hkl;have HKP:=hid (fun (W':World) (h:Below wr.heap.size wr W')=>And.intro (n0.below h hab) (p0.below h));have HWT:=hid (gnext (l:=ndsL cs) hk2 (by rw [ndsL_len]; exact hkl));rw [ndsL_get hkl] at HWT;have hwt:wtOf cs[k].nd=⟨(numV 1099511627776 ((wattV pidK cs[k].nd).drop 1)).1,cs[k].nd.text.drop 4,wattV pstatK cs[k].nd,wattV weventK cs[k].nd⟩:=rfl;rw [hwt] at HWT;have hs1:=KL.out k hkl pidK;have htx:=(HSM.out _ (List.getElem_mem hkl)).2.1;have KA1:=hid (KA.out k hkl pidK);have KA2:=hid (KA.out k hkl pstatK);have KA3:=hid (KA.out k hkl weventK);generalize wattV pidK cs[k].nd=ID at HWT hs1 KA1;generalize wattV pstatK cs[k].nd=ST at HWT KA2;generalize wattV weventK cs[k].nd=EV at HWT KA3;generalize (attG pidK cs[k].nd.attrs).isSome=i1 at KA1;generalize (attG pstatK cs[k].nd.attrs).isSome=i2 at KA2;generalize (attG weventK cs[k].nd.attrs).isSome=i3 at KA3;generalize cs[k]=C at n0 p0 HKP HWT htx KA1 KA2 KA3;obtain ⟨⟨dp,nm,asx,tx⟩,av⟩:=C;have KD1:=hid (fun w'=>rbehind_any ID 1 w' (by omega) (by decide));have hdl:(ID.drop 1).length≤1048576:=by rw [List.length_drop]; omega
   have KN1:=hid (fun w'=>KN.out (ID.drop 1) 1099511627776 w' hdl (by decide) (by decide));generalize numV 1099511627776 (ID.drop 1)=NW at KN1 HWT;generalize ID.drop 1=ID1 at KD1 KN1;clear hs1 hdl hwt;obtain ⟨c0,c1,c2,c3⟩:=n0;unfold ndV at KA1 KA2 KA3;simp only at c0 c1 c2 c3 p0 KA1 KA2 KA3 HWT htx HKP;obtain ⟨pa,pc,hpf⟩:=p0.form;subst hpf;clear KA KL KN HR;go_wp2_with fail
   refine (KA1.out wr p0).mono ?_
   rintro e w1 ⟨rfl,hw1⟩;have hG1:=hid (hG.out.below hw1);have hbA:=hw1;clear c0 c1 c2 c3 p0 KA1 hG hw1;obtain ⟨⟨c0,c1,c2,c3⟩,p0⟩:=HKP.out w1 hbA;simp only at c0 c1 c2 c3 p0;go_wp2_with fail
   refine (KA2.out w1 p0).mono ?_
   rintro e w2 ⟨rfl,hw2⟩;have hG2:=hid (hG1.out.below hw2);have hbB:=hbA.trans (hw2.mono hbA.size);clear c0 c1 c2 c3 p0 KA2 hG1 hw2 hbA;obtain ⟨⟨c0,c1,c2,c3⟩,p0⟩:=HKP.out w2 hbB;simp only at c0 c1 c2 c3 p0;go_wp2_with fail
   refine (KA3.out w2 p0).mono ?_
   rintro e w3 ⟨rfl,hw3⟩;have hG3:=hid (hG2.out.below hw3);have hbC:=hbB.trans (hw3.mono hbB.size);clear c0 c1 c2 c3 p0 KA3 hG2 hw3 hbB;obtain ⟨⟨c0,c1,c2,c3⟩,p0⟩:=HKP.out w3 hbC;simp only at c0 c1 c2 c3 p0;have hab3:ad.block < w3.heap.size:=Nat.lt_of_lt_of_le hab hbC.size;have HC3:=hid c3;clear c0 c1 c2 c3 p0 HKP hbC hab;go_wp2_with fail
   refine (KD1.out _).mono ?_
   rintro e w4 ⟨rfl,hw4⟩;rw [hw4];clear hw4 w4;go_wp2_with fail
   refine (KN1.out _).mono ?_
   rintro e w5 ⟨rfl,hw5⟩;rw [hw5];clear hw5 w5
   go_upto_region 15 with fail
   refine rg15_region ⟨rfl,⟨_,rfl,rfl,rfl,rfl⟩,⟨_,rfl,rfl,rfl,rfl⟩,⟨_,rfl,rfl,rfl,rfl⟩,⟨_,rfl,rfl,rfl,rfl⟩,⟨_,rfl,rfl,rfl,rfl⟩,⟨_,rfl,rfl,rfl,rfl⟩,⟨_,rfl,rfl,rfl,rfl⟩,⟨_,rfl,rfl,rfl,rfl⟩,⟨_,rfl,rfl,rfl,rfl⟩,⟨_,rfl,rfl,rfl,rfl⟩,⟨_,rfl,rfl,rfl,rfl⟩,⟨_,rfl,rfl,rfl,rfl⟩,⟨_,rfl,rfl,rfl,rfl⟩,⟨_,rfl,rfl,rfl,rfl⟩,⟨_,rfl,rfl,rfl,rfl⟩,⟨_,rfl,rfl,rfl,rfl⟩,waits_of (by kernel_rfl),waits_of (by kernel_rfl),waits_of (by kernel_rfl),waits_of (by kernel_rfl),waits_of (by kernel_rfl),waits_of (by kernel_rfl),waits_of (by kernel_rfl),waits_of (by kernel_rfl),waits_of (by kernel_rfl),waits_of (by kernel_rfl),waits_of (by kernel_rfl),waits_of (by kernel_rfl),waits_of (by kernel_rfl),waits_of (by kernel_rfl),waits_of (by kernel_rfl)⟩ (by kernel_rfl) (by kernel_rfl) _ w3 (w.heap.size+2) (w.heap.size+1) cn vc k tn tc vo ad NW.1 tx ST EV rfl rfl rfl rfl rfl rfl rfl rfl hlt (by omega) (.int .i64 NV.1) (.string ⟨(RV.drop 4).toArray⟩) hG3.out.row (by omega) hG3.out.lt hab3 HC3.out ts hG3.out.own (by have:=htn.out; omega) ?_
   intro v' us u hus hown hbu;obtain ⟨r0,r1,r2,r3,r4,r5,r6,r7,r8,r9,r10,r11,r12,r13,r14,rfl⟩:=list15I hus;have hG4:=hid (hG3.out.app hbu hown);obtain ⟨vo6,vc6,hvf⟩:=hown.form;obtain ⟨n6,hn6⟩:∃ n6,n6=(ts++[(⟨NW.1,tx.drop 4,ST,EV⟩:Wt)]).length:=⟨_,rfl⟩
   rw [← hn6] at hvf;subst hvf;have HN6:=hid hn6;have HL6:Hid (ts++[(⟨NW.1,tx.drop 4,ST,EV⟩:Wt)]=(((ndsL cs).take (k+1)).drop 2).map wtOf):=show _=_ by rw [HWT.out,hts.out]
   clear hus hown hbu hn6 hG3 HC3 KD1 KN1 HWT;generalize World.setCell _ _ _=w9 at hG4 ⊢;simp only [List.take_succ_cons,List.take_zero,List.drop_succ_cons,List.drop_zero,List.cons_append,List.nil_append];go_wp2;go_roundw
   case rel=>exact ⟨k+1,_,vo6,n6,vc6,by omega,by omega,by go_num,HL6,HN6,by have h1:=HN6.out; have h2:=htn.out; rw [List.length_append,List.length_singleton] at h1; omega,hG4⟩
   case measure=>simp [intOf]; omega
  ·have q6:¬ (k:Int) < (cn:Int):=by omega
   have hE:Hid (R=⟨NV.1,RV.drop 4,ts⟩):=show _=_ by
    have hkc:k=cn:=by omega
    rw [HR.out,hts.out,hkc,List.take_of_length_le (by rw [ndsL_len]; have:=HCN.out; omega)]
   clear hts htn HR KA KL KN;obtain ⟨y0,y1,y2,_,_,_⟩:=hG.out.row.rc3;obtain ⟨z0,z1,z2,g0,g1,g2⟩:=hG.out.res.rc3;have hD:=hid hG.out.done;clear hG;go_wp2;generalize World.setCell _ _ _=w9 at hD ⊢;obtain ⟨d1,d2,d3⟩:=hD.out;obtain ⟨e0,e1,e2,_,_,_⟩:=d2.rc3
   try simp only [Exit.inBlock,Exit.then]
   refine bodyPost_ret (v:=infV ⟨NV.1,RV.drop 4,ts⟩ (.slice vo tn tc)) (by simp [results,Tryz.results32,go_sem,e0,e1,e2,infV]; try rfl) rfl ?_
   rw [hE.out];exact ⟨_,rfl,d1,d3⟩
theorem guess_small {l:List Nd} (hn:l.length≤1000) (h:∀ x ∈ l,SmallN 4096 x):SmallI 1048576 (guessI l):=by
 match l,h with
 | [],_=>exact ⟨wi_wf (by decide) (by decide),by decide,by decide,fun t ht=>by simp [guessI,noI] at ht⟩
 | [a],_=>exact ⟨wi_wf (n:=0) (by decide) (by decide),show (0:Nat)+4≤1048576 by decide,show (0:Nat)≤1048576 by decide,fun t ht=>by simp [guessI,noI] at ht⟩
 | a :: b :: r,h =>
  have r1:=numV_rng (most:=2147483647) (by decide) (wattV versionK a);refine ⟨wi_wf (by simp only [guessI]; omega) (by simp only [guessI]; omega),?_,?_,fun t ht=>?_⟩
  ·have:=watt_le (nm:=resourceK) (h b (by simp))
   simp only [guessI,List.length_drop]; omega
  ·simp only [guessI,List.length_map]; simp only [List.length_cons] at hn; omega
  ·simp only [guessI,List.mem_map] at ht;obtain ⟨x,hx,rfl⟩:=ht;have hs:=h x (by simp [hx]);have r2:=numV_rng (most:=1099511627776) (by decide) ((wattV pidK x).drop 1);have r3:=watt_le (nm:=pstatK) hs;have r4:=watt_le (nm:=weventK) hs;have r5:=hs.2.1;exact ⟨by simp only [wtOf,List.length_drop]; omega,by simp only [wtOf]; omega,by simp only [wtOf]; omega,wi_wf (by simp only [wtOf]; omega) (by simp only [wtOf]; omega)⟩
theorem run_self {p:UInt8 → Bool} {l:List UInt8} {k:Nat} (hk:k≤l.length):runL p l k=k ↔ ((l.drop k).head?.any p=false):=by
 by_cases h:k < l.length
 ·rw [List.drop_eq_getElem_cons h,List.head?_cons,Option.any_some]
  cases hp:p l[k] with
  | false=>simp [run_stop h hp]
  | true =>
   have h1:=run_step h hp;have h2:=run_le (p:=p) (l:=l) (k:=k+1) (by omega)
   simp
   omega
 ·rw [run_end (by omega),List.drop_eq_nil_of_le (by omega)]; simp
section
variable {l : List UInt8} {m tq a : Nat} {acc : List Par}
theorem ax_go (htq:tq≤l.length) (ha:a=runL xblk l tq) (hal:a < l.length) (h47:l[a] ≠ 47) (h62:l[a] ≠ 62) :
  attrsX (m+1) acc (l.drop tq)=if a=tq then none else match attrP l a with | none=>none | some (p,n)=>attrsX m (acc++[p]) (l.drop n):=by
 have e:(l.drop tq).dropWhile xblk=l.drop a:=by rw [ha,run_drop]
 rw [attrsX,e,List.drop_eq_getElem_cons hal]
 simp only
 rw [if_neg (by simp [h47,h62])];have hs:=run_self (p:=xblk) htq;rw [← ha] at hs;by_cases h:a=tq
 ·rw [if_pos (hs.1 h),if_pos h]
 ·rw [if_neg (fun q=>h (hs.2 q)),if_neg h,← List.drop_eq_getElem_cons hal,attr_place (by omega)]
  cases attrP l a <;> rfl
theorem ax_end (htq:tq≤l.length) (ha:a=runL xblk l tq) (hal:a < l.length) (h:l[a]=47∨l[a]=62):attrsX (m+1) acc (l.drop tq)=some (acc,l.drop a):=by
 have e:(l.drop tq).dropWhile xblk=l.drop a:=by rw [ha,run_drop]
 rw [attrsX,e,List.drop_eq_getElem_cons hal]
 simp only
 rw [if_pos h]
theorem ax_len (htq:tq≤l.length) (ha:a=runL xblk l tq) (hal:a=l.length):attrsX m acc (l.drop tq)=none∨attrsX m acc (l.drop tq)=some (acc,[]):=by
 cases m with
 | zero=>exact .inl rfl
 | succ m =>
  right
  have e:(l.drop tq).dropWhile xblk=l.drop a:=by rw [ha,run_drop]
  rw [attrsX,e,hal,List.drop_length]
end
def elemT (n d c:Nat) (nm:List UInt8) (o:Option (List Par × List UInt8)):Option (List Nd × List UInt8):=match o with
 | none=>none
 | some (at',r2)=>match r2 with
  | 47 :: 62 :: r3=>some ([⟨d,nm,at',[]⟩],r3)
  | 62 :: r3=>contX n ⟨d,nm,at',[]⟩ d c [] [] r3
  | _=>none
theorem elem_bad {n d c:Nat} {l:List UInt8} {k:Nat} (h:8≤d∨200≤c∨l[k]? ≠ some 60):elemX (n+1) d c (l.drop k)=none:=by
 by_cases hk:k < l.length
 ·rw [List.drop_eq_getElem_cons hk,elemX,if_pos]
  rcases h with h | h | h
  ·exact .inl h
  ·exact .inr (.inl h)
  ·rw [List.getElem?_eq_getElem hk] at h;exact .inr (.inr (by simpa using h))
 ·rw [List.drop_eq_nil_of_le (by omega)]; rfl
theorem elem_go {n d c:Nat} {l:List UInt8} {k:Nat} (hd:¬ 8≤d) (hc:¬ 200≤c) (hk:k < l.length) (h:l[k]=60) :
  elemX (n+1) d c (l.drop k)=if runL (fun b=>!endc b) l (k+1)=l.length then none else elemT n d c ((l.drop (k+1)).take (runL (fun b=>!endc b) l (k+1) - (k+1))) (attrsX (l.length - (k+1)) [] (l.drop (runL (fun b=>!endc b) l (k+1)))):=by
 have hr:=run_le (p:=fun b=>!endc b) (l:=l) (k:=k+1) (by omega);rw [List.drop_eq_getElem_cons hk,elemX,if_neg (by simp [hd,hc,h]),← run_drop (p:=fun b=>!endc b),← run_take (p:=fun b=>!endc b),List.length_drop];generalize runL (fun b=>!endc b) l (k+1)=t at hr ⊢;by_cases ht:t=l.length
 ·rw [if_pos ((drop_none hr.2).2 ht),if_pos ht]
 ·rw [if_neg (fun e=>ht ((drop_none hr.2).1 e)),if_neg ht];unfold elemT
  rfl
theorem elemT_one {n d c:Nat} {nm:List UInt8} {acc:List Par} {l:List UInt8} {a:Nat} (h:isAt l a [47,62]=true):elemT n d c nm (some (acc,l.drop a))=some ([⟨d,nm,acc,[]⟩],l.drop (a+2)):=by
 have e:(l.drop a).take 2=[47,62]:=by unfold isAt at h; simpa using h
 have e2:=List.take_append_drop 2 (l.drop a);rw [e,List.drop_drop] at e2;rw [← e2]
 rfl
theorem elemT_in {n d c:Nat} {nm:List UInt8} {acc:List Par} {l:List UInt8} {a:Nat} (h:l[a]? = some 62):elemT n d c nm (some (acc,l.drop a))=contX n ⟨d,nm,acc,[]⟩ d c [] [] (l.drop (a+1)):=by
 rw [drop_get h]; rfl
theorem elemT_no {n d c:Nat} {nm:List UInt8} {acc:List Par} {l:List UInt8} {a:Nat} (h1:isAt l a [47,62]=false) (h2:l[a]? ≠ some 62):elemT n d c nm (some (acc,l.drop a))=none:=by
 unfold elemT
 simp only
 split
 ·next r3 he =>
  exfalso
  unfold isAt at h1;rw [he] at h1
  simp at h1
 ·next r3 he =>
  exfalso
  apply h2
  have:=congrArg List.head? he
  rw [List.head?_drop] at this
  simpa using this
 ·rfl
def ElPost (o:Option (List Nd × List UInt8)) (s:ByteArray) (cs:List NdC) (B:Nat) (v:Value) (w:World) (e:Ending) (w':World):Prop:=match o with
 | none=>e=.returned (.tuple #[.slice none 0 0,.int .i64 (-1)])∧FrN v w (.slice none 0 0) w'
 | some (ns,r)=>∃ v' cs',e=.returned (.tuple #[v',.int .i64 ((s.size - r.length:Nat):Int)])∧ndsL cs'=ns∧OwnN w' B v' (cs++cs')∧FrN v w v' w'
def ElRes (s:ByteArray) (F:Nat):Prop:=∀ (k d:Nat) (v:Value) (cs:List NdC) (B:Nat) (w:World),OwnN w B v cs → B≤w.heap.size → k≤s.size → d≤8 → cs.length≤200 → s.size - k < F →
 Calls Tryz.prog 60 #[.string s,.int .i64 k,.int .i64 d,v] w fun e w'=>ElPost (elemX F d cs.length (s.data.toList.drop k)) s cs B v w e w'
def CoRes (s:ByteArray) (F:Nat):Prop:=∀ (k d:Nat) (nm:List UInt8) (ps:List Par) (a v:Value) (cs:List NdC) (B:Nat) (w:World),OwnN w B v cs → OwnP w B a ps → B≤w.heap.size → k≤s.size → d < 8 → cs.length < 200 → nm.length≤s.size → s.size - k+2≤F →
 Calls Tryz.prog 103 #[.string s,.int .i64 k,ndV ⟨d,nm,ps,[]⟩ a,v] w fun e w'=>ElPost (contX F ⟨d,nm,ps,[]⟩ d cs.length [] [] (s.data.toList.drop k)) s cs B v w e w'
theorem par_newW (W:World) (p:Par) (g:Nat) (hg:g=W.heap.size):∀ (j:Nat) (u:Value),(parCells p)[j]? = some u → (W.alloc (.cells #[.string ⟨p.name.toArray⟩,.string ⟨p.value.toArray⟩,.bool p.has] 70)).cell? ((⟨g,0,none⟩:Addr).add j)=some u:=by
 intro j u hj;subst hg;have e:(⟨W.heap.size,0,none⟩:Addr).add j=⟨W.heap.size,j,none⟩:=by unfold Addr.add; split <;> simp_all
 rw [e];unfold World.cell?;rw [heap_alloc_new]
 simpa [parCells] using hj
theorem nd_newW (W:World) (c:NdC) (g:Nat) (hg:g=W.heap.size):∀ (j:Nat) (u:Value),(ndCells c)[j]? = some u → (W.alloc (.cells #[.int .i64 c.nd.deep,.string ⟨c.nd.name.toArray⟩,c.a,.string ⟨c.nd.text.toArray⟩] 49)).cell? ((⟨g,0,none⟩:Addr).add j)=some u:=by
 intro j u hj;subst hg;have e:(⟨W.heap.size,0,none⟩:Addr).add j=⟨W.heap.size,j,none⟩:=by unfold Addr.add; split <;> simp_all
 rw [e];unfold World.cell?;rw [heap_alloc_new]
 simpa [ndCells] using hj
theorem ownP_form {w:World} {B:Nat} {v:Value} {ps:List Par} (h:OwnP w B v ps):∃ po pc,v=.slice po ps.length pc:=by
 rcases h.2 with ⟨rfl,hn⟩ | ⟨g,cap,cur,rfl,_⟩
 ·exact ⟨none,0,by rw [hn]⟩
 ·exact ⟨_,cap,rfl⟩
theorem ownP_len {w:World} {B:Nat} {po:Option Addr} {pc:Nat} {ps:List Par} {p:Par} (h:OwnP w B (.slice po (ps++[p]).length pc) (ps++[p])):OwnP w B (.slice po (ps.length+1) pc) (ps++[p]):=by
 have e:(ps++[p]).length=ps.length+1:=by simp
 rw [e] at h; exact h
theorem el_none {o:Option (List Nd × List UInt8)} {s:ByteArray} {cs:List NdC} {B:Nat} {v:Value} {w w':World} (h:o=none) (hf:Below w.heap.size w w'):ElPost o s cs B v w (.returned (.tuple #[.slice none 0 0,.int .i64 (-1)])) w':=by
 subst h; exact ⟨rfl,(FrN.below (v:=v) hf).none⟩
theorem ruptoE (s:ByteArray) (k:Nat) (w:World) (hs:s.size≤1048576) (hk:k+1≤s.size) :
  Calls Tryz.prog 59 #[.string s,.int .i64 ((k:Int)+1),.string ⟨#[47,62,32,9,13,10]⟩] w fun e w'=>e=.returned (.int .i64 (runL (fun b=>!endc b) s.data.toList (k+1)))∧w'=w :=
 rupto_at s (k+1) #[47,62,32,9,13,10] (fun b=>!endc b) ((k:Int)+1) (by omega) (fun b=>by simp only [hasL,endc,xblk,List.contains_cons,List.contains_nil,Bool.or_false]) w (by omega) (by decide) hk
end Go.Proofs.YtdbalahkmeknaaaGreatDoor
