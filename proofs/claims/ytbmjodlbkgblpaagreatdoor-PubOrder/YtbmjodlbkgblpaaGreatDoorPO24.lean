/-
  PubW, PubX.
-/
import Derived.Test.YtbmjodlbkgblpaaGreatDoorPO23
set_option linter.unusedVariables false
set_option linter.unusedSimpArgs false
set_option maxRecDepth 20000
namespace Go.Proofs.YtbmjodlbkgblpaaGreatDoor
open Go.RowKit Sc
theorem r20_ok (k:KD) (n cap i:Nat) (ad:Addr) (nn:Int) (a0:Act):(r20C k n cap i ad nn a0).Ok:=by
 refine ⟨?_,?_,?_,?_,?_,?_,?_,?_,?_⟩
 ·simp [r20C]
 ·simp [r20C]
 ·simp [r20C]
 ·simp [r20C]
 ·simp [r20C]
 ·simp [r20C]
 ·simp [r20C]
 ·simp [r20C]
 ·intro e he
  simp [r20C,r20T] at he
  rcases he with rfl | rfl | rfl | rfl | rfl | rfl | rfl | rfl | rfl | rfl | rfl | rfl | rfl <;> simp [r20C]
set_option maxHeartbeats 4000000 in
set_option maxRecDepth 100000 in
theorem r20_steps {ops:Array Oper} (S:r20Ops ops) {k:KD} (hk:k.Ok) (a0:Act) (n cap i:Nat) (ad:Addr) (nn:Int)
  (B3:a0.eval (.tmp 3)=.pointer (some ⟨k.b3,0,none⟩)) (B5:a0.eval (.tmp 5)=.pointer (some ⟨k.b5,0,none⟩)) (B6:a0.eval (.tmp 6)=.pointer (some ⟨k.b6,0,none⟩)) (B7:a0.eval (.tmp 7)=.pointer (some ⟨k.b7,0,none⟩)) (B9:a0.eval (.tmp 9)=.int .i64 nn) (B11:a0.eval (.tmp 11)=.int .i64 (i:Int)) (B13:a0.eval (.tmp 13)=k.v13)
  (hsv:k.sv=.slice (some ad) n cap) (hin:i < n) (hnc:n≤cap) (hn:n≤100000) (hL0:k.L0.length≤100000) (hR0:k.R0.length≤100000) (hT:k.T=⟨200,0,k.A.tag,true⟩) (hone:∀ d ∈ k.R0,d.ts.oneCell'=true∧d.ns.oneCell'=true)
  (hsrc:∀ u,Below k.W0.heap.size k.W0 u → ∃ ad2 c2,pbEnd ad n cap i=.slice (some ad2) k.R0.length c2∧∀ (j:Nat) (x:Value),(pbsCells k.R0)[j]? = some x → u.cell? (ad2.add j)=some x)
  (Q:Exit → Act → World → Prop) (L:Array Bool) (a:Act) (w:World) (m:Nat) (hs:L.size=ops.size) (hi:m ∈ Region.ready .any ops L) (hI:InvD k (r20C k n cap i ad nn a0) L a w) :
  wpOp Tryz.prog ops Q m (InvD k (r20C k n cap i ad nn a0) (L.setIfInBounds m true)) a w:=by
 have hL:L.size=18:=by rw [hs,S.sz]
 obtain ⟨hn0,hlt⟩:=ready_nots hi;rw [S.sz] at hlt;have hc:=r20_ok k n cap i ad nn a0;have TB:∀ j d v,(j,d,v) ∈ r20T k n cap i ad nn → L.getD j false=true → a.eval (.tmp d)=v:=fun j d v hm hl=>hI.tab (j,d,v) hm hl;obtain ⟨i0,hif,hz0,hz1,hz2⟩:=info_parts infoPub;have dd:=hI.dyn;simp only [r20C] at dd;have evc:∀ v,a.eval (.const v)=v:=fun _=>rfl;have t3:=(hI.out 3 (.inl (by simp [r20C])) (by decide)).trans B3;have t5:=(hI.out 5 (.inl (by simp [r20C])) (by decide)).trans B5;have t6:=(hI.out 6 (.inl (by simp [r20C])) (by decide)).trans B6;have t7:=(hI.out 7 (.inl (by simp [r20C])) (by decide)).trans B7;have t9:=(hI.out 9 (.inl (by simp [r20C])) (by decide)).trans B9;have t11:=(hI.out 11 (.inl (by simp [r20C])) (by decide)).trans B11;have t13:=(hI.out 13 (.inl (by simp [r20C])) (by decide)).trans B13;obtain ⟨⟨x0,x1,x2,x3,x4,x5,x6⟩,x7,x8⟩:=dd.bs;obtain ⟨y0,y1,y2,y3,y4,y5,y6,y7⟩:=dd.ba;rw [hsv] at x8
 rcases (show m=0∨m=1∨m=2∨m=3∨m=4∨m=5∨m=6∨m=7∨m=8∨m=9∨m=10∨m=11∨m=12∨m=13∨m=14∨m=15∨m=16∨m=17 by omega) with rfl | rfl | rfl | rfl | rfl | rfl | rfl | rfl | rfl | rfl | rfl | rfl | rfl | rfl | rfl | rfl | rfl | rfl
 ·refine S.p0.val (v:=.pointer (some ⟨k.b3,0,none⟩)) (w':=w) (fun o ho=>?_) (hI.quiet hc 0 153 _ (by simp [r20C]) (by simp [r20C]) (by intro e he; simp [r20C,r20T] at he; rcases he with rfl | rfl | rfl | rfl | rfl | rfl | rfl | rfl | rfl | rfl | rfl | rfl | rfl <;> simp))
  simp only [execOp,ho,t3];clear TB hI dd S hz0 hk hi hsrc hone hT hc B3 B5 B6 B7 B9 B11 B13;go_simp
 ·have q0:=TB 0 153 _ (by simp [r20T]; rfl) (S.w1_0.on hi);refine S.p1.val (v:=cfV k.S.c) (w':=w) (fun o ho=>?_) (hI.quiet hc 1 154 _ (by simp [r20C]) (by simp [r20C]) (by intro e he; simp [r20C,r20T] at he; rcases he with rfl | rfl | rfl | rfl | rfl | rfl | rfl | rfl | rfl | rfl | rfl | rfl | rfl <;> simp))
  simp only [execOp,ho,q0];clear TB hI dd S hz0 hk hi hsrc hone hT hc B3 B5 B6 B7 B9 B11 B13;unfold cfV;go_simp
 ·refine S.p2.val (v:=.pointer (some ⟨k.b3,7,none⟩)) (w':=w) (fun o ho=>?_) (hI.quiet hc 2 155 _ (by simp [r20C]) (by simp [r20C]) (by intro e he; simp [r20C,r20T] at he; rcases he with rfl | rfl | rfl | rfl | rfl | rfl | rfl | rfl | rfl | rfl | rfl | rfl | rfl <;> simp))
  simp only [execOp,ho,t3];clear TB hI dd S hz0 hk hi hsrc hone hT hc B3 B5 B6 B7 B9 B11 B13;go_simp
 ·have q2:=TB 2 155 _ (by simp [r20T]; rfl) (S.w3_2.on hi);refine S.p3.val (v:=.int .i64 k.S.last) (w':=w) (fun o ho=>?_) (hI.quiet hc 3 156 _ (by simp [r20C]) (by simp [r20C]) (by intro e he; simp [r20C,r20T] at he; rcases he with rfl | rfl | rfl | rfl | rfl | rfl | rfl | rfl | rfl | rfl | rfl | rfl | rfl <;> simp))
  simp only [execOp,ho,q2];clear TB hI dd S hz0 hk hi hsrc hone hT hc B3 B5 B6 B7 B9 B11 B13;go_simp
 ·refine S.p4.val (v:=k.v13) (w':=w) (fun o ho=>?_) (hI.quiet hc 4 157 _ (by simp [r20C]) (by simp [r20C]) (by intro e he; simp [r20C,r20T] at he; rcases he with rfl | rfl | rfl | rfl | rfl | rfl | rfl | rfl | rfl | rfl | rfl | rfl | rfl <;> simp))
  simp only [execOp,ho,t13];clear TB hI dd S hz0 hk hi hsrc hone hT hc B3 B5 B6 B7 B9 B11 B13;go_simp
 ·refine S.p5.val (v:=.pointer (some ⟨k.b3,8,none⟩)) (w':=w) (fun o ho=>?_) (hI.quiet hc 5 158 _ (by simp [r20C]) (by simp [r20C]) (by intro e he; simp [r20C,r20T] at he; rcases he with rfl | rfl | rfl | rfl | rfl | rfl | rfl | rfl | rfl | rfl | rfl | rfl | rfl <;> simp))
  simp only [execOp,ho,t3];clear TB hI dd S hz0 hk hi hsrc hone hT hc B3 B5 B6 B7 B9 B11 B13;go_simp
 ·have q5:=TB 5 158 _ (by simp [r20T]; rfl) (S.w6_5.on hi);refine S.p6.val (v:=.slice (some ad) n cap) (w':=w) (fun o ho=>?_) (hI.quiet hc 6 159 _ (by simp [r20C]) (by simp [r20C]) (by intro e he; simp [r20C,r20T] at he; rcases he with rfl | rfl | rfl | rfl | rfl | rfl | rfl | rfl | rfl | rfl | rfl | rfl | rfl <;> simp))
  simp only [execOp,ho,q5];clear TB hI dd S hz0 hk hi hsrc hone hT hc B3 B5 B6 B7 B9 B11 B13;go_simp
 ·refine S.p7.val (v:=.int .i64 (i:Int)) (w':=w) (fun o ho=>?_) (hI.quiet hc 7 160 _ (by simp [r20C]) (by simp [r20C]) (by intro e he; simp [r20C,r20T] at he; rcases he with rfl | rfl | rfl | rfl | rfl | rfl | rfl | rfl | rfl | rfl | rfl | rfl | rfl <;> simp))
  simp only [execOp,ho,t11];clear TB hI dd S hz0 hk hi hsrc hone hT hc B3 B5 B6 B7 B9 B11 B13;go_simp
 ·have q7:=TB 7 160 _ (by simp [r20T]; rfl) (S.w8_7.on hi);refine S.p8.val (v:=.int .i64 ((i:Int)+1)) (w':=w) (fun o ho=>?_) (hI.quiet hc 8 161 _ (by simp [r20C]) (by simp [r20C]) (by intro e he; simp [r20C,r20T] at he; rcases he with rfl | rfl | rfl | rfl | rfl | rfl | rfl | rfl | rfl | rfl | rfl | rfl | rfl <;> simp))
  simp only [execOp,ho,q7,evc];clear TB hI dd S hz0 hk hi hsrc hone hT hc B3 B5 B6 B7 B9 B11 B13;go_simp
  simp [IntKind.wrap,IntKind.bits,IntKind.signed]
  omega
 ·have q6:=TB 6 159 _ (by simp [r20T]; rfl) (S.w9_6.on hi);have q8:=TB 8 161 _ (by simp [r20T]; rfl) (S.w9_8.on hi);refine S.p9.val (v:=pbEnd ad n cap i) (w':=w) (fun o ho=>?_) (hI.quiet hc 9 162 _ (by simp [r20C]) (by simp [r20C]) (by intro e he; simp [r20C,r20T] at he; rcases he with rfl | rfl | rfl | rfl | rfl | rfl | rfl | rfl | rfl | rfl | rfl | rfl | rfl <;> simp))
  simp only [execOp,ho,q6,q8];clear TB hI dd S hz0 hk hi hsrc hone hT hc B3 B5 B6 B7 B9 B11 B13;have hi1:((i:Int)+1).toNat=i+1:=by omega
  have q8t:a.tmps[161]?.getD undef=Value.int .i64 ((i:Int)+1):=by simpa [Act.eval,Array.getD_eq_getD_getElem?] using q8
  have hle:(i:Int)+1≤(n:Int):=by omega
  have hle0:¬ ((i:Int)+1 < 0):=by omega
  have hleN:i+1≤n:=by omega
  clear q8 evc t3 t5 t6 t7 t9 t11 t13 x0 x1 x2 x3 x4 x5 x6 x7 y0 y1 y2 y3 y4 y5 y6 y7;unfold pbEnd;by_cases hce:cap=i+1
  ·subst hce;go_simp
  ·go_simp
 ·have q4:=TB 4 157 _ (by simp [r20T]; rfl) (S.w10_4.on hi);have q9:=TB 9 162 _ (by simp [r20T]; rfl) (S.w10_9.on hi);obtain ⟨ad2,c2,he2,hcl⟩:=hsrc w dd.bel;obtain ⟨o,ho,hg,hd,hop⟩:=S.p10;refine wpOp_of ho (E:=True) (step_appPb hg (.tmp 157) (.tmp 162) 26 hop k.B i0 _ Tryz.underlying26 hif hz0 hz1 hz2 rfl _ k.L0 q4 (dd.own0 hn0) _ k.R0 q9 hone (.inr ⟨ad2,c2,he2,hcl⟩) (by omega) dd.lo ?_) hg
  intro v' w' ho' hg';rw [hd];exact hI.sA hk hc (by rw [hL]; simp [r20C]) hn0 ho' hg'
 ·have q1:=TB 1 154 _ (by simp [r20T]; rfl) (S.w11_1.on hi);have q3:=TB 3 156 _ (by simp [r20T]; rfl) (S.w11_3.on hi);have hA:=S.w11_10.on hi;obtain ⟨oa,oc,hx⟩:=(dd.ownA hA).form;have hI':=hI.sB hc (by rw [hL]; simp [r20C]) hA;simp only [r20C] at hI';rw [hx] at hI';refine S.p11.val (v:=_) (w':=w) (fun o ho=>?_) hI'
  simp only [execOp,ho];have em:Array.map (fun x:Nat × Operand=>(x.fst,a.eval x.snd)) #[(0,Operand.tmp 154),(1,Operand.tmp 156),(2,Operand.tmp 163)]=#[(0,cfV k.S.c),(1,.int .i64 k.S.last),(2,.slice oa (k.L0++k.R0).length oc)]:=by simp only [List.map_toArray,List.map_cons,List.map_nil,q1,q3,hx]
  rw [em];clear hI';clear TB hI dd S hz0 hk hi hsrc hone hT hc B3 B5 B6 B7 B9 B11 B13;unfold cfV stoV;go_simp
 ·refine S.p12.val (v:=.pointer (some ⟨k.b5,7,none⟩)) (w':=w) (fun o ho=>?_) (hI.quiet hc 12 165 _ (by simp [r20C]) (by simp [r20C]) (by intro e he; simp [r20C,r20T] at he; rcases he with rfl | rfl | rfl | rfl | rfl | rfl | rfl | rfl | rfl | rfl | rfl | rfl | rfl <;> simp))
  simp only [execOp,ho,t5];clear TB hI dd S hz0 hk hi hsrc hone hT hc B3 B5 B6 B7 B9 B11 B13;go_simp
 ·have q12:=TB 12 165 _ (by simp [r20T]; rfl) (S.w13_12.on hi);refine S.p13.val (v:=.string ⟨k.A.tag.toArray⟩) (w':=w) (fun o ho=>?_) (hI.quiet hc 13 166 _ (by simp [r20C]) (by simp [r20C]) (by intro e he; simp [r20C,r20T] at he; rcases he with rfl | rfl | rfl | rfl | rfl | rfl | rfl | rfl | rfl | rfl | rfl | rfl | rfl <;> simp))
  simp only [execOp,ho,q12];clear TB hI dd S hz0 hk hi hsrc hone hT hc B3 B5 B6 B7 B9 B11 B13;go_simp
 ·have q13:=TB 13 166 _ (by simp [r20T]; rfl) (S.w14_13.on hi);refine S.p14.val (v:=tdV ⟨200,0,k.A.tag,true⟩) (w':=w) (fun o ho=>?_) (hI.quiet hc 14 167 _ (by simp [r20C]) (by simp [r20C]) (by intro e he; simp [r20C,r20T] at he; rcases he with rfl | rfl | rfl | rfl | rfl | rfl | rfl | rfl | rfl | rfl | rfl | rfl | rfl <;> simp))
  simp only [execOp,ho];have em:Array.map (fun x:Nat × Operand=>(x.fst,a.eval x.snd)) #[(0,Operand.const (.int .i64 200)),(2,Operand.tmp 166),(3,Operand.const (.bool true))]=#[(0,.int .i64 200),(2,.string ⟨k.A.tag.toArray⟩),(3,.bool true)]:=by simp only [List.map_toArray,List.map_cons,List.map_nil,evc,q13]
  try rw [em]
  clear TB hI dd S hz0 hk hi hsrc hone hT hc B3 B5 B6 B7 B9 B11 B13;unfold tdV;go_simp
 ·have hB:=S.w15_11.on hi;have hA:=dd.cB hB;have e12:=dd.eB hB;obtain ⟨oa,oc,hx⟩:=(dd.ownA hA).form;have hrow:=dd.r6;rw [hn0,if_neg (by decide)] at hrow;obtain ⟨z0,z1,z2,z3,z4,z5,z6,z7,z8,f0,f1,f2,f3,f4,f5,f6,f7,f8⟩:=RowIs.rc9 hrow;have hI':=hI.s6 hk hc (by rw [hL]; simp [r20C]) hB hn0;simp only [r20C] at hI';rw [hx] at hI' e12;refine S.p15.skip (w':=_) (fun o ho=>?_) hI'
  unfold stoV at e12;simp only [execOp,ho,t6,e12];clear hI';clear TB hI dd S hz0 hk hi hsrc hone hT hc B3 B5 B6 B7 B9 B11 B13;go_simp
 ·have q:=TB 14 167 _ (by simp [r20T]; rfl) (S.w16_14.on hi);have hrow:=dd.r7;rw [hn0,if_neg (by decide)] at hrow;obtain ⟨z0,z1,z2,z3,f0,f1,f2,f3⟩:=RowIs.rc4 hrow;have hI':=hI.s7 hk hc (by rw [hL]; simp [r20C]) hn0;rw [hT] at hI';simp only at hI';refine S.p16.skip (w':=_) (fun o ho=>?_) hI'
  unfold tdV at q;simp only at q;simp only [execOp,ho,t7,q];clear hI';clear TB hI dd S hz0 hk hi hsrc hone hT hc B3 B5 B6 B7 B9 B11 B13;go_simp
 ·refine S.p17.val (v:=.int .i64 0) (w':=w) (fun o ho=>?_) (hI.sZ hc)
  simp only [execOp,ho,evc];clear TB hI dd S hz0 hk hi hsrc hone hT hc B3 B5 B6 B7 B9 B11 B13;go_simp
set_option maxHeartbeats 1000000 in
theorem r20_region {ops:Array Oper} (S:r20Ops ops) (hlow:lowB .any ops=true) {Q:Exit → Act → World → Prop} {id:Nat} {k:KD} (hk:k.Ok) (a0:Act) (w:World) (n cap i:Nat) (ad:Addr) (nn:Int)
  (hsz:a0.tmps.size=208) (hdf:a0.defers=[]) (h0:∀ x y,DynD k false false false false x y { w with drawn:=w.drawn+1 })
  (B3:a0.eval (.tmp 3)=.pointer (some ⟨k.b3,0,none⟩)) (B5:a0.eval (.tmp 5)=.pointer (some ⟨k.b5,0,none⟩)) (B6:a0.eval (.tmp 6)=.pointer (some ⟨k.b6,0,none⟩)) (B7:a0.eval (.tmp 7)=.pointer (some ⟨k.b7,0,none⟩)) (B9:a0.eval (.tmp 9)=.int .i64 nn) (B11:a0.eval (.tmp 11)=.int .i64 (i:Int)) (B13:a0.eval (.tmp 13)=k.v13)
  (hsv:k.sv=.slice (some ad) n cap) (hin:i < n) (hnc:n≤cap) (hn:n≤100000) (hL0:k.L0.length≤100000) (hR0:k.R0.length≤100000) (hT:k.T=⟨200,0,k.A.tag,true⟩) (hone:∀ d ∈ k.R0,d.ts.oneCell'=true∧d.ns.oneCell'=true)
  (hsrc:∀ u,Below k.W0.heap.size k.W0 u → ∃ ad2 c2,pbEnd ad n cap i=.slice (some ad2) k.R0.length c2∧∀ (j:Nat) (x:Value),(pbsCells k.R0)[j]? = some x → u.cell? (ad2.add j)=some x)
  (fin:∀ (us:List Value) (u:World) (x y:Value),us.length=15 → DynD k true true true true x y u → Q .normal ⟨((a0.tmps.toList.set 8 (.int .i64 0)).take 153++(us++(a0.tmps.toList.set 8 (.int .i64 0)).drop 168)).toArray,[]⟩ u) :
  (Code.region id ops true).wp Tryz.prog Q a0 w:=by
 have gz:∀ j,(Array.replicate ops.size false).getD j false=false:=fun j=>by rw [Array.getD_eq_getD_getElem?,Array.getElem?_replicate]; split <;> rfl
 refine wp_region_inv followsU (InvD k (r20C k n cap i ad nn a0)) ?_ ?_ (fun L a u m hs hi hI=>r20_steps S hk a0 n cap i ad nn B3 B5 B6 B7 B9 B11 B13 hsv hin hnc hn hL0 hR0 hT hone hsrc Q L a u m hs hi hI)
 ·refine ⟨hsz,hdf,fun s _ _=>rfl,fun hl=>(by rw [gz] at hl; cases hl),fun e _ hl=>(by rw [gz] at hl; cases hl),?_⟩
  rw [gz,gz,gz,gz];exact h0 _ _
 ·intro L a u hs hr hI;have hall:=all_listed hlow hs hr;rw [S.sz] at hall;have dd:=hI.dyn;simp only [r20C] at dd;rw [hall 10 (by decide),hall 11 (by decide),hall 15 (by decide),hall 16 (by decide)] at dd;have t8:=hI.t8 (by simp only [r20C]; exact hall 17 (by decide))
  have ho:Outs ⟨a0,153,168,208,0,w,fun _=>0,fun _ _ _=>True⟩ (a0.put (some 8) (.int .i64 0)) a:=⟨hI.sz,hI.df,fun s hs=>by
   by_cases e:s=8
   ·subst e;rw [eval_put_same (by rw [hsz]; decide)]; exact t8
   ·rw [eval_put_ne e]; exact hI.out s hs e⟩
  obtain ⟨us,hus,hau⟩:=ho.fin (by rw [put_size]; exact hsz) (by simp) (by simp);rw [hau,put_list];exact fin us u _ _ hus dd
structure r26Ops (ops:Array Oper):Prop where
 sz:ops.size=21
 p0:OpIs ops 0 (some 190) (.fieldAddr 28 (.tmp 3) 0)
 p1:OpIs ops 1 (some 191) (.load 25 (.tmp 190))
 p2:OpIs ops 2 (some 192) (.fieldAddr 28 (.tmp 3) 1)
 p3:OpIs ops 3 (some 193) (.load 3 (.tmp 192))
 p4:OpIs ops 4 (some 194) (.move (.tmp 13))
 p5:OpIs ops 5 (some 195) (.fieldAddr 28 (.tmp 3) 2)
 p6:OpIs ops 6 (some 196) (.load 26 (.tmp 195))
 p7:OpIs ops 7 (some 197) (.move (.tmp 11))
 p8:OpIs ops 8 (some 198) (.binOp .add 3 (.tmp 197) (.const (.int .i64 1)) 3)
 p9:OpIs ops 9 (some 199) (.slice 26 (.tmp 196) (some (.tmp 198)) none none)
 p10:OpIs ops 10 (some 200) (.call { callee:=.builtin .append,args:=#[.tmp 194,.tmp 199],argTypes:=#[26,26] })
 p11:OpIs ops 11 (some 201) (.build 28 #[(0,.tmp 191),(1,.tmp 193),(2,.tmp 200)])
 p12:OpIs ops 12 (some 202) (.move (.tmp 9))
 p13:OpIs ops 13 (some 203) (.fieldAddr 44 (.tmp 5) 5)
 p14:OpIs ops 14 (some 204) (.load 9 (.tmp 203))
 p15:OpIs ops 15 (some 205) (.fieldAddr 44 (.tmp 5) 3)
 p16:OpIs ops 16 (some 206) (.load 4 (.tmp 205))
 p17:OpIs ops 17 (some 207) (.build 48 #[(0,.const (.int .i64 200)),(1,.tmp 202),(2,.tmp 204),(3,.tmp 206)])
 p18:OpIs ops 18 none (.store 28 (.tmp 6) (.tmp 201))
 p19:OpIs ops 19 none (.store 48 (.tmp 7) (.tmp 207))
 p20:OpIs ops 20 (some 8) (.assign (.const (.int .i64 0)))
 w1_0:Waits ops 1 0
 w3_2:Waits ops 3 2
 w6_5:Waits ops 6 5
 w8_7:Waits ops 8 7
 w9_6:Waits ops 9 6
 w9_8:Waits ops 9 8
 w14_13:Waits ops 14 13
 w16_15:Waits ops 16 15
 w17_12:Waits ops 17 12
 w17_14:Waits ops 17 14
 w17_16:Waits ops 17 16
 w10_4:Waits ops 10 4
 w10_9:Waits ops 10 9
 w11_1:Waits ops 11 1
 w11_3:Waits ops 11 3
 w11_10:Waits ops 11 10
 w18_11:Waits ops 18 11
 w19_17:Waits ops 19 17
def r26T (k:KD) (n cap i:Nat) (ad:Addr) (nn:Int):List (Nat × Nat × Value) :=
 [(0,190,.pointer (some ⟨k.b3,0,none⟩)),(1,191,cfV k.S.c),(2,192,.pointer (some ⟨k.b3,7,none⟩)),(3,193,.int .i64 k.S.last),(4,194,k.v13),(5,195,.pointer (some ⟨k.b3,8,none⟩)),(6,196,.slice (some ad) n cap),(7,197,.int .i64 (i:Int)),(8,198,.int .i64 ((i:Int)+1)),(9,199,pbEnd ad n cap i),(12,202,.int .i64 nn),(13,203,.pointer (some ⟨k.b5,7,none⟩)),(14,204,.string ⟨k.A.tag.toArray⟩),(15,205,.pointer (some ⟨k.b5,3,none⟩)),(16,206,.bool k.A.has),(17,207,tdV ⟨200,nn,k.A.tag,k.A.has⟩)]
def r26C (k:KD) (n cap i:Nat) (ad:Addr) (nn:Int) (a0:Act):RC:=⟨10,11,18,19,20,200,201,190,208,a0,r26T k n cap i ad nn⟩
theorem r26_ok (k:KD) (n cap i:Nat) (ad:Addr) (nn:Int) (a0:Act):(r26C k n cap i ad nn a0).Ok:=by
 refine ⟨?_,?_,?_,?_,?_,?_,?_,?_,?_⟩
 ·simp [r26C]
 ·simp [r26C]
 ·simp [r26C]
 ·simp [r26C]
 ·simp [r26C]
 ·simp [r26C]
 ·simp [r26C]
 ·simp [r26C]
 ·intro e he
  simp [r26C,r26T] at he
  rcases he with rfl | rfl | rfl | rfl | rfl | rfl | rfl | rfl | rfl | rfl | rfl | rfl | rfl | rfl | rfl | rfl <;> simp [r26C]
set_option maxHeartbeats 4000000 in
set_option maxRecDepth 100000 in
theorem r26_steps {ops:Array Oper} (S:r26Ops ops) {k:KD} (hk:k.Ok) (a0:Act) (n cap i:Nat) (ad:Addr) (nn:Int)
  (B3:a0.eval (.tmp 3)=.pointer (some ⟨k.b3,0,none⟩)) (B5:a0.eval (.tmp 5)=.pointer (some ⟨k.b5,0,none⟩)) (B6:a0.eval (.tmp 6)=.pointer (some ⟨k.b6,0,none⟩)) (B7:a0.eval (.tmp 7)=.pointer (some ⟨k.b7,0,none⟩)) (B9:a0.eval (.tmp 9)=.int .i64 nn) (B11:a0.eval (.tmp 11)=.int .i64 (i:Int)) (B13:a0.eval (.tmp 13)=k.v13)
  (hsv:k.sv=.slice (some ad) n cap) (hin:i < n) (hnc:n≤cap) (hn:n≤100000) (hL0:k.L0.length≤100000) (hR0:k.R0.length≤100000) (hT:k.T=⟨200,nn,k.A.tag,k.A.has⟩) (hone:∀ d ∈ k.R0,d.ts.oneCell'=true∧d.ns.oneCell'=true)
  (hsrc:∀ u,Below k.W0.heap.size k.W0 u → ∃ ad2 c2,pbEnd ad n cap i=.slice (some ad2) k.R0.length c2∧∀ (j:Nat) (x:Value),(pbsCells k.R0)[j]? = some x → u.cell? (ad2.add j)=some x)
  (Q:Exit → Act → World → Prop) (L:Array Bool) (a:Act) (w:World) (m:Nat) (hs:L.size=ops.size) (hi:m ∈ Region.ready .any ops L) (hI:InvD k (r26C k n cap i ad nn a0) L a w) :
  wpOp Tryz.prog ops Q m (InvD k (r26C k n cap i ad nn a0) (L.setIfInBounds m true)) a w:=by
 have hL:L.size=21:=by rw [hs,S.sz]
 obtain ⟨hn0,hlt⟩:=ready_nots hi;rw [S.sz] at hlt;have hc:=r26_ok k n cap i ad nn a0;have TB:∀ j d v,(j,d,v) ∈ r26T k n cap i ad nn → L.getD j false=true → a.eval (.tmp d)=v:=fun j d v hm hl=>hI.tab (j,d,v) hm hl;obtain ⟨i0,hif,hz0,hz1,hz2⟩:=info_parts infoPub;have dd:=hI.dyn;simp only [r26C] at dd;have evc:∀ v,a.eval (.const v)=v:=fun _=>rfl;have t3:=(hI.out 3 (.inl (by simp [r26C])) (by decide)).trans B3;have t5:=(hI.out 5 (.inl (by simp [r26C])) (by decide)).trans B5;have t6:=(hI.out 6 (.inl (by simp [r26C])) (by decide)).trans B6;have t7:=(hI.out 7 (.inl (by simp [r26C])) (by decide)).trans B7;have t9:=(hI.out 9 (.inl (by simp [r26C])) (by decide)).trans B9;have t11:=(hI.out 11 (.inl (by simp [r26C])) (by decide)).trans B11;have t13:=(hI.out 13 (.inl (by simp [r26C])) (by decide)).trans B13;obtain ⟨⟨x0,x1,x2,x3,x4,x5,x6⟩,x7,x8⟩:=dd.bs;obtain ⟨y0,y1,y2,y3,y4,y5,y6,y7⟩:=dd.ba;rw [hsv] at x8
 rcases (show m=0∨m=1∨m=2∨m=3∨m=4∨m=5∨m=6∨m=7∨m=8∨m=9∨m=10∨m=11∨m=12∨m=13∨m=14∨m=15∨m=16∨m=17∨m=18∨m=19∨m=20 by omega) with rfl | rfl | rfl | rfl | rfl | rfl | rfl | rfl | rfl | rfl | rfl | rfl | rfl | rfl | rfl | rfl | rfl | rfl | rfl | rfl | rfl
 ·refine S.p0.val (v:=.pointer (some ⟨k.b3,0,none⟩)) (w':=w) (fun o ho=>?_) (hI.quiet hc 0 190 _ (by simp [r26C]) (by simp [r26C]) (by intro e he; simp [r26C,r26T] at he; rcases he with rfl | rfl | rfl | rfl | rfl | rfl | rfl | rfl | rfl | rfl | rfl | rfl | rfl | rfl | rfl | rfl <;> simp))
  simp only [execOp,ho,t3];clear TB hI dd S hz0 hk hi hsrc hone hT hc B3 B5 B6 B7 B9 B11 B13;go_simp
 ·have q0:=TB 0 190 _ (by simp [r26T]; rfl) (S.w1_0.on hi);refine S.p1.val (v:=cfV k.S.c) (w':=w) (fun o ho=>?_) (hI.quiet hc 1 191 _ (by simp [r26C]) (by simp [r26C]) (by intro e he; simp [r26C,r26T] at he; rcases he with rfl | rfl | rfl | rfl | rfl | rfl | rfl | rfl | rfl | rfl | rfl | rfl | rfl | rfl | rfl | rfl <;> simp))
  simp only [execOp,ho,q0];clear TB hI dd S hz0 hk hi hsrc hone hT hc B3 B5 B6 B7 B9 B11 B13;unfold cfV;go_simp
 ·refine S.p2.val (v:=.pointer (some ⟨k.b3,7,none⟩)) (w':=w) (fun o ho=>?_) (hI.quiet hc 2 192 _ (by simp [r26C]) (by simp [r26C]) (by intro e he; simp [r26C,r26T] at he; rcases he with rfl | rfl | rfl | rfl | rfl | rfl | rfl | rfl | rfl | rfl | rfl | rfl | rfl | rfl | rfl | rfl <;> simp))
  simp only [execOp,ho,t3];clear TB hI dd S hz0 hk hi hsrc hone hT hc B3 B5 B6 B7 B9 B11 B13;go_simp
 ·have q2:=TB 2 192 _ (by simp [r26T]; rfl) (S.w3_2.on hi);refine S.p3.val (v:=.int .i64 k.S.last) (w':=w) (fun o ho=>?_) (hI.quiet hc 3 193 _ (by simp [r26C]) (by simp [r26C]) (by intro e he; simp [r26C,r26T] at he; rcases he with rfl | rfl | rfl | rfl | rfl | rfl | rfl | rfl | rfl | rfl | rfl | rfl | rfl | rfl | rfl | rfl <;> simp))
  simp only [execOp,ho,q2];clear TB hI dd S hz0 hk hi hsrc hone hT hc B3 B5 B6 B7 B9 B11 B13;go_simp
 ·refine S.p4.val (v:=k.v13) (w':=w) (fun o ho=>?_) (hI.quiet hc 4 194 _ (by simp [r26C]) (by simp [r26C]) (by intro e he; simp [r26C,r26T] at he; rcases he with rfl | rfl | rfl | rfl | rfl | rfl | rfl | rfl | rfl | rfl | rfl | rfl | rfl | rfl | rfl | rfl <;> simp))
  simp only [execOp,ho,t13];clear TB hI dd S hz0 hk hi hsrc hone hT hc B3 B5 B6 B7 B9 B11 B13;go_simp
 ·refine S.p5.val (v:=.pointer (some ⟨k.b3,8,none⟩)) (w':=w) (fun o ho=>?_) (hI.quiet hc 5 195 _ (by simp [r26C]) (by simp [r26C]) (by intro e he; simp [r26C,r26T] at he; rcases he with rfl | rfl | rfl | rfl | rfl | rfl | rfl | rfl | rfl | rfl | rfl | rfl | rfl | rfl | rfl | rfl <;> simp))
  simp only [execOp,ho,t3];clear TB hI dd S hz0 hk hi hsrc hone hT hc B3 B5 B6 B7 B9 B11 B13;go_simp
 ·have q5:=TB 5 195 _ (by simp [r26T]; rfl) (S.w6_5.on hi);refine S.p6.val (v:=.slice (some ad) n cap) (w':=w) (fun o ho=>?_) (hI.quiet hc 6 196 _ (by simp [r26C]) (by simp [r26C]) (by intro e he; simp [r26C,r26T] at he; rcases he with rfl | rfl | rfl | rfl | rfl | rfl | rfl | rfl | rfl | rfl | rfl | rfl | rfl | rfl | rfl | rfl <;> simp))
  simp only [execOp,ho,q5];clear TB hI dd S hz0 hk hi hsrc hone hT hc B3 B5 B6 B7 B9 B11 B13;go_simp
 ·refine S.p7.val (v:=.int .i64 (i:Int)) (w':=w) (fun o ho=>?_) (hI.quiet hc 7 197 _ (by simp [r26C]) (by simp [r26C]) (by intro e he; simp [r26C,r26T] at he; rcases he with rfl | rfl | rfl | rfl | rfl | rfl | rfl | rfl | rfl | rfl | rfl | rfl | rfl | rfl | rfl | rfl <;> simp))
  simp only [execOp,ho,t11];clear TB hI dd S hz0 hk hi hsrc hone hT hc B3 B5 B6 B7 B9 B11 B13;go_simp
 ·have q7:=TB 7 197 _ (by simp [r26T]; rfl) (S.w8_7.on hi);refine S.p8.val (v:=.int .i64 ((i:Int)+1)) (w':=w) (fun o ho=>?_) (hI.quiet hc 8 198 _ (by simp [r26C]) (by simp [r26C]) (by intro e he; simp [r26C,r26T] at he; rcases he with rfl | rfl | rfl | rfl | rfl | rfl | rfl | rfl | rfl | rfl | rfl | rfl | rfl | rfl | rfl | rfl <;> simp))
  simp only [execOp,ho,q7,evc];clear TB hI dd S hz0 hk hi hsrc hone hT hc B3 B5 B6 B7 B9 B11 B13;go_simp
  simp [IntKind.wrap,IntKind.bits,IntKind.signed]
  omega
 ·have q6:=TB 6 196 _ (by simp [r26T]; rfl) (S.w9_6.on hi);have q8:=TB 8 198 _ (by simp [r26T]; rfl) (S.w9_8.on hi);refine S.p9.val (v:=pbEnd ad n cap i) (w':=w) (fun o ho=>?_) (hI.quiet hc 9 199 _ (by simp [r26C]) (by simp [r26C]) (by intro e he; simp [r26C,r26T] at he; rcases he with rfl | rfl | rfl | rfl | rfl | rfl | rfl | rfl | rfl | rfl | rfl | rfl | rfl | rfl | rfl | rfl <;> simp))
  simp only [execOp,ho,q6,q8];clear TB hI dd S hz0 hk hi hsrc hone hT hc B3 B5 B6 B7 B9 B11 B13;have hi1:((i:Int)+1).toNat=i+1:=by omega
  have q8t:a.tmps[198]?.getD undef=Value.int .i64 ((i:Int)+1):=by simpa [Act.eval,Array.getD_eq_getD_getElem?] using q8
  have hle:(i:Int)+1≤(n:Int):=by omega
  have hle0:¬ ((i:Int)+1 < 0):=by omega
  have hleN:i+1≤n:=by omega
  clear q8 evc t3 t5 t6 t7 t9 t11 t13 x0 x1 x2 x3 x4 x5 x6 x7 y0 y1 y2 y3 y4 y5 y6 y7;unfold pbEnd;by_cases hce:cap=i+1
  ·subst hce;go_simp
  ·go_simp
 ·have q4:=TB 4 194 _ (by simp [r26T]; rfl) (S.w10_4.on hi);have q9:=TB 9 199 _ (by simp [r26T]; rfl) (S.w10_9.on hi);obtain ⟨ad2,c2,he2,hcl⟩:=hsrc w dd.bel;obtain ⟨o,ho,hg,hd,hop⟩:=S.p10;refine wpOp_of ho (E:=True) (step_appPb hg (.tmp 194) (.tmp 199) 26 hop k.B i0 _ Tryz.underlying26 hif hz0 hz1 hz2 rfl _ k.L0 q4 (dd.own0 hn0) _ k.R0 q9 hone (.inr ⟨ad2,c2,he2,hcl⟩) (by omega) dd.lo ?_) hg
  intro v' w' ho' hg';rw [hd];exact hI.sA hk hc (by rw [hL]; simp [r26C]) hn0 ho' hg'
 ·have q1:=TB 1 191 _ (by simp [r26T]; rfl) (S.w11_1.on hi);have q3:=TB 3 193 _ (by simp [r26T]; rfl) (S.w11_3.on hi);have hA:=S.w11_10.on hi;obtain ⟨oa,oc,hx⟩:=(dd.ownA hA).form;have hI':=hI.sB hc (by rw [hL]; simp [r26C]) hA;simp only [r26C] at hI';rw [hx] at hI';refine S.p11.val (v:=_) (w':=w) (fun o ho=>?_) hI'
  simp only [execOp,ho];have em:Array.map (fun x:Nat × Operand=>(x.fst,a.eval x.snd)) #[(0,Operand.tmp 191),(1,Operand.tmp 193),(2,Operand.tmp 200)]=#[(0,cfV k.S.c),(1,.int .i64 k.S.last),(2,.slice oa (k.L0++k.R0).length oc)]:=by simp only [List.map_toArray,List.map_cons,List.map_nil,q1,q3,hx]
  rw [em];clear hI';clear TB hI dd S hz0 hk hi hsrc hone hT hc B3 B5 B6 B7 B9 B11 B13;unfold cfV stoV;go_simp
 ·refine S.p12.val (v:=.int .i64 nn) (w':=w) (fun o ho=>?_) (hI.quiet hc 12 202 _ (by simp [r26C]) (by simp [r26C]) (by intro e he; simp [r26C,r26T] at he; rcases he with rfl | rfl | rfl | rfl | rfl | rfl | rfl | rfl | rfl | rfl | rfl | rfl | rfl | rfl | rfl | rfl <;> simp))
  simp only [execOp,ho,t9];clear TB hI dd S hz0 hk hi hsrc hone hT hc B3 B5 B6 B7 B9 B11 B13;go_simp
 ·refine S.p13.val (v:=.pointer (some ⟨k.b5,7,none⟩)) (w':=w) (fun o ho=>?_) (hI.quiet hc 13 203 _ (by simp [r26C]) (by simp [r26C]) (by intro e he; simp [r26C,r26T] at he; rcases he with rfl | rfl | rfl | rfl | rfl | rfl | rfl | rfl | rfl | rfl | rfl | rfl | rfl | rfl | rfl | rfl <;> simp))
  simp only [execOp,ho,t5];clear TB hI dd S hz0 hk hi hsrc hone hT hc B3 B5 B6 B7 B9 B11 B13;go_simp
 ·have q13:=TB 13 203 _ (by simp [r26T]; rfl) (S.w14_13.on hi);refine S.p14.val (v:=.string ⟨k.A.tag.toArray⟩) (w':=w) (fun o ho=>?_) (hI.quiet hc 14 204 _ (by simp [r26C]) (by simp [r26C]) (by intro e he; simp [r26C,r26T] at he; rcases he with rfl | rfl | rfl | rfl | rfl | rfl | rfl | rfl | rfl | rfl | rfl | rfl | rfl | rfl | rfl | rfl <;> simp))
  simp only [execOp,ho,q13];clear TB hI dd S hz0 hk hi hsrc hone hT hc B3 B5 B6 B7 B9 B11 B13;go_simp
 ·refine S.p15.val (v:=.pointer (some ⟨k.b5,3,none⟩)) (w':=w) (fun o ho=>?_) (hI.quiet hc 15 205 _ (by simp [r26C]) (by simp [r26C]) (by intro e he; simp [r26C,r26T] at he; rcases he with rfl | rfl | rfl | rfl | rfl | rfl | rfl | rfl | rfl | rfl | rfl | rfl | rfl | rfl | rfl | rfl <;> simp))
  simp only [execOp,ho,t5];clear TB hI dd S hz0 hk hi hsrc hone hT hc B3 B5 B6 B7 B9 B11 B13;go_simp
 ·have q15:=TB 15 205 _ (by simp [r26T]; rfl) (S.w16_15.on hi);refine S.p16.val (v:=.bool k.A.has) (w':=w) (fun o ho=>?_) (hI.quiet hc 16 206 _ (by simp [r26C]) (by simp [r26C]) (by intro e he; simp [r26C,r26T] at he; rcases he with rfl | rfl | rfl | rfl | rfl | rfl | rfl | rfl | rfl | rfl | rfl | rfl | rfl | rfl | rfl | rfl <;> simp))
  simp only [execOp,ho,q15];clear TB hI dd S hz0 hk hi hsrc hone hT hc B3 B5 B6 B7 B9 B11 B13;go_simp
 ·have q12:=TB 12 202 _ (by simp [r26T]; rfl) (S.w17_12.on hi);have q14:=TB 14 204 _ (by simp [r26T]; rfl) (S.w17_14.on hi);have q16:=TB 16 206 _ (by simp [r26T]; rfl) (S.w17_16.on hi);refine S.p17.val (v:=tdV ⟨200,nn,k.A.tag,k.A.has⟩) (w':=w) (fun o ho=>?_) (hI.quiet hc 17 207 _ (by simp [r26C]) (by simp [r26C]) (by intro e he; simp [r26C,r26T] at he; rcases he with rfl | rfl | rfl | rfl | rfl | rfl | rfl | rfl | rfl | rfl | rfl | rfl | rfl | rfl | rfl | rfl <;> simp))
  simp only [execOp,ho];have em:Array.map (fun x:Nat × Operand=>(x.fst,a.eval x.snd)) #[(0,Operand.const (.int .i64 200)),(1,Operand.tmp 202),(2,Operand.tmp 204),(3,Operand.tmp 206)]=#[(0,.int .i64 200),(1,.int .i64 nn),(2,.string ⟨k.A.tag.toArray⟩),(3,.bool k.A.has)]:=by simp only [List.map_toArray,List.map_cons,List.map_nil,evc,q12,q14,q16]
  try rw [em]
  clear TB hI dd S hz0 hk hi hsrc hone hT hc B3 B5 B6 B7 B9 B11 B13;unfold tdV;go_simp
 ·have hB:=S.w18_11.on hi;have hA:=dd.cB hB;have e12:=dd.eB hB;obtain ⟨oa,oc,hx⟩:=(dd.ownA hA).form;have hrow:=dd.r6;rw [hn0,if_neg (by decide)] at hrow;obtain ⟨z0,z1,z2,z3,z4,z5,z6,z7,z8,f0,f1,f2,f3,f4,f5,f6,f7,f8⟩:=RowIs.rc9 hrow;have hI':=hI.s6 hk hc (by rw [hL]; simp [r26C]) hB hn0;simp only [r26C] at hI';rw [hx] at hI' e12;refine S.p18.skip (w':=_) (fun o ho=>?_) hI'
  unfold stoV at e12;simp only [execOp,ho,t6,e12];clear hI';clear TB hI dd S hz0 hk hi hsrc hone hT hc B3 B5 B6 B7 B9 B11 B13;go_simp
 ·have q:=TB 17 207 _ (by simp [r26T]; rfl) (S.w19_17.on hi);have hrow:=dd.r7;rw [hn0,if_neg (by decide)] at hrow;obtain ⟨z0,z1,z2,z3,f0,f1,f2,f3⟩:=RowIs.rc4 hrow;have hI':=hI.s7 hk hc (by rw [hL]; simp [r26C]) hn0;rw [hT] at hI';simp only at hI';refine S.p19.skip (w':=_) (fun o ho=>?_) hI'
  unfold tdV at q;simp only at q;simp only [execOp,ho,t7,q];clear hI';clear TB hI dd S hz0 hk hi hsrc hone hT hc B3 B5 B6 B7 B9 B11 B13;go_simp
 ·refine S.p20.val (v:=.int .i64 0) (w':=w) (fun o ho=>?_) (hI.sZ hc)
  simp only [execOp,ho,evc];clear TB hI dd S hz0 hk hi hsrc hone hT hc B3 B5 B6 B7 B9 B11 B13;go_simp
set_option maxHeartbeats 1000000 in
theorem r26_region {ops:Array Oper} (S:r26Ops ops) (hlow:lowB .any ops=true) {Q:Exit → Act → World → Prop} {id:Nat} {k:KD} (hk:k.Ok) (a0:Act) (w:World) (n cap i:Nat) (ad:Addr) (nn:Int)
  (hsz:a0.tmps.size=208) (hdf:a0.defers=[]) (h0:∀ x y,DynD k false false false false x y { w with drawn:=w.drawn+1 })
  (B3:a0.eval (.tmp 3)=.pointer (some ⟨k.b3,0,none⟩)) (B5:a0.eval (.tmp 5)=.pointer (some ⟨k.b5,0,none⟩)) (B6:a0.eval (.tmp 6)=.pointer (some ⟨k.b6,0,none⟩)) (B7:a0.eval (.tmp 7)=.pointer (some ⟨k.b7,0,none⟩)) (B9:a0.eval (.tmp 9)=.int .i64 nn) (B11:a0.eval (.tmp 11)=.int .i64 (i:Int)) (B13:a0.eval (.tmp 13)=k.v13)
  (hsv:k.sv=.slice (some ad) n cap) (hin:i < n) (hnc:n≤cap) (hn:n≤100000) (hL0:k.L0.length≤100000) (hR0:k.R0.length≤100000) (hT:k.T=⟨200,nn,k.A.tag,k.A.has⟩) (hone:∀ d ∈ k.R0,d.ts.oneCell'=true∧d.ns.oneCell'=true)
  (hsrc:∀ u,Below k.W0.heap.size k.W0 u → ∃ ad2 c2,pbEnd ad n cap i=.slice (some ad2) k.R0.length c2∧∀ (j:Nat) (x:Value),(pbsCells k.R0)[j]? = some x → u.cell? (ad2.add j)=some x)
  (fin:∀ (us:List Value) (u:World) (x y:Value),us.length=18 → DynD k true true true true x y u → Q .normal ⟨((a0.tmps.toList.set 8 (.int .i64 0)).take 190++(us++(a0.tmps.toList.set 8 (.int .i64 0)).drop 208)).toArray,[]⟩ u) :
  (Code.region id ops true).wp Tryz.prog Q a0 w:=by
 have gz:∀ j,(Array.replicate ops.size false).getD j false=false:=fun j=>by rw [Array.getD_eq_getD_getElem?,Array.getElem?_replicate]; split <;> rfl
 refine wp_region_inv followsU (InvD k (r26C k n cap i ad nn a0)) ?_ ?_ (fun L a u m hs hi hI=>r26_steps S hk a0 n cap i ad nn B3 B5 B6 B7 B9 B11 B13 hsv hin hnc hn hL0 hR0 hT hone hsrc Q L a u m hs hi hI)
 ·refine ⟨hsz,hdf,fun s _ _=>rfl,fun hl=>(by rw [gz] at hl; cases hl),fun e _ hl=>(by rw [gz] at hl; cases hl),?_⟩
  rw [gz,gz,gz,gz];exact h0 _ _
 ·intro L a u hs hr hI;have hall:=all_listed hlow hs hr;rw [S.sz] at hall;have dd:=hI.dyn;simp only [r26C] at dd;rw [hall 10 (by decide),hall 11 (by decide),hall 18 (by decide),hall 19 (by decide)] at dd;have t8:=hI.t8 (by simp only [r26C]; exact hall 20 (by decide))
  have ho:Outs ⟨a0,190,208,208,0,w,fun _=>0,fun _ _ _=>True⟩ (a0.put (some 8) (.int .i64 0)) a:=⟨hI.sz,hI.df,fun s hs=>by
   by_cases e:s=8
   ·subst e;rw [eval_put_same (by rw [hsz]; decide)]; exact t8
   ·rw [eval_put_ne e]; exact hI.out s hs e⟩
  obtain ⟨us,hus,hau⟩:=ho.fin (by rw [put_size]; exact hsz) (by simp) (by simp);rw [hau,put_list];exact fin us u _ _ hus dd
theorem OwnPb.empty (w:World) (B:Nat) (hb:B≤w.heap.size):OwnPb (w.alloc (.cells #[] 37)) B (.slice (some ⟨w.heap.size,0,none⟩) 0 0) []:=by
 have:=World.ownsRow_lit (base:=B) (e:=37) (size:=7) w #[] 0 hb (by decide) rfl
 exact this
theorem OwnPb.one (w:World) (B:Nat) (hb:B≤w.heap.size) (c:PbC):OwnPb (w.alloc (.cells (pbCells c).toArray 37)) B (.slice (some ⟨w.heap.size,0,none⟩) 1 1) [c]:=by
 have:=World.ownsRow_lit (base:=B) (e:=37) (size:=7) w (pbCells c).toArray 1 hb (by decide) rfl
 exact this
theorem OwnPb.news {w:World} {B:Nat} {v:Value} {cs:List PbC} (h:OwnPb w B v cs):(v=.slice none 0 0∧cs=[])∨∃ ad cap,v=.slice (some ad) cs.length cap∧∀ (j:Nat) (u:Value),(pbsCells cs)[j]? = some u → w.cell? (ad.add j)=some u:=by
 rcases h.2 with ⟨rfl,hn⟩ | ⟨g,cap,cur,rfl,_⟩
 ·exact Or.inl ⟨rfl,List.eq_nil_of_length_eq_zero hn⟩
 ·exact Or.inr ⟨_,cap,rfl,World.ownsRow.cells h rfl⟩
structure KE where
 S:Sto
 sv:Value
 A:Pa
 ts:Value
 ns:Value
 cs:List PbC
 p:PbC
 T:Td
 b3:Nat
 b5:Nat
 b6:Nat
 b7:Nat
 bp:Nat
 B:Nat
 W0:World
def KE.S2 (k:KE):Sto:=⟨k.S.c,k.S.last+1,[]⟩
structure KE.Ok (k:KE):Prop where
 h3:k.b3 < k.B
 h5:k.b5 < k.B
 h6:k.b6 < k.B
 h7:k.b7 < k.B
 hp:k.bp < k.B
 n63:k.b3 ≠ k.b6
 n65:k.b5 ≠ k.b6
 n67:k.b7 ≠ k.b6
 n6p:k.bp ≠ k.b6
 n73:k.b3 ≠ k.b7
 n75:k.b5 ≠ k.b7
 n7p:k.bp ≠ k.b7
 l6:k.W0.heap.size≤k.b6
 l7:k.W0.heap.size≤k.b7
structure DynE (k:KE) (l5 l8 l10 l11 l12 l6 l7:Bool) (x5 x8 x10 x11 x12:Value) (w:World):Prop where
 bs:BoxS w k.b3 k.S k.sv
 ba:BoxA w k.b5 k.A k.ts k.ns
 bq:RowIs w k.bp 37 (pbCells k.p)
 bel:Below k.W0.heap.size k.W0 w
 lo:k.B≤w.heap.size
 o5:l5=true → l8=false → OwnPb w k.B x5 []
 o8:l8=true → l11=false → OwnPb w k.B x8 k.cs
 o10:l10=true → l11=false → OwnPb w k.B x10 [k.p]
 n5:l10=true → l5=true → l8=false → x10.ownBlock ≠ x5.ownBlock
 o11:l11=true → OwnPb w k.B x11 (k.cs++[k.p])
 eB:l12=true → x12=stoV k.S2 x11
 r6:RowIs w k.b6 28 (if l6=true then stoL k.S2 x11 else stoZ)
 r7:RowIs w k.b7 48 (if l7=true then tdL k.T else tdZ)
 c12:l12=true → l11=true
 c6:l6=true → l12=true
 c8:l11=true → l8=true
section
variable {k : KE} {l5 l8 l10 l11 l12 l6 l7 : Bool} {x5 x8 x10 x11 x12 : Value} {w w' : World}
theorem DynE.grow (h:DynE k l5 l8 l10 l11 l12 l6 l7 x5 x8 x10 x11 x12 w) (hk:k.Ok) {r:Option Nat} (hg:w.grownBy w' r) (hr:∀ g,r=some g → k.B≤g) :
  BoxS w' k.b3 k.S k.sv∧BoxA w' k.b5 k.A k.ts k.ns∧RowIs w' k.bp 37 (pbCells k.p)∧Below k.W0.heap.size k.W0 w'∧k.B≤w'.heap.size∧RowIs w' k.b6 28 (if l6=true then stoL k.S2 x11 else stoZ)∧RowIs w' k.b7 48 (if l7=true then tdL k.T else tdZ):=by
 have hne:∀ b,b < k.B → some b ≠ r:=fun b hb e=>by have:=hr b e.symm; omega
 have blk:∀ b,b < k.B → w'.heap[b]? = w.heap[b]? := fun b hb=>hg.block b (Nat.lt_of_lt_of_le hb h.lo) (hne b hb);exact ⟨h.bs.blk (blk _ hk.h3),h.ba.blk (blk _ hk.h5),RowIs.blk h.bq (blk _ hk.hp),h.bel.grown hg h.bel.size (fun g e=>Nat.le_trans (Nat.le_trans hk.l6 (Nat.le_of_lt hk.h6)) (hr g e)),Nat.le_trans h.lo hg.size,RowIs.blk h.r6 (blk _ hk.h6),RowIs.blk h.r7 (blk _ hk.h7)⟩
theorem DynE.s5 (h:DynE k l5 l8 l10 l11 l12 l6 l7 x5 x8 x10 x11 x12 w) (hk:k.Ok):DynE k true l8 l10 l11 l12 l6 l7 (.slice (some ⟨w.heap.size,0,none⟩) 0 0) x8 x10 x11 x12 (w.alloc (.cells #[] 37)):=by
 obtain ⟨g1,g2,g3,g4,g5,g6,g7⟩:=h.grow hk (alloc_grown w (.cells #[] 37) none) (fun g e=>by cases e);refine ⟨g1,g2,g3,g4,g5,fun _ _=>OwnPb.empty w k.B h.lo,fun a1 a2=>(h.o8 a1 a2).alloc _,fun a1 a2=>(h.o10 a1 a2).alloc _,fun a1 _ a3 e=>?_,fun a1=>(h.o11 a1).alloc _,h.eB,g6,g7,h.c12,h.c6,h.c8⟩
 cases h11:l11
 ·have:=(World.ownsRow.lt (h.o10 a1 h11) w.heap.size (by rw [e]; rfl)).2
  omega
 ·exact absurd (h.c8 h11) (by rw [a3]; decide)
theorem DynE.s10 (h:DynE k l5 l8 l10 l11 l12 l6 l7 x5 x8 x10 x11 x12 w) (hk:k.Ok):DynE k l5 l8 true l11 l12 l6 l7 x5 x8 (.slice (some ⟨w.heap.size,0,none⟩) 1 1) x11 x12 (w.alloc (.cells (pbCells k.p).toArray 37)):=by
 obtain ⟨g1,g2,g3,g4,g5,g6,g7⟩:=h.grow hk (alloc_grown w (.cells (pbCells k.p).toArray 37) none) (fun g e=>by cases e);refine ⟨g1,g2,g3,g4,g5,fun a1 a2=>(h.o5 a1 a2).alloc _,fun a1 a2=>(h.o8 a1 a2).alloc _,fun _ _=>OwnPb.one w k.B h.lo k.p,fun _ a2 a3 e=>?_,fun a1=>(h.o11 a1).alloc _,h.eB,g6,g7,h.c12,h.c6,h.c8⟩
 have:=(World.ownsRow.lt (h.o5 a2 a3) w.heap.size (by rw [← e]; rfl)).2
 omega
theorem DynE.s8 (h:DynE k l5 l8 l10 l11 l12 l6 l7 x5 x8 x10 x11 x12 w) (hk:k.Ok) (h5:l5=true) (h8:l8=false) {v':Value} (ho:OwnPb w' k.B v' k.cs) (hg:w.grownBy w' x5.ownBlock):DynE k l5 true l10 l11 l12 l6 l7 x5 v' x10 x11 x12 w':=by
 have h11:l11=false:=by
  cases e:l11
  ·rfl
  ·have:=h.c8 e; rw [h8] at this; cases this
 obtain ⟨g1,g2,g3,g4,g5,g6,g7⟩:=h.grow hk hg (fun g e=>(World.ownsRow.lt (h.o5 h5 h8) g e).1);exact ⟨g1,g2,g3,g4,g5,fun _ e=>(by cases e),fun _ _=>ho,fun a1 a2=>World.ownsRow.kept (h.o10 a1 a2) hg (.inr (h.n5 a1 h5 h8)),fun _ _ e=>(by cases e),fun a1=>(by rw [h11] at a1; cases a1),h.eB,g6,g7,h.c12,h.c6,fun _=>rfl⟩
theorem DynE.s11 (h:DynE k l5 l8 l10 l11 l12 l6 l7 x5 x8 x10 x11 x12 w) (hk:k.Ok) (h8:l8=true) (h11:l11=false) {v':Value} (ho:OwnPb w' k.B v' (k.cs++[k.p])) (hg:w.grownBy w' x8.ownBlock):DynE k l5 l8 l10 true l12 l6 l7 x5 x8 x10 v' x12 w':=by
 have h12:l12=false:=by
  cases e:l12
  ·rfl
  ·have:=h.c12 e; rw [h11] at this; cases this
 have h60:l6=false:=by
  cases e:l6
  ·rfl
  ·have:=h.c6 e; rw [h12] at this; cases this
 obtain ⟨g1,g2,g3,g4,g5,g6,g7⟩:=h.grow hk hg (fun g e=>(World.ownsRow.lt (h.o8 h8 h11) g e).1);rw [h60] at g6;rw [h12,h60,h8];exact ⟨g1,g2,g3,g4,g5,fun _ e=>(by cases e),fun _ e=>(by cases e),fun _ e=>(by cases e),fun _ _ e=>(by cases e),fun _=>ho,fun e=>(by cases e),g6,g7,fun e=>(by cases e),fun e=>(by cases e),fun _=>rfl⟩
theorem DynE.s12 (h:DynE k l5 l8 l10 l11 l12 l6 l7 x5 x8 x10 x11 x12 w) (h11:l11=true):DynE k l5 l8 l10 l11 true l6 l7 x5 x8 x10 x11 (stoV k.S2 x11) w :=
 ⟨h.bs,h.ba,h.bq,h.bel,h.lo,h.o5,h.o8,h.o10,h.n5,h.o11,fun _=>rfl,h.r6,h.r7,fun _=>h11,fun _=>rfl,h.c8⟩
theorem DynE.s6 (h:DynE k l5 l8 l10 l11 l12 l6 l7 x5 x8 x10 x11 x12 w) (hk:k.Ok) (hB:l12=true) (h0:l6=false) :
  DynE k l5 l8 l10 l11 l12 true l7 x5 x8 x10 x11 x12 ((((((((((w.setCell ⟨k.b6,0,none⟩ (.string ⟨k.S.c.host.toArray⟩)).setCell ⟨k.b6,1,none⟩ (.int .i64 k.S.c.calls)).setCell ⟨k.b6,2,none⟩ (.int .i64 k.S.c.pubs)).setCell ⟨k.b6,3,none⟩ (.int .i64 k.S.c.subs)).setCell ⟨k.b6,4,none⟩ (.int .i64 k.S.c.least)).setCell ⟨k.b6,5,none⟩ (.int .i64 k.S.c.most)).setCell ⟨k.b6,6,none⟩ (.int .i64 k.S.c.usual)).setCell ⟨k.b6,7,none⟩ (.int .i64 (k.S.last+1))).setCell ⟨k.b6,8,none⟩ x11)):=by
 have r6:=h.r6;rw [h0] at r6;have blk:∀ b,b ≠ k.b6 → _:=fun b hb=>set9_block w hb (.string ⟨k.S.c.host.toArray⟩) (.int .i64 k.S.c.calls) (.int .i64 k.S.c.pubs) (.int .i64 k.S.c.subs) (.int .i64 k.S.c.least) (.int .i64 k.S.c.most) (.int .i64 k.S.c.usual) (.int .i64 (k.S.last+1)) x11;exact ⟨h.bs.blk (blk _ hk.n63),h.ba.blk (blk _ hk.n65),RowIs.blk h.bq (blk _ hk.n6p),rc_below9 h.bel k.b6 hk.l6 _ _ _ _ _ _ _ _ _,by rw [set9_size]; exact h.lo,fun a b=>own_set9 (h.o5 a b) hk.h6 _ _ _ _ _ _ _ _ _,fun a b=>own_set9 (h.o8 a b) hk.h6 _ _ _ _ _ _ _ _ _,fun a b=>own_set9 (h.o10 a b) hk.h6 _ _ _ _ _ _ _ _ _,h.n5,fun e=>own_set9 (h.o11 e) hk.h6 _ _ _ _ _ _ _ _ _,h.eB,rc_store9 r6 _ _ _ _ _ _ _ _ _,RowIs.blk h.r7 (blk _ hk.n67),h.c12,fun _=>hB,h.c8⟩
end
end Go.Proofs.YtbmjodlbkgblpaaGreatDoor
