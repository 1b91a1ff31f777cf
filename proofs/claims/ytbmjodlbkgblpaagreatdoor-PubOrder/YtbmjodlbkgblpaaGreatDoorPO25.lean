/-
  PubX, PubY, PubZ, PubDo1.
-/
import Derived.Test.YtbmjodlbkgblpaaGreatDoorPO24
set_option linter.unusedVariables false
set_option linter.unusedSimpArgs false
set_option maxRecDepth 20000
namespace Go.Proofs.YtbmjodlbkgblpaaGreatDoor
open Go.RowKit Sc
section
variable {k : KE} {l5 l8 l10 l11 l12 l6 l7 : Bool} {x5 x8 x10 x11 x12 : Value} {w w' : World}
theorem DynE.s7 (h:DynE k l5 l8 l10 l11 l12 l6 l7 x5 x8 x10 x11 x12 w) (hk:k.Ok) (h0:l7=false) :
  DynE k l5 l8 l10 l11 l12 l6 true x5 x8 x10 x11 x12 ((((w.setCell ⟨k.b7,0,none⟩ (.int .i64 k.T.status)).setCell ⟨k.b7,1,none⟩ (.int .i64 k.T.expires)).setCell ⟨k.b7,2,none⟩ (.string ⟨k.T.tag.toArray⟩)).setCell ⟨k.b7,3,none⟩ (.bool k.T.changed)):=by
 have r7:=h.r7;rw [h0] at r7;have blk:∀ b,b ≠ k.b7 → _:=fun b hb=>set4_block w hb (.int .i64 k.T.status) (.int .i64 k.T.expires) (.string ⟨k.T.tag.toArray⟩) (.bool k.T.changed);exact ⟨h.bs.blk (blk _ hk.n73),h.ba.blk (blk _ hk.n75),RowIs.blk h.bq (blk _ hk.n7p),rc_below4 h.bel k.b7 hk.l7 _ _ _ _,Nat.le_trans h.lo (rc_below4 (Below.refl 0 w) k.b7 (Nat.zero_le _) _ _ _ _).size,fun a b=>own_set4 (h.o5 a b) hk.h7 _ _ _ _,fun a b=>own_set4 (h.o8 a b) hk.h7 _ _ _ _,fun a b=>own_set4 (h.o10 a b) hk.h7 _ _ _ _,h.n5,fun e=>own_set4 (h.o11 e) hk.h7 _ _ _ _,h.eB,RowIs.blk h.r6 (blk _ (Ne.symm hk.n67)),rc_store4 r7 _ _ _ _,h.c12,h.c6,h.c8⟩
end
structure r15Ops (ops:Array Oper):Prop where
 sz:ops.size=20
 p0:OpIs ops 0 (some 120) (.fieldAddr 28 (.tmp 3) 0)
 p1:OpIs ops 1 (some 121) (.load 25 (.tmp 120))
 p2:OpIs ops 2 (some 122) (.fieldAddr 28 (.tmp 3) 1)
 p3:OpIs ops 3 (some 123) (.load 3 (.tmp 122))
 p4:OpIs ops 4 (some 124) (.binOp .add 3 (.tmp 123) (.const (.int .i64 1)) 3)
 p5:OpIs ops 5 (some 125) (.buildSlice 26 0 #[])
 p6:OpIs ops 6 (some 126) (.fieldAddr 28 (.tmp 3) 2)
 p7:OpIs ops 7 (some 127) (.load 26 (.tmp 126))
 p8:OpIs ops 8 (some 128) (.call { callee:=.builtin .append,args:=#[.tmp 125,.tmp 127],argTypes:=#[26,26] })
 p9:OpIs ops 9 (some 129) (.load 37 (.tmp 12))
 p10:OpIs ops 10 (some 130) (.buildSlice 26 1 #[(0,.tmp 129)])
 p11:OpIs ops 11 (some 131) (.call { callee:=.builtin .append,args:=#[.tmp 128,.tmp 130],argTypes:=#[26,26] })
 p12:OpIs ops 12 (some 132) (.build 28 #[(0,.tmp 121),(1,.tmp 124),(2,.tmp 131)])
 p13:OpIs ops 13 (some 133) (.move (.tmp 9))
 p14:OpIs ops 14 (some 134) (.fieldAddr 44 (.tmp 5) 5)
 p15:OpIs ops 15 (some 135) (.load 9 (.tmp 134))
 p16:OpIs ops 16 (some 136) (.build 48 #[(0,.const (.int .i64 200)),(1,.tmp 133),(2,.tmp 135),(3,.const (.bool true))])
 p17:OpIs ops 17 none (.store 28 (.tmp 6) (.tmp 132))
 p18:OpIs ops 18 none (.store 48 (.tmp 7) (.tmp 136))
 p19:OpIs ops 19 (some 8) (.assign (.const (.int .i64 0)))
 w1_0:Waits ops 1 0
 w3_2:Waits ops 3 2
 w4_3:Waits ops 4 3
 w7_6:Waits ops 7 6
 w15_14:Waits ops 15 14
 w16_13:Waits ops 16 13
 w16_15:Waits ops 16 15
 w8_5:Waits ops 8 5
 w8_7:Waits ops 8 7
 w10_9:Waits ops 10 9
 w11_8:Waits ops 11 8
 w11_10:Waits ops 11 10
 w12_1:Waits ops 12 1
 w12_4:Waits ops 12 4
 w12_11:Waits ops 12 11
 w17_12:Waits ops 17 12
 w18_16:Waits ops 18 16
def r15T (k:KE) (nn:Int):List (Nat × Nat × Value) :=
 [(0,120,.pointer (some ⟨k.b3,0,none⟩)),(1,121,cfV k.S.c),(2,122,.pointer (some ⟨k.b3,7,none⟩)),(3,123,.int .i64 k.S.last),(4,124,.int .i64 (k.S.last+1)),(6,126,.pointer (some ⟨k.b3,8,none⟩)),(7,127,k.sv),(9,129,pbV k.p),(13,133,.int .i64 nn),(14,134,.pointer (some ⟨k.b5,7,none⟩)),(15,135,.string ⟨k.A.tag.toArray⟩),(16,136,tdV ⟨200,nn,k.A.tag,true⟩)]
structure InvE (k:KE) (nn:Int) (a0:Act) (L:Array Bool) (a:Act) (w:World):Prop where
 sz:a.tmps.size=208
 df:a.defers=[]
 out:∀ s:Nat,(s < 120∨137≤s) → s ≠ 8 → a.eval (.tmp s)=a0.eval (.tmp s)
 t8:L.getD 19 false=true → a.eval (.tmp 8)=.int .i64 0
 tab:TabOk (r15T k nn) L a
 dyn:DynE k (L.getD 5 false) (L.getD 8 false) (L.getD 10 false) (L.getD 11 false) (L.getD 12 false) (L.getD 17 false) (L.getD 18 false) (a.eval (.tmp 125)) (a.eval (.tmp 128)) (a.eval (.tmp 130)) (a.eval (.tmp 131)) (a.eval (.tmp 132)) w
section
variable {k : KE} {nn : Int} {a0 : Act} {L : Array Bool} {a : Act} {w w' : World}
theorem InvE.quiet (h:InvE k nn a0 L a w) (i d:Nat) (v:Value) (hi:i ≠ 5∧i ≠ 8∧i ≠ 10∧i ≠ 11∧i ≠ 12∧i ≠ 17∧i ≠ 18∧i ≠ 19) (hd:120≤d∧d < 137∧d ≠ 125∧d ≠ 128∧d ≠ 130∧d ≠ 131∧d ≠ 132)
  (hT:∀ e ∈ r15T k nn,(e.2.1=d∧e.2.2=v)∨(e.1 ≠ i∧e.2.1 ≠ d)):InvE k nn a0 (L.setIfInBounds i true) (a.put (some d) v) w:=by
 obtain ⟨i1,i2,i3,i4,i5,i6,i7,i8⟩:=hi;obtain ⟨d1,d2,d3,d4,d5,d6,d7⟩:=hd;refine ⟨by rw [put_size]; exact h.sz,by rw [put_defers]; exact h.df,fun s hs h8=>by rw [eval_put_ne (by omega)]; exact h.out s hs h8,fun hl=>?_,h.tab.put (by rw [h.sz]; omega) hT,?_⟩
 ·rw [getD_set_ne (Ne.symm i8)] at hl;rw [eval_put_ne (by omega)]; exact h.t8 hl
 ·rw [getD_set_ne (Ne.symm i1),getD_set_ne (Ne.symm i2),getD_set_ne (Ne.symm i3),getD_set_ne (Ne.symm i4),getD_set_ne (Ne.symm i5),getD_set_ne (Ne.symm i6),getD_set_ne (Ne.symm i7),eval_put_ne (Ne.symm d3),eval_put_ne (Ne.symm d4),eval_put_ne (Ne.symm d5),eval_put_ne (Ne.symm d6),eval_put_ne (Ne.symm d7)];exact h.dyn
theorem InvE.s5 (h:InvE k nn a0 L a w) (hL:L.size=20) (hk:k.Ok):InvE k nn a0 (L.setIfInBounds 5 true) (a.put (some 125) (.slice (some ⟨w.heap.size,0,none⟩) 0 0)) (w.alloc (.cells #[] 37)):=by
 refine ⟨by rw [put_size]; exact h.sz,by rw [put_defers]; exact h.df,fun s hs h8=>by rw [eval_put_ne (by omega)]; exact h.out s hs h8,fun hl=>?_,h.tab.put (by rw [h.sz]; decide) (by intro e he; simp [r15T] at he; rcases he with rfl | rfl | rfl | rfl | rfl | rfl | rfl | rfl | rfl | rfl | rfl | rfl <;> simp),?_⟩
 ·rw [getD_set_ne (by decide)] at hl;rw [eval_put_ne (by decide)]; exact h.t8 hl
 ·rw [getD_set_same (by rw [hL]; decide),getD_set_ne (by decide),getD_set_ne (by decide),getD_set_ne (by decide),getD_set_ne (by decide),getD_set_ne (by decide),getD_set_ne (by decide),eval_put_same (by rw [h.sz]; decide),eval_put_ne (by decide),eval_put_ne (by decide),eval_put_ne (by decide),eval_put_ne (by decide)];exact h.dyn.s5 hk
theorem InvE.s10 (h:InvE k nn a0 L a w) (hL:L.size=20) (hk:k.Ok):InvE k nn a0 (L.setIfInBounds 10 true) (a.put (some 130) (.slice (some ⟨w.heap.size,0,none⟩) 1 1)) (w.alloc (.cells (pbCells k.p).toArray 37)):=by
 refine ⟨by rw [put_size]; exact h.sz,by rw [put_defers]; exact h.df,fun s hs h8=>by rw [eval_put_ne (by omega)]; exact h.out s hs h8,fun hl=>?_,h.tab.put (by rw [h.sz]; decide) (by intro e he; simp [r15T] at he; rcases he with rfl | rfl | rfl | rfl | rfl | rfl | rfl | rfl | rfl | rfl | rfl | rfl <;> simp),?_⟩
 ·rw [getD_set_ne (by decide)] at hl;rw [eval_put_ne (by decide)]; exact h.t8 hl
 ·rw [getD_set_ne (by decide),getD_set_ne (by decide),getD_set_same (by rw [hL]; decide),getD_set_ne (by decide),getD_set_ne (by decide),getD_set_ne (by decide),getD_set_ne (by decide),eval_put_ne (by decide),eval_put_ne (by decide),eval_put_same (by rw [h.sz]; decide),eval_put_ne (by decide),eval_put_ne (by decide)];exact h.dyn.s10 hk
theorem InvE.s8 (h:InvE k nn a0 L a w) (hL:L.size=20) (hk:k.Ok) (h5:L.getD 5 false=true) (h8:L.getD 8 false=false) {v':Value} (ho:OwnPb w' k.B v' k.cs) (hg:w.grownBy w' (a.eval (.tmp 125)).ownBlock):InvE k nn a0 (L.setIfInBounds 8 true) (a.put (some 128) v') w':=by
 refine ⟨by rw [put_size]; exact h.sz,by rw [put_defers]; exact h.df,fun s hs h8=>by rw [eval_put_ne (by omega)]; exact h.out s hs h8,fun hl=>?_,h.tab.put (by rw [h.sz]; decide) (by intro e he; simp [r15T] at he; rcases he with rfl | rfl | rfl | rfl | rfl | rfl | rfl | rfl | rfl | rfl | rfl | rfl <;> simp),?_⟩
 ·rw [getD_set_ne (by decide)] at hl;rw [eval_put_ne (by decide)]; exact h.t8 hl
 ·rw [getD_set_ne (by decide),getD_set_same (by rw [hL]; decide),getD_set_ne (by decide),getD_set_ne (by decide),getD_set_ne (by decide),getD_set_ne (by decide),getD_set_ne (by decide),eval_put_ne (by decide),eval_put_same (by rw [h.sz]; decide),eval_put_ne (by decide),eval_put_ne (by decide),eval_put_ne (by decide)];exact h.dyn.s8 hk h5 h8 ho hg
theorem InvE.s11 (h:InvE k nn a0 L a w) (hL:L.size=20) (hk:k.Ok) (h8:L.getD 8 false=true) (h11:L.getD 11 false=false) {v':Value} (ho:OwnPb w' k.B v' (k.cs++[k.p])) (hg:w.grownBy w' (a.eval (.tmp 128)).ownBlock):InvE k nn a0 (L.setIfInBounds 11 true) (a.put (some 131) v') w':=by
 refine ⟨by rw [put_size]; exact h.sz,by rw [put_defers]; exact h.df,fun s hs h8=>by rw [eval_put_ne (by omega)]; exact h.out s hs h8,fun hl=>?_,h.tab.put (by rw [h.sz]; decide) (by intro e he; simp [r15T] at he; rcases he with rfl | rfl | rfl | rfl | rfl | rfl | rfl | rfl | rfl | rfl | rfl | rfl <;> simp),?_⟩
 ·rw [getD_set_ne (by decide)] at hl;rw [eval_put_ne (by decide)]; exact h.t8 hl
 ·rw [getD_set_ne (by decide),getD_set_ne (by decide),getD_set_ne (by decide),getD_set_same (by rw [hL]; decide),getD_set_ne (by decide),getD_set_ne (by decide),getD_set_ne (by decide),eval_put_ne (by decide),eval_put_ne (by decide),eval_put_ne (by decide),eval_put_same (by rw [h.sz]; decide),eval_put_ne (by decide)];exact h.dyn.s11 hk h8 h11 ho hg
theorem InvE.s12 (h:InvE k nn a0 L a w) (hL:L.size=20) (h11:L.getD 11 false=true):InvE k nn a0 (L.setIfInBounds 12 true) (a.put (some 132) (stoV k.S2 (a.eval (.tmp 131)))) w:=by
 refine ⟨by rw [put_size]; exact h.sz,by rw [put_defers]; exact h.df,fun s hs h8=>by rw [eval_put_ne (by omega)]; exact h.out s hs h8,fun hl=>?_,h.tab.put (by rw [h.sz]; decide) (by intro e he; simp [r15T] at he; rcases he with rfl | rfl | rfl | rfl | rfl | rfl | rfl | rfl | rfl | rfl | rfl | rfl <;> simp),?_⟩
 ·rw [getD_set_ne (by decide)] at hl;rw [eval_put_ne (by decide)]; exact h.t8 hl
 ·rw [getD_set_ne (by decide),getD_set_ne (by decide),getD_set_ne (by decide),getD_set_ne (by decide),getD_set_same (by rw [hL]; decide),getD_set_ne (by decide),getD_set_ne (by decide),eval_put_ne (by decide),eval_put_ne (by decide),eval_put_ne (by decide),eval_put_ne (by decide),eval_put_same (by rw [h.sz]; decide)];exact h.dyn.s12 h11
theorem InvE.s17 (h:InvE k nn a0 L a w) (hL:L.size=20) (hk:k.Ok) (hB:L.getD 12 false=true) (h0:L.getD 17 false=false):InvE k nn a0 (L.setIfInBounds 17 true) a ((((((((((w.setCell ⟨k.b6,0,none⟩ (.string ⟨k.S.c.host.toArray⟩)).setCell ⟨k.b6,1,none⟩ (.int .i64 k.S.c.calls)).setCell ⟨k.b6,2,none⟩ (.int .i64 k.S.c.pubs)).setCell ⟨k.b6,3,none⟩ (.int .i64 k.S.c.subs)).setCell ⟨k.b6,4,none⟩ (.int .i64 k.S.c.least)).setCell ⟨k.b6,5,none⟩ (.int .i64 k.S.c.most)).setCell ⟨k.b6,6,none⟩ (.int .i64 k.S.c.usual)).setCell ⟨k.b6,7,none⟩ (.int .i64 (k.S.last+1))).setCell ⟨k.b6,8,none⟩ (a.eval (.tmp 131)))):=by
 refine ⟨h.sz,h.df,h.out,fun hl=>h.t8 (by rwa [getD_set_ne (by decide)] at hl),h.tab.skip (by intro e he; simp [r15T] at he; rcases he with rfl | rfl | rfl | rfl | rfl | rfl | rfl | rfl | rfl | rfl | rfl | rfl <;> simp),?_⟩
 rw [getD_set_ne (by decide),getD_set_ne (by decide),getD_set_ne (by decide),getD_set_ne (by decide),getD_set_ne (by decide),getD_set_same (by rw [hL]; decide),getD_set_ne (by decide)];exact h.dyn.s6 hk hB h0
theorem InvE.s18 (h:InvE k nn a0 L a w) (hL:L.size=20) (hk:k.Ok) (h0:L.getD 18 false=false):InvE k nn a0 (L.setIfInBounds 18 true) a ((((w.setCell ⟨k.b7,0,none⟩ (.int .i64 k.T.status)).setCell ⟨k.b7,1,none⟩ (.int .i64 k.T.expires)).setCell ⟨k.b7,2,none⟩ (.string ⟨k.T.tag.toArray⟩)).setCell ⟨k.b7,3,none⟩ (.bool k.T.changed)):=by
 refine ⟨h.sz,h.df,h.out,fun hl=>h.t8 (by rwa [getD_set_ne (by decide)] at hl),h.tab.skip (by intro e he; simp [r15T] at he; rcases he with rfl | rfl | rfl | rfl | rfl | rfl | rfl | rfl | rfl | rfl | rfl | rfl <;> simp),?_⟩
 rw [getD_set_ne (by decide),getD_set_ne (by decide),getD_set_ne (by decide),getD_set_ne (by decide),getD_set_ne (by decide),getD_set_ne (by decide),getD_set_same (by rw [hL]; decide)];exact h.dyn.s7 hk h0
theorem InvE.s19 (h:InvE k nn a0 L a w):InvE k nn a0 (L.setIfInBounds 19 true) (a.put (some 8) (.int .i64 0)) w:=by
 refine ⟨by rw [put_size]; exact h.sz,by rw [put_defers]; exact h.df,fun s hs h8=>by rw [eval_put_ne h8]; exact h.out s hs h8,fun _=>eval_put_same (by rw [h.sz]; decide),h.tab.put (by rw [h.sz]; decide) (by intro e he; simp [r15T] at he; rcases he with rfl | rfl | rfl | rfl | rfl | rfl | rfl | rfl | rfl | rfl | rfl | rfl <;> simp),?_⟩
 rw [getD_set_ne (by decide),getD_set_ne (by decide),getD_set_ne (by decide),getD_set_ne (by decide),getD_set_ne (by decide),getD_set_ne (by decide),getD_set_ne (by decide),eval_put_ne (by decide),eval_put_ne (by decide),eval_put_ne (by decide),eval_put_ne (by decide),eval_put_ne (by decide)];exact h.dyn
end
set_option maxHeartbeats 4000000 in
set_option maxRecDepth 100000 in
theorem r15_steps {ops:Array Oper} (S:r15Ops ops) {k:KE} (hk:k.Ok) (a0:Act) (nn:Int)
  (B3:a0.eval (.tmp 3)=.pointer (some ⟨k.b3,0,none⟩)) (B5:a0.eval (.tmp 5)=.pointer (some ⟨k.b5,0,none⟩)) (B6:a0.eval (.tmp 6)=.pointer (some ⟨k.b6,0,none⟩)) (B7:a0.eval (.tmp 7)=.pointer (some ⟨k.b7,0,none⟩)) (B9:a0.eval (.tmp 9)=.int .i64 nn) (B12:a0.eval (.tmp 12)=.pointer (some ⟨k.bp,0,none⟩))
  (hsf:∃ oa n cap,k.sv=.slice oa n cap) (hl0:0≤k.S.last) (hl9:k.S.last≤1000000000) (hn:k.cs.length≤100000) (hT:k.T=⟨200,nn,k.A.tag,true⟩) (hone:∀ d ∈ k.cs,d.ts.oneCell'=true∧d.ns.oneCell'=true) (honp:k.p.ts.oneCell'=true∧k.p.ns.oneCell'=true)
  (hsrc:∀ u,Below k.W0.heap.size k.W0 u → (k.sv=.slice none 0 0∧k.cs=[])∨∃ ad2 c2,k.sv=.slice (some ad2) k.cs.length c2∧∀ (j:Nat) (x:Value),(pbsCells k.cs)[j]? = some x → u.cell? (ad2.add j)=some x)
  (Q:Exit → Act → World → Prop) (L:Array Bool) (a:Act) (w:World) (m:Nat) (hs:L.size=ops.size) (hi:m ∈ Region.ready .any ops L) (hI:InvE k nn a0 L a w) :
  wpOp Tryz.prog ops Q m (InvE k nn a0 (L.setIfInBounds m true)) a w:=by
 have hL:L.size=20:=by rw [hs,S.sz]
 obtain ⟨hn0,hlt⟩:=ready_nots hi;rw [S.sz] at hlt;have TB:∀ j d v,(j,d,v) ∈ r15T k nn → L.getD j false=true → a.eval (.tmp d)=v:=fun j d v hm hl=>hI.tab (j,d,v) hm hl;obtain ⟨i0,hif,hz0,hz1,hz2⟩:=info_parts infoPub;have dd:=hI.dyn;have evc:∀ v,a.eval (.const v)=v:=fun _=>rfl;have t3:=(hI.out 3 (.inl (by decide)) (by decide)).trans B3;have t5:=(hI.out 5 (.inl (by decide)) (by decide)).trans B5;have t6:=(hI.out 6 (.inl (by decide)) (by decide)).trans B6;have t7:=(hI.out 7 (.inl (by decide)) (by decide)).trans B7;have t9:=(hI.out 9 (.inl (by decide)) (by decide)).trans B9;have t12:=(hI.out 12 (.inl (by decide)) (by decide)).trans B12;obtain ⟨⟨x0,x1,x2,x3,x4,x5,x6⟩,x7,x8⟩:=dd.bs;obtain ⟨y0,y1,y2,y3,y4,y5,y6,y7⟩:=dd.ba;have hq:=dd.bq;have p0:w.cell? ⟨k.bp,0,none⟩=some (.int .i64 k.p.p.num):=RowIs.cell hq 0 (by simp [pbCells]);have p1:w.cell? ⟨k.bp,1,none⟩=some (.string ⟨k.p.p.who.toArray⟩):=RowIs.cell hq 1 (by simp [pbCells]);have p2:w.cell? ⟨k.bp,2,none⟩=some (.string ⟨k.p.p.tag.toArray⟩):=RowIs.cell hq 2 (by simp [pbCells]);have p3:w.cell? ⟨k.bp,3,none⟩=some (.int .i64 k.p.p.til):=RowIs.cell hq 3 (by simp [pbCells]);have p4:w.cell? ⟨k.bp,4,none⟩=some (.string ⟨k.p.p.doc.entity.toArray⟩):=RowIs.cell hq 4 (by simp [pbCells]);have p5:w.cell? ⟨k.bp,5,none⟩=some k.p.ts:=RowIs.cell hq 5 (by simp [pbCells]);have p6:w.cell? ⟨k.bp,6,none⟩=some k.p.ns:=RowIs.cell hq 6 (by simp [pbCells]);clear hq;obtain ⟨oa',n',cap',hsf⟩:=hsf
 rcases (show m=0∨m=1∨m=2∨m=3∨m=4∨m=5∨m=6∨m=7∨m=8∨m=9∨m=10∨m=11∨m=12∨m=13∨m=14∨m=15∨m=16∨m=17∨m=18∨m=19 by omega) with rfl | rfl | rfl | rfl | rfl | rfl | rfl | rfl | rfl | rfl | rfl | rfl | rfl | rfl | rfl | rfl | rfl | rfl | rfl | rfl
 ·refine S.p0.val (v:=.pointer (some ⟨k.b3,0,none⟩)) (w':=w) (fun o ho=>?_) (hI.quiet 0 120 _ (by decide) (by decide) (by intro e he; simp [r15T] at he; rcases he with rfl | rfl | rfl | rfl | rfl | rfl | rfl | rfl | rfl | rfl | rfl | rfl <;> simp))
  simp only [execOp,ho,t3];clear TB hI dd S hz0 hk hi hsrc hone hT B3 B5 B6 B7 B9 B12;go_simp
 ·have q0:=TB 0 120 _ (by simp [r15T]; rfl) (S.w1_0.on hi);refine S.p1.val (v:=cfV k.S.c) (w':=w) (fun o ho=>?_) (hI.quiet 1 121 _ (by decide) (by decide) (by intro e he; simp [r15T] at he; rcases he with rfl | rfl | rfl | rfl | rfl | rfl | rfl | rfl | rfl | rfl | rfl | rfl <;> simp))
  simp only [execOp,ho,q0];clear TB hI dd S hz0 hk hi hsrc hone hT B3 B5 B6 B7 B9 B12;unfold cfV;go_simp
 ·refine S.p2.val (v:=.pointer (some ⟨k.b3,7,none⟩)) (w':=w) (fun o ho=>?_) (hI.quiet 2 122 _ (by decide) (by decide) (by intro e he; simp [r15T] at he; rcases he with rfl | rfl | rfl | rfl | rfl | rfl | rfl | rfl | rfl | rfl | rfl | rfl <;> simp))
  simp only [execOp,ho,t3];clear TB hI dd S hz0 hk hi hsrc hone hT B3 B5 B6 B7 B9 B12;go_simp
 ·have q2:=TB 2 122 _ (by simp [r15T]; rfl) (S.w3_2.on hi);refine S.p3.val (v:=.int .i64 k.S.last) (w':=w) (fun o ho=>?_) (hI.quiet 3 123 _ (by decide) (by decide) (by intro e he; simp [r15T] at he; rcases he with rfl | rfl | rfl | rfl | rfl | rfl | rfl | rfl | rfl | rfl | rfl | rfl <;> simp))
  simp only [execOp,ho,q2];clear TB hI dd S hz0 hk hi hsrc hone hT B3 B5 B6 B7 B9 B12;go_simp
 ·have q3:=TB 3 123 _ (by simp [r15T]; rfl) (S.w4_3.on hi);refine S.p4.val (v:=.int .i64 (k.S.last+1)) (w':=w) (fun o ho=>?_) (hI.quiet 4 124 _ (by decide) (by decide) (by intro e he; simp [r15T] at he; rcases he with rfl | rfl | rfl | rfl | rfl | rfl | rfl | rfl | rfl | rfl | rfl | rfl <;> simp))
  simp only [execOp,ho,q3,evc];clear TB hI dd S hz0 hk hi hsrc hone hT B3 B5 B6 B7 B9 B12;go_simp
  simp [IntKind.wrap,IntKind.bits,IntKind.signed]
  omega
 ·refine S.p5.val (v:=.slice (some ⟨w.heap.size,0,none⟩) 0 0) (w':=w.alloc (.cells #[] 37)) (fun o ho=>?_) (hI.s5 hL hk)
  simp only [execOp,ho];clear TB hI dd S hz0 hk hi hsrc hone hT B3 B5 B6 B7 B9 B12;go_simp
 ·refine S.p6.val (v:=.pointer (some ⟨k.b3,8,none⟩)) (w':=w) (fun o ho=>?_) (hI.quiet 6 126 _ (by decide) (by decide) (by intro e he; simp [r15T] at he; rcases he with rfl | rfl | rfl | rfl | rfl | rfl | rfl | rfl | rfl | rfl | rfl | rfl <;> simp))
  simp only [execOp,ho,t3];clear TB hI dd S hz0 hk hi hsrc hone hT B3 B5 B6 B7 B9 B12;go_simp
 ·have q6:=TB 6 126 _ (by simp [r15T]; rfl) (S.w7_6.on hi);refine S.p7.val (v:=k.sv) (w':=w) (fun o ho=>?_) (hI.quiet 7 127 _ (by decide) (by decide) (by intro e he; simp [r15T] at he; rcases he with rfl | rfl | rfl | rfl | rfl | rfl | rfl | rfl | rfl | rfl | rfl | rfl <;> simp))
  simp only [execOp,ho,q6];clear TB hI dd S hz0 hk hi hsrc hone hT B3 B5 B6 B7 B9 B12;rw [hsf] at x8 ⊢;go_simp
 ·have h5:=S.w8_5.on hi;have q7:=TB 7 127 _ (by simp [r15T]; rfl) (S.w8_7.on hi);obtain ⟨o,ho,hg,hd,hop⟩:=S.p8;refine wpOp_of ho (E:=True) (step_appPb hg (.tmp 125) (.tmp 127) 26 hop k.B i0 _ Tryz.underlying26 hif hz0 hz1 hz2 rfl _ [] rfl (dd.o5 h5 hn0) _ k.cs q7 hone (hsrc w dd.bel) (by simp; omega) dd.lo ?_) hg
  intro v' w' ho' hg';rw [hd];exact hI.s8 hL hk h5 hn0 (by simpa using ho') hg'
 ·refine S.p9.val (v:=pbV k.p) (w':=w) (fun o ho=>?_) (hI.quiet 9 129 _ (by decide) (by decide) (by intro e he; simp [r15T] at he; rcases he with rfl | rfl | rfl | rfl | rfl | rfl | rfl | rfl | rfl | rfl | rfl | rfl <;> simp))
  simp only [execOp,ho,t12];clear TB hI dd S hz0 hk hi hsrc hone hT B3 B5 B6 B7 B9 B12;unfold pbV;go_simp
 ·have q9:=TB 9 129 _ (by simp [r15T]; rfl) (S.w10_9.on hi);refine S.p10.val (v:=.slice (some ⟨w.heap.size,0,none⟩) 1 1) (w':=w.alloc (.cells (pbCells k.p).toArray 37)) (fun o ho=>?_) (hI.s10 hL hk)
  obtain ⟨hp1,hp2⟩:=honp;unfold pbV at q9;unfold pbCells;simp only [execOp,ho];have em:Array.map (fun x:Nat × Operand=>(x.fst,a.eval x.snd)) #[(0,Operand.tmp 129)]=#[(0,.agg #[.int .i64 k.p.p.num,.string ⟨k.p.p.who.toArray⟩,.string ⟨k.p.p.tag.toArray⟩,.int .i64 k.p.p.til,.string ⟨k.p.p.doc.entity.toArray⟩,k.p.ts,k.p.ns])]:=by simp only [List.map_toArray,List.map_cons,List.map_nil,q9]
  rw [em];clear TB hI dd S hz0 hk hi hsrc hone hT B3 B5 B6 B7 B9 B12;go_simp
 ·have h8:=S.w11_8.on hi;have h10:=S.w11_10.on hi;obtain ⟨o,ho,hg,hd,hop⟩:=S.p11;refine wpOp_of ho (E:=True) (step_appPb hg (.tmp 128) (.tmp 130) 26 hop k.B i0 _ Tryz.underlying26 hif hz0 hz1 hz2 rfl _ k.cs rfl (dd.o8 h8 hn0) _ [k.p] rfl (fun d hd=>by simp at hd; subst hd; exact honp) (dd.o10 h10 hn0).news (by simp; omega) dd.lo ?_) hg
  intro v' w' ho' hg';rw [hd];exact hI.s11 hL hk h8 hn0 ho' hg'
 ·have q1:=TB 1 121 _ (by simp [r15T]; rfl) (S.w12_1.on hi);have q4:=TB 4 124 _ (by simp [r15T]; rfl) (S.w12_4.on hi);have h11:=S.w12_11.on hi;obtain ⟨oa,oc,hx⟩:=(dd.o11 h11).form;have hI':=hI.s12 hL h11;rw [hx] at hI';refine S.p12.val (v:=_) (w':=w) (fun o ho=>?_) hI'
  simp only [execOp,ho];have em:Array.map (fun x:Nat × Operand=>(x.fst,a.eval x.snd)) #[(0,Operand.tmp 121),(1,Operand.tmp 124),(2,Operand.tmp 131)]=#[(0,cfV k.S.c),(1,.int .i64 (k.S.last+1)),(2,.slice oa (k.cs++[k.p]).length oc)]:=by simp only [List.map_toArray,List.map_cons,List.map_nil,q1,q4,hx]
  rw [em];clear hI';clear TB hI dd S hz0 hk hi hsrc hone hT B3 B5 B6 B7 B9 B12;unfold cfV stoV KE.S2;go_simp
 ·refine S.p13.val (v:=.int .i64 nn) (w':=w) (fun o ho=>?_) (hI.quiet 13 133 _ (by decide) (by decide) (by intro e he; simp [r15T] at he; rcases he with rfl | rfl | rfl | rfl | rfl | rfl | rfl | rfl | rfl | rfl | rfl | rfl <;> simp))
  simp only [execOp,ho,t9];clear TB hI dd S hz0 hk hi hsrc hone hT B3 B5 B6 B7 B9 B12;go_simp
 ·refine S.p14.val (v:=.pointer (some ⟨k.b5,7,none⟩)) (w':=w) (fun o ho=>?_) (hI.quiet 14 134 _ (by decide) (by decide) (by intro e he; simp [r15T] at he; rcases he with rfl | rfl | rfl | rfl | rfl | rfl | rfl | rfl | rfl | rfl | rfl | rfl <;> simp))
  simp only [execOp,ho,t5];clear TB hI dd S hz0 hk hi hsrc hone hT B3 B5 B6 B7 B9 B12;go_simp
 ·have q14:=TB 14 134 _ (by simp [r15T]; rfl) (S.w15_14.on hi);refine S.p15.val (v:=.string ⟨k.A.tag.toArray⟩) (w':=w) (fun o ho=>?_) (hI.quiet 15 135 _ (by decide) (by decide) (by intro e he; simp [r15T] at he; rcases he with rfl | rfl | rfl | rfl | rfl | rfl | rfl | rfl | rfl | rfl | rfl | rfl <;> simp))
  simp only [execOp,ho,q14];clear TB hI dd S hz0 hk hi hsrc hone hT B3 B5 B6 B7 B9 B12;go_simp
 ·have q13:=TB 13 133 _ (by simp [r15T]; rfl) (S.w16_13.on hi);have q15:=TB 15 135 _ (by simp [r15T]; rfl) (S.w16_15.on hi);refine S.p16.val (v:=tdV ⟨200,nn,k.A.tag,true⟩) (w':=w) (fun o ho=>?_) (hI.quiet 16 136 _ (by decide) (by decide) (by intro e he; simp [r15T] at he; rcases he with rfl | rfl | rfl | rfl | rfl | rfl | rfl | rfl | rfl | rfl | rfl | rfl <;> simp))
  simp only [execOp,ho];have em:Array.map (fun x:Nat × Operand=>(x.fst,a.eval x.snd)) #[(0,Operand.const (.int .i64 200)),(1,Operand.tmp 133),(2,Operand.tmp 135),(3,Operand.const (.bool true))]=#[(0,.int .i64 200),(1,.int .i64 nn),(2,.string ⟨k.A.tag.toArray⟩),(3,.bool true)]:=by simp only [List.map_toArray,List.map_cons,List.map_nil,evc,q13,q15]
  try rw [em]
  clear TB hI dd S hz0 hk hi hsrc hone hT B3 B5 B6 B7 B9 B12;unfold tdV;go_simp
 ·have h12:=S.w17_12.on hi;have h11:=dd.c12 h12;have e12:=dd.eB h12;obtain ⟨oa,oc,hx⟩:=(dd.o11 h11).form;have hrow:=dd.r6;rw [hn0,if_neg (by decide)] at hrow;obtain ⟨z0,z1,z2,z3,z4,z5,z6,z7,z8,f0,f1,f2,f3,f4,f5,f6,f7,f8⟩:=RowIs.rc9 hrow;have hI':=hI.s17 hL hk h12 hn0;rw [hx] at hI' e12;refine S.p17.skip (w':=_) (fun o ho=>?_) hI'
  unfold stoV KE.S2 at e12;simp only at e12;simp only [execOp,ho,t6,e12];clear hI';clear TB hI dd S hz0 hk hi hsrc hone hT B3 B5 B6 B7 B9 B12;go_simp
 ·have q:=TB 16 136 _ (by simp [r15T]; rfl) (S.w18_16.on hi);have hrow:=dd.r7;rw [hn0,if_neg (by decide)] at hrow;obtain ⟨z0,z1,z2,z3,f0,f1,f2,f3⟩:=RowIs.rc4 hrow;have hI':=hI.s18 hL hk hn0;rw [hT] at hI';simp only at hI';refine S.p18.skip (w':=_) (fun o ho=>?_) hI'
  unfold tdV at q;simp only at q;simp only [execOp,ho,t7,q];clear hI';clear TB hI dd S hz0 hk hi hsrc hone hT B3 B5 B6 B7 B9 B12;go_simp
 ·refine S.p19.val (v:=.int .i64 0) (w':=w) (fun o ho=>?_) hI.s19
  simp only [execOp,ho,evc];clear TB hI dd S hz0 hk hi hsrc hone hT B3 B5 B6 B7 B9 B12;go_simp
set_option maxHeartbeats 1000000 in
theorem r15_region {ops:Array Oper} (S:r15Ops ops) (hlow:lowB .any ops=true) {Q:Exit → Act → World → Prop} {id:Nat} {k:KE} (hk:k.Ok) (a0:Act) (w:World) (nn:Int)
  (hsz:a0.tmps.size=208) (hdf:a0.defers=[]) (h0:∀ x5 x8 x10 x11 x12,DynE k false false false false false false false x5 x8 x10 x11 x12 { w with drawn:=w.drawn+1 })
  (B3:a0.eval (.tmp 3)=.pointer (some ⟨k.b3,0,none⟩)) (B5:a0.eval (.tmp 5)=.pointer (some ⟨k.b5,0,none⟩)) (B6:a0.eval (.tmp 6)=.pointer (some ⟨k.b6,0,none⟩)) (B7:a0.eval (.tmp 7)=.pointer (some ⟨k.b7,0,none⟩)) (B9:a0.eval (.tmp 9)=.int .i64 nn) (B12:a0.eval (.tmp 12)=.pointer (some ⟨k.bp,0,none⟩))
  (hsf:∃ oa n cap,k.sv=.slice oa n cap) (hl0:0≤k.S.last) (hl9:k.S.last≤1000000000) (hn:k.cs.length≤100000) (hT:k.T=⟨200,nn,k.A.tag,true⟩) (hone:∀ d ∈ k.cs,d.ts.oneCell'=true∧d.ns.oneCell'=true) (honp:k.p.ts.oneCell'=true∧k.p.ns.oneCell'=true)
  (hsrc:∀ u,Below k.W0.heap.size k.W0 u → (k.sv=.slice none 0 0∧k.cs=[])∨∃ ad2 c2,k.sv=.slice (some ad2) k.cs.length c2∧∀ (j:Nat) (x:Value),(pbsCells k.cs)[j]? = some x → u.cell? (ad2.add j)=some x)
  (fin:∀ (us:List Value) (u:World) (x5 x8 x10 x11 x12:Value),us.length=17 → DynE k true true true true true true true x5 x8 x10 x11 x12 u → Q .normal ⟨((a0.tmps.toList.set 8 (.int .i64 0)).take 120++(us++(a0.tmps.toList.set 8 (.int .i64 0)).drop 137)).toArray,[]⟩ u) :
  (Code.region id ops true).wp Tryz.prog Q a0 w:=by
 have gz:∀ j,(Array.replicate ops.size false).getD j false=false:=fun j=>by rw [Array.getD_eq_getD_getElem?,Array.getElem?_replicate]; split <;> rfl
 refine wp_region_inv followsU (InvE k nn a0) ?_ ?_ (fun L a u m hs hi hI=>r15_steps S hk a0 nn B3 B5 B6 B7 B9 B12 hsf hl0 hl9 hn hT hone honp hsrc Q L a u m hs hi hI)
 ·refine ⟨hsz,hdf,fun s _ _=>rfl,fun hl=>(by rw [gz] at hl; cases hl),fun e _ hl=>(by rw [gz] at hl; cases hl),?_⟩
  rw [gz,gz,gz,gz,gz,gz,gz];exact h0 _ _ _ _ _
 ·intro L a u hs hr hI;have hall:=all_listed hlow hs hr;rw [S.sz] at hall;have dd:=hI.dyn;rw [hall 5 (by decide),hall 8 (by decide),hall 10 (by decide),hall 11 (by decide),hall 12 (by decide),hall 17 (by decide),hall 18 (by decide)] at dd;have t8:=hI.t8 (hall 19 (by decide))
  have ho:Outs ⟨a0,120,137,208,0,w,fun _=>0,fun _ _ _=>True⟩ (a0.put (some 8) (.int .i64 0)) a:=⟨hI.sz,hI.df,fun s hs=>by
   by_cases e:s=8
   ·subst e;rw [eval_put_same (by rw [hsz]; decide)]; exact t8
   ·rw [eval_put_ne e]; exact hI.out s hs e⟩
  obtain ⟨us,hus,hau⟩:=ho.fin (by rw [put_size]; exact hsz) (by simp) (by simp);rw [hau,put_list];exact fin us u _ _ _ _ _ hus dd
theorem pbsL_app (a b:List PbC):pbsL (a++b)=pbsL a++pbsL b:=by simp [pbsL]
theorem pbsL_erase (cs:List PbC) (i:Nat):(pbsL cs).eraseIdx i=pbsL (cs.take i++cs.drop (i+1)):=by
 rw [List.eraseIdx_eq_take_drop_succ]
 simp [pbsL]
def goC (c:PbC) (now n:Int) (a:Pa) (ts ns:Value):PbC:=⟨goP c.p now n a,if a.has=true then ts else c.ts,if a.has=true then ns else c.ns⟩
theorem pbsL_modify (cs:List PbC) (i:Nat) (hi:i < cs.length) (now n:Int) (a:Pa) (ts ns:Value):(pbsL cs).modify i (fun p=>goP p now n a)=pbsL (cs.take i++[goC cs[i] now n a ts ns]++cs.drop (i+1)):=by
 have hl:i < (pbsL cs).length:=by rw [pbsL_len]; exact hi
 rw [List.modify_eq_take_cons_drop hl]
 simp [pbsL,goC]
theorem DocsAt.app {w:World} {a b:List PbC} (h1:DocsAt w a) (h2:DocsAt w b):DocsAt w (a++b):=fun c hc=>by
 rcases List.mem_append.1 hc with h | h
 ·exact h1 c h
 ·exact h2 c h
theorem DocsAt.cut {w:World} {cs:List PbC} (h:DocsAt w cs) (i:Nat):DocsAt w (cs.take i++cs.drop (i+1)):=(h.sub fun c hc=>List.mem_of_mem_take hc).app (h.sub fun c hc=>List.mem_of_mem_drop hc)
theorem pbs_end {w:World} {ad:Addr} {cs:List PbC} {cap i:Nat} (hi:i < cs.length) (hab:ad.block < w.heap.size) (hat:∀ k (hk:k < cs.length),PbAt w ad k cs[k]) (hcp:cs.length≤cap) :
  ∀ u,Below w.heap.size w u → ∃ ad2 c2,pbEnd ad cs.length cap i=.slice (some ad2) (cs.drop (i+1)).length c2∧∀ (j:Nat) (x:Value),(pbsCells (cs.drop (i+1)))[j]? = some x → u.cell? (ad2.add j)=some x:=by
 intro u hu;unfold pbEnd;by_cases hc:cap=i+1
 ·rw [if_pos hc];refine ⟨_,_,by rw [List.length_drop],fun j x hj=>?_⟩
  rw [List.drop_eq_nil_of_le (by omega)] at hj
  simp [pbsCells] at hj
 ·rw [if_neg hc];refine ⟨_,_,by rw [List.length_drop],fun j x hj=>?_⟩
  have:=pbs_news hat (i+1) j x hj
  exact cell_below hu (by rw [add_block,add_block]; exact hab) this
theorem pbs_head {w:World} {ad:Addr} {cs:List PbC} {i:Nat} (hi:i≤cs.length) (hab:ad.block < w.heap.size) (hat:∀ k (hk:k < cs.length),PbAt w ad k cs[k]) :
  ∀ u,Below w.heap.size w u → ∀ (j:Nat) (x:Value),(pbsCells (cs.take i))[j]? = some x → u.cell? (ad.add j)=some x:=fun u hu j x hj=>cell_below hu (by rw [add_block]; exact hab) (pbs_front hat i j x hj)
theorem pbs_all {w:World} {v:Value} {cs:List PbC} (h:PbsAt w v cs) (hz:cs=[] → v=.slice none 0 0∨∃ ad cap,v=.slice (some ad) 0 cap):∀ u,Below w.heap.size w u → (v=.slice none 0 0∧cs=[])∨∃ ad2 c2,v=.slice (some ad2) cs.length c2∧∀ (j:Nat) (x:Value),(pbsCells cs)[j]? = some x → u.cell? (ad2.add j)=some x:=by
 intro u hu;by_cases hc:cs=[]
 ·subst hc
  rcases hz rfl with h1 | ⟨ad,cap,h1⟩
  ·exact .inl ⟨h1,rfl⟩
  ·exact .inr ⟨ad,cap,h1,fun j x hj=>by simp [pbsCells] at hj⟩
 ·obtain ⟨ao,cap,hv,hcp,hat⟩:=h;have hl:0 < cs.length:=List.length_pos_iff.2 hc;obtain ⟨ad,rfl,hab,_⟩:=hat 0 hl;refine .inr ⟨ad,cap,hv,fun j x hj=>?_⟩
  have hall:∀ k (hk:k < cs.length),PbAt w ad k cs[k]:=fun k hk=>by
   obtain ⟨ad',he,_,h1⟩:=hat k hk
   injection he with he
   subst he;exact h1
  have:=pbs_head (i:=cs.length) (Nat.le_refl _) hab hall u hu j x (by rw [List.take_length]; exact hj)
  exact this
theorem doS_badY {s:Sto} {now:Int} {a:Pa} (h:badA s now a=true):doS s now a=(s,noTd,1):=by unfold doS; rw [if_pos h]
theorem doS_none {s:Sto} {now:Int} {a:Pa} (h1:badA s now a=false) (h2:noneP s a=true):doS s now a=(s,⟨412,0,[],false⟩,0):=by
 unfold doS; rw [if_neg (by rw [h1]; simp),if_pos h2]
theorem doS_short {s:Sto} {now:Int} {a:Pa} (h1:badA s now a=false) (h2:noneP s a=false) (h3:(secC s.c a.exp).2=false):doS s now a=(s,⟨423,s.c.least,[],false⟩,0):=by
 unfold doS; rw [if_neg (by rw [h1]; simp),if_neg (by rw [h2]; simp),if_pos h3]
theorem doS_400 {s:Sto} {now:Int} {a:Pa} (h1:badA s now a=false) (h2:noneP s a=false) (h3:(secC s.c a.exp).2=true) (h4:a.mt=[]) (h5:a.has=false∨(secC s.c a.exp).1=0):doS s now a=(s,⟨400,0,[],false⟩,0):=by
 unfold doS; rw [if_neg (by rw [h1]; simp),if_neg (by rw [h2]; simp),if_neg (by rw [h3]; simp),if_pos h4,if_pos h5]
theorem doS_full {s:Sto} {now:Int} {a:Pa} (h1:badA s now a=false) (h2:noneP s a=false) (h3:(secC s.c a.exp).2=true) (h4:a.mt=[]) (h5:¬ (a.has=false∨(secC s.c a.exp).1=0)) (h6:s.c.pubs≤s.l.length):doS s now a=(s,⟨503,0,[],false⟩,0):=by
 unfold doS; rw [if_neg (by rw [h1]; simp),if_neg (by rw [h2]; simp),if_neg (by rw [h3]; simp),if_pos h4,if_neg h5,if_pos h6]
theorem doS_begin {s:Sto} {now:Int} {a:Pa} (h1:badA s now a=false) (h2:noneP s a=false) (h3:(secC s.c a.exp).2=true) (h4:a.mt=[]) (h5:¬ (a.has=false∨(secC s.c a.exp).1=0)) (h6:¬ s.c.pubs≤s.l.length):doS s now a=(⟨s.c,s.last+1,s.l++[newP s now (secC s.c a.exp).1 a]⟩,⟨200,(secC s.c a.exp).1,a.tag,true⟩,0):=by
 unfold doS; rw [if_neg (by rw [h1]; simp),if_neg (by rw [h2]; simp),if_neg (by rw [h3]; simp),if_pos h4,if_neg h5,if_neg h6]
theorem doS_400b {s:Sto} {now:Int} {a:Pa} (h1:badA s now a=false) (h2:noneP s a=false) (h3:(secC s.c a.exp).2=true) (h4:a.mt ≠ []) (h5:a.has=true∧(secC s.c a.exp).1=0):doS s now a=(s,⟨400,0,[],false⟩,0):=by
 unfold doS; rw [if_neg (by rw [h1]; simp),if_neg (by rw [h2]; simp),if_neg (by rw [h3]; simp),if_neg h4,if_pos h5]
theorem doS_stop {s:Sto} {now:Int} {a:Pa} (h1:badA s now a=false) (h2:noneP s a=false) (h3:(secC s.c a.exp).2=true) (h4:a.mt ≠ []) (h5:¬ (a.has=true∧(secC s.c a.exp).1=0)) (h6:(secC s.c a.exp).1=0):doS s now a=(⟨s.c,s.last,s.l.eraseIdx (pidxP s.l a.mt)⟩,⟨200,0,a.tag,true⟩,0):=by
 unfold doS; rw [if_neg (by rw [h1]; simp),if_neg (by rw [h2]; simp),if_neg (by rw [h3]; simp),if_neg h4,if_neg h5,if_pos h6]
theorem doS_goes {s:Sto} {now:Int} {a:Pa} (h1:badA s now a=false) (h2:noneP s a=false) (h3:(secC s.c a.exp).2=true) (h4:a.mt ≠ []) (h5:¬ (a.has=true∧(secC s.c a.exp).1=0)) (h6:¬ (secC s.c a.exp).1=0):doS s now a=(⟨s.c,s.last,s.l.modify (pidxP s.l a.mt) (fun p=>goP p now (secC s.c a.exp).1 a)⟩,⟨200,(secC s.c a.exp).1,a.tag,a.has⟩,0):=by
 unfold doS; rw [if_neg (by rw [h1]; simp),if_neg (by rw [h2]; simp),if_neg (by rw [h3]; simp),if_neg h4,if_neg h5,if_neg h6]
def DoRes (R:Sto × Td × Int) (v:Value) (cs:List PbC) (a:Pa) (ts ns:Value) (w:World) (e:Ending) (w':World):Prop:=∃ v' cs',e=.returned (.tuple #[stoV R.1 v',tdV R.2.1,.int .i64 R.2.2])∧((v'=v∧cs'=cs)∨OwnPb w' w.heap.size v' cs')∧(∀ W:World,DocsAt W cs → (a.has=true → TusAt W ts a.doc.tuples∧StrsAt W ns a.doc.notes) → DocsAt W cs')∧R.1.l=pbsL cs'∧Below w.heap.size w w'
structure FrD (w0:World) (s:Sto) (v:Value) (a:Pa) (ts ns:Value) (b3 b5 b6 b7:Nat) (w:World):Prop where
 bs:BoxS w b3 s v
 ba:BoxA w b5 a ts ns
 r6:RowIs w b6 28 stoZ
 r7:RowIs w b7 48 tdZ
 bel:Below w0.heap.size w0 w
 l3:b3 < w.heap.size
 l5:b5 < w.heap.size
 l6:b6 < w.heap.size
 l7:b7 < w.heap.size
 o6:w0.heap.size≤b6
 o7:w0.heap.size≤b7
theorem FrD.below {w0 w w':World} {s:Sto} {v:Value} {a:Pa} {ts ns:Value} {b3 b5 b6 b7:Nat} (h:FrD w0 s v a ts ns b3 b5 b6 b7 w) (hb:Below w.heap.size w w'):FrD w0 s v a ts ns b3 b5 b6 b7 w' :=
 ⟨h.bs.below hb h.l3,h.ba.below hb h.l5,h.r6.below hb h.l6,h.r7.below hb h.l7,h.bel.trans (hb.mono h.bel.size),Nat.lt_of_lt_of_le h.l3 hb.size,Nat.lt_of_lt_of_le h.l5 hb.size,Nat.lt_of_lt_of_le h.l6 hb.size,Nat.lt_of_lt_of_le h.l7 hb.size,h.o6,h.o7⟩
theorem frD_new (w:World) (s:Sto) (v:Value) (a:Pa) (ts ns:Value):FrD w s v a ts ns w.heap.size (w.heap.size+1) (w.heap.size+2) (w.heap.size+3) ((((w.alloc (objS s v)).alloc (objA a ts ns)).alloc (.cells #[.string ⟨#[]⟩,.int .i64 0,.int .i64 0,.int .i64 0,.int .i64 0,.int .i64 0,.int .i64 0,.int .i64 0,.slice none 0 0] 28)).alloc (.cells #[.int .i64 0,.int .i64 0,.string ⟨#[]⟩,.bool false] 48)):=by
 have k1:=boxS_new w s v;have s1:(w.alloc (objS s v)).heap.size=w.heap.size+1:=by simp
 have d1:Below w.heap.size w (w.alloc (objS s v)):=(Below.refl _ w).alloc (Nat.le_refl _) _;generalize w.alloc (objS s v)=w1 at *;have k2:=boxA_new w1 a ts ns;have s2:(w1.alloc (objA a ts ns)).heap.size=w1.heap.size+1:=by simp
 have d2:Below w1.heap.size w1 (w1.alloc (objA a ts ns)):=(Below.refl _ w1).alloc (Nat.le_refl _) _;generalize w1.alloc (objA a ts ns)=w2 at *;have k3:RowIs (w2.alloc (.cells #[.string ⟨#[]⟩,.int .i64 0,.int .i64 0,.int .i64 0,.int .i64 0,.int .i64 0,.int .i64 0,.int .i64 0,.slice none 0 0] 28)) w2.heap.size 28 stoZ:=rc_row9 w2 _ _ _ _ _ _ _ _ _ _;have s3:(w2.alloc (.cells #[.string ⟨#[]⟩,.int .i64 0,.int .i64 0,.int .i64 0,.int .i64 0,.int .i64 0,.int .i64 0,.int .i64 0,.slice none 0 0] 28)).heap.size=w2.heap.size+1:=by simp
 have d3:Below w2.heap.size w2 (w2.alloc (.cells #[.string ⟨#[]⟩,.int .i64 0,.int .i64 0,.int .i64 0,.int .i64 0,.int .i64 0,.int .i64 0,.int .i64 0,.slice none 0 0] 28)):=(Below.refl _ w2).alloc (Nat.le_refl _) _;generalize w2.alloc (.cells #[.string ⟨#[]⟩,.int .i64 0,.int .i64 0,.int .i64 0,.int .i64 0,.int .i64 0,.int .i64 0,.int .i64 0,.slice none 0 0] 28)=w3 at *;have k4:RowIs (w3.alloc (.cells #[.int .i64 0,.int .i64 0,.string ⟨#[]⟩,.bool false] 48)) w3.heap.size 48 tdZ:=rc_row4 w3 _ _ _ _ _;have s4:(w3.alloc (.cells #[.int .i64 0,.int .i64 0,.string ⟨#[]⟩,.bool false] 48)).heap.size=w3.heap.size+1:=by simp
 have d4:Below w3.heap.size w3 (w3.alloc (.cells #[.int .i64 0,.int .i64 0,.string ⟨#[]⟩,.bool false] 48)):=(Below.refl _ w3).alloc (Nat.le_refl _) _;generalize w3.alloc (.cells #[.int .i64 0,.int .i64 0,.string ⟨#[]⟩,.bool false] 48)=w4 at *;have e5:w.heap.size+1=w1.heap.size:=by omega
 have e6:w.heap.size+2=w2.heap.size:=by omega
 have e7:w.heap.size+3=w3.heap.size:=by omega
 rw [e5,e6,e7];have d34:Below w2.heap.size w2 w4:=d3.trans (d4.mono (by omega));have d24:Below w1.heap.size w1 w4:=d2.trans (d34.mono (by omega));exact ⟨k1.below d24 (by omega),k2.below d34 (by omega),k3.below d4 (by omega),k4,d1.trans (d24.mono (by omega)),by omega,by omega,by omega,by omega,by omega,by omega⟩
theorem FrD.put {w0 w:World} {s:Sto} {v:Value} {a:Pa} {ts ns:Value} {b3 b5 b6 b7:Nat} (h:FrD w0 s v a ts ns b3 b5 b6 b7 w) (n67:b6 ≠ b7) (t:Td) :
  ∃ w',w'=(((((((((((((w.setCell ⟨b6,0,none⟩ (.string ⟨s.c.host.toArray⟩)).setCell ⟨b6,1,none⟩ (.int .i64 s.c.calls)).setCell ⟨b6,2,none⟩ (.int .i64 s.c.pubs)).setCell ⟨b6,3,none⟩ (.int .i64 s.c.subs)).setCell ⟨b6,4,none⟩ (.int .i64 s.c.least)).setCell ⟨b6,5,none⟩ (.int .i64 s.c.most)).setCell ⟨b6,6,none⟩ (.int .i64 s.c.usual)).setCell ⟨b6,7,none⟩ (.int .i64 s.last)).setCell ⟨b6,8,none⟩ v).setCell ⟨b7,0,none⟩ (.int .i64 t.status)).setCell ⟨b7,1,none⟩ (.int .i64 t.expires)).setCell ⟨b7,2,none⟩ (.string ⟨t.tag.toArray⟩)).setCell ⟨b7,3,none⟩ (.bool t.changed))∧RowIs w' b6 28 (stoL s v)∧RowIs w' b7 48 (tdL t)∧Below w0.heap.size w0 w':=by
 refine ⟨_,rfl,?_,?_,?_⟩
 ·exact RowIs.blk (rc_store9 h.r6 _ _ _ _ _ _ _ _ _) (set4_block _ n67 _ _ _ _)
 ·exact rc_store4 (RowIs.blk h.r7 (set9_block _ (Ne.symm n67) _ _ _ _ _ _ _ _ _)) _ _ _ _
 ·exact rc_below4 (rc_below9 h.bel b6 h.o6 _ _ _ _ _ _ _ _ _) b7 h.o7 _ _ _ _
set_option maxHeartbeats 8000000 in
set_option maxRecDepth 100000 in
theorem rdo16_one {w:World} {v:Value} {s:Sto} {cs:List PbC} (h:PbsAt w v cs) (hd:DocsAt w cs) (hs:s.l=pbsL cs) (now:Int) (a:Pa) (ts ns:Value) (hb:badA s now a=true) (hnow:now < 0) :
  Calls Tryz.prog 11 #[stoV s v,.int .i64 now,askV a ts ns] w fun e w'=>DoRes (doS s now a) v cs a ts ns w e w':=by
 rw [doS_badY hb];have HF:=hid (frD_new w s v a ts ns);have HP:=hid h;have HD:=hid hd;have HS:=hid hs;obtain ⟨va,vn,vc,rfl⟩:∃ va vn vc,v=.slice va vn vc:=by obtain ⟨a1,c1,h1⟩:=h.form; exact ⟨_,_,_,h1⟩
 have d0:decide (now < 0)=true:=decide_eq_true hnow;clear h hd hs hb hnow
 go_enter Tryz.func11,Tryz.ntmps11
 unfold stoV askV;unfold objS objA at HF
 go_upto_region 1 with fail
 generalize World.alloc _ _=W at HF ⊢;obtain ⟨⟨⟨x0,x1,x2,x3,x4,x5,x6⟩,x7,x8⟩,⟨y0,y1,y2,y3,y4,y5,y6,y7⟩,r6,r7,hbel,l3,l5,l6,l7,o6,o7⟩:=HF.out;obtain ⟨z0,z1,z2,z3,z4,z5,z6,z7,z8,f0,f1,f2,f3,f4,f5,f6,f7,f8⟩:=RowIs.rc9 r6;obtain ⟨q0,q1,q2,q3,g0,g1,g2,g3⟩:=RowIs.rc4 r7;obtain ⟨w',hw',HR⟩:=HF.out.put (by omega) noTd;have HR:=hid HR;have n67:w.heap.size+2 ≠ w.heap.size+3:=by omega
 clear hbel r6 r7 HF;go_wp2;unfold noTd at hw';simp only at hw';rw [← hw'];clear hw';obtain ⟨R6,R7,hB⟩:=HR.out;obtain ⟨d0,d1,d2,d3,d4,d5,d6,d7,d8,_,_,_,_,_,_,_,_,_⟩:=RowIs.rc9 R6;obtain ⟨t0,t1,t2,t3,_,_,_,_⟩:=RowIs.rc4 R7;replace t0:w'.cell? ⟨w.heap.size+3,0,none⟩=some (.int .i64 0):=t0;replace t1:w'.cell? ⟨w.heap.size+3,1,none⟩=some (.int .i64 0):=t1;replace t2:w'.cell? ⟨w.heap.size+3,2,none⟩=some (.string ⟨#[]⟩):=t2;replace t3:w'.cell? ⟨w.heap.size+3,3,none⟩=some (.bool false):=t3
 try simp only [Exit.inBlock,Exit.then]
 refine bodyPost_ret (v:=.tuple #[.agg #[.string ⟨s.c.host.toArray⟩,.int .i64 s.c.calls,.int .i64 s.c.pubs,.int .i64 s.c.subs,.int .i64 s.c.least,.int .i64 s.c.most,.int .i64 s.c.usual,.int .i64 s.last,.slice va vn vc],.agg #[.int .i64 0,.int .i64 0,.string ⟨#[]⟩,.bool false],.int .i64 1]) (by simp [results,Tryz.results11,go_sem,d0,d1,d2,d3,d4,d5,d6,d7,d8,t0,t1,t2,t3]; try rfl) rfl ?_
 exact ⟨_,cs,rfl,.inl ⟨rfl,rfl⟩,fun _ h _=>h,HS.out,hB⟩
end Go.Proofs.YtbmjodlbkgblpaaGreatDoor
