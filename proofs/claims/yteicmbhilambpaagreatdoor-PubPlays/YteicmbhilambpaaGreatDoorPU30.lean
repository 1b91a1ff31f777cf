/-
  PubX, PR9, PubU, PubY.
-/
import Derived.Test.YteicmbhilambpaaGreatDoorPU29
set_option linter.unusedVariables false
set_option linter.unusedSimpArgs false
set_option maxRecDepth 20000
namespace Go.Proofs.YteicmbhilambpaaGreatDoor
open Go.RowKit Sc
section
variable {k : KE} {l5 l8 l10 l11 l12 l6 l7 : Bool} {x5 x8 x10 x11 x12 : Value} {w w' : World}
theorem DynE.s6 (h:DynE k l5 l8 l10 l11 l12 l6 l7 x5 x8 x10 x11 x12 w) (hk:k.Ok) (hB:l12=true) (h0:l6=false) :
  DynE k l5 l8 l10 l11 l12 true l7 x5 x8 x10 x11 x12 ((((((((((w.setCell ⟨k.b6,0,none⟩ (.string ⟨k.S.c.host.toArray⟩)).setCell ⟨k.b6,1,none⟩ (.int .i64 k.S.c.calls)).setCell ⟨k.b6,2,none⟩ (.int .i64 k.S.c.pubs)).setCell ⟨k.b6,3,none⟩ (.int .i64 k.S.c.subs)).setCell ⟨k.b6,4,none⟩ (.int .i64 k.S.c.least)).setCell ⟨k.b6,5,none⟩ (.int .i64 k.S.c.most)).setCell ⟨k.b6,6,none⟩ (.int .i64 k.S.c.usual)).setCell ⟨k.b6,7,none⟩ (.int .i64 (k.S.last+1))).setCell ⟨k.b6,8,none⟩ x11)):=by
 have r6:=h.r6;rw [h0] at r6;have blk:∀ b,b ≠ k.b6 → _:=fun b hb=>set9_block w hb (.string ⟨k.S.c.host.toArray⟩) (.int .i64 k.S.c.calls) (.int .i64 k.S.c.pubs) (.int .i64 k.S.c.subs) (.int .i64 k.S.c.least) (.int .i64 k.S.c.most) (.int .i64 k.S.c.usual) (.int .i64 (k.S.last+1)) x11;exact ⟨h.bs.blk (blk _ hk.n63),h.ba.blk (blk _ hk.n65),RowIs.blk h.bq (blk _ hk.n6p),rc_below9 h.bel k.b6 hk.l6 _ _ _ _ _ _ _ _ _,by rw [set9_size]; exact h.lo,fun a b=>own_set9 (h.o5 a b) hk.h6 _ _ _ _ _ _ _ _ _,fun a b=>own_set9 (h.o8 a b) hk.h6 _ _ _ _ _ _ _ _ _,fun a b=>own_set9 (h.o10 a b) hk.h6 _ _ _ _ _ _ _ _ _,h.n5,fun e=>own_set9 (h.o11 e) hk.h6 _ _ _ _ _ _ _ _ _,h.eB,rc_store9 r6 _ _ _ _ _ _ _ _ _,RowIs.blk h.r7 (blk _ hk.n67),h.c12,fun _=>hB,h.c8⟩
theorem DynE.s7 (h:DynE k l5 l8 l10 l11 l12 l6 l7 x5 x8 x10 x11 x12 w) (hk:k.Ok) (h0:l7=false) :
  DynE k l5 l8 l10 l11 l12 l6 true x5 x8 x10 x11 x12 ((((w.setCell ⟨k.b7,0,none⟩ (.int .i64 k.T.status)).setCell ⟨k.b7,1,none⟩ (.int .i64 k.T.expires)).setCell ⟨k.b7,2,none⟩ (.string ⟨k.T.tag.toArray⟩)).setCell ⟨k.b7,3,none⟩ (.bool k.T.changed)):=by
 have r7:=h.r7;rw [h0] at r7;have blk:∀ b,b ≠ k.b7 → _:=fun b hb=>set4_block w hb (.int .i64 k.T.status) (.int .i64 k.T.expires) (.string ⟨k.T.tag.toArray⟩) (.bool k.T.changed);exact ⟨h.bs.blk (blk _ hk.n73),h.ba.blk (blk _ hk.n75),RowIs.blk h.bq (blk _ hk.n7p),rc_below4 h.bel k.b7 hk.l7 _ _ _ _,Nat.le_trans h.lo (rc_below4 (Below.refl 0 w) k.b7 (Nat.zero_le _) _ _ _ _).size,fun a b=>own_set4 (h.o5 a b) hk.h7 _ _ _ _,fun a b=>own_set4 (h.o8 a b) hk.h7 _ _ _ _,fun a b=>own_set4 (h.o10 a b) hk.h7 _ _ _ _,h.n5,fun e=>own_set4 (h.o11 e) hk.h7 _ _ _ _,h.eB,RowIs.blk h.r6 (blk _ (Ne.symm hk.n67)),rc_store4 r7 _ _ _ _,h.c12,h.c6,h.c8⟩
end
structure r15Ops (ops:Array Oper):Prop where
 sz:ops.size=20
 p0:OpIs ops 0 (some 120) (.fieldAddr 31 (.tmp 3) 0)
 p1:OpIs ops 1 (some 121) (.load 23 (.tmp 120))
 p2:OpIs ops 2 (some 122) (.fieldAddr 31 (.tmp 3) 1)
 p3:OpIs ops 3 (some 123) (.load 3 (.tmp 122))
 p4:OpIs ops 4 (some 124) (.binOp .add 3 (.tmp 123) (.const (.int .i64 1)) 3)
 p5:OpIs ops 5 (some 125) (.buildSlice 29 0 #[])
 p6:OpIs ops 6 (some 126) (.fieldAddr 31 (.tmp 3) 2)
 p7:OpIs ops 7 (some 127) (.load 29 (.tmp 126))
 p8:OpIs ops 8 (some 128) (.call { callee:=.builtin .append,args:=#[.tmp 125,.tmp 127],argTypes:=#[29,29] })
 p9:OpIs ops 9 (some 129) (.load 62 (.tmp 12))
 p10:OpIs ops 10 (some 130) (.buildSlice 29 1 #[(0,.tmp 129)])
 p11:OpIs ops 11 (some 131) (.call { callee:=.builtin .append,args:=#[.tmp 128,.tmp 130],argTypes:=#[29,29] })
 p12:OpIs ops 12 (some 132) (.build 31 #[(0,.tmp 121),(1,.tmp 124),(2,.tmp 131)])
 p13:OpIs ops 13 (some 133) (.move (.tmp 9))
 p14:OpIs ops 14 (some 134) (.fieldAddr 37 (.tmp 5) 5)
 p15:OpIs ops 15 (some 135) (.load 9 (.tmp 134))
 p16:OpIs ops 16 (some 136) (.build 46 #[(0,.const (.int .i64 200)),(1,.tmp 133),(2,.tmp 135),(3,.const (.bool true))])
 p17:OpIs ops 17 none (.store 31 (.tmp 6) (.tmp 132))
 p18:OpIs ops 18 none (.store 46 (.tmp 7) (.tmp 136))
 p19:OpIs ops 19 (some 8) (.assign (.const (.int .i64 0)))
 w1_0:Waits ops 1 0
 w3_2:Waits ops 3 2
 w4_3:Waits ops 4 3
 w7_6:Waits ops 7 6
 w15_14:Waits ops 15 14
 w16_13:Waits ops 16 13
 w16_15:Waits ops 16 15
 w8_5:Waits ops 8 5
 w8_7:Waits ops 8 7
 w10_9:Waits ops 10 9
 w11_8:Waits ops 11 8
 w11_10:Waits ops 11 10
 w12_1:Waits ops 12 1
 w12_4:Waits ops 12 4
 w12_11:Waits ops 12 11
 w17_12:Waits ops 17 12
 w18_16:Waits ops 18 16
def r15T (k:KE) (nn:Int):List (Nat × Nat × Value) :=
 [(0,120,.pointer (some ⟨k.b3,0,none⟩)),(1,121,cfV k.S.c),(2,122,.pointer (some ⟨k.b3,7,none⟩)),(3,123,.int .i64 k.S.last),(4,124,.int .i64 (k.S.last+1)),(6,126,.pointer (some ⟨k.b3,8,none⟩)),(7,127,k.sv),(9,129,pbV k.p),(13,133,.int .i64 nn),(14,134,.pointer (some ⟨k.b5,7,none⟩)),(15,135,.string ⟨k.A.tag.toArray⟩),(16,136,tdV ⟨200,nn,k.A.tag,true⟩)]
structure InvE (k:KE) (nn:Int) (a0:Act) (L:Array Bool) (a:Act) (w:World):Prop where
 sz:a.tmps.size=208
 df:a.defers=[]
 out:∀ s:Nat,(s < 120∨137≤s) → s ≠ 8 → a.eval (.tmp s)=a0.eval (.tmp s)
 t8:L.getD 19 false=true → a.eval (.tmp 8)=.int .i64 0
 tab:TabOk (r15T k nn) L a
 dyn:DynE k (L.getD 5 false) (L.getD 8 false) (L.getD 10 false) (L.getD 11 false) (L.getD 12 false) (L.getD 17 false) (L.getD 18 false) (a.eval (.tmp 125)) (a.eval (.tmp 128)) (a.eval (.tmp 130)) (a.eval (.tmp 131)) (a.eval (.tmp 132)) w
section
variable {k : KE} {nn : Int} {a0 : Act} {L : Array Bool} {a : Act} {w w' : World}
theorem InvE.quiet (h:InvE k nn a0 L a w) (i d:Nat) (v:Value) (hi:i ≠ 5∧i ≠ 8∧i ≠ 10∧i ≠ 11∧i ≠ 12∧i ≠ 17∧i ≠ 18∧i ≠ 19) (hd:120≤d∧d < 137∧d ≠ 125∧d ≠ 128∧d ≠ 130∧d ≠ 131∧d ≠ 132)
  (hT:∀ e ∈ r15T k nn,(e.2.1=d∧e.2.2=v)∨(e.1 ≠ i∧e.2.1 ≠ d)):InvE k nn a0 (L.setIfInBounds i true) (a.put (some d) v) w:=by
 obtain ⟨i1,i2,i3,i4,i5,i6,i7,i8⟩:=hi;obtain ⟨d1,d2,d3,d4,d5,d6,d7⟩:=hd;refine ⟨by rw [put_size]; exact h.sz,by rw [put_defers]; exact h.df,fun s hs h8=>by rw [eval_put_ne (by omega)]; exact h.out s hs h8,fun hl=>?_,h.tab.put (by rw [h.sz]; omega) hT,?_⟩
 ·rw [getD_set_ne (Ne.symm i8)] at hl;rw [eval_put_ne (by omega)]; exact h.t8 hl
 ·rw [getD_set_ne (Ne.symm i1),getD_set_ne (Ne.symm i2),getD_set_ne (Ne.symm i3),getD_set_ne (Ne.symm i4),getD_set_ne (Ne.symm i5),getD_set_ne (Ne.symm i6),getD_set_ne (Ne.symm i7),eval_put_ne (Ne.symm d3),eval_put_ne (Ne.symm d4),eval_put_ne (Ne.symm d5),eval_put_ne (Ne.symm d6),eval_put_ne (Ne.symm d7)];exact h.dyn
theorem InvE.s5 (h:InvE k nn a0 L a w) (hL:L.size=20) (hk:k.Ok):InvE k nn a0 (L.setIfInBounds 5 true) (a.put (some 125) (.slice (some ⟨w.heap.size,0,none⟩) 0 0)) (w.alloc (.cells #[] 62)):=by
 refine ⟨by rw [put_size]; exact h.sz,by rw [put_defers]; exact h.df,fun s hs h8=>by rw [eval_put_ne (by omega)]; exact h.out s hs h8,fun hl=>?_,h.tab.put (by rw [h.sz]; decide) (by intro e he; simp [r15T] at he; rcases he with rfl | rfl | rfl | rfl | rfl | rfl | rfl | rfl | rfl | rfl | rfl | rfl <;> simp),?_⟩
 ·rw [getD_set_ne (by decide)] at hl;rw [eval_put_ne (by decide)]; exact h.t8 hl
 ·rw [getD_set_same (by rw [hL]; decide),getD_set_ne (by decide),getD_set_ne (by decide),getD_set_ne (by decide),getD_set_ne (by decide),getD_set_ne (by decide),getD_set_ne (by decide),eval_put_same (by rw [h.sz]; decide),eval_put_ne (by decide),eval_put_ne (by decide),eval_put_ne (by decide),eval_put_ne (by decide)];exact h.dyn.s5 hk
theorem InvE.s10 (h:InvE k nn a0 L a w) (hL:L.size=20) (hk:k.Ok):InvE k nn a0 (L.setIfInBounds 10 true) (a.put (some 130) (.slice (some ⟨w.heap.size,0,none⟩) 1 1)) (w.alloc (.cells (pbCells k.p).toArray 62)):=by
 refine ⟨by rw [put_size]; exact h.sz,by rw [put_defers]; exact h.df,fun s hs h8=>by rw [eval_put_ne (by omega)]; exact h.out s hs h8,fun hl=>?_,h.tab.put (by rw [h.sz]; decide) (by intro e he; simp [r15T] at he; rcases he with rfl | rfl | rfl | rfl | rfl | rfl | rfl | rfl | rfl | rfl | rfl | rfl <;> simp),?_⟩
 ·rw [getD_set_ne (by decide)] at hl;rw [eval_put_ne (by decide)]; exact h.t8 hl
 ·rw [getD_set_ne (by decide),getD_set_ne (by decide),getD_set_same (by rw [hL]; decide),getD_set_ne (by decide),getD_set_ne (by decide),getD_set_ne (by decide),getD_set_ne (by decide),eval_put_ne (by decide),eval_put_ne (by decide),eval_put_same (by rw [h.sz]; decide),eval_put_ne (by decide),eval_put_ne (by decide)];exact h.dyn.s10 hk
theorem InvE.s8 (h:InvE k nn a0 L a w) (hL:L.size=20) (hk:k.Ok) (h5:L.getD 5 false=true) (h8:L.getD 8 false=false) {v':Value} (ho:OwnPb w' k.B v' k.cs) (hg:w.grownBy w' (a.eval (.tmp 125)).ownBlock):InvE k nn a0 (L.setIfInBounds 8 true) (a.put (some 128) v') w':=by
 refine ⟨by rw [put_size]; exact h.sz,by rw [put_defers]; exact h.df,fun s hs h8=>by rw [eval_put_ne (by omega)]; exact h.out s hs h8,fun hl=>?_,h.tab.put (by rw [h.sz]; decide) (by intro e he; simp [r15T] at he; rcases he with rfl | rfl | rfl | rfl | rfl | rfl | rfl | rfl | rfl | rfl | rfl | rfl <;> simp),?_⟩
 ·rw [getD_set_ne (by decide)] at hl;rw [eval_put_ne (by decide)]; exact h.t8 hl
 ·rw [getD_set_ne (by decide),getD_set_same (by rw [hL]; decide),getD_set_ne (by decide),getD_set_ne (by decide),getD_set_ne (by decide),getD_set_ne (by decide),getD_set_ne (by decide),eval_put_ne (by decide),eval_put_same (by rw [h.sz]; decide),eval_put_ne (by decide),eval_put_ne (by decide),eval_put_ne (by decide)];exact h.dyn.s8 hk h5 h8 ho hg
theorem InvE.s11 (h:InvE k nn a0 L a w) (hL:L.size=20) (hk:k.Ok) (h8:L.getD 8 false=true) (h11:L.getD 11 false=false) {v':Value} (ho:OwnPb w' k.B v' (k.cs++[k.p])) (hg:w.grownBy w' (a.eval (.tmp 128)).ownBlock):InvE k nn a0 (L.setIfInBounds 11 true) (a.put (some 131) v') w':=by
 refine ⟨by rw [put_size]; exact h.sz,by rw [put_defers]; exact h.df,fun s hs h8=>by rw [eval_put_ne (by omega)]; exact h.out s hs h8,fun hl=>?_,h.tab.put (by rw [h.sz]; decide) (by intro e he; simp [r15T] at he; rcases he with rfl | rfl | rfl | rfl | rfl | rfl | rfl | rfl | rfl | rfl | rfl | rfl <;> simp),?_⟩
 ·rw [getD_set_ne (by decide)] at hl;rw [eval_put_ne (by decide)]; exact h.t8 hl
 ·rw [getD_set_ne (by decide),getD_set_ne (by decide),getD_set_ne (by decide),getD_set_same (by rw [hL]; decide),getD_set_ne (by decide),getD_set_ne (by decide),getD_set_ne (by decide),eval_put_ne (by decide),eval_put_ne (by decide),eval_put_ne (by decide),eval_put_same (by rw [h.sz]; decide),eval_put_ne (by decide)];exact h.dyn.s11 hk h8 h11 ho hg
theorem InvE.s12 (h:InvE k nn a0 L a w) (hL:L.size=20) (h11:L.getD 11 false=true):InvE k nn a0 (L.setIfInBounds 12 true) (a.put (some 132) (stoV k.S2 (a.eval (.tmp 131)))) w:=by
 refine ⟨by rw [put_size]; exact h.sz,by rw [put_defers]; exact h.df,fun s hs h8=>by rw [eval_put_ne (by omega)]; exact h.out s hs h8,fun hl=>?_,h.tab.put (by rw [h.sz]; decide) (by intro e he; simp [r15T] at he; rcases he with rfl | rfl | rfl | rfl | rfl | rfl | rfl | rfl | rfl | rfl | rfl | rfl <;> simp),?_⟩
 ·rw [getD_set_ne (by decide)] at hl;rw [eval_put_ne (by decide)]; exact h.t8 hl
 ·rw [getD_set_ne (by decide),getD_set_ne (by decide),getD_set_ne (by decide),getD_set_ne (by decide),getD_set_same (by rw [hL]; decide),getD_set_ne (by decide),getD_set_ne (by decide),eval_put_ne (by decide),eval_put_ne (by decide),eval_put_ne (by decide),eval_put_ne (by decide),eval_put_same (by rw [h.sz]; decide)];exact h.dyn.s12 h11
theorem InvE.s17 (h:InvE k nn a0 L a w) (hL:L.size=20) (hk:k.Ok) (hB:L.getD 12 false=true) (h0:L.getD 17 false=false):InvE k nn a0 (L.setIfInBounds 17 true) a ((((((((((w.setCell ⟨k.b6,0,none⟩ (.string ⟨k.S.c.host.toArray⟩)).setCell ⟨k.b6,1,none⟩ (.int .i64 k.S.c.calls)).setCell ⟨k.b6,2,none⟩ (.int .i64 k.S.c.pubs)).setCell ⟨k.b6,3,none⟩ (.int .i64 k.S.c.subs)).setCell ⟨k.b6,4,none⟩ (.int .i64 k.S.c.least)).setCell ⟨k.b6,5,none⟩ (.int .i64 k.S.c.most)).setCell ⟨k.b6,6,none⟩ (.int .i64 k.S.c.usual)).setCell ⟨k.b6,7,none⟩ (.int .i64 (k.S.last+1))).setCell ⟨k.b6,8,none⟩ (a.eval (.tmp 131)))):=by
 refine ⟨h.sz,h.df,h.out,fun hl=>h.t8 (by rwa [getD_set_ne (by decide)] at hl),h.tab.skip (by intro e he; simp [r15T] at he; rcases he with rfl | rfl | rfl | rfl | rfl | rfl | rfl | rfl | rfl | rfl | rfl | rfl <;> simp),?_⟩
 rw [getD_set_ne (by decide),getD_set_ne (by decide),getD_set_ne (by decide),getD_set_ne (by decide),getD_set_ne (by decide),getD_set_same (by rw [hL]; decide),getD_set_ne (by decide)];exact h.dyn.s6 hk hB h0
theorem InvE.s18 (h:InvE k nn a0 L a w) (hL:L.size=20) (hk:k.Ok) (h0:L.getD 18 false=false):InvE k nn a0 (L.setIfInBounds 18 true) a ((((w.setCell ⟨k.b7,0,none⟩ (.int .i64 k.T.status)).setCell ⟨k.b7,1,none⟩ (.int .i64 k.T.expires)).setCell ⟨k.b7,2,none⟩ (.string ⟨k.T.tag.toArray⟩)).setCell ⟨k.b7,3,none⟩ (.bool k.T.changed)):=by
 refine ⟨h.sz,h.df,h.out,fun hl=>h.t8 (by rwa [getD_set_ne (by decide)] at hl),h.tab.skip (by intro e he; simp [r15T] at he; rcases he with rfl | rfl | rfl | rfl | rfl | rfl | rfl | rfl | rfl | rfl | rfl | rfl <;> simp),?_⟩
 rw [getD_set_ne (by decide),getD_set_ne (by decide),getD_set_ne (by decide),getD_set_ne (by decide),getD_set_ne (by decide),getD_set_ne (by decide),getD_set_same (by rw [hL]; decide)];exact h.dyn.s7 hk h0
theorem InvE.s19 (h:InvE k nn a0 L a w):InvE k nn a0 (L.setIfInBounds 19 true) (a.put (some 8) (.int .i64 0)) w:=by
 refine ⟨by rw [put_size]; exact h.sz,by rw [put_defers]; exact h.df,fun s hs h8=>by rw [eval_put_ne h8]; exact h.out s hs h8,fun _=>eval_put_same (by rw [h.sz]; decide),h.tab.put (by rw [h.sz]; decide) (by intro e he; simp [r15T] at he; rcases he with rfl | rfl | rfl | rfl | rfl | rfl | rfl | rfl | rfl | rfl | rfl | rfl <;> simp),?_⟩
 rw [getD_set_ne (by decide),getD_set_ne (by decide),getD_set_ne (by decide),getD_set_ne (by decide),getD_set_ne (by decide),getD_set_ne (by decide),getD_set_ne (by decide),eval_put_ne (by decide),eval_put_ne (by decide),eval_put_ne (by decide),eval_put_ne (by decide),eval_put_ne (by decide)];exact h.dyn
end
set_option maxHeartbeats 4000000 in
set_option maxRecDepth 100000 in
theorem r15_steps {ops:Array Oper} (S:r15Ops ops) {k:KE} (hk:k.Ok) (a0:Act) (nn:Int)
  (B3:a0.eval (.tmp 3)=.pointer (some ⟨k.b3,0,none⟩)) (B5:a0.eval (.tmp 5)=.pointer (some ⟨k.b5,0,none⟩)) (B6:a0.eval (.tmp 6)=.pointer (some ⟨k.b6,0,none⟩)) (B7:a0.eval (.tmp 7)=.pointer (some ⟨k.b7,0,none⟩)) (B9:a0.eval (.tmp 9)=.int .i64 nn) (B12:a0.eval (.tmp 12)=.pointer (some ⟨k.bp,0,none⟩))
  (hsf:∃ oa n cap,k.sv=.slice oa n cap) (hl0:0≤k.S.last) (hl9:k.S.last≤1000000000) (hn:k.cs.length≤100000) (hT:k.T=⟨200,nn,k.A.tag,true⟩) (hone:∀ d ∈ k.cs,d.ts.oneCell'=true∧d.ns.oneCell'=true) (honp:k.p.ts.oneCell'=true∧k.p.ns.oneCell'=true)
  (hsrc:∀ u,Below k.W0.heap.size k.W0 u → (k.sv=.slice none 0 0∧k.cs=[])∨∃ ad2 c2,k.sv=.slice (some ad2) k.cs.length c2∧∀ (j:Nat) (x:Value),(pbsCells k.cs)[j]? = some x → u.cell? (ad2.add j)=some x)
  (Q:Exit → Act → World → Prop) (L:Array Bool) (a:Act) (w:World) (m:Nat) (hs:L.size=ops.size) (hi:m ∈ Region.ready .any ops L) (hI:InvE k nn a0 L a w) :
  wpOp Tryz.prog ops Q m (InvE k nn a0 (L.setIfInBounds m true)) a w:=by
 have hL:L.size=20:=by rw [hs,S.sz]
 obtain ⟨hn0,hlt⟩:=ready_nots hi;rw [S.sz] at hlt;have TB:∀ j d v,(j,d,v) ∈ r15T k nn → L.getD j false=true → a.eval (.tmp d)=v:=fun j d v hm hl=>hI.tab (j,d,v) hm hl;obtain ⟨i0,hif,hz0,hz1,hz2⟩:=info_parts infoPub;have dd:=hI.dyn;have evc:∀ v,a.eval (.const v)=v:=fun _=>rfl;have t3:=(hI.out 3 (.inl (by decide)) (by decide)).trans B3;have t5:=(hI.out 5 (.inl (by decide)) (by decide)).trans B5;have t6:=(hI.out 6 (.inl (by decide)) (by decide)).trans B6;have t7:=(hI.out 7 (.inl (by decide)) (by decide)).trans B7;have t9:=(hI.out 9 (.inl (by decide)) (by decide)).trans B9;have t12:=(hI.out 12 (.inl (by decide)) (by decide)).trans B12;obtain ⟨⟨x0,x1,x2,x3,x4,x5,x6⟩,x7,x8⟩:=dd.bs;obtain ⟨y0,y1,y2,y3,y4,y5,y6,y7⟩:=dd.ba;have hq:=dd.bq;have p0:w.cell? ⟨k.bp,0,none⟩=some (.int .i64 k.p.p.num):=RowIs.cell hq 0 (by simp [pbCells]);have p1:w.cell? ⟨k.bp,1,none⟩=some (.string ⟨k.p.p.who.toArray⟩):=RowIs.cell hq 1 (by simp [pbCells]);have p2:w.cell? ⟨k.bp,2,none⟩=some (.string ⟨k.p.p.tag.toArray⟩):=RowIs.cell hq 2 (by simp [pbCells]);have p3:w.cell? ⟨k.bp,3,none⟩=some (.int .i64 k.p.p.til):=RowIs.cell hq 3 (by simp [pbCells]);have p4:w.cell? ⟨k.bp,4,none⟩=some (.string ⟨k.p.p.doc.entity.toArray⟩):=RowIs.cell hq 4 (by simp [pbCells]);have p5:w.cell? ⟨k.bp,5,none⟩=some k.p.ts:=RowIs.cell hq 5 (by simp [pbCells]);have p6:w.cell? ⟨k.bp,6,none⟩=some k.p.ns:=RowIs.cell hq 6 (by simp [pbCells]);clear hq;obtain ⟨oa',n',cap',hsf⟩:=hsf
 rcases (show m=0∨m=1∨m=2∨m=3∨m=4∨m=5∨m=6∨m=7∨m=8∨m=9∨m=10∨m=11∨m=12∨m=13∨m=14∨m=15∨m=16∨m=17∨m=18∨m=19 by omega) with rfl | rfl | rfl | rfl | rfl | rfl | rfl | rfl | rfl | rfl | rfl | rfl | rfl | rfl | rfl | rfl | rfl | rfl | rfl | rfl
 ·refine S.p0.val (v:=.pointer (some ⟨k.b3,0,none⟩)) (w':=w) (fun o ho=>?_) (hI.quiet 0 120 _ (by decide) (by decide) (by intro e he; simp [r15T] at he; rcases he with rfl | rfl | rfl | rfl | rfl | rfl | rfl | rfl | rfl | rfl | rfl | rfl <;> simp))
  simp only [execOp,ho,t3];clear TB hI dd S hz0 hk hi hsrc hone hT B3 B5 B6 B7 B9 B12;go_simp
 ·have q0:=TB 0 120 _ (by simp [r15T]; rfl) (S.w1_0.on hi);refine S.p1.val (v:=cfV k.S.c) (w':=w) (fun o ho=>?_) (hI.quiet 1 121 _ (by decide) (by decide) (by intro e he; simp [r15T] at he; rcases he with rfl | rfl | rfl | rfl | rfl | rfl | rfl | rfl | rfl | rfl | rfl | rfl <;> simp))
  simp only [execOp,ho,q0];clear TB hI dd S hz0 hk hi hsrc hone hT B3 B5 B6 B7 B9 B12;unfold cfV;go_simp
 ·refine S.p2.val (v:=.pointer (some ⟨k.b3,7,none⟩)) (w':=w) (fun o ho=>?_) (hI.quiet 2 122 _ (by decide) (by decide) (by intro e he; simp [r15T] at he; rcases he with rfl | rfl | rfl | rfl | rfl | rfl | rfl | rfl | rfl | rfl | rfl | rfl <;> simp))
  simp only [execOp,ho,t3];clear TB hI dd S hz0 hk hi hsrc hone hT B3 B5 B6 B7 B9 B12;go_simp
 ·have q2:=TB 2 122 _ (by simp [r15T]; rfl) (S.w3_2.on hi);refine S.p3.val (v:=.int .i64 k.S.last) (w':=w) (fun o ho=>?_) (hI.quiet 3 123 _ (by decide) (by decide) (by intro e he; simp [r15T] at he; rcases he with rfl | rfl | rfl | rfl | rfl | rfl | rfl | rfl | rfl | rfl | rfl | rfl <;> simp))
  simp only [execOp,ho,q2];clear TB hI dd S hz0 hk hi hsrc hone hT B3 B5 B6 B7 B9 B12;go_simp
 ·have q3:=TB 3 123 _ (by simp [r15T]; rfl) (S.w4_3.on hi);refine S.p4.val (v:=.int .i64 (k.S.last+1)) (w':=w) (fun o ho=>?_) (hI.quiet 4 124 _ (by decide) (by decide) (by intro e he; simp [r15T] at he; rcases he with rfl | rfl | rfl | rfl | rfl | rfl | rfl | rfl | rfl | rfl | rfl | rfl <;> simp))
  simp only [execOp,ho,q3,evc];clear TB hI dd S hz0 hk hi hsrc hone hT B3 B5 B6 B7 B9 B12;go_simp
  simp [IntKind.wrap,IntKind.bits,IntKind.signed]
  omega
 ·refine S.p5.val (v:=.slice (some ⟨w.heap.size,0,none⟩) 0 0) (w':=w.alloc (.cells #[] 62)) (fun o ho=>?_) (hI.s5 hL hk)
  simp only [execOp,ho];clear TB hI dd S hz0 hk hi hsrc hone hT B3 B5 B6 B7 B9 B12;go_simp
 ·refine S.p6.val (v:=.pointer (some ⟨k.b3,8,none⟩)) (w':=w) (fun o ho=>?_) (hI.quiet 6 126 _ (by decide) (by decide) (by intro e he; simp [r15T] at he; rcases he with rfl | rfl | rfl | rfl | rfl | rfl | rfl | rfl | rfl | rfl | rfl | rfl <;> simp))
  simp only [execOp,ho,t3];clear TB hI dd S hz0 hk hi hsrc hone hT B3 B5 B6 B7 B9 B12;go_simp
 ·have q6:=TB 6 126 _ (by simp [r15T]; rfl) (S.w7_6.on hi);refine S.p7.val (v:=k.sv) (w':=w) (fun o ho=>?_) (hI.quiet 7 127 _ (by decide) (by decide) (by intro e he; simp [r15T] at he; rcases he with rfl | rfl | rfl | rfl | rfl | rfl | rfl | rfl | rfl | rfl | rfl | rfl <;> simp))
  simp only [execOp,ho,q6];clear TB hI dd S hz0 hk hi hsrc hone hT B3 B5 B6 B7 B9 B12;rw [hsf] at x8 ⊢;go_simp
 ·have h5:=S.w8_5.on hi;have q7:=TB 7 127 _ (by simp [r15T]; rfl) (S.w8_7.on hi);obtain ⟨o,ho,hg,hd,hop⟩:=S.p8;refine wpOp_of ho (E:=True) (step_appPb hg (.tmp 125) (.tmp 127) 29 hop k.B i0 _ Tryz.underlying29 hif hz0 hz1 hz2 rfl _ [] rfl (dd.o5 h5 hn0) _ k.cs q7 hone (hsrc w dd.bel) (by simp; omega) dd.lo ?_) hg
  intro v' w' ho' hg';rw [hd];exact hI.s8 hL hk h5 hn0 (by simpa using ho') hg'
 ·refine S.p9.val (v:=pbV k.p) (w':=w) (fun o ho=>?_) (hI.quiet 9 129 _ (by decide) (by decide) (by intro e he; simp [r15T] at he; rcases he with rfl | rfl | rfl | rfl | rfl | rfl | rfl | rfl | rfl | rfl | rfl | rfl <;> simp))
  simp only [execOp,ho,t12];clear TB hI dd S hz0 hk hi hsrc hone hT B3 B5 B6 B7 B9 B12;unfold pbV;go_simp
 ·have q9:=TB 9 129 _ (by simp [r15T]; rfl) (S.w10_9.on hi);refine S.p10.val (v:=.slice (some ⟨w.heap.size,0,none⟩) 1 1) (w':=w.alloc (.cells (pbCells k.p).toArray 62)) (fun o ho=>?_) (hI.s10 hL hk)
  obtain ⟨hp1,hp2⟩:=honp;unfold pbV at q9;unfold pbCells;simp only [execOp,ho];have em:Array.map (fun x:Nat × Operand=>(x.fst,a.eval x.snd)) #[(0,Operand.tmp 129)]=#[(0,.agg #[.int .i64 k.p.p.num,.string ⟨k.p.p.who.toArray⟩,.string ⟨k.p.p.tag.toArray⟩,.int .i64 k.p.p.til,.string ⟨k.p.p.doc.entity.toArray⟩,k.p.ts,k.p.ns])]:=by simp only [List.map_toArray,List.map_cons,List.map_nil,q9]
  rw [em];clear TB hI dd S hz0 hk hi hsrc hone hT B3 B5 B6 B7 B9 B12;go_simp
 ·have h8:=S.w11_8.on hi;have h10:=S.w11_10.on hi;obtain ⟨o,ho,hg,hd,hop⟩:=S.p11;refine wpOp_of ho (E:=True) (step_appPb hg (.tmp 128) (.tmp 130) 29 hop k.B i0 _ Tryz.underlying29 hif hz0 hz1 hz2 rfl _ k.cs rfl (dd.o8 h8 hn0) _ [k.p] rfl (fun d hd=>by simp at hd; subst hd; exact honp) (dd.o10 h10 hn0).news (by simp; omega) dd.lo ?_) hg
  intro v' w' ho' hg';rw [hd];exact hI.s11 hL hk h8 hn0 ho' hg'
 ·have q1:=TB 1 121 _ (by simp [r15T]; rfl) (S.w12_1.on hi);have q4:=TB 4 124 _ (by simp [r15T]; rfl) (S.w12_4.on hi);have h11:=S.w12_11.on hi;obtain ⟨oa,oc,hx⟩:=(dd.o11 h11).form;have hI':=hI.s12 hL h11;rw [hx] at hI';refine S.p12.val (v:=_) (w':=w) (fun o ho=>?_) hI'
  simp only [execOp,ho];have em:Array.map (fun x:Nat × Operand=>(x.fst,a.eval x.snd)) #[(0,Operand.tmp 121),(1,Operand.tmp 124),(2,Operand.tmp 131)]=#[(0,cfV k.S.c),(1,.int .i64 (k.S.last+1)),(2,.slice oa (k.cs++[k.p]).length oc)]:=by simp only [List.map_toArray,List.map_cons,List.map_nil,q1,q4,hx]
  rw [em];clear hI';clear TB hI dd S hz0 hk hi hsrc hone hT B3 B5 B6 B7 B9 B12;unfold cfV stoV KE.S2;go_simp
 ·refine S.p13.val (v:=.int .i64 nn) (w':=w) (fun o ho=>?_) (hI.quiet 13 133 _ (by decide) (by decide) (by intro e he; simp [r15T] at he; rcases he with rfl | rfl | rfl | rfl | rfl | rfl | rfl | rfl | rfl | rfl | rfl | rfl <;> simp))
  simp only [execOp,ho,t9];clear TB hI dd S hz0 hk hi hsrc hone hT B3 B5 B6 B7 B9 B12;go_simp
 ·refine S.p14.val (v:=.pointer (some ⟨k.b5,7,none⟩)) (w':=w) (fun o ho=>?_) (hI.quiet 14 134 _ (by decide) (by decide) (by intro e he; simp [r15T] at he; rcases he with rfl | rfl | rfl | rfl | rfl | rfl | rfl | rfl | rfl | rfl | rfl | rfl <;> simp))
  simp only [execOp,ho,t5];clear TB hI dd S hz0 hk hi hsrc hone hT B3 B5 B6 B7 B9 B12;go_simp
 ·have q14:=TB 14 134 _ (by simp [r15T]; rfl) (S.w15_14.on hi);refine S.p15.val (v:=.string ⟨k.A.tag.toArray⟩) (w':=w) (fun o ho=>?_) (hI.quiet 15 135 _ (by decide) (by decide) (by intro e he; simp [r15T] at he; rcases he with rfl | rfl | rfl | rfl | rfl | rfl | rfl | rfl | rfl | rfl | rfl | rfl <;> simp))
  simp only [execOp,ho,q14];clear TB hI dd S hz0 hk hi hsrc hone hT B3 B5 B6 B7 B9 B12;go_simp
 ·have q13:=TB 13 133 _ (by simp [r15T]; rfl) (S.w16_13.on hi);have q15:=TB 15 135 _ (by simp [r15T]; rfl) (S.w16_15.on hi);refine S.p16.val (v:=tdV ⟨200,nn,k.A.tag,true⟩) (w':=w) (fun o ho=>?_) (hI.quiet 16 136 _ (by decide) (by decide) (by intro e he; simp [r15T] at he; rcases he with rfl | rfl | rfl | rfl | rfl | rfl | rfl | rfl | rfl | rfl | rfl | rfl <;> simp))
  simp only [execOp,ho];have em:Array.map (fun x:Nat × Operand=>(x.fst,a.eval x.snd)) #[(0,Operand.const (.int .i64 200)),(1,Operand.tmp 133),(2,Operand.tmp 135),(3,Operand.const (.bool true))]=#[(0,.int .i64 200),(1,.int .i64 nn),(2,.string ⟨k.A.tag.toArray⟩),(3,.bool true)]:=by simp only [List.map_toArray,List.map_cons,List.map_nil,evc,q13,q15]
  try rw [em]
  clear TB hI dd S hz0 hk hi hsrc hone hT B3 B5 B6 B7 B9 B12;unfold tdV;go_simp
 ·have h12:=S.w17_12.on hi;have h11:=dd.c12 h12;have e12:=dd.eB h12;obtain ⟨oa,oc,hx⟩:=(dd.o11 h11).form;have hrow:=dd.r6;rw [hn0,if_neg (by decide)] at hrow;obtain ⟨z0,z1,z2,z3,z4,z5,z6,z7,z8,f0,f1,f2,f3,f4,f5,f6,f7,f8⟩:=RowIs.rc9 hrow;have hI':=hI.s17 hL hk h12 hn0;rw [hx] at hI' e12;refine S.p17.skip (w':=_) (fun o ho=>?_) hI'
  unfold stoV KE.S2 at e12;simp only at e12;simp only [execOp,ho,t6,e12];clear hI';clear TB hI dd S hz0 hk hi hsrc hone hT B3 B5 B6 B7 B9 B12;go_simp
 ·have q:=TB 16 136 _ (by simp [r15T]; rfl) (S.w18_16.on hi);have hrow:=dd.r7;rw [hn0,if_neg (by decide)] at hrow;obtain ⟨z0,z1,z2,z3,f0,f1,f2,f3⟩:=RowIs.rc4 hrow;have hI':=hI.s18 hL hk hn0;rw [hT] at hI';simp only at hI';refine S.p18.skip (w':=_) (fun o ho=>?_) hI'
  unfold tdV at q;simp only at q;simp only [execOp,ho,t7,q];clear hI';clear TB hI dd S hz0 hk hi hsrc hone hT B3 B5 B6 B7 B9 B12;go_simp
 ·refine S.p19.val (v:=.int .i64 0) (w':=w) (fun o ho=>?_) hI.s19
  simp only [execOp,ho,evc];clear TB hI dd S hz0 hk hi hsrc hone hT B3 B5 B6 B7 B9 B12;go_simp
set_option maxHeartbeats 1000000 in
theorem r15_region {ops:Array Oper} (S:r15Ops ops) (hlow:lowB .any ops=true) {Q:Exit → Act → World → Prop} {id:Nat} {k:KE} (hk:k.Ok) (a0:Act) (w:World) (nn:Int)
  (hsz:a0.tmps.size=208) (hdf:a0.defers=[]) (h0:∀ x5 x8 x10 x11 x12,DynE k false false false false false false false x5 x8 x10 x11 x12 { w with drawn:=w.drawn+1 })
  (B3:a0.eval (.tmp 3)=.pointer (some ⟨k.b3,0,none⟩)) (B5:a0.eval (.tmp 5)=.pointer (some ⟨k.b5,0,none⟩)) (B6:a0.eval (.tmp 6)=.pointer (some ⟨k.b6,0,none⟩)) (B7:a0.eval (.tmp 7)=.pointer (some ⟨k.b7,0,none⟩)) (B9:a0.eval (.tmp 9)=.int .i64 nn) (B12:a0.eval (.tmp 12)=.pointer (some ⟨k.bp,0,none⟩))
  (hsf:∃ oa n cap,k.sv=.slice oa n cap) (hl0:0≤k.S.last) (hl9:k.S.last≤1000000000) (hn:k.cs.length≤100000) (hT:k.T=⟨200,nn,k.A.tag,true⟩) (hone:∀ d ∈ k.cs,d.ts.oneCell'=true∧d.ns.oneCell'=true) (honp:k.p.ts.oneCell'=true∧k.p.ns.oneCell'=true)
  (hsrc:∀ u,Below k.W0.heap.size k.W0 u → (k.sv=.slice none 0 0∧k.cs=[])∨∃ ad2 c2,k.sv=.slice (some ad2) k.cs.length c2∧∀ (j:Nat) (x:Value),(pbsCells k.cs)[j]? = some x → u.cell? (ad2.add j)=some x)
  (fin:∀ (us:List Value) (u:World) (x5 x8 x10 x11 x12:Value),us.length=17 → DynE k true true true true true true true x5 x8 x10 x11 x12 u → Q .normal ⟨((a0.tmps.toList.set 8 (.int .i64 0)).take 120++(us++(a0.tmps.toList.set 8 (.int .i64 0)).drop 137)).toArray,[]⟩ u) :
  (Code.region id ops true).wp Tryz.prog Q a0 w:=by
 have gz:∀ j,(Array.replicate ops.size false).getD j false=false:=fun j=>by rw [Array.getD_eq_getD_getElem?,Array.getElem?_replicate]; split <;> rfl
 refine wp_region_inv followsU (InvE k nn a0) ?_ ?_ (fun L a u m hs hi hI=>r15_steps S hk a0 nn B3 B5 B6 B7 B9 B12 hsf hl0 hl9 hn hT hone honp hsrc Q L a u m hs hi hI)
 ·refine ⟨hsz,hdf,fun s _ _=>rfl,fun hl=>(by rw [gz] at hl; cases hl),fun e _ hl=>(by rw [gz] at hl; cases hl),?_⟩
  rw [gz,gz,gz,gz,gz,gz,gz];exact h0 _ _ _ _ _
 ·intro L a u hs hr hI;have hall:=all_listed hlow hs hr;rw [S.sz] at hall;have dd:=hI.dyn;rw [hall 5 (by decide),hall 8 (by decide),hall 10 (by decide),hall 11 (by decide),hall 12 (by decide),hall 17 (by decide),hall 18 (by decide)] at dd;have t8:=hI.t8 (hall 19 (by decide))
  have ho:Outs ⟨a0,120,137,208,0,w,fun _=>0,fun _ _ _=>True⟩ (a0.put (some 8) (.int .i64 0)) a:=⟨hI.sz,hI.df,fun s hs=>by
   by_cases e:s=8
   ·subst e;rw [eval_put_same (by rw [hsz]; decide)]; exact t8
   ·rw [eval_put_ne e]; exact hI.out s hs e⟩
  obtain ⟨us,hus,hau⟩:=ho.fin (by rw [put_size]; exact hsz) (by simp) (by simp);rw [hau,put_list];exact fin us u _ _ _ _ _ hus dd
set_option maxHeartbeats 1000000 in
set_option maxRecDepth 100000 in
theorem rtexts_same (v1 v2:Value) (ps:List (List UInt8)) (w:World) (h1:StrsAt w v1 ps) (h2:StrsAt w v2 ps) (hl:ps.length≤281474976710656) :
  Calls Tryz.prog 15 #[v1,v2] w fun e w'=>e=.returned (.bool true)∧∃ q,w'=w.drewN q:=by
 obtain ⟨a1,c1,rfl,k1⟩:=h1;obtain ⟨a2,c2,rfl,k2⟩:=h2;have K1:=hid k1;have K2:=hid k2;obtain ⟨n,hn⟩:∃ n,n=ps.length:=⟨_,rfl⟩
 rw [← hn] at hl ⊢;have HN:=hid hn;clear k1 k2 hn
 go_enter Tryz.func15,Tryz.ntmps15
 go_wp2
 go_loopw [5] (fun i wr=>∃ (k q:Nat),k≤n∧i=.int .i64 k∧wr=w.drewN q) (fun i _=>n - (intOf i).toNat)
 case atStart=>exact ⟨0,0,Nat.zero_le _,rfl,rfl⟩
 case round =>
  obtain ⟨k,q,hk,rfl,rfl⟩:=hrel;by_cases hlt:k < n
  ·obtain ⟨d1,rfl,_,f1⟩:=K1.out k (by have:=HN.out; omega);obtain ⟨d2,rfl,_,f2⟩:=K2.out k (by have:=HN.out; omega);have q6:(k:Int) < (n:Int):=by omega
   generalize ps[k]=P at f1 f2;clear K1 K2;go_wp2
   go_quiet (fail)
   go_wp2;go_roundw
   case rel=>exact ⟨k+1,q+nq,by omega,by go_num,by first | rfl | rw [World.drewN_drewN]⟩
   case measure=>simp [intOf]; omega
  ·have q6:¬ (k:Int) < (n:Int):=by omega
   go_wp2;go_ret;exact ⟨rfl,q,rfl⟩
set_option maxHeartbeats 2000000 in
set_option maxRecDepth 100000 in
theorem rsame14_any (d:Dc) (ts ns ts' ns':Value) (w:World) (hsm:SmallD 140737488355328 d) (h1:TusAt w ts d.tuples) (h2:StrsAt w ns d.notes) (h3:TusAt w ts' d.tuples) (h4:StrsAt w ns' d.notes) :
  Calls Tryz.prog 41 #[docV d ts ns,docV d ts' ns'] w fun e w'=>e=.returned (.bool true)∧Below w.heap.size w w':=by
 obtain ⟨en,tl,nl⟩:=d;simp only at h1 h2 h3 h4;have hz1:=hsm.tl;have hz2:=hsm.nl;simp only at hz1 hz2;unfold docV
 simp only
 have KT:=hid (fun w' (hb:Below w.heap.size w w')=>rtexts_same ns ns' nl w' (h2.below hb) (h4.below hb) (by omega));obtain ⟨ta,tc,rfl,htc⟩:=h1;obtain ⟨ta',tc',rfl,htc'⟩:=h3;obtain ⟨na,nc,rfl,_⟩:=h2;obtain ⟨na',nc',rfl,_⟩:=h4;have HTC:=hid htc;have HTC2:=hid htc';obtain ⟨tn,htn⟩:∃ tn,tn=tl.length:=⟨_,rfl⟩
 obtain ⟨nn,hnn⟩:∃ nn,nn=nl.length:=⟨_,rfl⟩
 rw [← htn] at hz1 ⊢;rw [← hnn] at hz2 KT ⊢;have HTN:=hid htn;clear htc htc' htn hnn hsm;have r1:=rc_row3 w (.string ⟨en.toArray⟩) (.slice ta tn tc) (.slice na nn nc) 35;have b1:Below w.heap.size w (w.alloc (.cells #[.string ⟨en.toArray⟩,.slice ta tn tc,.slice na nn nc] 35)):=(Below.refl _ w).alloc (Nat.le_refl _) _;have l1:=alloc_lt w (.cells #[.string ⟨en.toArray⟩,.slice ta tn tc,.slice na nn nc] 35);have s1:(w.alloc (.cells #[.string ⟨en.toArray⟩,.slice ta tn tc,.slice na nn nc] 35)).heap.size=w.heap.size+1:=by simp
 have hR:RowIs ((w.alloc (.cells #[.string ⟨en.toArray⟩,.slice ta tn tc,.slice na nn nc] 35)).alloc (.cells #[.string ⟨en.toArray⟩,.slice ta' tn tc',.slice na' nn nc'] 35)) w.heap.size 35 [.string ⟨en.toArray⟩,.slice ta tn tc,.slice na nn nc]:=r1.below ((Below.refl _ _).alloc (Nat.le_refl _) _) l1;have hR2:=rc_row3 (w.alloc (.cells #[.string ⟨en.toArray⟩,.slice ta tn tc,.slice na nn nc] 35)) (.string ⟨en.toArray⟩) (.slice ta' tn tc') (.slice na' nn nc') 35;rw [s1] at hR2;have hB:Below w.heap.size w ((w.alloc (.cells #[.string ⟨en.toArray⟩,.slice ta tn tc,.slice na nn nc] 35)).alloc (.cells #[.string ⟨en.toArray⟩,.slice ta' tn tc',.slice na' nn nc'] 35)):=b1.alloc b1.size _;obtain ⟨x0,x1,x2,_,_,_⟩:=hR.rc3;obtain ⟨y0,y1,y2,_,_,_⟩:=hR2.rc3;clear r1 b1 l1 s1 hR hR2
 go_enter Tryz.func41,Tryz.ntmps41
 go_wp2_with fail
 generalize World.alloc (World.alloc w _) _=W at x0 x1 x2 y0 y1 y2 hB ⊢;refine (KT.out _ hB).mono ?_
 rintro e w1 ⟨rfl,q0,rfl⟩;go_wp2
 go_loopw [5] (fun i wr=>∃ (k q:Nat),k≤tn∧i=.int .i64 k∧wr=W.drewN q) (fun i _=>tn - (intOf i).toNat)
 case atStart=>exact ⟨0,q0,Nat.zero_le _,rfl,rfl⟩
 case round =>
  obtain ⟨k,q,hk,rfl,rfl⟩:=hrel;by_cases hlt:k < tn
  ·obtain ⟨d1,rfl,m1,f⟩:=HTC.out k (by have:=HTN.out; omega);obtain ⟨d2,rfl,m2,g⟩:=HTC2.out k (by have:=HTN.out; omega);have f:=f.below hB m1;have g:=g.below hB m2;have q6:(k:Int) < (tn:Int):=by omega
   generalize tl[k]=P at f g;obtain ⟨p0,p1,p2,p3,p4⟩:=P;obtain ⟨f0,f1,f2,f3,f4⟩:=f;obtain ⟨g0,g1,g2,g3,g4⟩:=g;simp only at f0 f1 f2 f3 f4 g0 g1 g2 g3 g4;have e0:(p0==p0)=true:=by simp
   have e2:(p2==p2)=true:=by simp
   have e3:(p3==p3)=true:=by simp
   have e4:(p4==p4)=true:=by simp
   clear HTC HTC2;go_wp2
   go_quiet (fail)
   go_wp2;go_roundw
   case rel=>exact ⟨k+1,q+nq,by omega,by go_num,by first | rfl | rw [World.drewN_drewN]⟩
   case measure=>simp [intOf]; omega
  ·have q6:¬ (k:Int) < (tn:Int):=by omega
   go_wp2;go_ret;exact ⟨rfl,hB.trans (below_drewN W q |>.mono hB.size)⟩
set_option maxHeartbeats 8000000 in
set_option maxRecDepth 100000 in
theorem rsame16_any {w:World} {v1 v2:Value} {cs ds:List PbC} (h1:PbsAt w v1 cs) (h2:PbsAt w v2 ds) (d1:DocsAt w cs) (d2:DocsAt w ds) (he:pbsL cs=pbsL ds) (hsm:∀ c ∈ cs,SmallD 140737488355328 c.p.doc) (hn:cs.length≤1000000) :
  Calls Tryz.prog 21 #[v1,v2] w fun e w'=>e=.returned (.bool true)∧Below w.heap.size w w':=by
 have hln:cs.length=ds.length:=by have:=congrArg List.length he; rw [pbsL_len,pbsL_len] at this; exact this
 obtain ⟨a1,k1,rfl,_,hat1⟩:=h1;obtain ⟨a2,k2,rfl,_,hat2⟩:=h2;have H1:=hid hat1;have H2:=hid hat2;have HSM:=hid hsm
 have HE:=hid (fun k (hk:k < cs.length) (hk2:k < ds.length)=>show cs[k].p=ds[k].p from by
  have h:=congrArg (fun l=>l[k]?) he;simp only [pbsL,List.getElem?_map,List.getElem?_eq_getElem hk,List.getElem?_eq_getElem hk2,Option.map_some] at h;exact Option.some.inj h)
 have D1:=hid d1;have D2:=hid d2;obtain ⟨n,hnn⟩:∃ n,n=cs.length:=⟨_,rfl⟩
 rw [← hln,← hnn];rw [← hnn] at hn;have HN:=hid hnn;have HN2:=hid (hnn.trans hln);clear hat1 hat2 hnn hln he hsm d1 d2
 go_enter Tryz.func21,Tryz.ntmps21
 go_wp2
 go_loopw [5] (fun i wr=>∃ k:Nat,k≤n∧i=.int .i64 k∧Hid (Below w.heap.size w wr)) (fun i _=>n - (intOf i).toNat)
 case atStart=>exact ⟨0,by omega,rfl,Below.refl _ _⟩
 case round =>
  obtain ⟨k,hk,rfl,hb⟩:=hrel;by_cases hlt:k < n
  ·have hlt':(k:Int) < n:=by omega
   have hk1:k < cs.length:=by have:=HN.out; omega
   have hk2:k < ds.length:=by have:=HN2.out; omega
   obtain ⟨e1,rfl,m1,f⟩:=H1.out k hk1;obtain ⟨e2,rfl,m2,g⟩:=H2.out k hk2;have hp:=HE.out k hk1 hk2;have hc:=D1.out _ (List.getElem_mem hk1);have hd:=D2.out _ (List.getElem_mem hk2);have hs:=HSM.out _ (List.getElem_mem hk1);generalize cs[k]=c at f hp hc hs;generalize ds[k]=d at g hp hd;obtain ⟨⟨num,who,tag,til,doc⟩,ts,ns⟩:=c;obtain ⟨p2,ts',ns'⟩:=d;simp only at hp hc hd hs;subst hp;simp only at hd;have KS:=hid (fun w' (h:Below w.heap.size w w')=>rsame14_any doc ts ns ts' ns' w' hs (hc.1.below h) (hc.2.below h) (hd.1.below h) (hd.2.below h));clear hc hd hs HE HSM D1 D2 H1 H2;have FF:=hid (fun w' (h:Below w.heap.size w w')=>(f.below h m1).seven);have GG:=hid (fun w' (h:Below w.heap.size w w')=>(g.below h m2).seven);clear f g;obtain ⟨en,tl,nl⟩:=doc;unfold docV at KS;obtain ⟨f0,f1,f2,f3,f4,f5,f6⟩:=FF.out _ hb.out;obtain ⟨g0,g1,g2,g3,g4,g5,g6⟩:=GG.out _ hb.out;simp only at f0 f1 f2 f3 f4 f5 f6 g0 g1 g2 g3 g4 g5 g6 KS;have n0:(num != num)=false:=by simp
   have n1:(who != who)=false:=by simp
   have n2:(tag != tag)=false:=by simp
   have n3:(til != til)=false:=by simp
   go_upto_region 6 with fail
   have hacc:Below w.heap.size w wr.drew:=hb.out.drew;clear hb
   go_region_held3 (fun w'=>w'.cell? (e1.add (k * 7))=some (.int .i64 num)∧w'.cell? ⟨(e1.add (k * 7)).block,(e1.add (k * 7)).off+1,none⟩=some (.string ⟨who.toArray⟩)∧w'.cell? ⟨(e1.add (k * 7)).block,(e1.add (k * 7)).off+2,none⟩=some (.string ⟨tag.toArray⟩)∧w'.cell? ⟨(e1.add (k * 7)).block,(e1.add (k * 7)).off+3,none⟩=some (.int .i64 til)∧w'.cell? ⟨(e1.add (k * 7)).block,(e1.add (k * 7)).off+4,none⟩=some (.string ⟨en.toArray⟩)∧w'.cell? ⟨(e1.add (k * 7)).block,(e1.add (k * 7)).off+5,none⟩=some ts∧w'.cell? ⟨(e1.add (k * 7)).block,(e1.add (k * 7)).off+6,none⟩=some ns∧w'.cell? (e2.add (k * 7))=some (.int .i64 num)∧w'.cell? ⟨(e2.add (k * 7)).block,(e2.add (k * 7)).off+1,none⟩=some (.string ⟨who.toArray⟩)∧w'.cell? ⟨(e2.add (k * 7)).block,(e2.add (k * 7)).off+2,none⟩=some (.string ⟨tag.toArray⟩)∧w'.cell? ⟨(e2.add (k * 7)).block,(e2.add (k * 7)).off+3,none⟩=some (.int .i64 til)∧w'.cell? ⟨(e2.add (k * 7)).block,(e2.add (k * 7)).off+4,none⟩=some (.string ⟨en.toArray⟩)∧w'.cell? ⟨(e2.add (k * 7)).block,(e2.add (k * 7)).off+5,none⟩=some ts'∧w'.cell? ⟨(e2.add (k * 7)).block,(e2.add (k * 7)).off+6,none⟩=some ns') (go_keep) (first
    | (go_at_call 41; refine (KS.out _ hacc).mono ?_; rintro e w7 ⟨rfl,hw7⟩; have hacc:=hacc.trans (hw7.mono hacc.size); clear f0 f1 f2 f3 f4 f5 f6 g0 g1 g2 g3 g4 g5 g6 hw7; (obtain ⟨f0,f1,f2,f3,f4,f5,f6⟩:=FF.out _ hacc); (obtain ⟨g0,g1,g2,g3,g4,g5,g6⟩:=GG.out _ hacc); simp only at f0 f1 f2 f3 f4 f5 f6 g0 g1 g2 g3 g4 g5 g6))
   all_goals
    go_wp2;go_roundw
    case rel=>exact ⟨k+1,by omega,by go_num,hacc⟩
    case measure=>simp [intOf]; omega
  ·have hlt':¬ ((k:Int) < n):=by omega
   go_wp2;go_ret;exact ⟨rfl,hb.out⟩
theorem pbsL_erase (cs:List PbC) (i:Nat):(pbsL cs).eraseIdx i=pbsL (cs.take i++cs.drop (i+1)):=by
 rw [List.eraseIdx_eq_take_drop_succ]
 simp [pbsL]
def goC (c:PbC) (now n:Int) (a:Pa) (ts ns:Value):PbC:=⟨goP c.p now n a,if a.has=true then ts else c.ts,if a.has=true then ns else c.ns⟩
theorem pbsL_modify (cs:List PbC) (i:Nat) (hi:i < cs.length) (now n:Int) (a:Pa) (ts ns:Value):(pbsL cs).modify i (fun p=>goP p now n a)=pbsL (cs.take i++[goC cs[i] now n a ts ns]++cs.drop (i+1)):=by
 have hl:i < (pbsL cs).length:=by rw [pbsL_len]; exact hi
 rw [List.modify_eq_take_cons_drop hl]
 simp [pbsL,goC]
theorem DocsAt.app {w:World} {a b:List PbC} (h1:DocsAt w a) (h2:DocsAt w b):DocsAt w (a++b):=fun c hc=>by
 rcases List.mem_append.1 hc with h | h
 ·exact h1 c h
 ·exact h2 c h
theorem DocsAt.cut {w:World} {cs:List PbC} (h:DocsAt w cs) (i:Nat):DocsAt w (cs.take i++cs.drop (i+1)):=(h.sub fun c hc=>List.mem_of_mem_take hc).app (h.sub fun c hc=>List.mem_of_mem_drop hc)
theorem pbs_end {w:World} {ad:Addr} {cs:List PbC} {cap i:Nat} (hi:i < cs.length) (hab:ad.block < w.heap.size) (hat:∀ k (hk:k < cs.length),PbAt w ad k cs[k]) (hcp:cs.length≤cap) :
  ∀ u,Below w.heap.size w u → ∃ ad2 c2,pbEnd ad cs.length cap i=.slice (some ad2) (cs.drop (i+1)).length c2∧∀ (j:Nat) (x:Value),(pbsCells (cs.drop (i+1)))[j]? = some x → u.cell? (ad2.add j)=some x:=by
 intro u hu;unfold pbEnd;by_cases hc:cap=i+1
 ·rw [if_pos hc];refine ⟨_,_,by rw [List.length_drop],fun j x hj=>?_⟩
  rw [List.drop_eq_nil_of_le (by omega)] at hj
  simp [pbsCells] at hj
 ·rw [if_neg hc];refine ⟨_,_,by rw [List.length_drop],fun j x hj=>?_⟩
  have:=pbs_news hat (i+1) j x hj
  exact cell_below hu (by rw [add_block,add_block]; exact hab) this
theorem pbs_head {w:World} {ad:Addr} {cs:List PbC} {i:Nat} (hi:i≤cs.length) (hab:ad.block < w.heap.size) (hat:∀ k (hk:k < cs.length),PbAt w ad k cs[k]) :
  ∀ u,Below w.heap.size w u → ∀ (j:Nat) (x:Value),(pbsCells (cs.take i))[j]? = some x → u.cell? (ad.add j)=some x:=fun u hu j x hj=>cell_below hu (by rw [add_block]; exact hab) (pbs_front hat i j x hj)
theorem pbs_all {w:World} {v:Value} {cs:List PbC} (h:PbsAt w v cs) (hz:cs=[] → v=.slice none 0 0∨∃ ad cap,v=.slice (some ad) 0 cap):∀ u,Below w.heap.size w u → (v=.slice none 0 0∧cs=[])∨∃ ad2 c2,v=.slice (some ad2) cs.length c2∧∀ (j:Nat) (x:Value),(pbsCells cs)[j]? = some x → u.cell? (ad2.add j)=some x:=by
 intro u hu;by_cases hc:cs=[]
 ·subst hc
  rcases hz rfl with h1 | ⟨ad,cap,h1⟩
  ·exact .inl ⟨h1,rfl⟩
  ·exact .inr ⟨ad,cap,h1,fun j x hj=>by simp [pbsCells] at hj⟩
 ·obtain ⟨ao,cap,hv,hcp,hat⟩:=h;have hl:0 < cs.length:=List.length_pos_iff.2 hc;obtain ⟨ad,rfl,hab,_⟩:=hat 0 hl;refine .inr ⟨ad,cap,hv,fun j x hj=>?_⟩
  have hall:∀ k (hk:k < cs.length),PbAt w ad k cs[k]:=fun k hk=>by
   obtain ⟨ad',he,_,h1⟩:=hat k hk
   injection he with he
   subst he;exact h1
  have:=pbs_head (i:=cs.length) (Nat.le_refl _) hab hall u hu j x (by rw [List.take_length]; exact hj)
  exact this
end Go.Proofs.YteicmbhilambpaaGreatDoor
