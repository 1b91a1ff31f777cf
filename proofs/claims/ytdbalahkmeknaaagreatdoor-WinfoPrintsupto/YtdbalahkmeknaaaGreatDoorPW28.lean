/-
  WR3, WR4, WR5, RX11, WR6.
-/
import Derived.Test.YtdbalahkmeknaaaGreatDoorPW24
set_option linter.unusedVariables false
set_option linter.unusedSimpArgs false
set_option maxRecDepth 20000
namespace Go.Proofs.YtdbalahkmeknaaaGreatDoor
open Go.RowKit Sc
set_option maxHeartbeats 4000000 in
set_option maxRecDepth 100000 in
theorem rn7_region {ops:Array Oper} (S:rn7Ops ops) (hlow:lowB .any ops=true) (hpar:parentB ops 18=true) (hww:waitsB ops 19 18=true) {Q:Exit → Act → World → Prop} {id:Nat} (a0:Act) (w:World) (B:Nat) (vo:Option Addr) (n vc b:Nat) (t:Wt) (dl:List UInt8)
  (hsz:a0.tmps.size=57) (hdf:a0.defers=[]) (B3:a0.eval (.tmp 3)=.slice vo n vc) (B5:a0.eval (.tmp 5)=.pointer (some ⟨b,0,none⟩))
  (hBW:B≤w.heap.size) (hul:t.uri.length≤1048576) (hdl:dl.length≤20) (hrow:RowIs w b 51 (wtCells t)) (hbl:b < w.heap.size)
  (KD:∀ u,Calls Tryz.prog 48 #[.int .i64 t.id] u fun e u'=>e=.returned (.string ⟨dl.toArray⟩)∧Below u.heap.size u u')
  (cs:List NdC) (hown:OwnN w B (.slice vo n vc) cs) (hlen:cs.length≤1000000)
  (fin:∀ (v':Value) (c:NdC) (us:List Value) (w':World),c.nd=nd7 dl t → us.length=19 → OwnN w' B v' (cs++[c]) → FrN (.slice vo n vc) w v' w' → Q .normal ⟨((a0.tmps.toList.set 3 v').take 37++(us++(a0.tmps.toList.set 3 v').drop 56)).toArray,[]⟩ w') :
  (Code.region id ops true).wp Tryz.prog Q a0 w:=by
 have hb0:Below w.heap.size w { w with drawn:=w.drawn+1 }:=⟨rfl,rfl,rfl,Nat.le_refl _,fun _ _=>rfl⟩
 have HC:∀ u,Below ({ w with drawn:=w.drawn+1 }:World).heap.size { w with drawn:=w.drawn+1 } u → u.cell? ⟨b,0,none⟩=some (.int .i64 t.id)∧u.cell? ⟨b,1,none⟩=some (.string ⟨t.uri.toArray⟩)∧u.cell? ⟨b,2,none⟩=some (.string ⟨t.stat.toArray⟩)∧u.cell? ⟨b,3,none⟩=some (.string ⟨t.ev.toArray⟩):=fun u hu=>by
  have h:=RowIs.rc4 (show RowIs u b 51 [.int .i64 t.id,.string ⟨t.uri.toArray⟩,.string ⟨t.stat.toArray⟩,.string ⟨t.ev.toArray⟩] from hrow.below (hb0.trans hu) hbl);exact ⟨h.1,h.2,h.3,h.4⟩
 obtain ⟨i1,hj,hy0,hy1,hy2⟩:=info_parts infoNodeB
 refine wp_region_mem followsM (rn7P a0 { w with drawn:=w.drawn+1 } B vo n vc b t dl) rfl rfl hsz hdf S.sz hlow hpar hww
  (fun a u=>∃ (v':Value) (c:NdC),c.nd=nd7 dl t∧Outs (rn7P a0 { w with drawn:=w.drawn+1 } B vo n vc b t dl) a0 a∧a.eval (.tmp 55)=v'∧OwnN u B v' (cs++[c])∧FrN (.slice vo n vc) w v' u)
  (fun a u=>∃ (v':Value) (c:NdC),c.nd=nd7 dl t∧Outs (rn7P a0 { w with drawn:=w.drawn+1 } B vo n vc b t dl) (a0.put (some 3) v') a∧OwnN u B v' (cs++[c])∧FrN (.slice vo n vc) w v' u)
  (fun L a u i h1 h2 h3 h4=>rn7_steps S a0 { w with drawn:=w.drawn+1 } B vo n vc b t dl B3 B5 hBW hul hdl HC KD Q L a u i h1 h2 h3 h4) ?_ ?_ ?_
 ·intro a u ho hb hR;have q0:=hR 0 (by simp [rn7P]);have q17:=hR 17 (by simp [rn7P]);simp only [rn7P,rn7R,rn7D] at q0 q17;obtain ⟨g,g2,q17,hp,_,hnew⟩:=q17;have hb1:Below w.heap.size w u:=hb0.trans hb;obtain ⟨o,ho1,hg,hd,hop⟩:=S.p18;refine wpOp_of (E:=True) ho1 (step_appN hg (.tmp 37) (.tmp 54) 40 hop B i1 _ Tryz.underlying40 hj hy0 hy1 hy2 rfl (.slice vo n vc) cs q0 (hown.below hb1) ⟨g2,0,none⟩ 1 ⟨nd7 dl t,.slice (some ⟨g,0,none⟩) 3 3⟩ hp q17 hnew (by omega) (Nat.le_trans hBW hb1.size) ?_) hg
  intro v' w' hown' hfr;rw [hd];exact ⟨v',_,rfl,ho.put 55 v' (by simp [rn7P]) (by simp [rn7P]),eval_put_same (by rw [ho.sz]; simp [rn7P]),hown',(FrN.below hb1).trans hfr⟩
 ·rintro a u ⟨v',c,hc,ho,he,hown',hfr⟩;refine S.p19.val (v:=v') (w':=u) (fun o ho2=>?_) ⟨v',c,hc,ho.set hsz 3 v' (by simp [rn7P]) (by simp [rn7P]),hown',hfr⟩
  simp only [execOp,ho2,he];go_simp
 ·rintro a u ⟨v',c,hc,ho,hown',hfr⟩;obtain ⟨us,hus,hau⟩:=ho.fin (by rw [put_size]; exact hsz) (by simp [rn7P]) (by simp [rn7P]);rw [hau,put_list];exact fin v' c us u hc hus hown' hfr
theorem ownN_newI (W:World) (B:Nat) (hB:B≤W.heap.size) (c:NdC) (hc:OwnP W B c.a c.nd.attrs):OwnN (W.alloc (.cells (ndCells c).toArray 49)) B (.slice (some ⟨W.heap.size,0,none⟩) 1 1) [c]:=by
 refine ⟨⟨rfl,.inr ⟨_,_,(ndCells c).toArray,rfl,hB,heap_alloc_new _ _,Nat.le_refl _,by unfold maxLen; omega,rfl,by simp [ndsCells,ndCells]⟩⟩,fun c' h'=>?_⟩
 simp only [List.mem_singleton] at h'; subst h'; exact hc.alloc _
structure rn1Ops (ops:Array Oper):Prop where
 sz:ops.size=10
 p0:OpIs ops 0 (some 6) (.call { callee:=.value (.func 47),args:=#[.const (.string ⟨#[120,109,108,110,115]⟩),.const (.string ⟨#[117,114,110,58,105,101,116,102,58,112,97,114,97,109,115,58,120,109,108,58,110,115,58,119,97,116,99,104,101,114,105,110,102,111]⟩)],argTypes:=#[9,9] })
 p1:OpIs ops 1 (some 7) (.fieldAddr 24 (.tmp 1) 0)
 p2:OpIs ops 2 (some 8) (.load 3 (.tmp 7))
 p3:OpIs ops 3 (some 9) (.call { callee:=.value (.func 48),args:=#[.tmp 8],argTypes:=#[3] })
 p4:OpIs ops 4 (some 10) (.call { callee:=.value (.func 47),args:=#[.const (.string ⟨#[118,101,114,115,105,111,110]⟩),.tmp 9],argTypes:=#[9,9] })
 p5:OpIs ops 5 (some 11) (.call { callee:=.value (.func 47),args:=#[.const (.string ⟨#[115,116,97,116,101]⟩),.const (.string ⟨#[102,117,108,108]⟩)],argTypes:=#[9,9] })
 p6:OpIs ops 6 (some 12) (.buildSlice 47 3 #[(0,.tmp 6),(1,.tmp 10),(2,.tmp 11)])
 p7:OpIs ops 7 (some 13) (.build 49 #[(1,.const (.string ⟨#[119,97,116,99,104,101,114,105,110,102,111]⟩)),(2,.tmp 12)])
 p8:OpIs ops 8 (some 14) (.buildSlice 40 1 #[(0,.tmp 13)])
 p9:OpIs ops 9 (some 3) (.assign (.tmp 14))
 w2_1:Waits ops 2 1
 w3_2:Waits ops 3 2
 w4_3:Waits ops 4 3
 w6_0:Waits ops 6 0
 w6_4:Waits ops 6 4
 w6_5:Waits ops 6 5
 w7_6:Waits ops 7 6
def rn1D:Nat → Nat
 | 0=>6
 | 1=>7
 | 2=>8
 | 3=>9
 | 4=>10
 | 5=>11
 | 6=>12
 | 7=>13
 | _=>0
def rn1R (B b:Nat) (vr:Int) (dl:List UInt8):Nat → Value → World → Prop
 | 0=>fun v w=>v=.agg #[.string ⟨#[120,109,108,110,115]⟩,.string ⟨#[117,114,110,58,105,101,116,102,58,112,97,114,97,109,115,58,120,109,108,58,110,115,58,119,97,116,99,104,101,114,105,110,102,111]⟩,.bool true]
 | 1=>fun v w=>v=.pointer (some ⟨b,0,none⟩)
 | 2=>fun v w=>v=.int .i64 vr
 | 3=>fun v w=>v=.string ⟨dl.toArray⟩
 | 4=>fun v w=>v=.agg #[.string ⟨#[118,101,114,115,105,111,110]⟩,.string ⟨dl.toArray⟩,.bool true]
 | 5=>fun v w=>v=.agg #[.string ⟨#[115,116,97,116,101]⟩,.string ⟨#[102,117,108,108]⟩,.bool true]
 | 6=>fun v w=>∃ g,v=.slice (some ⟨g,0,none⟩) 3 3∧OwnP w B (.slice (some ⟨g,0,none⟩) 3 3) (ps1 dl)
 | 7=>fun v w=>∃ g,v=.agg #[.int .i64 0,.string ⟨#[119,97,116,99,104,101,114,105,110,102,111]⟩,.slice (some ⟨g,0,none⟩) 3 3,.string ⟨#[]⟩]∧OwnP w B (.slice (some ⟨g,0,none⟩) 3 3) (ps1 dl)
 | _=>fun _ _=>True
def rn1P (a0:Act) (W:World) (B b:Nat) (vr:Int) (dl:List UInt8):MP where
 a0:=a0
 lo:=6
 hi:=15
 n:=57
 k:=8
 W:=W
 D:=rn1D
 R:=rn1R B b vr dl
theorem rn1_inj:∀ j,j < 8 → ∀ i,i < 8 → j ≠ i → rn1D j ≠ rn1D i:=by decide +kernel
theorem rn1_st (B b:Nat) (vr:Int) (dl:List UInt8) {u u':World} (hb:Below u.heap.size u u'):∀ j v,j < 8 → rn1R B b vr dl j v u → rn1R B b vr dl j v u':=by
 intro j v hj h
 rcases (show j=0∨j=1∨j=2∨j=3∨j=4∨j=5∨j=6∨j=7 by omega) with rfl | rfl | rfl | rfl | rfl | rfl | rfl | rfl
 ·exact h
 ·exact h
 ·exact h
 ·exact h
 ·exact h
 ·exact h
 ·obtain ⟨g,h1,h2⟩:=h; exact ⟨g,h1,h2.below hb⟩
 ·obtain ⟨g,h1,h2⟩:=h; exact ⟨g,h1,h2.below hb⟩
set_option maxHeartbeats 4000000 in
set_option maxRecDepth 100000 in
theorem rn1_steps {ops:Array Oper} (S:rn1Ops ops) (a0:Act) (W:World) (B b:Nat) (vr:Int) (dl:List UInt8)
  (B1:a0.eval (.tmp 1)=.pointer (some ⟨b,0,none⟩))
  (hBW:B≤W.heap.size) (hdl:dl.length≤20)
  (HC:∀ u,Below W.heap.size W u → u.cell? ⟨b,0,none⟩=some (.int .i64 vr))
  (KD:∀ u,Calls Tryz.prog 48 #[.int .i64 vr] u fun e u'=>e=.returned (.string ⟨dl.toArray⟩)∧Below u.heap.size u u')
  (Q:Exit → Act → World → Prop) (L:Array Bool) (a:Act) (w:World) (i:Nat) (hsz:L.size=ops.size) (hik:i < 8) (hi:i ∈ Region.ready .any ops L) (hI:MI (rn1P a0 W B b vr dl) ops L a w) :
  wpOp Tryz.prog ops Q i (MI (rn1P a0 W B b vr dl) ops (L.setIfInBounds i true)) a w:=by
 have evc:∀ v,a.eval (.const v)=v:=fun _=>rfl;have b1:=(hI.o.out 1 (.inl (by simp [rn1P]))).trans B1;have hC0:=HC w hI.bel
 have put:∀ (i d:Nat) (hi:i ∈ Region.ready .any ops L) (hk:i < 8) (hd:rn1D i=d) (h1:6≤d) (h2:d < 15) (v:Value) (w':World) (hb:Below w.heap.size w w') (hR:rn1R B b vr dl i v w'),MI (rn1P a0 W B b vr dl) ops (L.setIfInBounds i true) (a.put (some d) v) w':=fun i d hi hk hd h1 h2 v w' hb hR =>
  hI.put hsz i hi d hd (fun j hj hji=>by subst hd; exact rn1_inj j hj i hk hji) h1 h2 (by simp [rn1P]) (fun j v hj h=>rn1_st B b vr dl hb j v hj h) v hb hR
 rcases (show i=0∨i=1∨i=2∨i=3∨i=4∨i=5∨i=6∨i=7 by omega) with rfl | rfl | rfl | rfl | rfl | rfl | rfl | rfl
 ·refine S.p0.enter (vals:=#[.string ⟨#[120,109,108,110,115]⟩,.string ⟨#[117,114,110,58,105,101,116,102,58,112,97,114,97,109,115,58,120,109,108,58,110,115,58,119,97,116,99,104,101,114,105,110,102,111]⟩]) (by simp only [List.map_toArray,List.map_cons,List.map_nil,evc]) (fun xs u=>by kernel_rfl) ?_
  refine (ratr15_any ⟨#[120,109,108,110,115]⟩ ⟨#[117,114,110,58,105,101,116,102,58,112,97,114,97,109,115,58,120,109,108,58,110,115,58,119,97,116,99,104,101,114,105,110,102,111]⟩ w).mono ?_
  rintro e w' ⟨rfl,hb⟩;exact ⟨_,rfl,put 0 6 hi (by decide) rfl (by decide) (by decide) _ _ hb rfl⟩
 ·refine S.p1.val (v:=.pointer (some ⟨b,0,none⟩)) (w':=w) (fun o ho=>?_) (put 1 7 hi (by decide) rfl (by decide) (by decide) _ _ (Below.refl _ _) rfl)
  simp only [execOp,ho,b1];clear hI S hi hsz put evc;go_simp
 ·have q1:=hI.val 1 (by simp [rn1P]) (S.w2_1.on hi);simp only [rn1P,rn1R,rn1D] at q1;refine S.p2.val (v:=.int .i64 vr) (w':=w) (fun o ho=>?_) (put 2 8 hi (by decide) rfl (by decide) (by decide) _ _ (Below.refl _ _) rfl)
  simp only [execOp,ho,q1];clear hI S hi hsz put evc;go_simp
 ·have q2:=hI.val 2 (by simp [rn1P]) (S.w3_2.on hi);simp only [rn1P,rn1R,rn1D] at q2;refine S.p3.enter (vals:=#[.int .i64 vr]) (by simp only [List.map_toArray,List.map_cons,List.map_nil,evc,q2]) (fun xs u=>by kernel_rfl) ?_
  refine (KD w).mono ?_
  rintro e w' ⟨rfl,hb⟩;exact ⟨_,rfl,put 3 9 hi (by decide) rfl (by decide) (by decide) _ _ hb rfl⟩
 ·have q3:=hI.val 3 (by simp [rn1P]) (S.w4_3.on hi);simp only [rn1P,rn1R,rn1D] at q3;refine S.p4.enter (vals:=#[.string ⟨#[118,101,114,115,105,111,110]⟩,.string ⟨dl.toArray⟩]) (by simp only [List.map_toArray,List.map_cons,List.map_nil,evc,q3]) (fun xs u=>by kernel_rfl) ?_
  refine (ratr15_any ⟨#[118,101,114,115,105,111,110]⟩ ⟨dl.toArray⟩ w).mono ?_
  rintro e w' ⟨rfl,hb⟩;exact ⟨_,rfl,put 4 10 hi (by decide) rfl (by decide) (by decide) _ _ hb rfl⟩
 ·refine S.p5.enter (vals:=#[.string ⟨#[115,116,97,116,101]⟩,.string ⟨#[102,117,108,108]⟩]) (by simp only [List.map_toArray,List.map_cons,List.map_nil,evc]) (fun xs u=>by kernel_rfl) ?_
  refine (ratr15_any ⟨#[115,116,97,116,101]⟩ ⟨#[102,117,108,108]⟩ w).mono ?_
  rintro e w' ⟨rfl,hb⟩;exact ⟨_,rfl,put 5 11 hi (by decide) rfl (by decide) (by decide) _ _ hb rfl⟩
 ·have q0:=hI.val 0 (by simp [rn1P]) (S.w6_0.on hi);simp only [rn1P,rn1R,rn1D] at q0;have q4:=hI.val 4 (by simp [rn1P]) (S.w6_4.on hi);simp only [rn1P,rn1R,rn1D] at q4;have q5:=hI.val 5 (by simp [rn1P]) (S.w6_5.on hi);simp only [rn1P,rn1R,rn1D] at q5;refine S.p6.val (v:=.slice (some ⟨w.heap.size,0,none⟩) 3 3) (w':=w.alloc (.cells #[.string ⟨#[120,109,108,110,115]⟩,.string ⟨#[117,114,110,58,105,101,116,102,58,112,97,114,97,109,115,58,120,109,108,58,110,115,58,119,97,116,99,104,101,114,105,110,102,111]⟩,.bool true,.string ⟨#[118,101,114,115,105,111,110]⟩,.string ⟨dl.toArray⟩,.bool true,.string ⟨#[115,116,97,116,101]⟩,.string ⟨#[102,117,108,108]⟩,.bool true] 70)) (fun o ho=>?_) (put 6 12 hi (by decide) rfl (by decide) (by decide) _ _ ((Below.refl _ w).alloc (Nat.le_refl _) _) ⟨_,rfl,by exact ownP_newI w B (Nat.le_trans hBW hI.bel.size) (ps1 dl) 3 rfl (by decide)⟩)
  simp only [execOp,ho];have em:Array.map (fun x:Nat × Operand=>(x.fst,a.eval x.snd)) #[(0,Operand.tmp 6),(1,Operand.tmp 10),(2,Operand.tmp 11)]=#[(0,.agg #[.string ⟨#[120,109,108,110,115]⟩,.string ⟨#[117,114,110,58,105,101,116,102,58,112,97,114,97,109,115,58,120,109,108,58,110,115,58,119,97,116,99,104,101,114,105,110,102,111]⟩,.bool true]),(1,.agg #[.string ⟨#[118,101,114,115,105,111,110]⟩,.string ⟨dl.toArray⟩,.bool true]),(2,.agg #[.string ⟨#[115,116,97,116,101]⟩,.string ⟨#[102,117,108,108]⟩,.bool true])]:=by simp only [List.map_toArray,List.map_cons,List.map_nil,q0,q4,q5]
  rw [em];clear hI S hi hsz put evc;go_simp
 ·have q6:=hI.val 6 (by simp [rn1P]) (S.w7_6.on hi);simp only [rn1P,rn1R,rn1D] at q6;obtain ⟨g6,q6,o6⟩:=q6;refine S.p7.val (v:=.agg #[.int .i64 0,.string ⟨#[119,97,116,99,104,101,114,105,110,102,111]⟩,.slice (some ⟨g6,0,none⟩) 3 3,.string ⟨#[]⟩]) (w':=w) (fun o ho=>?_) (put 7 13 hi (by decide) rfl (by decide) (by decide) _ _ (Below.refl _ _) ⟨g6,rfl,o6⟩)
  simp only [execOp,ho,q6];have em:Array.map (fun x:Nat × Operand=>(x.fst,a.eval x.snd)) #[(1,Operand.const (.string ⟨#[119,97,116,99,104,101,114,105,110,102,111]⟩)),(2,Operand.tmp 12)]=#[(1,.string ⟨#[119,97,116,99,104,101,114,105,110,102,111]⟩),(2,.slice (some ⟨g6,0,none⟩) 3 3)]:=by simp only [List.map_toArray,List.map_cons,List.map_nil,q6,evc]
  try rw [em]
  clear hI S hi hsz put evc;go_simp
set_option maxHeartbeats 4000000 in
set_option maxRecDepth 100000 in
theorem rn1_region {ops:Array Oper} (S:rn1Ops ops) (hlow:lowB .any ops=true) (hpar:parentB ops 8=true) (hww:waitsB ops 9 8=true) {Q:Exit → Act → World → Prop} {id:Nat} (a0:Act) (w:World) (B b:Nat) (vr:Int) (dl:List UInt8)
  (hsz:a0.tmps.size=57) (hdf:a0.defers=[]) (B1:a0.eval (.tmp 1)=.pointer (some ⟨b,0,none⟩))
  (hBW:B≤w.heap.size) (hdl:dl.length≤20) (hc0:w.cell? ⟨b,0,none⟩=some (.int .i64 vr)) (hbl:b < w.heap.size)
  (KD:∀ u,Calls Tryz.prog 48 #[.int .i64 vr] u fun e u'=>e=.returned (.string ⟨dl.toArray⟩)∧Below u.heap.size u u')
  (fin:∀ (v':Value) (c:NdC) (us:List Value) (w':World),c.nd=nd1 dl → us.length=9 → OwnN w' B v' [c] → Below w.heap.size w w' → Q .normal ⟨((a0.tmps.toList.set 3 v').take 6++(us++(a0.tmps.toList.set 3 v').drop 15)).toArray,[]⟩ w') :
  (Code.region id ops true).wp Tryz.prog Q a0 w:=by
 have hb0:Below w.heap.size w { w with drawn:=w.drawn+1 }:=⟨rfl,rfl,rfl,Nat.le_refl _,fun _ _=>rfl⟩
 have HC:∀ u,Below ({ w with drawn:=w.drawn+1 }:World).heap.size { w with drawn:=w.drawn+1 } u → u.cell? ⟨b,0,none⟩=some (.int .i64 vr):=fun u hu=>cell_below (hb0.trans hu) hbl hc0
 refine wp_region_mem followsM (rn1P a0 { w with drawn:=w.drawn+1 } B b vr dl) rfl rfl hsz hdf S.sz hlow hpar hww
  (fun a u=>∃ (v':Value) (c:NdC),c.nd=nd1 dl∧Outs (rn1P a0 { w with drawn:=w.drawn+1 } B b vr dl) a0 a∧a.eval (.tmp 14)=v'∧OwnN u B v' [c]∧Below w.heap.size w u)
  (fun a u=>∃ (v':Value) (c:NdC),c.nd=nd1 dl∧Outs (rn1P a0 { w with drawn:=w.drawn+1 } B b vr dl) (a0.put (some 3) v') a∧OwnN u B v' [c]∧Below w.heap.size w u)
  (fun L a u i h1 h2 h3 h4=>rn1_steps S a0 { w with drawn:=w.drawn+1 } B b vr dl B1 hBW hdl HC KD Q L a u i h1 h2 h3 h4) ?_ ?_ ?_
 ·intro a u ho hb hR;have q7:=hR 7 (by simp [rn1P]);simp only [rn1P,rn1R,rn1D] at q7;obtain ⟨g,q7,hp⟩:=q7;have hb1:Below w.heap.size w u:=hb0.trans hb;refine S.p8.val (v:=.slice (some ⟨u.heap.size,0,none⟩) 1 1) (w':=u.alloc (.cells #[.int .i64 0,.string ⟨#[119,97,116,99,104,101,114,105,110,102,111]⟩,.slice (some ⟨g,0,none⟩) 3 3,.string ⟨#[]⟩] 49)) (fun o ho2=>?_) ⟨_,⟨nd1 dl,.slice (some ⟨g,0,none⟩) 3 3⟩,rfl,ho.put 14 _ (by simp [rn1P]) (by simp [rn1P]),eval_put_same (by rw [ho.sz]; simp [rn1P]),by exact ownN_newI u B (Nat.le_trans hBW hb1.size) ⟨nd1 dl,.slice (some ⟨g,0,none⟩) 3 3⟩ hp,hb1.alloc hb1.size _⟩
  simp only [execOp,ho2];have em:Array.map (fun x:Nat × Operand=>(x.fst,a.eval x.snd)) #[(0,Operand.tmp 13)]=#[(0,.agg #[.int .i64 0,.string ⟨#[119,97,116,99,104,101,114,105,110,102,111]⟩,.slice (some ⟨g,0,none⟩) 3 3,.string ⟨#[]⟩])]:=by simp only [List.map_toArray,List.map_cons,List.map_nil,q7]
  rw [em];clear hR q7 em ho;go_simp
 ·rintro a u ⟨v',c,hc,ho,he,hown',hfr⟩;refine S.p9.val (v:=v') (w':=u) (fun o ho2=>?_) ⟨v',c,hc,ho.set hsz 3 v' (by simp [rn1P]) (by simp [rn1P]),hown',hfr⟩
  simp only [execOp,ho2,he];go_simp
 ·rintro a u ⟨v',c,hc,ho,hown',hfr⟩;obtain ⟨us,hus,hau⟩:=ho.fin (by rw [put_size]; exact hsz) (by simp [rn1P]) (by simp [rn1P]);rw [hau,put_list];exact fin v' c us u hc hus hown' hfr
theorem list9I {α:Type} {l:List α} (h:l.length=9):∃ a0 a1 a2 a3 a4 a5 a6 a7 a8,l=[a0,a1,a2,a3,a4,a5,a6,a7,a8]:=by
 match l,h with
 | [a0,a1,a2,a3,a4,a5,a6,a7,a8],_=>exact ⟨a0,a1,a2,a3,a4,a5,a6,a7,a8,rfl⟩
theorem list19I {α:Type} {l:List α} (h:l.length=19):∃ a0 a1 a2 a3 a4 a5 a6 a7 a8 a9 a10 a11 a12 a13 a14 a15 a16 a17 a18,l=[a0,a1,a2,a3,a4,a5,a6,a7,a8,a9,a10,a11,a12,a13,a14,a15,a16,a17,a18]:=by
 match l,h with
 | [a0,a1,a2,a3,a4,a5,a6,a7,a8,a9,a10,a11,a12,a13,a14,a15,a16,a17,a18],_=>exact ⟨a0,a1,a2,a3,a4,a5,a6,a7,a8,a9,a10,a11,a12,a13,a14,a15,a16,a17,a18,rfl⟩
theorem rdig_list (n:Int) (w:World) (h0:0≤n) (h1:n≤9223372036854775807) :
  Calls Tryz.prog 48 #[.int .i64 n] w fun e w'=>e=.returned (.string ⟨(digL n.toNat).toArray⟩)∧Below w.heap.size w w':=by
 refine (refdigits_any n.toNat n w (by omega) h0 h1).mono ?_
 rintro e w' ⟨rfl,q,rfl⟩;exact ⟨rfl,below_drewN w q⟩
set_option maxHeartbeats 4000000 in
set_option maxRecDepth 100000 in
theorem rnodes_any (d:Inf) (ws:Value) (w:World) (hv0:0≤d.ver) (hv1:d.ver≤9223372036854775807) (hres:d.res.length≤1048576) (hids:∀ t ∈ d.ws,0≤t.id∧t.id≤9223372036854775807∧t.uri.length≤1048576) (hl:d.ws.length≤1000) (hws:WtsAt w ws d.ws) :
  Calls Tryz.prog 24 #[infV d ws] w fun e w'=>TelI (nodesI d) w e w':=by
 obtain ⟨vr,rs,wl⟩:=d;simp only at hv0 hv1 hres hids hl hws;have hnd:nodesI ⟨vr,rs,wl⟩=nd1 (digL vr.toNat) :: nd2 rs :: wl.map wtN:=rfl;unfold infV
 simp only
 rw [hnd];have KV:=hid (fun u=>rdig_list vr u hv0 hv1);have hdl:(digL vr.toNat).length≤20:=by have:=digL_len19 (n:=vr.toNat) (by omega); omega
 have HID:=hid hids;have HTW:=hid (fun (W':World) (h:Below w.heap.size w W')=>hws.below h);obtain ⟨ta,tc,hta,_,_⟩:=hws;obtain ⟨tn,htn⟩:∃ tn,tn=wl.length:=⟨_,rfl⟩
 rw [← htn] at hta hl;subst hta;have HTN:=hid htn;clear htn hids hnd;generalize digL vr.toNat=dl at KV hdl ⊢;have hr0:=rc_row3 w (.int .i64 vr) (.string ⟨rs.toArray⟩) (.slice ta tn tc) 24;have hb0:Below w.heap.size w (w.alloc (.cells #[.int .i64 vr,.string ⟨rs.toArray⟩,.slice ta tn tc] 24)):=(Below.refl _ w).alloc (Nat.le_refl _) _;have hl0:=alloc_lt w (.cells #[.int .i64 vr,.string ⟨rs.toArray⟩,.slice ta tn tc] 24);obtain ⟨i1,hj,hy0,hy1,hy2⟩:=info_parts infoNodeB;have HG:Hid ((⟨#[115,105,112,58]⟩:ByteArray)++⟨rs.toArray⟩=⟨(sipcK++rs).toArray⟩):=show _=_ by rw [ByteArray.mk_append_mk]; simp [sipcK]
 have zr:=size_list rs;have HNW:=hid (fun (W:World) (c:NdC) (g:Nat) (hg:g=W.heap.size)=>xnd_new W c g hg)
 go_enter Tryz.func24,Tryz.ntmps24
 go_upto_region 1 with fail
 generalize World.alloc w _=W0 at hr0 hb0 hl0 ⊢;refine rn1_region ⟨rfl,⟨_,rfl,rfl,rfl,rfl⟩,⟨_,rfl,rfl,rfl,rfl⟩,⟨_,rfl,rfl,rfl,rfl⟩,⟨_,rfl,rfl,rfl,rfl⟩,⟨_,rfl,rfl,rfl,rfl⟩,⟨_,rfl,rfl,rfl,rfl⟩,⟨_,rfl,rfl,rfl,rfl⟩,⟨_,rfl,rfl,rfl,rfl⟩,⟨_,rfl,rfl,rfl,rfl⟩,⟨_,rfl,rfl,rfl,rfl⟩,waits_of (by kernel_rfl),waits_of (by kernel_rfl),waits_of (by kernel_rfl),waits_of (by kernel_rfl),waits_of (by kernel_rfl),waits_of (by kernel_rfl),waits_of (by kernel_rfl)⟩ (by kernel_rfl) (by kernel_rfl) (by kernel_rfl) _ W0 w.heap.size w.heap.size vr dl rfl rfl rfl hb0.size hdl hr0.rc3.1 hl0 KV.out ?_
 intro v1 c1 us w1 hc1 hus hown1 hw1;obtain ⟨u0,u1,u2,u3,u4,u5,u6,u7,u8,rfl⟩:=list9I hus;have hP1:=hid (show PSi w [.int .i64 vr,.string ⟨rs.toArray⟩,.slice ta tn tc] w1 v1 [c1] from ⟨hown1,hr0.below hw1 hl0,hb0.trans (hw1.mono hb0.size)⟩);obtain ⟨vo,vc,hvf⟩:=hown1.form;simp only [List.length_singleton] at hvf;subst hvf;clear hus hown1 hw1 hr0 hb0 hl0;simp only [List.set_cons_succ,List.set_cons_zero,List.take_succ_cons,List.take_zero,List.drop_succ_cons,List.drop_zero,List.cons_append,List.nil_append];obtain ⟨x0,x1,x2,_,_,_⟩:=hP1.out.row.rc3;go_wp2_with fail
 rw [HG.out];refine (ratr15_any _ _ _).mono ?_
 rintro e w2 ⟨rfl,hw2⟩;have hP2:=hid (hP1.out.below hw2);clear hP1 hw2 x0 x1 x2;go_wp2_with fail
 refine (ratr15_any _ _ _).mono ?_
 rintro e w3 ⟨rfl,hw3⟩;have hP3:=hid (hP2.out.below hw3);clear hP2 hw3;have HOP:=hid (ownP_newI w3 w.heap.size hP3.out.bel.size (ps2 rs) 2 rfl (by decide));go_wp2_with (at_builtin; refine Hid.out ?_)
 unfold Hid;refine wp_appN2 _ rfl (.tmp 15) (.tmp 23) 40 rfl w.heap.size i1 _ Tryz.underlying40 hj hy0 hy1 hy2 rfl (.slice vo 1 vc) [c1] rfl (by exact (OwnN.alloc (OwnN.alloc hP3.out.own _) _)) ⟨_,0,none⟩ 1 ⟨nd2 rs,.slice (some ⟨w3.heap.size,0,none⟩) 2 2⟩ (by exact OwnP.alloc HOP.out _) rfl (by exact HNW.out _ ⟨nd2 rs,.slice (some ⟨w3.heap.size,0,none⟩) 2 2⟩ _ (by simp)) (by show 1≤2000000; decide) (by have:=hP3.out.bel.size; simp; omega) ?_
 intro v4 w4 hown4 hf4;have hP4:=hid (PSi.app ((hP3.out.alloc _).alloc _) hf4 hown4);obtain ⟨vo4,vc4,hvf⟩:=hown4.form;obtain ⟨n4,hn4⟩:∃ n4,n4=([c1]++[(⟨nd2 rs,.slice (some ⟨w3.heap.size,0,none⟩) 2 2⟩:NdC)]).length:=⟨_,rfl⟩
 rw [← hn4] at hvf;subst hvf;have HN4:=hid hn4;have hn4b:n4=2:=hn4;have HL4:Hid (ndsL ([c1]++[(⟨nd2 rs,.slice (some ⟨w3.heap.size,0,none⟩) 2 2⟩:NdC)])=nd1 dl :: nd2 rs :: (wl.take 0).map wtN):=show _=_ by rw [nds_snocI]; simp [ndsL,hc1]
 generalize [c1]++[(⟨nd2 rs,.slice (some ⟨w3.heap.size,0,none⟩) 2 2⟩:NdC)]=cs4 at hP4 HN4 HL4;have hn4c:n4≤2+0:=by omega
 clear hn4 hn4b hown4 hf4 hP3 HOP hc1 HG KV hdl HNW;go_wp2
 go_loopw [3,4] (fun v i wr=>∃ (j n:Nat) (vo:Option Addr) (vc:Nat) (cs:List NdC),j≤tn∧i=.int .i64 (j:Int)∧v=.slice vo n vc∧Hid (ndsL cs=nd1 dl :: nd2 rs :: (wl.take j).map wtN)∧Hid (n=cs.length)∧n≤2+j∧Hid (PSi w [.int .i64 vr,.string ⟨rs.toArray⟩,.slice ta tn tc] wr v cs)) (fun _ i _=>tn - (intOf i).toNat)
 case atStart=>exact ⟨0,n4,vo4,vc4,cs4,Nat.zero_le _,rfl,rfl,HL4,HN4,hn4c,hP4⟩
 case round =>
  clear hP4 HL4 HN4 hn4c;obtain ⟨j,n,vo5,vc5,cs,hjn,rfl,rfl,hnd,HL,hnb,hP⟩:=hrel;obtain ⟨x0,x1,x2,_,_,_⟩:=hP.out.row.rc3;by_cases hlt:j < tn
  ·have hjl:j < wl.length:=by have:=HTN.out; omega
   obtain ⟨ta',tc',hta',_,hcT⟩:=HTW.out wr hP.out.bel;obtain ⟨ad,hao,hab,c⟩:=hcT j hjl
   injection hta' with e1 e2 e3
   subst e1 hao;clear e2 e3 hcT;have HFN:=hid (wts_next hjl);obtain ⟨hi0,hi1,hul⟩:=HID.out wl[j] (List.getElem_mem hjl);have KD:=hid (fun u=>rdig_list wl[j].id u hi0 hi1);have hdj:(digL wl[j].id.toNat).length≤20:=by have:=digL_len19 (n:=wl[j].id.toNat) (by omega); omega
   have HWN:Hid (wtN wl[j]=nd7 (digL wl[j].id.toNat) wl[j]):=show _=_ from rfl
   generalize wtN wl[j]=WN at HFN HWN;generalize digL wl[j].id.toNat=dj at KD hdj HWN;generalize wl[j]=t at c KD hul HWN;obtain ⟨ti,tu,ts,te⟩:=t;obtain ⟨c0,c1',c2,c3⟩:=c;simp only at c0 c1' c2 c3 KD hul;have q6:(j:Int) < (tn:Int):=by omega
   have hP1:=hid (hP.out.alloc (.cells #[.int .i64 ti,.string ⟨tu.toArray⟩,.string ⟨ts.toArray⟩,.string ⟨te.toArray⟩] 51));have HR1:=hid (rc_row4 wr (.int .i64 ti) (.string ⟨tu.toArray⟩) (.string ⟨ts.toArray⟩) (.string ⟨te.toArray⟩) 51);have hlt1:=alloc_lt wr (.cells #[.int .i64 ti,.string ⟨tu.toArray⟩,.string ⟨ts.toArray⟩,.string ⟨te.toArray⟩] 51);clear hP hi0 hi1
   go_upto_region 7 with fail
   clear c0 c1' c2 c3 x0 x1 x2;generalize World.alloc wr _=W1 at hP1 HR1 hlt1 ⊢;refine rn7_region ⟨rfl,⟨_,rfl,rfl,rfl,rfl⟩,⟨_,rfl,rfl,rfl,rfl⟩,⟨_,rfl,rfl,rfl,rfl⟩,⟨_,rfl,rfl,rfl,rfl⟩,⟨_,rfl,rfl,rfl,rfl⟩,⟨_,rfl,rfl,rfl,rfl⟩,⟨_,rfl,rfl,rfl,rfl⟩,⟨_,rfl,rfl,rfl,rfl⟩,⟨_,rfl,rfl,rfl,rfl⟩,⟨_,rfl,rfl,rfl,rfl⟩,⟨_,rfl,rfl,rfl,rfl⟩,⟨_,rfl,rfl,rfl,rfl⟩,⟨_,rfl,rfl,rfl,rfl⟩,⟨_,rfl,rfl,rfl,rfl⟩,⟨_,rfl,rfl,rfl,rfl⟩,⟨_,rfl,rfl,rfl,rfl⟩,⟨_,rfl,rfl,rfl,rfl⟩,⟨_,rfl,rfl,rfl,rfl⟩,⟨_,rfl,rfl,rfl,rfl⟩,⟨_,rfl,rfl,rfl,rfl⟩,waits_of (by kernel_rfl),waits_of (by kernel_rfl),waits_of (by kernel_rfl),waits_of (by kernel_rfl),waits_of (by kernel_rfl),waits_of (by kernel_rfl),waits_of (by kernel_rfl),waits_of (by kernel_rfl),waits_of (by kernel_rfl),waits_of (by kernel_rfl),waits_of (by kernel_rfl),waits_of (by kernel_rfl),waits_of (by kernel_rfl),waits_of (by kernel_rfl),waits_of (by kernel_rfl),waits_of (by kernel_rfl)⟩ (by kernel_rfl) (by kernel_rfl) (by kernel_rfl) _ W1 w.heap.size vo5 n vc5 wr.heap.size ⟨ti,tu,ts,te⟩ dj rfl rfl rfl rfl hP1.out.bel.size hul hdj HR1.out hlt1 KD.out cs hP1.out.own (by have:=HL.out; omega) ?_
   intro v' c us' w2 hc hus hown hfr;obtain ⟨r0,r1,r2,r3,r4,r5,r6,r7,r8,r9,r10,r11,r12,r13,r14,r15,r16,r17,r18,rfl⟩:=list19I hus;have hP2:=hid (hP1.out.app hfr hown);obtain ⟨vo6,vc6,hvf⟩:=hown.form;obtain ⟨n6,hn6⟩:∃ n6,n6=(cs++[c]).length:=⟨_,rfl⟩
   rw [← hn6] at hvf;subst hvf;have HN6:=hid hn6;have HL6:Hid (ndsL (cs++[c])=nd1 dl :: nd2 rs :: (wl.take (j+1)).map wtN):=show _=_ by rw [nds_snocI,hnd.out,HFN.out,hc,HWN.out]; simp
   clear hus hown hfr hn6 hP1 HR1 hlt1 KD;simp only [List.set_cons_succ,List.set_cons_zero,List.take_succ_cons,List.take_zero,List.drop_succ_cons,List.drop_zero,List.cons_append,List.nil_append];go_wp2;go_roundw
   case rel=>exact ⟨j+1,n6,vo6,vc6,cs++[c],by omega,by go_num,rfl,HL6,HN6,by have h1:=HN6.out; have h2:=HL.out; rw [List.length_append,List.length_singleton] at h1; omega,hP2⟩
   case measure=>simp [intOf]; omega
  ·have q6:¬ (j:Int) < (tn:Int):=by omega
   have HE:Hid (ndsL cs=nd1 dl :: nd2 rs :: wl.map wtN):=show _=_ by rw [hnd.out,List.take_of_length_le (by have:=HTN.out; omega)]
   clear hnd;go_wp2;go_ret;exact ⟨_,cs,rfl,HE.out,hP.out.own,hP.out.bel⟩
theorem glueP (l:List UInt8):(⟨#[60,63,120,109,108,32,118,101,114,115,105,111,110,61,34,49,46,48,34,32,101,110,99,111,100,105,110,103,61,34,85,84,70,45,56,34,63,62,10]⟩:ByteArray)++⟨l.toArray⟩=⟨(prologK++l).toArray⟩:=by
 rw [ByteArray.mk_append_mk]; simp [prologK]
set_option maxHeartbeats 2000000 in
set_option maxRecDepth 100000 in
theorem rprint13_ok (v:Value) (cs:List NdC) (t:XT) (w:World) (hz:cs.length≤1048576) (hsm:∀ c ∈ cs,SmallN 1048576 c.nd) (hv:NdsAt w v cs) (hc:checkX (ndsL cs)=0) (hf:flatX 0 t=ndsL cs) (hpl:(printX t).length≤1099511627776) :
  Calls Tryz.prog 23 #[v] w fun e w'=>e=.returned (.tuple #[.string ⟨(prologK++printX t).toArray⟩,.int .i64 0])∧Below w.heap.size w w':=by
 have hsm2:∀ c ∈ cs,SmallN 140737488355328 c.nd:=fun c hcm=>by
  obtain ⟨h1,h2,h3,h4⟩:=hsm c hcm;exact ⟨by omega,by omega,⟨by have:=h3.1; omega,fun p hp=>⟨by have:=(h3.2 p hp).1; omega,by have:=(h3.2 p hp).2; omega⟩⟩,h4⟩
 have KC:=hid (rcheck13_any v cs w (by omega) hsm2 hv);rw [hc] at KC;have KW:=hid (fun w' (h:Below w.heap.size w w')=>rwritten_any _ t (Nat.le_refl _) v cs 0 0 [] w' (hv.below h) hz hsm (by rw [List.drop_zero,hf,List.append_nil]) (fun x hx=>by simp at hx) hpl);have HG:=hid (glueP (printX t));generalize prologK++printX t=Z at HG ⊢;generalize printX t=P at KW HG hpl;generalize 0+(flatX 0 t).length=x at KW;have z1:=size_list P;unfold WrRes at KW;obtain ⟨ao,cap,rfl,_⟩:=hv;generalize cs.length=n at KC KW hz ⊢;clear hc hf hsm hsm2
 go_enter Tryz.func23,Tryz.ntmps23
 go_wp2_with fail
 refine KC.out.mono ?_
 rintro e w1 ⟨rfl,hw1⟩;go_wp2_with fail
 refine (KW.out _ hw1).mono ?_
 rintro e w2 ⟨rfl,hw2⟩;go_wp2;go_ret2;exact ⟨by rw [← HG.out]; rfl,hw1.trans (hw2.mono hw1.size)⟩
theorem rnodes_checked (d:Inf) (ws:Value) (w:World) (hc:checkI d=0) (hws:WtsAt w ws d.ws) :
  Calls Tryz.prog 24 #[infV d ws] w fun e w'=>TelI (nodesI d) w e w':=by
 obtain ⟨h1,h2,h3,h4,h5,h6⟩:=checkI_ok hc;have hr:=hostV_len h3
 exact rnodes_any d ws w h1 (by omega) (by omega) (fun t ht=>by
  obtain ⟨k1,k2,k3,_⟩:=wtP_facts (h5 t ht)
  have:=hostV_len k3
  exact ⟨by omega,by omega,by omega⟩) (by omega) hws
set_option maxHeartbeats 2000000 in
set_option maxRecDepth 100000 in
theorem rprint15_ok (d:Inf) (ws:Value) (w:World) (hws:WtsAt w ws d.ws) (hc:checkI d=0) :
  Calls Tryz.prog 11 #[infV d ws] w fun e w'=>e=.returned (.tuple #[.string ⟨(prologK++printX (treeI d)).toArray⟩,.int .i64 0])∧Below w.heap.size w w':=by
 have KC:=hid (fun w' (h:Below w.heap.size w w')=>rcheck15_any d ws w' (inf_small hc) (hws.below h));have KN:=hid (fun w' (h:Below w.heap.size w w')=>rnodes_checked d ws w' hc (hws.below h))
 have KP:Hid (∀ (w':World) (v:Value) (cs:List NdC) (B:Nat),ndsL cs=nodesI d → OwnN w' B v cs → Calls Tryz.prog 23 #[v] w' fun e w2=>e=.returned (.tuple #[.string ⟨(prologK++printX (treeI d)).toArray⟩,.int .i64 0])∧Below w'.heap.size w' w2):=fun w' v cs B hk ho =>
  rprint13_ok v cs (treeI d) w' (by have h1:=nodesI_len d; have h2:=(checkI_ok hc).2.2.2.1; rw [← hk,ndsL_len] at h1; omega) (fun c hcc=>nodes_smallN hc (by decide) c.nd (by rw [← hk]; exact List.mem_map.2 ⟨c,hcc,rfl⟩)) ho.ndsAt (by rw [hk]; exact tree_checkI hc) (by rw [hk]; exact flat_treeI d) (by have:=print_smI hc; omega)
 rw [hc] at KC;obtain ⟨vr,rs,wl⟩:=d;unfold infV at KC KN ⊢;simp only at KC KN ⊢;unfold TelI at KN;generalize prologK++printX (treeI ⟨vr,rs,wl⟩)=Z at KP ⊢;generalize nodesI ⟨vr,rs,wl⟩=F at KN KP;clear hc hws;have hbx:=box3I w (.int .i64 vr) (.string ⟨rs.toArray⟩) ws 24;have hbn:Below w.heap.size w (w.alloc (.cells #[.int .i64 vr,.string ⟨rs.toArray⟩,ws] 24)):=(Below.refl _ w).alloc (Nat.le_refl _) _;have hbr:=rc_row3 w (.int .i64 vr) (.string ⟨rs.toArray⟩) ws 24;have hlt0:=alloc_lt w (.cells #[.int .i64 vr,.string ⟨rs.toArray⟩,ws] 24);obtain ⟨x0,x1,x2,_,_,_⟩:=hbx
 go_enter Tryz.func11,Tryz.ntmps11
 go_wp2_with fail
 generalize World.alloc w _=W0 at x0 x1 x2 hbn hbr hlt0 ⊢;refine (KC.out _ hbn).mono ?_
 rintro e w1 ⟨rfl,hw1⟩;have hb1:=hbn.trans (hw1.mono hbn.size);obtain ⟨y0,y1,y2,_,_,_⟩:=(hbr.below hw1 hlt0).rc3;clear x0 x1 x2;go_wp2_with fail
 refine (KN.out _ hb1).mono ?_
 rintro e w2 ⟨v,cs,rfl,hF,hown,hw2⟩;have hb2:=hb1.trans (hw2.mono hb1.size);have K2:=hid (KP.out w2 v cs _ hF hown);obtain ⟨va,vc,hvf⟩:=hown.form;generalize cs.length=n at hvf;subst hvf;clear hF hown KP;go_wp2_with fail
 refine K2.out.mono ?_
 rintro e w3 ⟨rfl,hw3⟩;go_wp2;go_ret2;exact ⟨rfl,hb2.trans (hw3.mono hb2.size)⟩
end Go.Proofs.YtdbalahkmeknaaaGreatDoor
