/-
  WC4, OwnW.
-/
import Derived.Test.YtdbalahkmeknaaaGreatDoorPW27
set_option linter.unusedVariables false
set_option linter.unusedSimpArgs false
set_option maxRecDepth 20000
namespace Go.Proofs.YtdbalahkmeknaaaGreatDoor
open Go.RowKit Sc
theorem rowis_lt {w:World} {g:Nat} {e:TypeId} {l:List Value} (h:RowIs w g e l):g < w.heap.size:=(Array.getElem?_eq_some_iff.1 (show w.heap[g]? = some _ from h)).1
theorem ownN_two (W:World) (B:Nat) (hB:B≤W.heap.size) (c d:NdC) (hc:OwnP W B c.a c.nd.attrs) (hd:OwnP W B d.a d.nd.attrs):OwnN (W.alloc (.cells (ndsCells [c,d]).toArray 49)) B (.slice (some ⟨W.heap.size,0,none⟩) 2 2) [c,d]:=by
 refine ⟨⟨rfl,.inr ⟨_,_,(ndsCells [c,d]).toArray,rfl,hB,heap_alloc_new _ _,Nat.le_refl _,by unfold maxLen; omega,rfl,by simp [ndsCells,ndCells]⟩⟩,fun c' h'=>?_⟩
 simp only [List.mem_cons,List.not_mem_nil,or_false] at h'
 rcases h' with rfl | rfl
 ·exact hc.alloc _
 ·exact hd.alloc _
structure we1Ops (ops:Array Oper):Prop where
 sz:ops.size=15
 p0:OpIs ops 0 (some 3) (.fieldAddr 51 (.tmp 1) 0)
 p1:OpIs ops 1 (some 4) (.load 3 (.tmp 3))
 p2:OpIs ops 2 (some 5) (.call { callee:=.value (.func 43),args:=#[.tmp 4],argTypes:=#[3] })
 p3:OpIs ops 3 (some 6) (.binOp .add 9 (.const (.string ⟨#[119]⟩)) (.tmp 5) 9)
 p4:OpIs ops 4 (some 7) (.fieldAddr 51 (.tmp 1) 2)
 p5:OpIs ops 5 (some 8) (.load 9 (.tmp 7))
 p6:OpIs ops 6 (some 9) (.fieldAddr 51 (.tmp 1) 3)
 p7:OpIs ops 7 (some 10) (.load 9 (.tmp 9))
 p8:OpIs ops 8 (some 11) (.buildSlice 116 6 #[(0,.const (.string ⟨#[105,100]⟩)),(1,.tmp 6),(2,.const (.string ⟨#[115,116,97,116,117,115]⟩)),(3,.tmp 8),(4,.const (.string ⟨#[101,118,101,110,116]⟩)),(5,.tmp 10)])
 p9:OpIs ops 9 (some 12) (.call { callee:=.value (.func 42),args:=#[.tmp 11],argTypes:=#[116] })
 p10:OpIs ops 10 (some 13) (.fieldAddr 51 (.tmp 1) 1)
 p11:OpIs ops 11 (some 14) (.load 9 (.tmp 13))
 p12:OpIs ops 12 (some 15) (.binOp .add 9 (.const (.string ⟨#[115,105,112,58]⟩)) (.tmp 14) 9)
 p13:OpIs ops 13 (some 16) (.build 49 #[(0,.const (.int .i64 2)),(1,.const (.string ⟨#[119,97,116,99,104,101,114]⟩)),(2,.tmp 12),(3,.tmp 15)])
 p14:OpIs ops 14 none (.store 49 (.tmp 2) (.tmp 16))
 w1_0:Waits ops 1 0
 w2_1:Waits ops 2 1
 w3_2:Waits ops 3 2
 w5_4:Waits ops 5 4
 w7_6:Waits ops 7 6
 w8_3:Waits ops 8 3
 w8_5:Waits ops 8 5
 w8_7:Waits ops 8 7
 w9_8:Waits ops 9 8
 w11_10:Waits ops 11 10
 w12_11:Waits ops 12 11
def we1D:Nat → Nat
 | 0=>3
 | 1=>4
 | 2=>5
 | 3=>6
 | 4=>7
 | 5=>8
 | 6=>9
 | 7=>10
 | 8=>11
 | 9=>12
 | 10=>13
 | 11=>14
 | 12=>15
 | _=>0
def we1R (B b:Nat) (t:Wt) (dl:List UInt8):Nat → Value → World → Prop
 | 0=>fun v w=>v=.pointer (some ⟨b,0,none⟩)
 | 1=>fun v w=>v=.int .i64 t.id
 | 2=>fun v w=>v=.string ⟨dl.toArray⟩
 | 3=>fun v w=>v=.string ⟨(119 :: dl).toArray⟩
 | 4=>fun v w=>v=.pointer (some ⟨b,2,none⟩)
 | 5=>fun v w=>v=.string ⟨t.stat.toArray⟩
 | 6=>fun v w=>v=.pointer (some ⟨b,3,none⟩)
 | 7=>fun v w=>v=.string ⟨t.ev.toArray⟩
 | 8=>fun v w=>∃ g,v=.slice (some ⟨g,0,none⟩) 6 6∧RowIs w g 9 [.string ⟨#[105,100]⟩,.string ⟨(119 :: dl).toArray⟩,.string ⟨#[115,116,97,116,117,115]⟩,.string ⟨t.stat.toArray⟩,.string ⟨#[101,118,101,110,116]⟩,.string ⟨t.ev.toArray⟩]
 | 9=>fun v w=>∃ g,v=.slice (some ⟨g,0,none⟩) 3 3∧OwnP w B (.slice (some ⟨g,0,none⟩) 3 3) (ps7 dl t)
 | 10=>fun v w=>v=.pointer (some ⟨b,1,none⟩)
 | 11=>fun v w=>v=.string ⟨t.uri.toArray⟩
 | 12=>fun v w=>v=.string ⟨(sipcK++t.uri).toArray⟩
 | _=>fun _ _=>True
def we1P (a0:Act) (W:World) (B b:Nat) (t:Wt) (dl:List UInt8):MP where
 a0:=a0
 lo:=3
 hi:=17
 n:=17
 k:=13
 W:=W
 D:=we1D
 R:=we1R B b t dl
theorem we1_inj:∀ j,j < 13 → ∀ i,i < 13 → j ≠ i → we1D j ≠ we1D i:=by decide +kernel
theorem we1_st (B b:Nat) (t:Wt) (dl:List UInt8) {u u':World} (hb:Below u.heap.size u u'):∀ j v,j < 13 → we1R B b t dl j v u → we1R B b t dl j v u':=by
 intro j v hj h
 rcases (show j=0∨j=1∨j=2∨j=3∨j=4∨j=5∨j=6∨j=7∨j=8∨j=9∨j=10∨j=11∨j=12 by omega) with rfl | rfl | rfl | rfl | rfl | rfl | rfl | rfl | rfl | rfl | rfl | rfl | rfl
 ·exact h
 ·exact h
 ·exact h
 ·exact h
 ·exact h
 ·exact h
 ·exact h
 ·exact h
 ·obtain ⟨g,h1,h2⟩:=h; exact ⟨g,h1,h2.below hb (rowis_lt h2)⟩
 ·obtain ⟨g,h1,h2⟩:=h; exact ⟨g,h1,h2.below hb⟩
 ·exact h
 ·exact h
 ·exact h
set_option maxHeartbeats 4000000 in
set_option maxRecDepth 100000 in
theorem we1_steps {ops:Array Oper} (S:we1Ops ops) (a0:Act) (W:World) (B b:Nat) (t:Wt) (dl:List UInt8)
  (B1:a0.eval (.tmp 1)=.pointer (some ⟨b,0,none⟩))
  (hBW:B≤W.heap.size) (hul:t.uri.length≤1048576) (hdl:dl.length≤20)
  (HC:∀ u,Below W.heap.size W u → u.cell? ⟨b,0,none⟩=some (.int .i64 t.id)∧u.cell? ⟨b,1,none⟩=some (.string ⟨t.uri.toArray⟩)∧u.cell? ⟨b,2,none⟩=some (.string ⟨t.stat.toArray⟩)∧u.cell? ⟨b,3,none⟩=some (.string ⟨t.ev.toArray⟩))
  (KD:∀ u,Calls Tryz.prog 43 #[.int .i64 t.id] u fun e u'=>e=.returned (.string ⟨dl.toArray⟩)∧Below u.heap.size u u')
  (Q:Exit → Act → World → Prop) (L:Array Bool) (a:Act) (w:World) (i:Nat) (hsz:L.size=ops.size) (hik:i < 13) (hi:i ∈ Region.ready .any ops L) (hI:MI (we1P a0 W B b t dl) ops L a w) :
  wpOp Tryz.prog ops Q i (MI (we1P a0 W B b t dl) ops (L.setIfInBounds i true)) a w:=by
 have evc:∀ v,a.eval (.const v)=v:=fun _=>rfl;have b1:=(hI.o.out 1 (.inl (by simp [we1P]))).trans B1;obtain ⟨hC0,hC1,hC2,hC3⟩:=HC w hI.bel
 have put:∀ (i d:Nat) (hi:i ∈ Region.ready .any ops L) (hk:i < 13) (hd:we1D i=d) (h1:3≤d) (h2:d < 17) (v:Value) (w':World) (hb:Below w.heap.size w w') (hR:we1R B b t dl i v w'),MI (we1P a0 W B b t dl) ops (L.setIfInBounds i true) (a.put (some d) v) w':=fun i d hi hk hd h1 h2 v w' hb hR =>
  hI.put hsz i hi d hd (fun j hj hji=>by subst hd; exact we1_inj j hj i hk hji) h1 h2 (by simp [we1P]) (fun j v hj h=>we1_st B b t dl hb j v hj h) v hb hR
 rcases (show i=0∨i=1∨i=2∨i=3∨i=4∨i=5∨i=6∨i=7∨i=8∨i=9∨i=10∨i=11∨i=12 by omega) with rfl | rfl | rfl | rfl | rfl | rfl | rfl | rfl | rfl | rfl | rfl | rfl | rfl
 ·refine S.p0.val (v:=.pointer (some ⟨b,0,none⟩)) (w':=w) (fun o ho=>?_) (put 0 3 hi (by decide) rfl (by decide) (by decide) _ _ (Below.refl _ _) rfl)
  simp only [execOp,ho,b1];clear hI S hi hsz put evc;go_simp
 ·have q0:=hI.val 0 (by simp [we1P]) (S.w1_0.on hi);simp only [we1P,we1R,we1D] at q0;refine S.p1.val (v:=.int .i64 t.id) (w':=w) (fun o ho=>?_) (put 1 4 hi (by decide) rfl (by decide) (by decide) _ _ (Below.refl _ _) rfl)
  simp only [execOp,ho,q0];clear hI S hi hsz put evc;go_simp
 ·have q1:=hI.val 1 (by simp [we1P]) (S.w2_1.on hi);simp only [we1P,we1R,we1D] at q1;refine S.p2.enter (vals:=#[.int .i64 t.id]) (by simp only [List.map_toArray,List.map_cons,List.map_nil,evc,q1]) (fun xs u=>by kernel_rfl) ?_
  refine (KD w).mono ?_
  rintro e w' ⟨rfl,hb⟩;exact ⟨_,rfl,put 2 5 hi (by decide) rfl (by decide) (by decide) _ _ hb rfl⟩
 ·have q2:=hI.val 2 (by simp [we1P]) (S.w3_2.on hi);simp only [we1P,we1R,we1D] at q2;refine S.p3.val (v:=.string ⟨(119 :: dl).toArray⟩) (w':=w) (fun o ho=>?_) (put 3 6 hi (by decide) rfl (by decide) (by decide) _ _ (Below.refl _ _) rfl)
  simp only [execOp,ho,q2];have hg1:(⟨#[119]⟩:ByteArray)++⟨dl.toArray⟩=⟨(119 :: dl).toArray⟩:=by rw [ByteArray.mk_append_mk]; simp
  have z1:=size_list (dl);clear hI S hi hsz put evc;go_simp
  try omega
 ·refine S.p4.val (v:=.pointer (some ⟨b,2,none⟩)) (w':=w) (fun o ho=>?_) (put 4 7 hi (by decide) rfl (by decide) (by decide) _ _ (Below.refl _ _) rfl)
  simp only [execOp,ho,b1];clear hI S hi hsz put evc;go_simp
 ·have q4:=hI.val 4 (by simp [we1P]) (S.w5_4.on hi);simp only [we1P,we1R,we1D] at q4;refine S.p5.val (v:=.string ⟨t.stat.toArray⟩) (w':=w) (fun o ho=>?_) (put 5 8 hi (by decide) rfl (by decide) (by decide) _ _ (Below.refl _ _) rfl)
  simp only [execOp,ho,q4];clear hI S hi hsz put evc;go_simp
 ·refine S.p6.val (v:=.pointer (some ⟨b,3,none⟩)) (w':=w) (fun o ho=>?_) (put 6 9 hi (by decide) rfl (by decide) (by decide) _ _ (Below.refl _ _) rfl)
  simp only [execOp,ho,b1];clear hI S hi hsz put evc;go_simp
 ·have q6:=hI.val 6 (by simp [we1P]) (S.w7_6.on hi);simp only [we1P,we1R,we1D] at q6;refine S.p7.val (v:=.string ⟨t.ev.toArray⟩) (w':=w) (fun o ho=>?_) (put 7 10 hi (by decide) rfl (by decide) (by decide) _ _ (Below.refl _ _) rfl)
  simp only [execOp,ho,q6];clear hI S hi hsz put evc;go_simp
 ·have q3:=hI.val 3 (by simp [we1P]) (S.w8_3.on hi);simp only [we1P,we1R,we1D] at q3;have q5:=hI.val 5 (by simp [we1P]) (S.w8_5.on hi);simp only [we1P,we1R,we1D] at q5;have q7:=hI.val 7 (by simp [we1P]) (S.w8_7.on hi);simp only [we1P,we1R,we1D] at q7;refine S.p8.val (v:=.slice (some ⟨w.heap.size,0,none⟩) 6 6) (w':=w.alloc (.cells #[.string ⟨#[105,100]⟩,.string ⟨(119 :: dl).toArray⟩,.string ⟨#[115,116,97,116,117,115]⟩,.string ⟨t.stat.toArray⟩,.string ⟨#[101,118,101,110,116]⟩,.string ⟨t.ev.toArray⟩] 9)) (fun o ho=>?_) (put 8 11 hi (by decide) rfl (by decide) (by decide) _ _ ((Below.refl _ w).alloc (Nat.le_refl _) _) ⟨_,rfl,by exact heap_alloc_new _ _⟩)
  simp only [execOp,ho];have em:Array.map (fun x:Nat × Operand=>(x.fst,a.eval x.snd)) #[(0,Operand.const (.string ⟨#[105,100]⟩)),(1,Operand.tmp 6),(2,Operand.const (.string ⟨#[115,116,97,116,117,115]⟩)),(3,Operand.tmp 8),(4,Operand.const (.string ⟨#[101,118,101,110,116]⟩)),(5,Operand.tmp 10)]=#[(0,.string ⟨#[105,100]⟩),(1,.string ⟨(119 :: dl).toArray⟩),(2,.string ⟨#[115,116,97,116,117,115]⟩),(3,.string ⟨t.stat.toArray⟩),(4,.string ⟨#[101,118,101,110,116]⟩),(5,.string ⟨t.ev.toArray⟩)]:=by simp only [List.map_toArray,List.map_cons,List.map_nil,q3,q5,q7,evc]
  rw [em];clear hI S hi hsz put evc;go_simp
 ·have q8:=hI.val 8 (by simp [we1P]) (S.w9_8.on hi);simp only [we1P,we1R,we1D] at q8;obtain ⟨g8,q8,o8⟩:=q8;refine S.p9.enter (vals:=#[.slice (some ⟨g8,0,none⟩) 6 6]) (by simp only [List.map_toArray,List.map_cons,List.map_nil,evc,q8]) (fun xs u=>by kernel_rfl) ?_
  refine (wattrs3_any g8 pidK (119 :: dl) pstatK t.stat weventK t.ev w o8).mono ?_
  rintro e w' ⟨rfl,ho,hb⟩;exact ⟨_,rfl,put 9 12 hi (by decide) rfl (by decide) (by decide) _ _ hb ⟨_,rfl,ownP_mono ho (Nat.le_trans hBW hI.bel.size)⟩⟩
 ·refine S.p10.val (v:=.pointer (some ⟨b,1,none⟩)) (w':=w) (fun o ho=>?_) (put 10 13 hi (by decide) rfl (by decide) (by decide) _ _ (Below.refl _ _) rfl)
  simp only [execOp,ho,b1];clear hI S hi hsz put evc;go_simp
 ·have q10:=hI.val 10 (by simp [we1P]) (S.w11_10.on hi);simp only [we1P,we1R,we1D] at q10;refine S.p11.val (v:=.string ⟨t.uri.toArray⟩) (w':=w) (fun o ho=>?_) (put 11 14 hi (by decide) rfl (by decide) (by decide) _ _ (Below.refl _ _) rfl)
  simp only [execOp,ho,q10];clear hI S hi hsz put evc;go_simp
 ·have q11:=hI.val 11 (by simp [we1P]) (S.w12_11.on hi);simp only [we1P,we1R,we1D] at q11;refine S.p12.val (v:=.string ⟨(sipcK++t.uri).toArray⟩) (w':=w) (fun o ho=>?_) (put 12 15 hi (by decide) rfl (by decide) (by decide) _ _ (Below.refl _ _) rfl)
  simp only [execOp,ho,q11];have hg1:(⟨#[115,105,112,58]⟩:ByteArray)++⟨t.uri.toArray⟩=⟨(sipcK++t.uri).toArray⟩:=by rw [ByteArray.mk_append_mk]; simp [sipcK]
  have z1:=size_list (t.uri);clear hI S hi hsz put evc;go_simp
  try omega
set_option maxHeartbeats 4000000 in
set_option maxRecDepth 100000 in
theorem we1_region {ops:Array Oper} (S:we1Ops ops) (hlow:lowB .any ops=true) (hpar:parentB ops 13=true) (hww:waitsB ops 14 13=true) {Q:Exit → Act → World → Prop} {id:Nat} (a0:Act) (w:World) (r:Nat) (B b:Nat) (t:Wt) (dl:List UInt8)
  (hsz:a0.tmps.size=17) (hdf:a0.defers=[]) (B1:a0.eval (.tmp 1)=.pointer (some ⟨b,0,none⟩)) (B2:a0.eval (.tmp 2)=.pointer (some ⟨r,0,none⟩))
  (hBW:B≤w.heap.size) (hul:t.uri.length≤1048576) (hdl:dl.length≤20) (hrow:RowIs w b 51 (wtCells t)) (hbl:b < w.heap.size)
  (hres:RowIs w r 49 [.int .i64 0,.string ⟨#[]⟩,.slice none 0 0,.string ⟨#[]⟩]) (hrl:r < w.heap.size)
  (KD:∀ u,Calls Tryz.prog 43 #[.int .i64 t.id] u fun e u'=>e=.returned (.string ⟨dl.toArray⟩)∧Below u.heap.size u u')
  (fin:∀ (g:Nat) (us:List Value) (u:World),us.length=14 → OwnP u B (.slice (some ⟨g,0,none⟩) 3 3) (ps7 dl t) → Below w.heap.size w u → Q .normal ⟨(a0.tmps.toList.take 3++(us++a0.tmps.toList.drop 17)).toArray,[]⟩ ((((u.setCell ⟨r,0,none⟩ (.int .i64 2)).setCell ⟨r,1,none⟩ (.string ⟨#[119,97,116,99,104,101,114]⟩)).setCell ⟨r,2,none⟩ (.slice (some ⟨g,0,none⟩) 3 3)).setCell ⟨r,3,none⟩ (.string ⟨(sipcK++t.uri).toArray⟩))) :
  (Code.region id ops true).wp Tryz.prog Q a0 w:=by
 have hb0:Below w.heap.size w { w with drawn:=w.drawn+1 }:=⟨rfl,rfl,rfl,Nat.le_refl _,fun _ _=>rfl⟩
 have HC:∀ u,Below ({ w with drawn:=w.drawn+1 }:World).heap.size { w with drawn:=w.drawn+1 } u → u.cell? ⟨b,0,none⟩=some (.int .i64 t.id)∧u.cell? ⟨b,1,none⟩=some (.string ⟨t.uri.toArray⟩)∧u.cell? ⟨b,2,none⟩=some (.string ⟨t.stat.toArray⟩)∧u.cell? ⟨b,3,none⟩=some (.string ⟨t.ev.toArray⟩):=fun u hu=>by
  have h:=RowIs.rc4 (show RowIs u b 51 [.int .i64 t.id,.string ⟨t.uri.toArray⟩,.string ⟨t.stat.toArray⟩,.string ⟨t.ev.toArray⟩] from hrow.below (hb0.trans hu) hbl);exact ⟨h.1,h.2,h.3,h.4⟩
 refine wp_region_mem followsM (we1P a0 { w with drawn:=w.drawn+1 } B b t dl) rfl rfl hsz hdf S.sz hlow hpar hww
  (fun a u=>∃ g:Nat,Outs (we1P a0 { w with drawn:=w.drawn+1 } B b t dl) a0 a∧a.eval (.tmp 16)=.agg #[.int .i64 2,.string ⟨#[119,97,116,99,104,101,114]⟩,.slice (some ⟨g,0,none⟩) 3 3,.string ⟨(sipcK++t.uri).toArray⟩]∧OwnP u B (.slice (some ⟨g,0,none⟩) 3 3) (ps7 dl t)∧Below w.heap.size w u)
  (fun a u=>∃ (g:Nat) (u0:World),Outs (we1P a0 { w with drawn:=w.drawn+1 } B b t dl) a0 a∧OwnP u0 B (.slice (some ⟨g,0,none⟩) 3 3) (ps7 dl t)∧Below w.heap.size w u0∧u=(((u0.setCell ⟨r,0,none⟩ (.int .i64 2)).setCell ⟨r,1,none⟩ (.string ⟨#[119,97,116,99,104,101,114]⟩)).setCell ⟨r,2,none⟩ (.slice (some ⟨g,0,none⟩) 3 3)).setCell ⟨r,3,none⟩ (.string ⟨(sipcK++t.uri).toArray⟩))
  (fun L a u i h1 h2 h3 h4=>we1_steps S a0 { w with drawn:=w.drawn+1 } B b t dl B1 hBW hul hdl HC KD Q L a u i h1 h2 h3 h4) ?_ ?_ ?_
 ·intro a u ho hb hR;have q9:=hR 9 (by simp [we1P]);have q12:=hR 12 (by simp [we1P]);simp only [we1P,we1R,we1D] at q9 q12;obtain ⟨g,q9,hp⟩:=q9;have hb1:Below w.heap.size w u:=hb0.trans hb;have evc:∀ v,a.eval (.const v)=v:=fun _=>rfl;refine S.p13.val (v:=.agg #[.int .i64 2,.string ⟨#[119,97,116,99,104,101,114]⟩,.slice (some ⟨g,0,none⟩) 3 3,.string ⟨(sipcK++t.uri).toArray⟩]) (w':=u) (fun o ho2=>?_) ⟨g,ho.put 16 _ (by simp [we1P]) (by simp [we1P]),eval_put_same (by rw [ho.sz]; simp [we1P]),hp,hb1⟩
  simp only [execOp,ho2,q9,q12];have em:Array.map (fun x:Nat × Operand=>(x.fst,a.eval x.snd)) #[(0,Operand.const (.int .i64 2)),(1,Operand.const (.string ⟨#[119,97,116,99,104,101,114]⟩)),(2,Operand.tmp 12),(3,Operand.tmp 15)]=#[(0,.int .i64 2),(1,.string ⟨#[119,97,116,99,104,101,114]⟩),(2,.slice (some ⟨g,0,none⟩) 3 3),(3,.string ⟨(sipcK++t.uri).toArray⟩)]:=by simp only [List.map_toArray,List.map_cons,List.map_nil,q9,q12,evc]
  try rw [em]
  clear hR em ho evc;go_simp
 ·rintro a u ⟨g,ho,he,hown',hfr⟩;have b2:=(ho.out 2 (.inl (by simp [we1P]))).trans B2;obtain ⟨c0,c1,c2,c3,f0,f1,f2,f3⟩:=RowIs.rc4 (hres.below hfr hrl);refine S.p14.skip (w':=(((u.setCell ⟨r,0,none⟩ (.int .i64 2)).setCell ⟨r,1,none⟩ (.string ⟨#[119,97,116,99,104,101,114]⟩)).setCell ⟨r,2,none⟩ (.slice (some ⟨g,0,none⟩) 3 3)).setCell ⟨r,3,none⟩ (.string ⟨(sipcK++t.uri).toArray⟩)) (fun o ho2=>?_) ⟨g,u,ho,hown',hfr,rfl⟩
  simp only [execOp,ho2,he,b2];clear ho hown' hfr hrow hres HC;go_simp
 ·rintro a u ⟨g,u0,ho,hown',hfr,rfl⟩;obtain ⟨us,hus,hau⟩:=ho.fin hsz (by simp [we1P]) (by simp [we1P]);rw [hau];exact fin g us u0 hus hown' hfr
structure we2Ops (ops:Array Oper):Prop where
 sz:ops.size=14
 p0:OpIs ops 0 (some 6) (.fieldAddr 24 (.tmp 1) 0)
 p1:OpIs ops 1 (some 7) (.load 3 (.tmp 6))
 p2:OpIs ops 2 (some 8) (.call { callee:=.value (.func 43),args:=#[.tmp 7],argTypes:=#[3] })
 p3:OpIs ops 3 (some 9) (.buildSlice 116 6 #[(0,.const (.string ⟨#[120,109,108,110,115]⟩)),(1,.const (.string ⟨#[117,114,110,58,105,101,116,102,58,112,97,114,97,109,115,58,120,109,108,58,110,115,58,119,97,116,99,104,101,114,105,110,102,111]⟩)),(2,.const (.string ⟨#[118,101,114,115,105,111,110]⟩)),(3,.tmp 8),(4,.const (.string ⟨#[115,116,97,116,101]⟩)),(5,.const (.string ⟨#[102,117,108,108]⟩))])
 p4:OpIs ops 4 (some 10) (.call { callee:=.value (.func 42),args:=#[.tmp 9],argTypes:=#[116] })
 p5:OpIs ops 5 (some 11) (.build 49 #[(0,.const (.int .i64 0)),(1,.const (.string ⟨#[119,97,116,99,104,101,114,105,110,102,111]⟩)),(2,.tmp 10)])
 p6:OpIs ops 6 (some 12) (.fieldAddr 24 (.tmp 1) 1)
 p7:OpIs ops 7 (some 13) (.load 9 (.tmp 12))
 p8:OpIs ops 8 (some 14) (.binOp .add 9 (.const (.string ⟨#[115,105,112,58]⟩)) (.tmp 13) 9)
 p9:OpIs ops 9 (some 15) (.buildSlice 116 4 #[(0,.const (.string ⟨#[114,101,115,111,117,114,99,101]⟩)),(1,.tmp 14),(2,.const (.string ⟨#[112,97,99,107,97,103,101]⟩)),(3,.const (.string ⟨#[112,114,101,115,101,110,99,101]⟩))])
 p10:OpIs ops 10 (some 16) (.call { callee:=.value (.func 42),args:=#[.tmp 15],argTypes:=#[116] })
 p11:OpIs ops 11 (some 17) (.build 49 #[(0,.const (.int .i64 1)),(1,.const (.string ⟨#[119,97,116,99,104,101,114,45,108,105,115,116]⟩)),(2,.tmp 16)])
 p12:OpIs ops 12 (some 18) (.buildSlice 40 2 #[(0,.tmp 11),(1,.tmp 17)])
 p13:OpIs ops 13 (some 3) (.assign (.tmp 18))
 w1_0:Waits ops 1 0
 w2_1:Waits ops 2 1
 w3_2:Waits ops 3 2
 w4_3:Waits ops 4 3
 w5_4:Waits ops 5 4
 w7_6:Waits ops 7 6
 w8_7:Waits ops 8 7
 w9_8:Waits ops 9 8
 w10_9:Waits ops 10 9
 w11_10:Waits ops 11 10
def we2D:Nat → Nat
 | 0=>6
 | 1=>7
 | 2=>8
 | 3=>9
 | 4=>10
 | 5=>11
 | 6=>12
 | 7=>13
 | 8=>14
 | 9=>15
 | 10=>16
 | 11=>17
 | _=>0
def we2R (B b:Nat) (vr:Int) (rs dl:List UInt8):Nat → Value → World → Prop
 | 0=>fun v w=>v=.pointer (some ⟨b,0,none⟩)
 | 1=>fun v w=>v=.int .i64 vr
 | 2=>fun v w=>v=.string ⟨dl.toArray⟩
 | 3=>fun v w=>∃ g,v=.slice (some ⟨g,0,none⟩) 6 6∧RowIs w g 9 [.string ⟨#[120,109,108,110,115]⟩,.string ⟨#[117,114,110,58,105,101,116,102,58,112,97,114,97,109,115,58,120,109,108,58,110,115,58,119,97,116,99,104,101,114,105,110,102,111]⟩,.string ⟨#[118,101,114,115,105,111,110]⟩,.string ⟨dl.toArray⟩,.string ⟨#[115,116,97,116,101]⟩,.string ⟨#[102,117,108,108]⟩]
 | 4=>fun v w=>∃ g,v=.slice (some ⟨g,0,none⟩) 3 3∧OwnP w B (.slice (some ⟨g,0,none⟩) 3 3) (ps1 dl)
 | 5=>fun v w=>∃ g,v=.agg #[.int .i64 0,.string ⟨#[119,97,116,99,104,101,114,105,110,102,111]⟩,.slice (some ⟨g,0,none⟩) 3 3,.string ⟨#[]⟩]∧OwnP w B (.slice (some ⟨g,0,none⟩) 3 3) (ps1 dl)
 | 6=>fun v w=>v=.pointer (some ⟨b,1,none⟩)
 | 7=>fun v w=>v=.string ⟨rs.toArray⟩
 | 8=>fun v w=>v=.string ⟨(sipcK++rs).toArray⟩
 | 9=>fun v w=>∃ g,v=.slice (some ⟨g,0,none⟩) 4 4∧RowIs w g 9 [.string ⟨#[114,101,115,111,117,114,99,101]⟩,.string ⟨(sipcK++rs).toArray⟩,.string ⟨#[112,97,99,107,97,103,101]⟩,.string ⟨#[112,114,101,115,101,110,99,101]⟩]
 | 10=>fun v w=>∃ g,v=.slice (some ⟨g,0,none⟩) 2 2∧OwnP w B (.slice (some ⟨g,0,none⟩) 2 2) (ps2 rs)
 | 11=>fun v w=>∃ g,v=.agg #[.int .i64 1,.string ⟨#[119,97,116,99,104,101,114,45,108,105,115,116]⟩,.slice (some ⟨g,0,none⟩) 2 2,.string ⟨#[]⟩]∧OwnP w B (.slice (some ⟨g,0,none⟩) 2 2) (ps2 rs)
 | _=>fun _ _=>True
def we2P (a0:Act) (W:World) (B b:Nat) (vr:Int) (rs dl:List UInt8):MP where
 a0:=a0
 lo:=6
 hi:=19
 n:=33
 k:=12
 W:=W
 D:=we2D
 R:=we2R B b vr rs dl
theorem we2_inj:∀ j,j < 12 → ∀ i,i < 12 → j ≠ i → we2D j ≠ we2D i:=by decide +kernel
theorem we2_st (B b:Nat) (vr:Int) (rs dl:List UInt8) {u u':World} (hb:Below u.heap.size u u'):∀ j v,j < 12 → we2R B b vr rs dl j v u → we2R B b vr rs dl j v u':=by
 intro j v hj h
 rcases (show j=0∨j=1∨j=2∨j=3∨j=4∨j=5∨j=6∨j=7∨j=8∨j=9∨j=10∨j=11 by omega) with rfl | rfl | rfl | rfl | rfl | rfl | rfl | rfl | rfl | rfl | rfl | rfl
 ·exact h
 ·exact h
 ·exact h
 ·obtain ⟨g,h1,h2⟩:=h; exact ⟨g,h1,h2.below hb (rowis_lt h2)⟩
 ·obtain ⟨g,h1,h2⟩:=h; exact ⟨g,h1,h2.below hb⟩
 ·obtain ⟨g,h1,h2⟩:=h; exact ⟨g,h1,h2.below hb⟩
 ·exact h
 ·exact h
 ·exact h
 ·obtain ⟨g,h1,h2⟩:=h; exact ⟨g,h1,h2.below hb (rowis_lt h2)⟩
 ·obtain ⟨g,h1,h2⟩:=h; exact ⟨g,h1,h2.below hb⟩
 ·obtain ⟨g,h1,h2⟩:=h; exact ⟨g,h1,h2.below hb⟩
set_option maxHeartbeats 4000000 in
set_option maxRecDepth 100000 in
theorem we2_steps {ops:Array Oper} (S:we2Ops ops) (a0:Act) (W:World) (B b:Nat) (vr:Int) (rs dl:List UInt8)
  (B1:a0.eval (.tmp 1)=.pointer (some ⟨b,0,none⟩))
  (hBW:B≤W.heap.size) (hrl:rs.length≤1048576) (hdl:dl.length≤20)
  (HC:∀ u,Below W.heap.size W u → u.cell? ⟨b,0,none⟩=some (.int .i64 vr)∧u.cell? ⟨b,1,none⟩=some (.string ⟨rs.toArray⟩))
  (KD:∀ u,Calls Tryz.prog 43 #[.int .i64 vr] u fun e u'=>e=.returned (.string ⟨dl.toArray⟩)∧Below u.heap.size u u')
  (Q:Exit → Act → World → Prop) (L:Array Bool) (a:Act) (w:World) (i:Nat) (hsz:L.size=ops.size) (hik:i < 12) (hi:i ∈ Region.ready .any ops L) (hI:MI (we2P a0 W B b vr rs dl) ops L a w) :
  wpOp Tryz.prog ops Q i (MI (we2P a0 W B b vr rs dl) ops (L.setIfInBounds i true)) a w:=by
 have evc:∀ v,a.eval (.const v)=v:=fun _=>rfl;have b1:=(hI.o.out 1 (.inl (by simp [we2P]))).trans B1;obtain ⟨hC0,hC1⟩:=HC w hI.bel
 have put:∀ (i d:Nat) (hi:i ∈ Region.ready .any ops L) (hk:i < 12) (hd:we2D i=d) (h1:6≤d) (h2:d < 19) (v:Value) (w':World) (hb:Below w.heap.size w w') (hR:we2R B b vr rs dl i v w'),MI (we2P a0 W B b vr rs dl) ops (L.setIfInBounds i true) (a.put (some d) v) w':=fun i d hi hk hd h1 h2 v w' hb hR =>
  hI.put hsz i hi d hd (fun j hj hji=>by subst hd; exact we2_inj j hj i hk hji) h1 h2 (by simp [we2P]) (fun j v hj h=>we2_st B b vr rs dl hb j v hj h) v hb hR
 rcases (show i=0∨i=1∨i=2∨i=3∨i=4∨i=5∨i=6∨i=7∨i=8∨i=9∨i=10∨i=11 by omega) with rfl | rfl | rfl | rfl | rfl | rfl | rfl | rfl | rfl | rfl | rfl | rfl
 ·refine S.p0.val (v:=.pointer (some ⟨b,0,none⟩)) (w':=w) (fun o ho=>?_) (put 0 6 hi (by decide) rfl (by decide) (by decide) _ _ (Below.refl _ _) rfl)
  simp only [execOp,ho,b1];clear hI S hi hsz put evc;go_simp
 ·have q0:=hI.val 0 (by simp [we2P]) (S.w1_0.on hi);simp only [we2P,we2R,we2D] at q0;refine S.p1.val (v:=.int .i64 vr) (w':=w) (fun o ho=>?_) (put 1 7 hi (by decide) rfl (by decide) (by decide) _ _ (Below.refl _ _) rfl)
  simp only [execOp,ho,q0];clear hI S hi hsz put evc;go_simp
 ·have q1:=hI.val 1 (by simp [we2P]) (S.w2_1.on hi);simp only [we2P,we2R,we2D] at q1;refine S.p2.enter (vals:=#[.int .i64 vr]) (by simp only [List.map_toArray,List.map_cons,List.map_nil,evc,q1]) (fun xs u=>by kernel_rfl) ?_
  refine (KD w).mono ?_
  rintro e w' ⟨rfl,hb⟩;exact ⟨_,rfl,put 2 8 hi (by decide) rfl (by decide) (by decide) _ _ hb rfl⟩
 ·have q2:=hI.val 2 (by simp [we2P]) (S.w3_2.on hi);simp only [we2P,we2R,we2D] at q2;refine S.p3.val (v:=.slice (some ⟨w.heap.size,0,none⟩) 6 6) (w':=w.alloc (.cells #[.string ⟨#[120,109,108,110,115]⟩,.string ⟨#[117,114,110,58,105,101,116,102,58,112,97,114,97,109,115,58,120,109,108,58,110,115,58,119,97,116,99,104,101,114,105,110,102,111]⟩,.string ⟨#[118,101,114,115,105,111,110]⟩,.string ⟨dl.toArray⟩,.string ⟨#[115,116,97,116,101]⟩,.string ⟨#[102,117,108,108]⟩] 9)) (fun o ho=>?_) (put 3 9 hi (by decide) rfl (by decide) (by decide) _ _ ((Below.refl _ w).alloc (Nat.le_refl _) _) ⟨_,rfl,by exact heap_alloc_new _ _⟩)
  simp only [execOp,ho];have em:Array.map (fun x:Nat × Operand=>(x.fst,a.eval x.snd)) #[(0,Operand.const (.string ⟨#[120,109,108,110,115]⟩)),(1,Operand.const (.string ⟨#[117,114,110,58,105,101,116,102,58,112,97,114,97,109,115,58,120,109,108,58,110,115,58,119,97,116,99,104,101,114,105,110,102,111]⟩)),(2,Operand.const (.string ⟨#[118,101,114,115,105,111,110]⟩)),(3,Operand.tmp 8),(4,Operand.const (.string ⟨#[115,116,97,116,101]⟩)),(5,Operand.const (.string ⟨#[102,117,108,108]⟩))]=#[(0,.string ⟨#[120,109,108,110,115]⟩),(1,.string ⟨#[117,114,110,58,105,101,116,102,58,112,97,114,97,109,115,58,120,109,108,58,110,115,58,119,97,116,99,104,101,114,105,110,102,111]⟩),(2,.string ⟨#[118,101,114,115,105,111,110]⟩),(3,.string ⟨dl.toArray⟩),(4,.string ⟨#[115,116,97,116,101]⟩),(5,.string ⟨#[102,117,108,108]⟩)]:=by simp only [List.map_toArray,List.map_cons,List.map_nil,q2,evc]
  rw [em];clear hI S hi hsz put evc;go_simp
 ·have q3:=hI.val 3 (by simp [we2P]) (S.w4_3.on hi);simp only [we2P,we2R,we2D] at q3;obtain ⟨g3,q3,o3⟩:=q3;refine S.p4.enter (vals:=#[.slice (some ⟨g3,0,none⟩) 6 6]) (by simp only [List.map_toArray,List.map_cons,List.map_nil,evc,q3]) (fun xs u=>by kernel_rfl) ?_
  refine (wattrs3_any g3 xmlnsK wspaceK versionK dl stateK fullK w o3).mono ?_
  rintro e w' ⟨rfl,ho,hb⟩;exact ⟨_,rfl,put 4 10 hi (by decide) rfl (by decide) (by decide) _ _ hb ⟨_,rfl,ownP_mono ho (Nat.le_trans hBW hI.bel.size)⟩⟩
 ·have q4:=hI.val 4 (by simp [we2P]) (S.w5_4.on hi);simp only [we2P,we2R,we2D] at q4;obtain ⟨g4,q4,o4⟩:=q4;refine S.p5.val (v:=.agg #[.int .i64 0,.string ⟨#[119,97,116,99,104,101,114,105,110,102,111]⟩,.slice (some ⟨g4,0,none⟩) 3 3,.string ⟨#[]⟩]) (w':=w) (fun o ho=>?_) (put 5 11 hi (by decide) rfl (by decide) (by decide) _ _ (Below.refl _ _) ⟨g4,rfl,o4⟩)
  simp only [execOp,ho,q4];have em:Array.map (fun x:Nat × Operand=>(x.fst,a.eval x.snd)) #[(0,Operand.const (.int .i64 0)),(1,Operand.const (.string ⟨#[119,97,116,99,104,101,114,105,110,102,111]⟩)),(2,Operand.tmp 10)]=#[(0,.int .i64 0),(1,.string ⟨#[119,97,116,99,104,101,114,105,110,102,111]⟩),(2,.slice (some ⟨g4,0,none⟩) 3 3)]:=by simp only [List.map_toArray,List.map_cons,List.map_nil,q4,evc]
  try rw [em]
  clear hI S hi hsz put evc;go_simp
 ·refine S.p6.val (v:=.pointer (some ⟨b,1,none⟩)) (w':=w) (fun o ho=>?_) (put 6 12 hi (by decide) rfl (by decide) (by decide) _ _ (Below.refl _ _) rfl)
  simp only [execOp,ho,b1];clear hI S hi hsz put evc;go_simp
 ·have q6:=hI.val 6 (by simp [we2P]) (S.w7_6.on hi);simp only [we2P,we2R,we2D] at q6;refine S.p7.val (v:=.string ⟨rs.toArray⟩) (w':=w) (fun o ho=>?_) (put 7 13 hi (by decide) rfl (by decide) (by decide) _ _ (Below.refl _ _) rfl)
  simp only [execOp,ho,q6];clear hI S hi hsz put evc;go_simp
 ·have q7:=hI.val 7 (by simp [we2P]) (S.w8_7.on hi);simp only [we2P,we2R,we2D] at q7;refine S.p8.val (v:=.string ⟨(sipcK++rs).toArray⟩) (w':=w) (fun o ho=>?_) (put 8 14 hi (by decide) rfl (by decide) (by decide) _ _ (Below.refl _ _) rfl)
  simp only [execOp,ho,q7];have hg1:(⟨#[115,105,112,58]⟩:ByteArray)++⟨rs.toArray⟩=⟨(sipcK++rs).toArray⟩:=by rw [ByteArray.mk_append_mk]; simp [sipcK]
  have z1:=size_list (rs);clear hI S hi hsz put evc;go_simp
  try omega
 ·have q8:=hI.val 8 (by simp [we2P]) (S.w9_8.on hi);simp only [we2P,we2R,we2D] at q8;refine S.p9.val (v:=.slice (some ⟨w.heap.size,0,none⟩) 4 4) (w':=w.alloc (.cells #[.string ⟨#[114,101,115,111,117,114,99,101]⟩,.string ⟨(sipcK++rs).toArray⟩,.string ⟨#[112,97,99,107,97,103,101]⟩,.string ⟨#[112,114,101,115,101,110,99,101]⟩] 9)) (fun o ho=>?_) (put 9 15 hi (by decide) rfl (by decide) (by decide) _ _ ((Below.refl _ w).alloc (Nat.le_refl _) _) ⟨_,rfl,by exact heap_alloc_new _ _⟩)
  simp only [execOp,ho];have em:Array.map (fun x:Nat × Operand=>(x.fst,a.eval x.snd)) #[(0,Operand.const (.string ⟨#[114,101,115,111,117,114,99,101]⟩)),(1,Operand.tmp 14),(2,Operand.const (.string ⟨#[112,97,99,107,97,103,101]⟩)),(3,Operand.const (.string ⟨#[112,114,101,115,101,110,99,101]⟩))]=#[(0,.string ⟨#[114,101,115,111,117,114,99,101]⟩),(1,.string ⟨(sipcK++rs).toArray⟩),(2,.string ⟨#[112,97,99,107,97,103,101]⟩),(3,.string ⟨#[112,114,101,115,101,110,99,101]⟩)]:=by simp only [List.map_toArray,List.map_cons,List.map_nil,q8,evc]
  rw [em];clear hI S hi hsz put evc;go_simp
 ·have q9:=hI.val 9 (by simp [we2P]) (S.w10_9.on hi);simp only [we2P,we2R,we2D] at q9;obtain ⟨g9,q9,o9⟩:=q9;refine S.p10.enter (vals:=#[.slice (some ⟨g9,0,none⟩) 4 4]) (by simp only [List.map_toArray,List.map_cons,List.map_nil,evc,q9]) (fun xs u=>by kernel_rfl) ?_
  refine (wattrs2_any g9 resourceK (sipcK++rs) packageK presenceK w o9).mono ?_
  rintro e w' ⟨rfl,ho,hb⟩;exact ⟨_,rfl,put 10 16 hi (by decide) rfl (by decide) (by decide) _ _ hb ⟨_,rfl,ownP_mono ho (Nat.le_trans hBW hI.bel.size)⟩⟩
 ·have q10:=hI.val 10 (by simp [we2P]) (S.w11_10.on hi);simp only [we2P,we2R,we2D] at q10;obtain ⟨g10,q10,o10⟩:=q10;refine S.p11.val (v:=.agg #[.int .i64 1,.string ⟨#[119,97,116,99,104,101,114,45,108,105,115,116]⟩,.slice (some ⟨g10,0,none⟩) 2 2,.string ⟨#[]⟩]) (w':=w) (fun o ho=>?_) (put 11 17 hi (by decide) rfl (by decide) (by decide) _ _ (Below.refl _ _) ⟨g10,rfl,o10⟩)
  simp only [execOp,ho,q10];have em:Array.map (fun x:Nat × Operand=>(x.fst,a.eval x.snd)) #[(0,Operand.const (.int .i64 1)),(1,Operand.const (.string ⟨#[119,97,116,99,104,101,114,45,108,105,115,116]⟩)),(2,Operand.tmp 16)]=#[(0,.int .i64 1),(1,.string ⟨#[119,97,116,99,104,101,114,45,108,105,115,116]⟩),(2,.slice (some ⟨g10,0,none⟩) 2 2)]:=by simp only [List.map_toArray,List.map_cons,List.map_nil,q10,evc]
  try rw [em]
  clear hI S hi hsz put evc;go_simp
set_option maxHeartbeats 4000000 in
set_option maxRecDepth 100000 in
theorem we2_region {ops:Array Oper} (S:we2Ops ops) (hlow:lowB .any ops=true) (hpar:parentB ops 12=true) (hww:waitsB ops 13 12=true) {Q:Exit → Act → World → Prop} {id:Nat} (a0:Act) (w:World) (B b:Nat) (vr:Int) (rs dl:List UInt8)
  (hsz:a0.tmps.size=33) (hdf:a0.defers=[]) (B1:a0.eval (.tmp 1)=.pointer (some ⟨b,0,none⟩))
  (hBW:B≤w.heap.size) (hrl:rs.length≤1048576) (hdl:dl.length≤20) (hc0:w.cell? ⟨b,0,none⟩=some (.int .i64 vr)) (hc1:w.cell? ⟨b,1,none⟩=some (.string ⟨rs.toArray⟩)) (hbl:b < w.heap.size)
  (KD:∀ u,Calls Tryz.prog 43 #[.int .i64 vr] u fun e u'=>e=.returned (.string ⟨dl.toArray⟩)∧Below u.heap.size u u')
  (fin:∀ (v':Value) (cs:List NdC) (us:List Value) (w':World),ndsL cs=[nd1 dl,nd2 rs] → us.length=13 → OwnN w' B v' cs → Below w.heap.size w w' → Q .normal ⟨((a0.tmps.toList.set 3 v').take 6++(us++(a0.tmps.toList.set 3 v').drop 19)).toArray,[]⟩ w') :
  (Code.region id ops true).wp Tryz.prog Q a0 w:=by
 have hb0:Below w.heap.size w { w with drawn:=w.drawn+1 }:=⟨rfl,rfl,rfl,Nat.le_refl _,fun _ _=>rfl⟩
 have HC:∀ u,Below ({ w with drawn:=w.drawn+1 }:World).heap.size { w with drawn:=w.drawn+1 } u → u.cell? ⟨b,0,none⟩=some (.int .i64 vr)∧u.cell? ⟨b,1,none⟩=some (.string ⟨rs.toArray⟩):=fun u hu=>⟨cell_below (hb0.trans hu) hbl hc0,cell_below (hb0.trans hu) hbl hc1⟩
 refine wp_region_mem followsM (we2P a0 { w with drawn:=w.drawn+1 } B b vr rs dl) rfl rfl hsz hdf S.sz hlow hpar hww
  (fun a u=>∃ (v':Value) (cs:List NdC),ndsL cs=[nd1 dl,nd2 rs]∧Outs (we2P a0 { w with drawn:=w.drawn+1 } B b vr rs dl) a0 a∧a.eval (.tmp 18)=v'∧OwnN u B v' cs∧Below w.heap.size w u)
  (fun a u=>∃ (v':Value) (cs:List NdC),ndsL cs=[nd1 dl,nd2 rs]∧Outs (we2P a0 { w with drawn:=w.drawn+1 } B b vr rs dl) (a0.put (some 3) v') a∧OwnN u B v' cs∧Below w.heap.size w u)
  (fun L a u i h1 h2 h3 h4=>we2_steps S a0 { w with drawn:=w.drawn+1 } B b vr rs dl B1 hBW hrl hdl HC KD Q L a u i h1 h2 h3 h4) ?_ ?_ ?_
 ·intro a u ho hb hR;have q5:=hR 5 (by simp [we2P]);have q11:=hR 11 (by simp [we2P]);simp only [we2P,we2R,we2D] at q5 q11;obtain ⟨g,q5,hp⟩:=q5;obtain ⟨h,q11,hp2⟩:=q11;have hb1:Below w.heap.size w u:=hb0.trans hb;refine S.p12.val (v:=.slice (some ⟨u.heap.size,0,none⟩) 2 2) (w':=u.alloc (.cells #[.int .i64 0,.string ⟨#[119,97,116,99,104,101,114,105,110,102,111]⟩,.slice (some ⟨g,0,none⟩) 3 3,.string ⟨#[]⟩,.int .i64 1,.string ⟨#[119,97,116,99,104,101,114,45,108,105,115,116]⟩,.slice (some ⟨h,0,none⟩) 2 2,.string ⟨#[]⟩] 49)) (fun o ho2=>?_) ⟨_,[⟨nd1 dl,.slice (some ⟨g,0,none⟩) 3 3⟩,⟨nd2 rs,.slice (some ⟨h,0,none⟩) 2 2⟩],rfl,ho.put 18 _ (by simp [we2P]) (by simp [we2P]),eval_put_same (by rw [ho.sz]; simp [we2P]),by exact ownN_two u B (Nat.le_trans hBW hb1.size) ⟨nd1 dl,.slice (some ⟨g,0,none⟩) 3 3⟩ ⟨nd2 rs,.slice (some ⟨h,0,none⟩) 2 2⟩ hp hp2,hb1.alloc hb1.size _⟩
  simp only [execOp,ho2];have em:Array.map (fun x:Nat × Operand=>(x.fst,a.eval x.snd)) #[(0,Operand.tmp 11),(1,Operand.tmp 17)]=#[(0,.agg #[.int .i64 0,.string ⟨#[119,97,116,99,104,101,114,105,110,102,111]⟩,.slice (some ⟨g,0,none⟩) 3 3,.string ⟨#[]⟩]),(1,.agg #[.int .i64 1,.string ⟨#[119,97,116,99,104,101,114,45,108,105,115,116]⟩,.slice (some ⟨h,0,none⟩) 2 2,.string ⟨#[]⟩])]:=by simp only [List.map_toArray,List.map_cons,List.map_nil,q5,q11]
  rw [em];clear hR q5 q11 em ho;go_simp
 ·rintro a u ⟨v',cs,hc,ho,he,hown',hfr⟩;refine S.p13.val (v:=v') (w':=u) (fun o ho2=>?_) ⟨v',cs,hc,ho.set hsz 3 v' (by simp [we2P]) (by simp [we2P]),hown',hfr⟩
  simp only [execOp,ho2,he];go_simp
 ·rintro a u ⟨v',cs,hc,ho,hown',hfr⟩;obtain ⟨us,hus,hau⟩:=ho.fin (by rw [put_size]; exact hsz) (by simp [we2P]) (by simp [we2P]);rw [hau,put_list];exact fin v' cs us u hc hus hown' hfr
def wtsCells (ts:List Wt):List Value:=ts.flatMap wtCells
theorem wtsCells_get (ts:List Wt) (k:Nat) (hk:k < ts.length) (j:Nat) (u:Value) (h:(wtCells ts[k])[j]? = some u):(wtsCells ts)[k * 4+j]? = some u:=by
 induction ts generalizing k with
 | nil=>simp at hk
 | cons t ts ih =>
  have e:wtsCells (t :: ts)=wtCells t++wtsCells ts:=rfl;have el:(wtCells t).length=4:=rfl
  cases k with
  | zero =>
   have hj:j < 4:=by have:=(List.getElem?_eq_some_iff.1 h).1; simpa [wtCells] using this
   rw [e,List.getElem?_append_left (by rw [el]; omega),Nat.zero_mul,Nat.zero_add];exact h
  | succ k =>
   have:=ih k (by simpa using hk) (by simpa using h)
   rw [e,List.getElem?_append_right (by rw [el]; omega),el,show (k+1) * 4+j - 4=k * 4+j by omega];exact this
def OwnW (w:World) (B:Nat) (v:Value) (ts:List Wt):Prop:=w.ownsRow B 51 4 v ts.length (wtsCells ts)
theorem OwnW.nil (w:World) (B:Nat):OwnW w B (.slice none 0 0) []:=World.ownsRow_nil _ _ _ _
theorem OwnW.below {w w':World} {B:Nat} {v:Value} {ts:List Wt} (h:OwnW w B v ts) (hb:Below w.heap.size w w'):OwnW w' B v ts:=by
 obtain ⟨h1,h2⟩:=h;refine ⟨h1,?_⟩
 rcases h2 with h2 | ⟨g,cap,cur,hv,hg,hh,r⟩
 ·exact Or.inl h2
 ·exact Or.inr ⟨g,cap,cur,hv,hg,by rw [hb.block g (Array.getElem?_eq_some_iff.1 hh).1]; exact hh,r⟩
theorem OwnW.alloc {w:World} {B:Nat} {v:Value} {ts:List Wt} (h:OwnW w B v ts) (o:Obj):OwnW (w.alloc o) B v ts:=World.ownsRow.alloc h o
theorem OwnW.form {w:World} {B:Nat} {v:Value} {ts:List Wt} (h:OwnW w B v ts):∃ a cap,v=.slice a ts.length cap:=by
 rcases h.2 with ⟨rfl,hn⟩ | ⟨g,cap,cur,rfl,_⟩
 ·exact ⟨none,0,by rw [hn]⟩
 ·exact ⟨_,cap,rfl⟩
theorem OwnW.wtsAt {w:World} {B:Nat} {v:Value} {ts:List Wt} (h:OwnW w B v ts):WtsAt w v ts:=by
 have h0:=h
 rcases h.2 with ⟨rfl,hn⟩ | ⟨g,cap,cur,rfl,hb,hg,r⟩
 ·exact ⟨none,0,by rw [hn],by omega,fun k hk=>by omega⟩
 ·refine ⟨some ⟨g,0,none⟩,cap,rfl,r.1,fun k hk=>⟨_,rfl,(Array.getElem?_eq_some_iff.1 hg).1,?_⟩⟩
  have e:∀ j,(⟨g,0,none⟩:Addr).add j=⟨g,j,none⟩:=fun j=>by unfold Addr.add; split <;> simp_all
  have c:∀ j u,(wtCells ts[k])[j]? = some u → w.cell? ⟨g,k * 4+j,none⟩=some u:=fun j u hj=>by
   have:=World.ownsRow.cells h0 (g:=g) rfl (k * 4+j) _ (wtsCells_get ts k hk j u hj)
   rw [e] at this; exact this
  refine ⟨?_,?_,?_,?_⟩
  ·rw [e]; exact c 0 _ rfl
  ·rw [e]; exact c 1 _ rfl
  ·rw [e]; exact c 2 _ rfl
  ·rw [e]; exact c 3 _ rfl
theorem infoWt:(Tryz.prog.info? 51).map (fun i=>(i.zero,i.size,i.bytes))=some (some (.agg #[.int .i64 0,.string .empty,.string .empty,.string .empty]),4,56):=by kernel_rfl
theorem step_appW {P:Program} {ops:Array Oper} {o:Oper} {a:Act} {w:World} {K:Act → World → Prop} {Q:Exit → Act → World → Prop} {E:Prop} (hgd:o.guard=none)
  (s x:Operand) (t:TypeId) (ho:o.op=Op.call { callee:=Callee.builtin Builtin.append,args:=#[s,x],argTypes:=#[t,t] }) (B:Nat) (i:TypeInfo)
  (z:Value) (ht:P.underlying t=some (TypeDesc.slice 51)) (hi:P.info? 51=some i) (hz:i.zero=some z) (hsize:i.size=4) (hby:i.bytes=56) (hzs:z.cells.size=4)
  (v:Value) (ts:List Wt) (hs:a.eval s=v) (hown:OwnW w B v ts) (ad:Addr) (k:Nat) (c:Wt) (hx:a.eval x=Value.slice (some ad) 1 k)
  (hnews:∀ (j:Nat) (u:Value),(wtCells c)[j]? = some u → w.cell? (ad.add j)=some u)
  (hlen:ts.length≤2000000) (hB:B≤w.heap.size)
  (h:∀ (v':Value) (w':World),OwnW w' B v' (ts++[c]) → Below B w w' → K (a.put o.dst v') w'):if Region.wanted o (yielded ops a.tmps)=true then Oper.wp P o a w K Q else E:=by
 have hw:Region.wanted o (yielded ops a.tmps)=true:=by simp [Region.wanted,hgd]
 rw [if_pos hw];obtain ⟨v',w',hrun,r1,hgr,_,hat⟩:=run_append_own_at (P:=P) w B t o.type 51 i z 4 56 ht hi hz hsize hby hzs (by decide) v ts.length (wtsCells ts) hown ad 1 k (wtCells c) rfl hnews
  (by intro u hu; simp [wtCells] at hu; rcases hu with rfl | rfl | rfl | rfl <;> rfl) (by unfold maxLen; omega) (by omega) hB
 unfold Oper.wp
 simp [execOp,ho,resolve,invoke,builtin,hs,hx,hrun,Result.andThen]
 refine h v' w' ?_ ((Below.refl B w).grown hgr hB (fun k hk=>(World.ownsRow.lt hown k hk).1))
 have e:wtsCells (ts++[c])=wtsCells ts++wtCells c:=by simp [wtsCells]
 unfold OwnW;rw [e,List.length_append];exact r1
theorem wt_new (W:World) (c:Wt) (g:Nat) (hg:g=W.heap.size):∀ (j:Nat) (u:Value),(wtCells c)[j]? = some u → (W.alloc (.cells #[.int .i64 c.id,.string ⟨c.uri.toArray⟩,.string ⟨c.stat.toArray⟩,.string ⟨c.ev.toArray⟩] 51)).cell? ((⟨g,0,none⟩:Addr).add j)=some u:=by
 intro j u hj;subst hg;have e:(⟨W.heap.size,0,none⟩:Addr).add j=⟨W.heap.size,j,none⟩:=by unfold Addr.add; split <;> simp_all
 rw [e];unfold World.cell?;rw [heap_alloc_new]
 simpa [wtCells] using hj
end Go.Proofs.YtdbalahkmeknaaaGreatDoor
