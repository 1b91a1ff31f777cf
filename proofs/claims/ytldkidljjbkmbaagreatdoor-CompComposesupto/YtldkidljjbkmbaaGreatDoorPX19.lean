/-
  RegMem, CpH, CpG.
-/
import Derived.Test.YtldkidljjbkmbaaGreatDoorPX18
set_option linter.unusedVariables false
set_option linter.unusedSimpArgs false
set_option maxRecDepth 20000
namespace Go.Proofs.YtldkidljjbkmbaaGreatDoor
open Go.RowKit
theorem waits_of {ops:Array Oper} {i j:Nat} (h:waitsB ops i j=true):Waits ops i j:=by
 unfold waitsB at h
 cases ho:ops[i]? with
 | none=>rw [ho] at h; cases h
 | some o =>
  rw [ho] at h;simp only at h;obtain ⟨k,hk,hb⟩:=Array.any_eq_true.1 h;simp only [Bool.and_eq_true,decide_eq_true_eq] at hb;exact ⟨o,ho,o.after[k],Array.getElem_mem hk,hb.1,hb.2⟩
theorem wp_region_two {P:Program} {ops:Array Oper} {Q:Exit → Act → World → Prop} {id:Nat} {a0:Act} {w:World} (hm:P.follows .mixedOrders=true) (p:MP) (m:Nat) (hW:p.W={ w with drawn:=w.drawn+1 }) (ha:p.a0=a0) (hsz:a0.tmps.size=p.n) (hdf:a0.defers=[])
  (hlt:m < ops.size) (hlow:lowB .any ops=true) (F:Array Bool → Act → World → Prop)
  (head:∀ L a u i,L.size=ops.size → L.getD m false=false → i ≠ m → i ∈ Region.ready .any ops L → MI p ops L a u → wpOp P ops Q i (MI p ops (L.setIfInBounds i true)) a u)
  (mid:∀ L a u,L.size=ops.size → m ∈ Region.ready .any ops L → MI p ops L a u → wpOp P ops Q m (F (L.setIfInBounds m true)) a u)
  (tail:∀ L a u i,L.size=ops.size → L.getD m false=true → i ∈ Region.ready .any ops L → F L a u → wpOp P ops Q i (F (L.setIfInBounds i true)) a u)
  (fin:∀ L a u,L.size=ops.size → (∀ j,j < ops.size → L.getD j false=true) → F L a u → Q .normal a u):(Code.region id ops true).wp P Q a0 w:=by
 refine wp_region_inv hm (fun L a u=>(L.getD m false=false∧MI p ops L a u)∨(L.getD m false=true∧F L a u)) ?_ ?_ ?_
 ·have gz:∀ j,(Array.replicate ops.size false).getD j false=false:=fun j=>by rw [Array.getD_eq_getD_getElem?,Array.getElem?_replicate]; split <;> rfl
  refine .inl ⟨gz _,⟨hsz,hdf,fun s _=>by rw [ha]⟩,by rw [hW]; exact Below.refl _ _,fun i _ hl=>?_,fun i j _ hl=>?_⟩
  ·rw [gz] at hl; cases hl
  ·rw [gz] at hl; cases hl
 ·intro L a u hs hr hI;have hall:=all_listed hlow hs hr
  rcases hI with ⟨h1,_⟩ | ⟨_,h1⟩
  ·rw [hall m hlt] at h1; cases h1
  ·exact fin L a u hs hall h1
 ·intro L a u i hs hi hI;obtain ⟨hn,_⟩:=ready_nots hi
  rcases hI with ⟨h1,h2⟩ | ⟨h1,h2⟩
  ·by_cases e:i=m
   ·subst e;exact wpOp_mono (fun a' w' k=>.inr ⟨getD_set_same (by omega),k⟩) (mid L a u hs hi h2)
   ·exact wpOp_mono (fun a' w' k=>.inl ⟨by rw [getD_set_ne (Ne.symm e)]; exact h1,k⟩) (head L a u i hs h1 e hi h2)
  ·have e:i ≠ m:=fun e=>by subst e; rw [h1] at hn; cases hn
   exact wpOp_mono (fun a' w' k=>.inr ⟨by rw [getD_set_ne (Ne.symm e)]; exact h1,k⟩) (tail L a u i hs h1 hi h2)
end Go.Proofs.YtldkidljjbkmbaaGreatDoor
namespace Go.Proofs.YtldkidljjbkmbaaGreatDoor
open Go.RowKit Sc
theorem followsC:Tryz.prog.follows .mixedOrders=true:=by kernel_rfl
structure ca4Ops (ops:Array Oper):Prop where
 sz:ops.size=28
 p0:OpIs ops 0 (some 33) (.move (.tmp 0))
 p1:OpIs ops 1 (some 34) (.move (.tmp 0))
 p2:OpIs ops 2 (some 35) (.nilCheck (.tmp 34))
 p3:OpIs ops 3 (some 36) (.fieldAddr 54 (.tmp 35) 0)
 p4:OpIs ops 4 (some 37) (.fieldAddr 28 (.tmp 36) 1)
 p5:OpIs ops 5 (some 38) (.load 25 (.tmp 37))
 p6:OpIs ops 6 (some 39) (.move (.tmp 0))
 p7:OpIs ops 7 (some 40) (.move (.tmp 1))
 p8:OpIs ops 8 (some 41) (.fieldAddr 48 (.tmp 5) 0)
 p9:OpIs ops 9 (some 42) (.load 9 (.tmp 41))
 p10:OpIs ops 10 (some 43) (.call { callee:=.value (.func 35),args:=#[.tmp 39,.tmp 40,.tmp 42],argTypes:=#[69,3,9] })
 p11:OpIs ops 11 (some 44) (.fieldAddr 48 (.tmp 5) 1)
 p12:OpIs ops 12 (some 45) (.load 4 (.tmp 44))
 p13:OpIs ops 13 (some 46) (.fieldAddr 48 (.tmp 5) 2)
 p14:OpIs ops 14 (some 47) (.load 9 (.tmp 46))
 p15:OpIs ops 15 (some 48) (.call { callee:=.value (.func 20),args:=#[.tmp 47],argTypes:=#[9] })
 p16:OpIs ops 16 (some 49) (.fieldAddr 48 (.tmp 5) 3)
 p17:OpIs ops 17 (some 50) (.load 3 (.tmp 49))
 p18:OpIs ops 18 (some 51) (.fieldAddr 48 (.tmp 5) 4)
 p19:OpIs ops 19 (some 52) (.load 9 (.tmp 51))
 p20:OpIs ops 20 (some 53) (.call { callee:=.value (.func 20),args:=#[.tmp 52],argTypes:=#[9] })
 p21:OpIs ops 21 (some 54) (.build 48 #[(0,.tmp 43),(1,.tmp 45),(2,.tmp 48),(3,.tmp 50),(4,.tmp 53)])
 p22:OpIs ops 22 (some 55) (.buildSlice 25 1 #[(0,.tmp 54)])
 p23:OpIs ops 23 (some 56) (.call { callee:=.builtin .append,args:=#[.tmp 38,.tmp 55],argTypes:=#[25,25] })
 p24:OpIs ops 24 (some 57) (.nilCheck (.tmp 33))
 p25:OpIs ops 25 (some 58) (.fieldAddr 54 (.tmp 57) 0)
 p26:OpIs ops 26 (some 59) (.fieldAddr 28 (.tmp 58) 1)
 p27:OpIs ops 27 none (.store 25 (.tmp 59) (.tmp 56))
 w2_1:Waits ops 2 1
 w3_2:Waits ops 3 2
 w4_3:Waits ops 4 3
 w5_4:Waits ops 5 4
 w9_8:Waits ops 9 8
 w10_6:Waits ops 10 6
 w10_7:Waits ops 10 7
 w10_9:Waits ops 10 9
 w12_11:Waits ops 12 11
 w14_13:Waits ops 14 13
 w15_14:Waits ops 15 14
 w17_16:Waits ops 17 16
 w19_18:Waits ops 19 18
 w20_19:Waits ops 20 19
 w21_10:Waits ops 21 10
 w21_12:Waits ops 21 12
 w21_15:Waits ops 21 15
 w21_17:Waits ops 21 17
 w21_20:Waits ops 21 20
 w22_21:Waits ops 22 21
 w24_0:Waits ops 24 0
 w25_24:Waits ops 25 24
 w26_25:Waits ops 26 25
 w23_5:Waits ops 23 5
 w23_22:Waits ops 23 22
 w27_23:Waits ops 27 23
 w27_26:Waits ops 27 26
def ca4D:Nat → Nat
 | 0=>33
 | 1=>34
 | 2=>35
 | 3=>36
 | 4=>37
 | 5=>38
 | 6=>39
 | 7=>40
 | 8=>41
 | 9=>42
 | 10=>43
 | 11=>44
 | 12=>45
 | 13=>46
 | 14=>47
 | 15=>48
 | 16=>49
 | 17=>50
 | 18=>51
 | 19=>52
 | 20=>53
 | 21=>54
 | 22=>55
 | 24=>57
 | 25=>58
 | 26=>59
 | 23=>56
 | _=>2000
def ca4R (b gx n vc:Nat) (va:Option Addr) (num:Int) (t:Tu) (NID:List UInt8):Nat → Value → World → Prop
 | 0=>fun v w=>v=.pointer (some ⟨b,0,none⟩)
 | 1=>fun v w=>v=.pointer (some ⟨b,0,none⟩)
 | 2=>fun v w=>v=.pointer (some ⟨b,0,none⟩)
 | 3=>fun v w=>v=.pointer (some ⟨b,0,none⟩)
 | 4=>fun v w=>v=.pointer (some ⟨b,1,none⟩)
 | 5=>fun v w=>v=.slice va n vc
 | 6=>fun v w=>v=.pointer (some ⟨b,0,none⟩)
 | 7=>fun v w=>v=.int .i64 num
 | 8=>fun v w=>v=.pointer (some ⟨gx,0,none⟩)
 | 9=>fun v w=>v=.string ⟨t.id.toArray⟩
 | 10=>fun v w=>v=.string ⟨NID.toArray⟩
 | 11=>fun v w=>v=.pointer (some ⟨gx,1,none⟩)
 | 12=>fun v w=>v=.bool t.opn
 | 13=>fun v w=>v=.pointer (some ⟨gx,2,none⟩)
 | 14=>fun v w=>v=.string ⟨t.contact.toArray⟩
 | 15=>fun v w=>v=.string ⟨t.contact.toArray⟩
 | 16=>fun v w=>v=.pointer (some ⟨gx,3,none⟩)
 | 17=>fun v w=>v=.int .i64 t.prio
 | 18=>fun v w=>v=.pointer (some ⟨gx,4,none⟩)
 | 19=>fun v w=>v=.string ⟨t.note.toArray⟩
 | 20=>fun v w=>v=.string ⟨t.note.toArray⟩
 | 21=>fun v w=>v=.agg #[.string ⟨NID.toArray⟩,.bool t.opn,.string ⟨t.contact.toArray⟩,.int .i64 t.prio,.string ⟨t.note.toArray⟩]
 | 22=>fun v w=>∃ g2,v=.slice (some ⟨g2,0,none⟩) 1 1∧g2 < w.heap.size∧∀ (j:Nat) (u:Value),(tuCells ⟨NID,t.opn,t.contact,t.prio,t.note⟩)[j]? = some u → w.cell? ((⟨g2,0,none⟩:Addr).add j)=some u
 | 24=>fun v w=>v=.pointer (some ⟨b,0,none⟩)
 | 25=>fun v w=>v=.pointer (some ⟨b,0,none⟩)
 | 26=>fun v w=>v=.pointer (some ⟨b,1,none⟩)
 | _=>fun _ _=>True
def ca4P (a0:Act) (W:World) (b gx n vc:Nat) (va:Option Addr) (num:Int) (t:Tu) (NID:List UInt8):MP where
 a0:=a0
 lo:=33
 hi:=60
 n:=60
 k:=28
 W:=W
 D:=ca4D
 R:=ca4R b gx n vc va num t NID
theorem ca4_inj:∀ j,j < 28 → ∀ i,i < 27 → j ≠ i → ca4D j ≠ ca4D i:=by decide +kernel
theorem ca4_st (b gx n vc:Nat) (va:Option Addr) (num:Int) (t:Tu) (NID:List UInt8) {u u':World} (hb:Below u.heap.size u u'):∀ j v,j < 28 → ca4R b gx n vc va num t NID j v u → ca4R b gx n vc va num t NID j v u':=by
 intro j v hj h
 rcases (show j=0∨j=1∨j=2∨j=3∨j=4∨j=5∨j=6∨j=7∨j=8∨j=9∨j=10∨j=11∨j=12∨j=13∨j=14∨j=15∨j=16∨j=17∨j=18∨j=19∨j=20∨j=21∨j=22∨j=23∨j=24∨j=25∨j=26∨j=27 by omega) with rfl | rfl | rfl | rfl | rfl | rfl | rfl | rfl | rfl | rfl | rfl | rfl | rfl | rfl | rfl | rfl | rfl | rfl | rfl | rfl | rfl | rfl | rfl | rfl | rfl | rfl | rfl | rfl
 ·exact h
 ·exact h
 ·exact h
 ·exact h
 ·exact h
 ·exact h
 ·exact h
 ·exact h
 ·exact h
 ·exact h
 ·exact h
 ·exact h
 ·exact h
 ·exact h
 ·exact h
 ·exact h
 ·exact h
 ·exact h
 ·exact h
 ·exact h
 ·exact h
 ·exact h
 ·obtain ⟨g2,h1,h3,h4⟩:=h; exact ⟨g2,h1,Nat.lt_of_lt_of_le h3 hb.size,fun j u hj=>cell_below hb (by rw [add_block]; exact h3) (h4 j u hj)⟩
 ·exact h
 ·exact h
 ·exact h
 ·exact h
 ·exact h
set_option maxHeartbeats 8000000 in
set_option maxRecDepth 100000 in
theorem ca4_steps {ops:Array Oper} (S:ca4Ops ops) (a0:Act) (W:World) (b gx n vc:Nat) (va:Option Addr) (num:Int) (t:Tu) (NID:List UInt8)
  (B0:a0.eval (.tmp 0)=.pointer (some ⟨b,0,none⟩))
  (B1:a0.eval (.tmp 1)=.int .i64 num)
  (B5:a0.eval (.tmp 5)=.pointer (some ⟨gx,0,none⟩))
  (HR:∀ u,Below W.heap.size W u → u.cell? ⟨b,1,none⟩=some (.slice va n vc)) (HC:∀ u,Below W.heap.size W u → u.cell? ⟨gx,0,none⟩=some (.string ⟨t.id.toArray⟩)∧u.cell? ⟨gx,1,none⟩=some (.bool t.opn)∧u.cell? ⟨gx,2,none⟩=some (.string ⟨t.contact.toArray⟩)∧u.cell? ⟨gx,3,none⟩=some (.int .i64 t.prio)∧u.cell? ⟨gx,4,none⟩=some (.string ⟨t.note.toArray⟩))
  (KF:∀ u,Below W.heap.size W u → Calls Tryz.prog 35 #[.pointer (some ⟨b,0,none⟩),.int .i64 num,.string ⟨t.id.toArray⟩] u fun e u'=>e=.returned (.string ⟨NID.toArray⟩)∧Below u.heap.size u u') (KC:∀ u,Below W.heap.size W u → Calls Tryz.prog 20 #[.string ⟨t.contact.toArray⟩] u fun e u'=>e=.returned (.string ⟨t.contact.toArray⟩)∧Below u.heap.size u u') (KO:∀ u,Below W.heap.size W u → Calls Tryz.prog 20 #[.string ⟨t.note.toArray⟩] u fun e u'=>e=.returned (.string ⟨t.note.toArray⟩)∧Below u.heap.size u u')
  (Q:Exit → Act → World → Prop) (L:Array Bool) (a:Act) (w:World) (i:Nat) (hsz:L.size=ops.size) (hm:L.getD 23 false=false) (hne:i ≠ 23) (hi:i ∈ Region.ready .any ops L) (hI:MI (ca4P a0 W b gx n vc va num t NID) ops L a w) :
  wpOp Tryz.prog ops Q i (MI (ca4P a0 W b gx n vc va num t NID) ops (L.setIfInBounds i true)) a w:=by
 have evc:∀ v,a.eval (.const v)=v:=fun _=>rfl;have hik:i < 28:=by have:=(ready_nots hi).2; rw [S.sz] at this; exact this
 have b0:=(hI.o.out 0 (.inl (by simp [ca4P]))).trans B0;have b1:=(hI.o.out 1 (.inl (by simp [ca4P]))).trans B1;have b5:=(hI.o.out 5 (.inl (by simp [ca4P]))).trans B5;have hR:=HR w hI.bel;obtain ⟨hC0,hC1,hC2,hC3,hC4⟩:=HC w hI.bel
 have put:∀ (i d:Nat) (hi:i ∈ Region.ready .any ops L) (hk:i < 27) (hd:ca4D i=d) (h1:33≤d) (h2:d < 60) (v:Value) (w':World) (hb:Below w.heap.size w w') (hR:ca4R b gx n vc va num t NID i v w'),MI (ca4P a0 W b gx n vc va num t NID) ops (L.setIfInBounds i true) (a.put (some d) v) w':=fun i d hi hk hd h1 h2 v w' hb hR =>
  hI.put hsz i hi d hd (fun j hj hji=>by subst hd; exact ca4_inj j hj i hk hji) h1 h2 (by simp [ca4P]) (fun j v hj h=>ca4_st b gx n vc va num t NID hb j v hj h) v hb hR
 rcases (show i=0∨i=1∨i=2∨i=3∨i=4∨i=5∨i=6∨i=7∨i=8∨i=9∨i=10∨i=11∨i=12∨i=13∨i=14∨i=15∨i=16∨i=17∨i=18∨i=19∨i=20∨i=21∨i=22∨i=23∨i=24∨i=25∨i=26∨i=27 by omega) with rfl | rfl | rfl | rfl | rfl | rfl | rfl | rfl | rfl | rfl | rfl | rfl | rfl | rfl | rfl | rfl | rfl | rfl | rfl | rfl | rfl | rfl | rfl | rfl | rfl | rfl | rfl | rfl
 ·refine S.p0.val (v:=.pointer (some ⟨b,0,none⟩)) (w':=w) (fun o ho=>?_) (put 0 33 hi (by decide) rfl (by decide) (by decide) _ _ (Below.refl _ _) rfl)
  simp only [execOp,ho,b0];clear hI S hi hsz put evc HR HC KF KC KO;go_simp
 ·refine S.p1.val (v:=.pointer (some ⟨b,0,none⟩)) (w':=w) (fun o ho=>?_) (put 1 34 hi (by decide) rfl (by decide) (by decide) _ _ (Below.refl _ _) rfl)
  simp only [execOp,ho,b0];clear hI S hi hsz put evc HR HC KF KC KO;go_simp
 ·have q1:=hI.val 1 (by simp [ca4P]) (S.w2_1.on hi);simp only [ca4P,ca4R,ca4D] at q1;refine S.p2.val (v:=.pointer (some ⟨b,0,none⟩)) (w':=w) (fun o ho=>?_) (put 2 35 hi (by decide) rfl (by decide) (by decide) _ _ (Below.refl _ _) rfl)
  simp only [execOp,ho,q1];clear hI S hi hsz put evc HR HC KF KC KO;go_simp
 ·have q2:=hI.val 2 (by simp [ca4P]) (S.w3_2.on hi);simp only [ca4P,ca4R,ca4D] at q2;refine S.p3.val (v:=.pointer (some ⟨b,0,none⟩)) (w':=w) (fun o ho=>?_) (put 3 36 hi (by decide) rfl (by decide) (by decide) _ _ (Below.refl _ _) rfl)
  simp only [execOp,ho,q2];clear hI S hi hsz put evc HR HC KF KC KO;go_simp
 ·have q3:=hI.val 3 (by simp [ca4P]) (S.w4_3.on hi);simp only [ca4P,ca4R,ca4D] at q3;refine S.p4.val (v:=.pointer (some ⟨b,1,none⟩)) (w':=w) (fun o ho=>?_) (put 4 37 hi (by decide) rfl (by decide) (by decide) _ _ (Below.refl _ _) rfl)
  simp only [execOp,ho,q3];clear hI S hi hsz put evc HR HC KF KC KO;go_simp
 ·have q4:=hI.val 4 (by simp [ca4P]) (S.w5_4.on hi);simp only [ca4P,ca4R,ca4D] at q4;refine S.p5.val (v:=.slice va n vc) (w':=w) (fun o ho=>?_) (put 5 38 hi (by decide) rfl (by decide) (by decide) _ _ (Below.refl _ _) rfl)
  simp only [execOp,ho,q4];clear hI S hi hsz put evc HR HC KF KC KO;go_simp
 ·refine S.p6.val (v:=.pointer (some ⟨b,0,none⟩)) (w':=w) (fun o ho=>?_) (put 6 39 hi (by decide) rfl (by decide) (by decide) _ _ (Below.refl _ _) rfl)
  simp only [execOp,ho,b0];clear hI S hi hsz put evc HR HC KF KC KO;go_simp
 ·refine S.p7.val (v:=.int .i64 num) (w':=w) (fun o ho=>?_) (put 7 40 hi (by decide) rfl (by decide) (by decide) _ _ (Below.refl _ _) rfl)
  simp only [execOp,ho,b1];clear hI S hi hsz put evc HR HC KF KC KO;go_simp
 ·refine S.p8.val (v:=.pointer (some ⟨gx,0,none⟩)) (w':=w) (fun o ho=>?_) (put 8 41 hi (by decide) rfl (by decide) (by decide) _ _ (Below.refl _ _) rfl)
  simp only [execOp,ho,b5];clear hI S hi hsz put evc HR HC KF KC KO;go_simp
 ·have q8:=hI.val 8 (by simp [ca4P]) (S.w9_8.on hi);simp only [ca4P,ca4R,ca4D] at q8;refine S.p9.val (v:=.string ⟨t.id.toArray⟩) (w':=w) (fun o ho=>?_) (put 9 42 hi (by decide) rfl (by decide) (by decide) _ _ (Below.refl _ _) rfl)
  simp only [execOp,ho,q8];clear hI S hi hsz put evc HR HC KF KC KO;go_simp
 ·have q6:=hI.val 6 (by simp [ca4P]) (S.w10_6.on hi);simp only [ca4P,ca4R,ca4D] at q6;have q7:=hI.val 7 (by simp [ca4P]) (S.w10_7.on hi);simp only [ca4P,ca4R,ca4D] at q7;have q9:=hI.val 9 (by simp [ca4P]) (S.w10_9.on hi);simp only [ca4P,ca4R,ca4D] at q9;refine S.p10.enter (vals:=#[.pointer (some ⟨b,0,none⟩),.int .i64 num,.string ⟨t.id.toArray⟩]) (by simp only [List.map_toArray,List.map_cons,List.map_nil,q6,q7,q9]) (fun xs u=>by kernel_rfl) ?_
  refine (KF w hI.bel).mono ?_
  rintro e w' ⟨rfl,hb⟩;exact ⟨_,rfl,put 10 43 hi (by decide) rfl (by decide) (by decide) _ _ hb rfl⟩
 ·refine S.p11.val (v:=.pointer (some ⟨gx,1,none⟩)) (w':=w) (fun o ho=>?_) (put 11 44 hi (by decide) rfl (by decide) (by decide) _ _ (Below.refl _ _) rfl)
  simp only [execOp,ho,b5];clear hI S hi hsz put evc HR HC KF KC KO;go_simp
 ·have q11:=hI.val 11 (by simp [ca4P]) (S.w12_11.on hi);simp only [ca4P,ca4R,ca4D] at q11;refine S.p12.val (v:=.bool t.opn) (w':=w) (fun o ho=>?_) (put 12 45 hi (by decide) rfl (by decide) (by decide) _ _ (Below.refl _ _) rfl)
  simp only [execOp,ho,q11];clear hI S hi hsz put evc HR HC KF KC KO;go_simp
 ·refine S.p13.val (v:=.pointer (some ⟨gx,2,none⟩)) (w':=w) (fun o ho=>?_) (put 13 46 hi (by decide) rfl (by decide) (by decide) _ _ (Below.refl _ _) rfl)
  simp only [execOp,ho,b5];clear hI S hi hsz put evc HR HC KF KC KO;go_simp
 ·have q13:=hI.val 13 (by simp [ca4P]) (S.w14_13.on hi);simp only [ca4P,ca4R,ca4D] at q13;refine S.p14.val (v:=.string ⟨t.contact.toArray⟩) (w':=w) (fun o ho=>?_) (put 14 47 hi (by decide) rfl (by decide) (by decide) _ _ (Below.refl _ _) rfl)
  simp only [execOp,ho,q13];clear hI S hi hsz put evc HR HC KF KC KO;go_simp
 ·have q14:=hI.val 14 (by simp [ca4P]) (S.w15_14.on hi);simp only [ca4P,ca4R,ca4D] at q14;refine S.p15.enter (vals:=#[.string ⟨t.contact.toArray⟩]) (by simp only [List.map_toArray,List.map_cons,List.map_nil,q14]) (fun xs u=>by kernel_rfl) ?_
  refine (KC w hI.bel).mono ?_
  rintro e w' ⟨rfl,hb⟩;exact ⟨_,rfl,put 15 48 hi (by decide) rfl (by decide) (by decide) _ _ hb rfl⟩
 ·refine S.p16.val (v:=.pointer (some ⟨gx,3,none⟩)) (w':=w) (fun o ho=>?_) (put 16 49 hi (by decide) rfl (by decide) (by decide) _ _ (Below.refl _ _) rfl)
  simp only [execOp,ho,b5];clear hI S hi hsz put evc HR HC KF KC KO;go_simp
 ·have q16:=hI.val 16 (by simp [ca4P]) (S.w17_16.on hi);simp only [ca4P,ca4R,ca4D] at q16;refine S.p17.val (v:=.int .i64 t.prio) (w':=w) (fun o ho=>?_) (put 17 50 hi (by decide) rfl (by decide) (by decide) _ _ (Below.refl _ _) rfl)
  simp only [execOp,ho,q16];clear hI S hi hsz put evc HR HC KF KC KO;go_simp
 ·refine S.p18.val (v:=.pointer (some ⟨gx,4,none⟩)) (w':=w) (fun o ho=>?_) (put 18 51 hi (by decide) rfl (by decide) (by decide) _ _ (Below.refl _ _) rfl)
  simp only [execOp,ho,b5];clear hI S hi hsz put evc HR HC KF KC KO;go_simp
 ·have q18:=hI.val 18 (by simp [ca4P]) (S.w19_18.on hi);simp only [ca4P,ca4R,ca4D] at q18;refine S.p19.val (v:=.string ⟨t.note.toArray⟩) (w':=w) (fun o ho=>?_) (put 19 52 hi (by decide) rfl (by decide) (by decide) _ _ (Below.refl _ _) rfl)
  simp only [execOp,ho,q18];clear hI S hi hsz put evc HR HC KF KC KO;go_simp
 ·have q19:=hI.val 19 (by simp [ca4P]) (S.w20_19.on hi);simp only [ca4P,ca4R,ca4D] at q19;refine S.p20.enter (vals:=#[.string ⟨t.note.toArray⟩]) (by simp only [List.map_toArray,List.map_cons,List.map_nil,q19]) (fun xs u=>by kernel_rfl) ?_
  refine (KO w hI.bel).mono ?_
  rintro e w' ⟨rfl,hb⟩;exact ⟨_,rfl,put 20 53 hi (by decide) rfl (by decide) (by decide) _ _ hb rfl⟩
 ·have q10:=hI.val 10 (by simp [ca4P]) (S.w21_10.on hi);simp only [ca4P,ca4R,ca4D] at q10;have q12:=hI.val 12 (by simp [ca4P]) (S.w21_12.on hi);simp only [ca4P,ca4R,ca4D] at q12;have q15:=hI.val 15 (by simp [ca4P]) (S.w21_15.on hi);simp only [ca4P,ca4R,ca4D] at q15;have q17:=hI.val 17 (by simp [ca4P]) (S.w21_17.on hi);simp only [ca4P,ca4R,ca4D] at q17;have q20:=hI.val 20 (by simp [ca4P]) (S.w21_20.on hi);simp only [ca4P,ca4R,ca4D] at q20;refine S.p21.val (v:=.agg #[.string ⟨NID.toArray⟩,.bool t.opn,.string ⟨t.contact.toArray⟩,.int .i64 t.prio,.string ⟨t.note.toArray⟩]) (w':=w) (fun o ho=>?_) (put 21 54 hi (by decide) rfl (by decide) (by decide) _ _ (Below.refl _ _) rfl)
  simp only [execOp,ho];have em:Array.map (fun x:Nat × Operand=>(x.fst,a.eval x.snd)) #[(0,Operand.tmp 43),(1,Operand.tmp 45),(2,Operand.tmp 48),(3,Operand.tmp 50),(4,Operand.tmp 53)]=#[(0,.string ⟨NID.toArray⟩),(1,.bool t.opn),(2,.string ⟨t.contact.toArray⟩),(3,.int .i64 t.prio),(4,.string ⟨t.note.toArray⟩)]:=by simp only [List.map_toArray,List.map_cons,List.map_nil,q10,q12,q15,q17,q20]
  rw [em];clear hI S hi hsz put evc HR HC KF KC KO;go_simp
 ·have q21:=hI.val 21 (by simp [ca4P]) (S.w22_21.on hi);simp only [ca4P,ca4R,ca4D] at q21;refine S.p22.val (v:=.slice (some ⟨w.heap.size,0,none⟩) 1 1) (w':=w.alloc (.cells #[.string ⟨NID.toArray⟩,.bool t.opn,.string ⟨t.contact.toArray⟩,.int .i64 t.prio,.string ⟨t.note.toArray⟩] 48)) (fun o ho=>?_) (put 22 55 hi (by decide) rfl (by decide) (by decide) _ _ ((Below.refl _ w).alloc (Nat.le_refl _) _) ⟨_,rfl,by simp,by exact tu_newP w ⟨NID,t.opn,t.contact,t.prio,t.note⟩ _ rfl⟩)
  simp only [execOp,ho];have em:Array.map (fun x:Nat × Operand=>(x.fst,a.eval x.snd)) #[(0,Operand.tmp 54)]=#[(0,.agg #[.string ⟨NID.toArray⟩,.bool t.opn,.string ⟨t.contact.toArray⟩,.int .i64 t.prio,.string ⟨t.note.toArray⟩])]:=by simp only [List.map_toArray,List.map_cons,List.map_nil,q21]
  rw [em];clear hI S hi hsz put evc HR HC KF KC KO;go_simp
 ·exact absurd rfl hne
 ·have q0:=hI.val 0 (by simp [ca4P]) (S.w24_0.on hi);simp only [ca4P,ca4R,ca4D] at q0;refine S.p24.val (v:=.pointer (some ⟨b,0,none⟩)) (w':=w) (fun o ho=>?_) (put 24 57 hi (by decide) rfl (by decide) (by decide) _ _ (Below.refl _ _) rfl)
  simp only [execOp,ho,q0];clear hI S hi hsz put evc HR HC KF KC KO;go_simp
 ·have q24:=hI.val 24 (by simp [ca4P]) (S.w25_24.on hi);simp only [ca4P,ca4R,ca4D] at q24;refine S.p25.val (v:=.pointer (some ⟨b,0,none⟩)) (w':=w) (fun o ho=>?_) (put 25 58 hi (by decide) rfl (by decide) (by decide) _ _ (Below.refl _ _) rfl)
  simp only [execOp,ho,q24];clear hI S hi hsz put evc HR HC KF KC KO;go_simp
 ·have q25:=hI.val 25 (by simp [ca4P]) (S.w26_25.on hi);simp only [ca4P,ca4R,ca4D] at q25;refine S.p26.val (v:=.pointer (some ⟨b,1,none⟩)) (w':=w) (fun o ho=>?_) (put 26 59 hi (by decide) rfl (by decide) (by decide) _ _ (Below.refl _ _) rfl)
  simp only [execOp,ho,q25];clear hI S hi hsz put evc HR HC KF KC KO;go_simp
 ·have:=S.w27_23.on hi
  rw [hm] at this; cases this
set_option maxHeartbeats 4000000 in
set_option maxRecDepth 100000 in
theorem ca4_region {ops:Array Oper} (S:ca4Ops ops) (hlow:lowB .any ops=true) (hw21:∀ j,j < 23 → j ≠ 0 → ∃ i,j < i∧i≤23∧Waits ops i j) {Q:Exit → Act → World → Prop} {id:Nat} (a0:Act) (w:World) (B:Nat) (b gx n vc:Nat) (va:Option Addr) (num:Int) (t:Tu) (NID:List UInt8)
  (hsz:a0.tmps.size=60) (hdf:a0.defers=[]) (B0:a0.eval (.tmp 0)=.pointer (some ⟨b,0,none⟩)) (B1:a0.eval (.tmp 1)=.int .i64 num) (B5:a0.eval (.tmp 5)=.pointer (some ⟨gx,0,none⟩))
  (x0 x2 x3:Value) (hrow:RowIs w b 54 [x0,.slice va n vc,x2,x3]) (hbB:b < B) (hBw:B≤w.heap.size)
  (hgrow:RowIs w gx 48 [.string ⟨t.id.toArray⟩,.bool t.opn,.string ⟨t.contact.toArray⟩,.int .i64 t.prio,.string ⟨t.note.toArray⟩])
  (KF:∀ u,Below w.heap.size w u → Calls Tryz.prog 35 #[.pointer (some ⟨b,0,none⟩),.int .i64 num,.string ⟨t.id.toArray⟩] u fun e u'=>e=.returned (.string ⟨NID.toArray⟩)∧Below u.heap.size u u') (KC:∀ u,Below w.heap.size w u → Calls Tryz.prog 20 #[.string ⟨t.contact.toArray⟩] u fun e u'=>e=.returned (.string ⟨t.contact.toArray⟩)∧Below u.heap.size u u') (KO:∀ u,Below w.heap.size w u → Calls Tryz.prog 20 #[.string ⟨t.note.toArray⟩] u fun e u'=>e=.returned (.string ⟨t.note.toArray⟩)∧Below u.heap.size u u')
  (ts:List Tu) (hown:OwnU w B (.slice va n vc) ts) (hlen:ts.length≤1000000)
  (fin:∀ (v':Value) (us:List Value) (u1 u0:World),us.length=27 → OwnU u0 B v' (ts++[⟨NID,t.opn,t.contact,t.prio,t.note⟩]) → Below w.heap.size w u1 → u1.grownBy u0 (.slice va n vc:Value).ownBlock → Q .normal ⟨(a0.tmps.toList.take 33++(us++a0.tmps.toList.drop 60)).toArray,[]⟩ (u0.setCell ⟨b,1,none⟩ v')) :
  (Code.region id ops true).wp Tryz.prog Q a0 w:=by
 have hb0:Below w.heap.size w { w with drawn:=w.drawn+1 }:=⟨rfl,rfl,rfl,Nat.le_refl _,fun _ _=>rfl⟩
 have HR:∀ u,Below ({ w with drawn:=w.drawn+1 }:World).heap.size { w with drawn:=w.drawn+1 } u → u.cell? ⟨b,1,none⟩=some (.slice va n vc):=fun u hu=>(hrow.below (hb0.trans hu) (Nat.lt_of_lt_of_le hbB hBw)).cell 1 (by simp)
 have HC:∀ u,Below ({ w with drawn:=w.drawn+1 }:World).heap.size { w with drawn:=w.drawn+1 } u → u.cell? ⟨gx,0,none⟩=some (.string ⟨t.id.toArray⟩)∧u.cell? ⟨gx,1,none⟩=some (.bool t.opn)∧u.cell? ⟨gx,2,none⟩=some (.string ⟨t.contact.toArray⟩)∧u.cell? ⟨gx,3,none⟩=some (.int .i64 t.prio)∧u.cell? ⟨gx,4,none⟩=some (.string ⟨t.note.toArray⟩):=fun u hu=>by
  obtain ⟨s0,s1,s2,s3,s4,_⟩:=(hgrow.below (hb0.trans hu) hgrow.bl).rc5;exact ⟨s0,s1,s2,s3,s4⟩
 obtain ⟨i1,hj,hy0,hy1,hy2⟩:=info_parts infoTup
 refine wp_region_two followsC (ca4P a0 { w with drawn:=w.drawn+1 } b gx n vc va num t NID) 23 rfl rfl hsz hdf (by rw [S.sz]; decide) hlow
  (fun L a u=>∃ v':Value,Outs (ca4P a0 { w with drawn:=w.drawn+1 } b gx n vc va num t NID) a0 a∧a.eval (.tmp 56)=v'∧((L.getD 0 false=true → a.eval (.tmp 33)=.pointer (some ⟨b,0,none⟩))∧(L.getD 24 false=true → a.eval (.tmp 57)=.pointer (some ⟨b,0,none⟩))∧(L.getD 25 false=true → a.eval (.tmp 58)=.pointer (some ⟨b,0,none⟩))∧(L.getD 26 false=true → a.eval (.tmp 59)=.pointer (some ⟨b,1,none⟩)))∧(∀ i,i < 23 → i ≠ 0 → L.getD i false=true)∧∃ u1 u0,OwnU u0 B v' (ts++[⟨NID,t.opn,t.contact,t.prio,t.note⟩])∧Below w.heap.size w u1∧u1.grownBy u0 (.slice va n vc:Value).ownBlock∧u=if L.getD 27 false=true then u0.setCell ⟨b,1,none⟩ v' else u0)
  (fun L a u i h1 h2 h3 h4 h5=>ca4_steps S a0 { w with drawn:=w.drawn+1 } b gx n vc va num t NID B0 B1 B5 HR HC (fun u hu=>KF u (hb0.trans hu)) (fun u hu=>KC u (hb0.trans hu)) (fun u hu=>KO u (hb0.trans hu)) Q L a u i h1 h2 h3 h4 h5) ?_ ?_ ?_
 ·intro L a u hs hi hI;have q5:=hI.val 5 (by simp [ca4P]) (S.w23_5.on hi);have q22:=hI.val 22 (by simp [ca4P]) (S.w23_22.on hi);simp only [ca4P,ca4R,ca4D] at q5 q22;obtain ⟨g2,q22,_,hnew⟩:=q22;have hb1:Below w.heap.size w u:=hb0.trans hI.bel
  have hall:∀ j,j < 23 → j ≠ 0 → L.getD j false=true:=by
   have key:∀ m j,23 - j≤m → j < 23 → j ≠ 0 → L.getD j false=true:=by
    intro m
    induction m with
    | zero=>intro j h1 h2; omega
    | succ m ih =>
     intro j h1 h2 h3;obtain ⟨i,hji,hik,hw⟩:=hw21 j h2 h3;by_cases e:i=23
     ·subst e; exact hw.on hi
     ·exact hI.dn i j hw (ih i (by omega) (by omega) (by omega))
   exact fun j hj=>key (23 - j) j (Nat.le_refl _) hj
  have h0:L.getD 0 false=true → a.eval (.tmp 33)=.pointer (some ⟨b,0,none⟩):=fun hl=>hI.val 0 (by simp [ca4P]) hl;have h24:L.getD 24 false=true → a.eval (.tmp 57)=.pointer (some ⟨b,0,none⟩):=fun hl=>hI.val 24 (by simp [ca4P]) hl;have h25:L.getD 25 false=true → a.eval (.tmp 58)=.pointer (some ⟨b,0,none⟩):=fun hl=>hI.val 25 (by simp [ca4P]) hl;have h26:L.getD 26 false=true → a.eval (.tmp 59)=.pointer (some ⟨b,1,none⟩):=fun hl=>hI.val 26 (by simp [ca4P]) hl
  have h27:L.getD 27 false=false:=by
   cases h:L.getD 27 false with
   | false=>rfl
   | true=>have:=hI.dn 27 23 S.w27_23 h; rw [(ready_nots hi).1] at this; cases this
  obtain ⟨o,ho1,hg,hd,hop⟩:=S.p23;refine wpOp_of (E:=True) ho1 (step_appTu hg (.tmp 38) (.tmp 55) 25 hop B i1 _ Tryz.underlying25 hj hy0 hy1 hy2 rfl (.slice va n vc) ts q5 (hown.below hb1) ⟨g2,0,none⟩ 1 ⟨NID,t.opn,t.contact,t.prio,t.note⟩ q22 hnew (by omega) (Nat.le_trans hBw hb1.size) ?_) hg
  intro v' w' hown' hfr;rw [hd];refine ⟨v',hI.o.put 56 v' (by simp [ca4P]) (by simp [ca4P]),eval_put_same (by rw [hI.o.sz]; simp [ca4P]),⟨fun hl=>?_,fun hl=>?_,fun hl=>?_,fun hl=>?_⟩,fun j hj hj0=>?_,u,w',hown',hb1,hfr,?_⟩
  ·rw [getD_set_ne (by decide)] at hl; rw [eval_put_ne (by decide)]; exact h0 hl
  ·rw [getD_set_ne (by decide)] at hl; rw [eval_put_ne (by decide)]; exact h24 hl
  ·rw [getD_set_ne (by decide)] at hl; rw [eval_put_ne (by decide)]; exact h25 hl
  ·rw [getD_set_ne (by decide)] at hl; rw [eval_put_ne (by decide)]; exact h26 hl
  ·rw [getD_set_ne (by omega)]; exact hall j hj hj0
  ·rw [getD_set_ne (by decide),h27]; rfl
 ·rintro L a u i hs hm hi ⟨v',ho,he,⟨f0,f24,f25,f26⟩,hall,u1,u0,hown',hb1,hgr,hu⟩;obtain ⟨hn,hlt⟩:=ready_nots hi;rw [S.sz] at hlt;by_cases hi5:i < 23∧i ≠ 0
  ·rw [hall i hi5.1 hi5.2] at hn; cases hn
  rcases (show i=0∨i=23∨i=24∨i=25∨i=26∨i=27 by omega) with rfl | rfl | rfl | rfl | rfl | rfl
  ·have b0:=(ho.out 0 (.inl (by simp [ca4P]))).trans B0;refine S.p0.val (v:=.pointer (some ⟨b,0,none⟩)) (w':=u) (fun o ho2=>?_) ⟨v',ho.put 33 _ (by simp [ca4P]) (by simp [ca4P]),by rw [eval_put_ne (by decide)]; exact he,⟨fun _=>eval_put_same (by rw [ho.sz]; simp [ca4P]),fun hl=>by rw [getD_set_ne (by decide)] at hl; rw [eval_put_ne (by decide)]; exact f24 hl,fun hl=>by rw [getD_set_ne (by decide)] at hl; rw [eval_put_ne (by decide)]; exact f25 hl,fun hl=>by rw [getD_set_ne (by decide)] at hl; rw [eval_put_ne (by decide)]; exact f26 hl⟩,fun j hj hj0=>by rw [getD_set_ne (by omega)]; exact hall j hj hj0,u1,u0,hown',hb1,hgr,by rw [getD_set_ne (by decide)]; exact hu⟩
   simp only [execOp,ho2,b0];clear hu hb1 hgr hown' hall f0 f24 f25 f26 ho;go_simp
  ·rw [hm] at hn; cases hn
  ·have q0:=f0 (S.w24_0.on hi);refine S.p24.val (v:=.pointer (some ⟨b,0,none⟩)) (w':=u) (fun o ho2=>?_) ⟨v',ho.put 57 _ (by simp [ca4P]) (by simp [ca4P]),by rw [eval_put_ne (by decide)]; exact he,⟨fun hl=>by rw [getD_set_ne (by decide)] at hl; rw [eval_put_ne (by decide)]; exact f0 hl,fun _=>eval_put_same (by rw [ho.sz]; simp [ca4P]),fun hl=>by rw [getD_set_ne (by decide)] at hl; rw [eval_put_ne (by decide)]; exact f25 hl,fun hl=>by rw [getD_set_ne (by decide)] at hl; rw [eval_put_ne (by decide)]; exact f26 hl⟩,fun j hj hj0=>by rw [getD_set_ne (by omega)]; exact hall j hj hj0,u1,u0,hown',hb1,hgr,by rw [getD_set_ne (by decide)]; exact hu⟩
   simp only [execOp,ho2,q0];clear hu hb1 hgr hown' hall f0 f24 f25 f26 ho;go_simp
  ·have q24:=f24 (S.w25_24.on hi);refine S.p25.val (v:=.pointer (some ⟨b,0,none⟩)) (w':=u) (fun o ho2=>?_) ⟨v',ho.put 58 _ (by simp [ca4P]) (by simp [ca4P]),by rw [eval_put_ne (by decide)]; exact he,⟨fun hl=>by rw [getD_set_ne (by decide)] at hl; rw [eval_put_ne (by decide)]; exact f0 hl,fun hl=>by rw [getD_set_ne (by decide)] at hl; rw [eval_put_ne (by decide)]; exact f24 hl,fun _=>eval_put_same (by rw [ho.sz]; simp [ca4P]),fun hl=>by rw [getD_set_ne (by decide)] at hl; rw [eval_put_ne (by decide)]; exact f26 hl⟩,fun j hj hj0=>by rw [getD_set_ne (by omega)]; exact hall j hj hj0,u1,u0,hown',hb1,hgr,by rw [getD_set_ne (by decide)]; exact hu⟩
   simp only [execOp,ho2,q24];clear hu hb1 hgr hown' hall f0 f24 f25 f26 ho;go_simp
  ·have q25:=f25 (S.w26_25.on hi);refine S.p26.val (v:=.pointer (some ⟨b,1,none⟩)) (w':=u) (fun o ho2=>?_) ⟨v',ho.put 59 _ (by simp [ca4P]) (by simp [ca4P]),by rw [eval_put_ne (by decide)]; exact he,⟨fun hl=>by rw [getD_set_ne (by decide)] at hl; rw [eval_put_ne (by decide)]; exact f0 hl,fun hl=>by rw [getD_set_ne (by decide)] at hl; rw [eval_put_ne (by decide)]; exact f24 hl,fun hl=>by rw [getD_set_ne (by decide)] at hl; rw [eval_put_ne (by decide)]; exact f25 hl,fun _=>eval_put_same (by rw [ho.sz]; simp [ca4P])⟩,fun j hj hj0=>by rw [getD_set_ne (by omega)]; exact hall j hj hj0,u1,u0,hown',hb1,hgr,by rw [getD_set_ne (by decide)]; exact hu⟩
   simp only [execOp,ho2,q25];clear hu hb1 hgr hown' hall f0 f24 f25 f26 ho;go_simp
  ·have q26:=f26 (S.w27_26.on hi);rw [hn] at hu;simp only [Bool.false_eq_true,if_false] at hu;subst hu;have hr0:=row_grown (hrow.below hb1 (Nat.lt_of_lt_of_le hbB hBw)) hgr (fun e=>by have:=own_ge hown b e; omega);refine S.p27.skip (w':=u.setCell ⟨b,1,none⟩ v') (fun o ho2=>?_) ⟨v',ho,he,⟨fun hl=>f0 (by rw [getD_set_ne (by decide)] at hl; exact hl),fun hl=>f24 (by rw [getD_set_ne (by decide)] at hl; exact hl),fun hl=>f25 (by rw [getD_set_ne (by decide)] at hl; exact hl),fun _=>q26⟩,fun j hj hj0=>by rw [getD_set_ne (by omega)]; exact hall j hj hj0,u1,u,hown',hb1,hgr,by rw [getD_set_same (by rw [hs,S.sz]; decide)]; rfl⟩
   obtain ⟨va',vcap,hvf⟩:=hown'.form;subst hvf;have hc:=hr0.cell 1 (by simp);have hf:=hr0.frozen 1;simp only [execOp,ho2,q26,he];clear hall f0 f24 f25 f26 ho hown' HC HR KF KC KO hr0 hgr hb1;go_simp
 ·rintro L a u hs hall ⟨v',ho,he,_,_,u1,u0,hown',hb1,hgr,hu⟩;rw [hall 27 (by rw [S.sz]; decide)] at hu;simp only [if_true] at hu;subst hu;obtain ⟨us,hus,hau⟩:=ho.fin hsz (by simp [ca4P]) (by simp [ca4P]);rw [hau];exact fin v' us u1 u0 hus hown' hb1 hgr
end Go.Proofs.YtldkidljjbkmbaaGreatDoor
namespace Go.Proofs.YtldkidljjbkmbaaGreatDoor
open Go.RowKit Go.Maps Go.WideMaps Sc
section
variable {A B b m : Nat} {w w' u : World} {ent : List UInt8} {vt vn vn' vt' : Value} {st st' : List Tu × List Tu} {ns L : List (List UInt8)} {T2 : List Tu}
theorem WhI.midT (h:WhI A B b m w ent vt vn st ns) (hg:w.grownBy u vt.ownBlock):RowIs u b 54 (whL ent vt vn m) :=
 row_grown h.row hg fun e=>by have:=own_ge h.tup b e; have:=h.lb; omega
theorem WhI.putT (h:WhI A B b m w ent vt vn st ns) (hg:w.grownBy u vt.ownBlock) (ho:OwnU u B vt' T2) :
  WhI A B b m (u.setCell ⟨b,1,none⟩ vt') ent vt' vn (T2,st.2) ns∧FrW A w (u.setCell ⟨b,1,none⟩ vt'):=by
 have hm:=h.midT hg
 have hmap:TuMap u m st.2:=by
  obtain ⟨D,h1,h2⟩:=h.map;exact ⟨D,h1.kept hg (fun e=>by have:=own_ge h.tup m e.symm; have:=h.lm; omega),h2⟩
 refine ⟨⟨?_,ownsRow_setCell_below (a:=⟨b,1,none⟩) ho h.lb _,ownsRow_setCell_below (a:=⟨b,1,none⟩) (World.ownsRow.kept h.note hg (rows_neP h.tup h.note (by decide))) h.lb _,map_set hmap hm,h.lA,h.lM,h.lb,h.lm,?_⟩,(FrW.grown h.tup hg (.inl rfl) (Nat.le_trans h.lA (Nat.le_of_lt h.lb)) h.low).trans (FrW.put hm h.lA)⟩
 ·have:=hm.set 1 vt'
  simpa [whL] using this
 ·have h1:=(Below.refl 0 u).setCell (p:=⟨b,1,none⟩) (Nat.zero_le _) vt';exact Nat.le_trans h.lo (Nat.le_trans hg.size h1.size)
theorem WhI.putM (h:WhI A B b m w ent vt vn st ns) (hg:w.grownBy u (some m)) (hm:TuMap u m T2):WhI A B b m u ent vt vn (st.1,T2) ns∧FrW A w u:=by
 have hne:=map_ne h.map h.row;have hlt:=h.map.lt;have nb:∀ {B' e s n:Nat} {v:Value} {xs:List Value},B≤B' → w.ownsRow B' e s v n xs → v.ownBlock=none∨v.ownBlock ≠ some m:=fun hB ho=>.inr fun e=>by have:=own_ge ho m e; have:=h.lm; omega
 refine ⟨⟨row_grown h.row hg (fun e=>hne (by injection e)),World.ownsRow.kept h.tup hg (nb (Nat.le_refl _) h.tup),World.ownsRow.kept h.note hg (nb (Nat.le_refl _) h.note),hm,h.lA,h.lM,h.lb,h.lm,Nat.le_trans h.lo hg.size⟩,?_⟩
 refine ⟨((Below.refl w.heap.size w).mono h.low).grown hg h.low (fun g e=>by injection e with e; subst e; exact h.lM),fun k cs e x hh _ _ _=>?_⟩
 rw [hg.block k (Array.getElem?_eq_some_iff.1 hh).1 (fun e'=>by
  injection e' with e'
  subst e';obtain ⟨D,⟨es,clock,hb,_⟩,_⟩:=h.map;rw [hb] at hh
  cases hh)]
 exact hh
end
theorem stepK_in {num:Int} {st:List Tu × List Tu} {t:Tu} (h:t ∈ st.2∨st.1.length=16):stepK num st t=st:=by unfold stepK; rw [if_pos h]
theorem stepK_new {num:Int} {st:List Tu × List Tu} {t:Tu} (h1:¬ t ∈ st.2) (h2:¬ st.1.length=16):stepK num st t=(st.1++[⟨giveC st.1 num.toNat 17 1 t.id,t.opn,t.contact,t.prio,t.note⟩],st.2++[t]):=by unfold stepK; rw [if_neg (by rintro (h | h); exact h1 h; exact h2 h)]
end Go.Proofs.YtldkidljjbkmbaaGreatDoor
