/-
  RegMem, WR3, WC3, WR4, WR5.
-/
import Derived.Test.YtdbalahkmeknaaaGreatDoorPW26
set_option linter.unusedVariables false
set_option linter.unusedSimpArgs false
set_option maxRecDepth 20000
namespace Go.Proofs.YtdbalahkmeknaaaGreatDoor
open Go.RowKit
theorem wp_region_mem {P:Program} {ops:Array Oper} {Q:Exit → Act → World → Prop} {id:Nat} {a0:Act} {w:World} (hm:P.follows .mixedOrders=true) (p:MP) (hW:p.W={ w with drawn:=w.drawn+1 }) (ha:p.a0=a0) (hsz:a0.tmps.size=p.n) (hdf:a0.defers=[])
  (hops:ops.size=p.k+2) (hlow:lowB .any ops=true) (hpar:parentB ops p.k=true) (hw:waitsB ops (p.k+1) p.k=true) (F1 F2:Act → World → Prop)
  (head:∀ L a u i,L.size=ops.size → i < p.k → i ∈ Region.ready .any ops L → MI p ops L a u → wpOp P ops Q i (MI p ops (L.setIfInBounds i true)) a u)
  (mid:∀ a u,Outs p a0 a → Below p.W.heap.size p.W u → (∀ i,i < p.k → p.R i (a.eval (.tmp (p.D i))) u) → wpOp P ops Q p.k F1 a u)
  (last:∀ a u,F1 a u → wpOp P ops Q (p.k+1) F2 a u) (fin:∀ a u,F2 a u → Q .normal a u):(Code.region id ops true).wp P Q a0 w:=by
 refine wp_region_inv hm (fun L a u=>(L.getD p.k false=false∧L.getD (p.k+1) false=false∧MI p ops L a u)∨((∀ i,i < p.k → L.getD i false=true)∧L.getD p.k false=true∧L.getD (p.k+1) false=false∧F1 a u)∨((∀ i,i < p.k → L.getD i false=true)∧L.getD p.k false=true∧L.getD (p.k+1) false=true∧F2 a u)) ?_ ?_ ?_
 ·have gz:∀ j,(Array.replicate ops.size false).getD j false=false:=fun j=>by rw [Array.getD_eq_getD_getElem?,Array.getElem?_replicate]; split <;> rfl
  refine .inl ⟨gz _,gz _,⟨hsz,hdf,fun s _=>by rw [ha]⟩,by rw [hW]; exact Below.refl _ _,fun i _ hl=>?_,fun i j _ hl=>?_⟩
  ·rw [gz] at hl; cases hl
  ·rw [gz] at hl; cases hl
 ·intro L a u hs hr hI;have hall:=all_listed hlow hs hr
  rcases hI with ⟨h1,_⟩ | ⟨_,_,h1,_⟩ | ⟨_,_,_,h1⟩
  ·rw [hall p.k (by omega)] at h1; cases h1
  ·rw [hall (p.k+1) (by omega)] at h1; cases h1
  ·exact fin a u h1
 ·intro L a u i hs hi hI;obtain ⟨hn,hlt⟩:=ready_nots hi;have hww:=waits_of hw;by_cases hik:i < p.k
  ·rcases hI with ⟨h1,h2,h3⟩ | ⟨h1,_⟩ | ⟨h1,_⟩
   ·refine wpOp_mono (fun a' w' k=>.inl ⟨?_,?_,k⟩) (head L a u i hs hik hi h3)
    ·rw [getD_set_ne (by omega)]; exact h1
    ·rw [getD_set_ne (by omega)]; exact h2
   ·rw [h1 i hik] at hn; cases hn
   ·rw [h1 i hik] at hn; cases hn
  ·by_cases e:i=p.k
   ·subst e
    rcases hI with ⟨h1,h2,h3⟩ | ⟨_,h1,_⟩ | ⟨_,h1,_⟩
    ·have hal:=parent_all hpar hi h3.dn;have ho:=h3.o;rw [ha] at ho;refine wpOp_mono (fun a' w' k=>.inr (.inl ⟨fun j hj=>?_,getD_set_same (by omega),?_,k⟩)) (mid a u ho h3.bel fun j hj=>h3.val j hj (hal j hj))
     ·rw [getD_set_ne (by omega)]; exact hal j hj
     ·rw [getD_set_ne (by omega)]; exact h2
    ·rw [h1] at hn; cases hn
    ·rw [h1] at hn; cases hn
   ·have e2:i=p.k+1:=by omega
    subst e2
    rcases hI with ⟨h1,_⟩ | ⟨h0,h1,h2,h3⟩ | ⟨_,_,h1,_⟩
    ·rw [hww.on hi] at h1; cases h1
    ·refine wpOp_mono (fun a' w' k=>.inr (.inr ⟨fun j hj=>?_,?_,getD_set_same (by omega),k⟩)) (last a u h3)
     ·rw [getD_set_ne (by omega)]; exact h0 j hj
     ·rw [getD_set_ne (by omega)]; exact h1
    ·rw [h1] at hn; cases hn
theorem wp_region_two {P:Program} {ops:Array Oper} {Q:Exit → Act → World → Prop} {id:Nat} {a0:Act} {w:World} (hm:P.follows .mixedOrders=true) (p:MP) (m:Nat) (hW:p.W={ w with drawn:=w.drawn+1 }) (ha:p.a0=a0) (hsz:a0.tmps.size=p.n) (hdf:a0.defers=[])
  (hlt:m < ops.size) (hlow:lowB .any ops=true) (F:Array Bool → Act → World → Prop)
  (head:∀ L a u i,L.size=ops.size → L.getD m false=false → i ≠ m → i ∈ Region.ready .any ops L → MI p ops L a u → wpOp P ops Q i (MI p ops (L.setIfInBounds i true)) a u)
  (mid:∀ L a u,L.size=ops.size → m ∈ Region.ready .any ops L → MI p ops L a u → wpOp P ops Q m (F (L.setIfInBounds m true)) a u)
  (tail:∀ L a u i,L.size=ops.size → L.getD m false=true → i ∈ Region.ready .any ops L → F L a u → wpOp P ops Q i (F (L.setIfInBounds i true)) a u)
  (fin:∀ L a u,L.size=ops.size → (∀ j,j < ops.size → L.getD j false=true) → F L a u → Q .normal a u):(Code.region id ops true).wp P Q a0 w:=by
 refine wp_region_inv hm (fun L a u=>(L.getD m false=false∧MI p ops L a u)∨(L.getD m false=true∧F L a u)) ?_ ?_ ?_
 ·have gz:∀ j,(Array.replicate ops.size false).getD j false=false:=fun j=>by rw [Array.getD_eq_getD_getElem?,Array.getElem?_replicate]; split <;> rfl
  refine .inl ⟨gz _,⟨hsz,hdf,fun s _=>by rw [ha]⟩,by rw [hW]; exact Below.refl _ _,fun i _ hl=>?_,fun i j _ hl=>?_⟩
  ·rw [gz] at hl; cases hl
  ·rw [gz] at hl; cases hl
 ·intro L a u hs hr hI;have hall:=all_listed hlow hs hr
  rcases hI with ⟨h1,_⟩ | ⟨_,h1⟩
  ·rw [hall m hlt] at h1; cases h1
  ·exact fin L a u hs hall h1
 ·intro L a u i hs hi hI;obtain ⟨hn,_⟩:=ready_nots hi
  rcases hI with ⟨h1,h2⟩ | ⟨h1,h2⟩
  ·by_cases e:i=m
   ·subst e;exact wpOp_mono (fun a' w' k=>.inr ⟨getD_set_same (by omega),k⟩) (mid L a u hs hi h2)
   ·exact wpOp_mono (fun a' w' k=>.inl ⟨by rw [getD_set_ne (Ne.symm e)]; exact h1,k⟩) (head L a u i hs h1 e hi h2)
  ·have e:i ≠ m:=fun e=>by subst e; rw [h1] at hn; cases hn
   exact wpOp_mono (fun a' w' k=>.inr ⟨by rw [getD_set_ne (Ne.symm e)]; exact h1,k⟩) (tail L a u i hs h1 hi h2)
end Go.Proofs.YtdbalahkmeknaaaGreatDoor
namespace Go.Proofs.YtdbalahkmeknaaaGreatDoor
open Go.RowKit Sc
theorem followsM:Tryz.prog.follows .mixedOrders=true:=by kernel_rfl
def ps7 (dl:List UInt8) (t:Wt):List Par:=[atr pidK (119 :: dl),atr pstatK t.stat,atr weventK t.ev]
def nd7 (dl:List UInt8) (t:Wt):Nd:=⟨2,watcherK,ps7 dl t,sipcK++t.uri⟩
theorem ownP_row {W:World} {B b:Nat} {ps:List Par} (h:RowIs W b 70 (parsCells ps)) (hb:B≤b) (n:Nat) (hn:ps.length=n) (hm:n≤1000):OwnP W B (.slice (some ⟨b,0,none⟩) n n) ps:=by
 subst hn;refine ⟨parsCells_len ps,.inr ⟨_,_,(parsCells ps).toArray,rfl,hb,h,Nat.le_refl _,by unfold maxLen; omega,by simp [parsCells_len],?_⟩⟩
 rw [List.take_of_length_le (by simp [parsCells_len])]
def mixA3 (x0 x1 x2 x3 x4 x5:List UInt8):Nat → List Value
 | 0=>[.string ⟨#[]⟩,.string ⟨#[]⟩,.bool false,.string ⟨#[]⟩,.string ⟨#[]⟩,.bool false,.string ⟨#[]⟩,.string ⟨#[]⟩,.bool false]
 | 1=>[.string ⟨x0.toArray⟩,.string ⟨x1.toArray⟩,.bool true,.string ⟨#[]⟩,.string ⟨#[]⟩,.bool false,.string ⟨#[]⟩,.string ⟨#[]⟩,.bool false]
 | 2=>[.string ⟨x0.toArray⟩,.string ⟨x1.toArray⟩,.bool true,.string ⟨x2.toArray⟩,.string ⟨x3.toArray⟩,.bool true,.string ⟨#[]⟩,.string ⟨#[]⟩,.bool false]
 | _=>[.string ⟨x0.toArray⟩,.string ⟨x1.toArray⟩,.bool true,.string ⟨x2.toArray⟩,.string ⟨x3.toArray⟩,.bool true,.string ⟨x4.toArray⟩,.string ⟨x5.toArray⟩,.bool true]
theorem makeA3 (u:World):(Instr.makeSlice 47 (.int .i64 3) (.int .i64 3)).run Tryz.prog u=.ok (.slice (some ⟨u.heap.size,0,none⟩) 3 3) (u.alloc (.cells #[.string ⟨#[]⟩,.string ⟨#[]⟩,.bool false,.string ⟨#[]⟩,.string ⟨#[]⟩,.bool false,.string ⟨#[]⟩,.string ⟨#[]⟩,.bool false] 70)):=by kernel_rfl
theorem six3 {W:World} {g:Nat} {x0 x1 x2 x3 x4 x5:List UInt8} (h:RowIs W g 9 [.string ⟨x0.toArray⟩,.string ⟨x1.toArray⟩,.string ⟨x2.toArray⟩,.string ⟨x3.toArray⟩,.string ⟨x4.toArray⟩,.string ⟨x5.toArray⟩]):W.cell? ⟨g,0,none⟩=some (.string ⟨x0.toArray⟩)∧W.cell? ⟨g,1,none⟩=some (.string ⟨x1.toArray⟩)∧W.cell? ⟨g,2,none⟩=some (.string ⟨x2.toArray⟩)∧W.cell? ⟨g,3,none⟩=some (.string ⟨x3.toArray⟩)∧W.cell? ⟨g,4,none⟩=some (.string ⟨x4.toArray⟩)∧W.cell? ⟨g,5,none⟩=some (.string ⟨x5.toArray⟩):=⟨h.cell 0 (by simp),h.cell 1 (by simp),h.cell 2 (by simp),h.cell 3 (by simp),h.cell 4 (by simp),h.cell 5 (by simp)⟩
theorem mixc3 {W:World} {b j:Nat} {x0 x1 x2 x3 x4 x5:List UInt8} (h:RowIs W b 70 (mixA3 x0 x1 x2 x3 x4 x5 j)):W.frozen? ⟨b,0,none⟩=false∧W.frozen? ⟨b,1,none⟩=false∧W.frozen? ⟨b,2,none⟩=false∧W.frozen? ⟨b,3,none⟩=false∧W.frozen? ⟨b,4,none⟩=false∧W.frozen? ⟨b,5,none⟩=false∧W.frozen? ⟨b,6,none⟩=false∧W.frozen? ⟨b,7,none⟩=false∧W.frozen? ⟨b,8,none⟩=false:=⟨h.frozen 0,h.frozen 1,h.frozen 2,h.frozen 3,h.frozen 4,h.frozen 5,h.frozen 6,h.frozen 7,h.frozen 8⟩
theorem mixd3_0 {W:World} {b:Nat} {x0 x1 x2 x3 x4 x5:List UInt8} (h:RowIs W b 70 (mixA3 x0 x1 x2 x3 x4 x5 0)):W.cell? ⟨b,0,none⟩=some (.string ⟨#[]⟩)∧W.cell? ⟨b,1,none⟩=some (.string ⟨#[]⟩)∧W.cell? ⟨b,2,none⟩=some (.bool false):=⟨h.cell 0 (by simp [mixA3]),h.cell 1 (by simp [mixA3]),h.cell 2 (by simp [mixA3])⟩
theorem mixs3_0 {W:World} {b:Nat} {x0 x1 x2 x3 x4 x5:List UInt8} (h:RowIs W b 70 (mixA3 x0 x1 x2 x3 x4 x5 0)):RowIs (((W.setCell ⟨b,0,none⟩ (.string ⟨x0.toArray⟩)).setCell ⟨b,1,none⟩ (.string ⟨x1.toArray⟩)).setCell ⟨b,2,none⟩ (.bool true)) b 70 (mixA3 x0 x1 x2 x3 x4 x5 1):=((h.set 0 _).set 1 _).set 2 _
theorem mixd3_1 {W:World} {b:Nat} {x0 x1 x2 x3 x4 x5:List UInt8} (h:RowIs W b 70 (mixA3 x0 x1 x2 x3 x4 x5 1)):W.cell? ⟨b,3,none⟩=some (.string ⟨#[]⟩)∧W.cell? ⟨b,4,none⟩=some (.string ⟨#[]⟩)∧W.cell? ⟨b,5,none⟩=some (.bool false):=⟨h.cell 3 (by simp [mixA3]),h.cell 4 (by simp [mixA3]),h.cell 5 (by simp [mixA3])⟩
theorem mixs3_1 {W:World} {b:Nat} {x0 x1 x2 x3 x4 x5:List UInt8} (h:RowIs W b 70 (mixA3 x0 x1 x2 x3 x4 x5 1)):RowIs (((W.setCell ⟨b,3,none⟩ (.string ⟨x2.toArray⟩)).setCell ⟨b,4,none⟩ (.string ⟨x3.toArray⟩)).setCell ⟨b,5,none⟩ (.bool true)) b 70 (mixA3 x0 x1 x2 x3 x4 x5 2):=((h.set 3 _).set 4 _).set 5 _
theorem mixd3_2 {W:World} {b:Nat} {x0 x1 x2 x3 x4 x5:List UInt8} (h:RowIs W b 70 (mixA3 x0 x1 x2 x3 x4 x5 2)):W.cell? ⟨b,6,none⟩=some (.string ⟨#[]⟩)∧W.cell? ⟨b,7,none⟩=some (.string ⟨#[]⟩)∧W.cell? ⟨b,8,none⟩=some (.bool false):=⟨h.cell 6 (by simp [mixA3]),h.cell 7 (by simp [mixA3]),h.cell 8 (by simp [mixA3])⟩
theorem mixs3_2 {W:World} {b:Nat} {x0 x1 x2 x3 x4 x5:List UInt8} (h:RowIs W b 70 (mixA3 x0 x1 x2 x3 x4 x5 2)):RowIs (((W.setCell ⟨b,6,none⟩ (.string ⟨x4.toArray⟩)).setCell ⟨b,7,none⟩ (.string ⟨x5.toArray⟩)).setCell ⟨b,8,none⟩ (.bool true)) b 70 (mixA3 x0 x1 x2 x3 x4 x5 3):=((h.set 6 _).set 7 _).set 8 _
set_option maxHeartbeats 4000000 in
set_option maxRecDepth 100000 in
theorem wattrs3_any (g:Nat) (x0 x1 x2 x3 x4 x5:List UInt8) (w:World) (hw:RowIs w g 9 [.string ⟨x0.toArray⟩,.string ⟨x1.toArray⟩,.string ⟨x2.toArray⟩,.string ⟨x3.toArray⟩,.string ⟨x4.toArray⟩,.string ⟨x5.toArray⟩]) :
  Calls Tryz.prog 42 #[.slice (some ⟨g,0,none⟩) 6 6] w fun e w'=>e=.returned (.slice (some ⟨w.heap.size,0,none⟩) 3 3)∧OwnP w' w.heap.size (.slice (some ⟨w.heap.size,0,none⟩) 3 3) [atr x0 x1,atr x2 x3,atr x4 x5]∧Below w.heap.size w w':=by
 have hgl:g < w.heap.size:=(Array.getElem?_eq_some_iff.1 (show w.heap[g]? = some _ from hw)).1;have hmk:=makeA3;have hr0:RowIs (w.alloc (.cells #[.string ⟨#[]⟩,.string ⟨#[]⟩,.bool false,.string ⟨#[]⟩,.string ⟨#[]⟩,.bool false,.string ⟨#[]⟩,.string ⟨#[]⟩,.bool false] 70)) w.heap.size 70 (mixA3 x0 x1 x2 x3 x4 x5 0):=heap_alloc_new _ _;have hb0:Below w.heap.size w (w.alloc (.cells #[.string ⟨#[]⟩,.string ⟨#[]⟩,.bool false,.string ⟨#[]⟩,.string ⟨#[]⟩,.bool false,.string ⟨#[]⟩,.string ⟨#[]⟩,.bool false] 70)):=(Below.refl _ w).alloc (Nat.le_refl _) _;have HW:=hid (fun (W':World) (h:Below w.heap.size w W')=>hw.below h hgl);have HR0:=hid hr0;have HB0:=hid hb0;clear hw hr0 hb0
 go_enter Tryz.func42,Tryz.ntmps42
 go_upto_region 2 with fail
 clear hmk;generalize World.alloc w _=W0 at HR0 HB0 ⊢;go_wp2
 go_loopw [11] (fun i wr=>∃ j:Nat,j≤3∧i=.int .i64 (j:Int)∧Hid (RowIs wr w.heap.size 70 (mixA3 x0 x1 x2 x3 x4 x5 j))∧Hid (Below w.heap.size w wr)) (fun i _=>3 - (intOf i).toNat)
 case atStart=>exact ⟨0,by decide,rfl,HR0,HB0⟩
 case round =>
  clear HR0 HB0;obtain ⟨j,hj,rfl,hr,hb⟩:=hrel
  rcases (show j=0∨j=1∨j=2∨j=3 by omega) with rfl | rfl | rfl | rfl
  ·obtain ⟨k0,k1,k2,k3,k4,k5⟩:=six3 (HW.out wr hb.out);obtain ⟨f0,f1,f2,f3,f4,f5,f6,f7,f8⟩:=mixc3 hr.out;obtain ⟨m0,m1,m2⟩:=mixd3_0 hr.out;have hS:=hid (mixs3_0 hr.out);have hB:=hid (((hb.out.setCell (show w.heap.size≤(⟨w.heap.size,0,none⟩:Addr).block from Nat.le_refl _) (.string ⟨x0.toArray⟩)).setCell (show w.heap.size≤(⟨w.heap.size,1,none⟩:Addr).block from Nat.le_refl _) (.string ⟨x1.toArray⟩)).setCell (show w.heap.size≤(⟨w.heap.size,2,none⟩:Addr).block from Nat.le_refl _) (.bool true));go_wp2
   go_region
   generalize World.setCell _ _ _=w5 at hS hB ⊢;go_wp2;go_roundw
   case rel=>exact ⟨1,by decide,by go_num,hS,hB.out.drew⟩
   case measure=>simp [intOf]
  ·obtain ⟨k0,k1,k2,k3,k4,k5⟩:=six3 (HW.out wr hb.out);obtain ⟨f0,f1,f2,f3,f4,f5,f6,f7,f8⟩:=mixc3 hr.out;obtain ⟨m0,m1,m2⟩:=mixd3_1 hr.out;have hS:=hid (mixs3_1 hr.out);have hB:=hid (((hb.out.setCell (show w.heap.size≤(⟨w.heap.size,3,none⟩:Addr).block from Nat.le_refl _) (.string ⟨x2.toArray⟩)).setCell (show w.heap.size≤(⟨w.heap.size,4,none⟩:Addr).block from Nat.le_refl _) (.string ⟨x3.toArray⟩)).setCell (show w.heap.size≤(⟨w.heap.size,5,none⟩:Addr).block from Nat.le_refl _) (.bool true));go_wp2
   go_region
   generalize World.setCell _ _ _=w5 at hS hB ⊢;go_wp2;go_roundw
   case rel=>exact ⟨2,by decide,by go_num,hS,hB.out.drew⟩
   case measure=>simp [intOf]
  ·obtain ⟨k0,k1,k2,k3,k4,k5⟩:=six3 (HW.out wr hb.out);obtain ⟨f0,f1,f2,f3,f4,f5,f6,f7,f8⟩:=mixc3 hr.out;obtain ⟨m0,m1,m2⟩:=mixd3_2 hr.out;have hS:=hid (mixs3_2 hr.out);have hB:=hid (((hb.out.setCell (show w.heap.size≤(⟨w.heap.size,6,none⟩:Addr).block from Nat.le_refl _) (.string ⟨x4.toArray⟩)).setCell (show w.heap.size≤(⟨w.heap.size,7,none⟩:Addr).block from Nat.le_refl _) (.string ⟨x5.toArray⟩)).setCell (show w.heap.size≤(⟨w.heap.size,8,none⟩:Addr).block from Nat.le_refl _) (.bool true));go_wp2
   go_region
   generalize World.setCell _ _ _=w5 at hS hB ⊢;go_wp2;go_roundw
   case rel=>exact ⟨3,by decide,by go_num,hS,hB.out.drew⟩
   case measure=>simp [intOf]
  ·go_wp2;go_ret;exact ⟨rfl,ownP_row hr.out (Nat.le_refl _) 3 rfl (by decide),hb.out⟩
def mixA2 (x0 x1 x2 x3:List UInt8):Nat → List Value
 | 0=>[.string ⟨#[]⟩,.string ⟨#[]⟩,.bool false,.string ⟨#[]⟩,.string ⟨#[]⟩,.bool false]
 | 1=>[.string ⟨x0.toArray⟩,.string ⟨x1.toArray⟩,.bool true,.string ⟨#[]⟩,.string ⟨#[]⟩,.bool false]
 | _=>[.string ⟨x0.toArray⟩,.string ⟨x1.toArray⟩,.bool true,.string ⟨x2.toArray⟩,.string ⟨x3.toArray⟩,.bool true]
theorem makeA2 (u:World):(Instr.makeSlice 47 (.int .i64 2) (.int .i64 2)).run Tryz.prog u=.ok (.slice (some ⟨u.heap.size,0,none⟩) 2 2) (u.alloc (.cells #[.string ⟨#[]⟩,.string ⟨#[]⟩,.bool false,.string ⟨#[]⟩,.string ⟨#[]⟩,.bool false] 70)):=by kernel_rfl
theorem six2 {W:World} {g:Nat} {x0 x1 x2 x3:List UInt8} (h:RowIs W g 9 [.string ⟨x0.toArray⟩,.string ⟨x1.toArray⟩,.string ⟨x2.toArray⟩,.string ⟨x3.toArray⟩]):W.cell? ⟨g,0,none⟩=some (.string ⟨x0.toArray⟩)∧W.cell? ⟨g,1,none⟩=some (.string ⟨x1.toArray⟩)∧W.cell? ⟨g,2,none⟩=some (.string ⟨x2.toArray⟩)∧W.cell? ⟨g,3,none⟩=some (.string ⟨x3.toArray⟩):=⟨h.cell 0 (by simp),h.cell 1 (by simp),h.cell 2 (by simp),h.cell 3 (by simp)⟩
theorem mixc2 {W:World} {b j:Nat} {x0 x1 x2 x3:List UInt8} (h:RowIs W b 70 (mixA2 x0 x1 x2 x3 j)):W.frozen? ⟨b,0,none⟩=false∧W.frozen? ⟨b,1,none⟩=false∧W.frozen? ⟨b,2,none⟩=false∧W.frozen? ⟨b,3,none⟩=false∧W.frozen? ⟨b,4,none⟩=false∧W.frozen? ⟨b,5,none⟩=false:=⟨h.frozen 0,h.frozen 1,h.frozen 2,h.frozen 3,h.frozen 4,h.frozen 5⟩
theorem mixd2_0 {W:World} {b:Nat} {x0 x1 x2 x3:List UInt8} (h:RowIs W b 70 (mixA2 x0 x1 x2 x3 0)):W.cell? ⟨b,0,none⟩=some (.string ⟨#[]⟩)∧W.cell? ⟨b,1,none⟩=some (.string ⟨#[]⟩)∧W.cell? ⟨b,2,none⟩=some (.bool false):=⟨h.cell 0 (by simp [mixA2]),h.cell 1 (by simp [mixA2]),h.cell 2 (by simp [mixA2])⟩
theorem mixs2_0 {W:World} {b:Nat} {x0 x1 x2 x3:List UInt8} (h:RowIs W b 70 (mixA2 x0 x1 x2 x3 0)):RowIs (((W.setCell ⟨b,0,none⟩ (.string ⟨x0.toArray⟩)).setCell ⟨b,1,none⟩ (.string ⟨x1.toArray⟩)).setCell ⟨b,2,none⟩ (.bool true)) b 70 (mixA2 x0 x1 x2 x3 1):=((h.set 0 _).set 1 _).set 2 _
theorem mixd2_1 {W:World} {b:Nat} {x0 x1 x2 x3:List UInt8} (h:RowIs W b 70 (mixA2 x0 x1 x2 x3 1)):W.cell? ⟨b,3,none⟩=some (.string ⟨#[]⟩)∧W.cell? ⟨b,4,none⟩=some (.string ⟨#[]⟩)∧W.cell? ⟨b,5,none⟩=some (.bool false):=⟨h.cell 3 (by simp [mixA2]),h.cell 4 (by simp [mixA2]),h.cell 5 (by simp [mixA2])⟩
theorem mixs2_1 {W:World} {b:Nat} {x0 x1 x2 x3:List UInt8} (h:RowIs W b 70 (mixA2 x0 x1 x2 x3 1)):RowIs (((W.setCell ⟨b,3,none⟩ (.string ⟨x2.toArray⟩)).setCell ⟨b,4,none⟩ (.string ⟨x3.toArray⟩)).setCell ⟨b,5,none⟩ (.bool true)) b 70 (mixA2 x0 x1 x2 x3 2):=((h.set 3 _).set 4 _).set 5 _
set_option maxHeartbeats 4000000 in
set_option maxRecDepth 100000 in
theorem wattrs2_any (g:Nat) (x0 x1 x2 x3:List UInt8) (w:World) (hw:RowIs w g 9 [.string ⟨x0.toArray⟩,.string ⟨x1.toArray⟩,.string ⟨x2.toArray⟩,.string ⟨x3.toArray⟩]) :
  Calls Tryz.prog 42 #[.slice (some ⟨g,0,none⟩) 4 4] w fun e w'=>e=.returned (.slice (some ⟨w.heap.size,0,none⟩) 2 2)∧OwnP w' w.heap.size (.slice (some ⟨w.heap.size,0,none⟩) 2 2) [atr x0 x1,atr x2 x3]∧Below w.heap.size w w':=by
 have hgl:g < w.heap.size:=(Array.getElem?_eq_some_iff.1 (show w.heap[g]? = some _ from hw)).1;have hmk:=makeA2;have hr0:RowIs (w.alloc (.cells #[.string ⟨#[]⟩,.string ⟨#[]⟩,.bool false,.string ⟨#[]⟩,.string ⟨#[]⟩,.bool false] 70)) w.heap.size 70 (mixA2 x0 x1 x2 x3 0):=heap_alloc_new _ _;have hb0:Below w.heap.size w (w.alloc (.cells #[.string ⟨#[]⟩,.string ⟨#[]⟩,.bool false,.string ⟨#[]⟩,.string ⟨#[]⟩,.bool false] 70)):=(Below.refl _ w).alloc (Nat.le_refl _) _;have HW:=hid (fun (W':World) (h:Below w.heap.size w W')=>hw.below h hgl);have HR0:=hid hr0;have HB0:=hid hb0;clear hw hr0 hb0
 go_enter Tryz.func42,Tryz.ntmps42
 go_upto_region 2 with fail
 clear hmk;generalize World.alloc w _=W0 at HR0 HB0 ⊢;go_wp2
 go_loopw [11] (fun i wr=>∃ j:Nat,j≤2∧i=.int .i64 (j:Int)∧Hid (RowIs wr w.heap.size 70 (mixA2 x0 x1 x2 x3 j))∧Hid (Below w.heap.size w wr)) (fun i _=>2 - (intOf i).toNat)
 case atStart=>exact ⟨0,by decide,rfl,HR0,HB0⟩
 case round =>
  clear HR0 HB0;obtain ⟨j,hj,rfl,hr,hb⟩:=hrel
  rcases (show j=0∨j=1∨j=2 by omega) with rfl | rfl | rfl
  ·obtain ⟨k0,k1,k2,k3⟩:=six2 (HW.out wr hb.out);obtain ⟨f0,f1,f2,f3,f4,f5⟩:=mixc2 hr.out;obtain ⟨m0,m1,m2⟩:=mixd2_0 hr.out;have hS:=hid (mixs2_0 hr.out);have hB:=hid (((hb.out.setCell (show w.heap.size≤(⟨w.heap.size,0,none⟩:Addr).block from Nat.le_refl _) (.string ⟨x0.toArray⟩)).setCell (show w.heap.size≤(⟨w.heap.size,1,none⟩:Addr).block from Nat.le_refl _) (.string ⟨x1.toArray⟩)).setCell (show w.heap.size≤(⟨w.heap.size,2,none⟩:Addr).block from Nat.le_refl _) (.bool true));go_wp2
   go_region
   generalize World.setCell _ _ _=w5 at hS hB ⊢;go_wp2;go_roundw
   case rel=>exact ⟨1,by decide,by go_num,hS,hB.out.drew⟩
   case measure=>simp [intOf]
  ·obtain ⟨k0,k1,k2,k3⟩:=six2 (HW.out wr hb.out);obtain ⟨f0,f1,f2,f3,f4,f5⟩:=mixc2 hr.out;obtain ⟨m0,m1,m2⟩:=mixd2_1 hr.out;have hS:=hid (mixs2_1 hr.out);have hB:=hid (((hb.out.setCell (show w.heap.size≤(⟨w.heap.size,3,none⟩:Addr).block from Nat.le_refl _) (.string ⟨x2.toArray⟩)).setCell (show w.heap.size≤(⟨w.heap.size,4,none⟩:Addr).block from Nat.le_refl _) (.string ⟨x3.toArray⟩)).setCell (show w.heap.size≤(⟨w.heap.size,5,none⟩:Addr).block from Nat.le_refl _) (.bool true));go_wp2
   go_region
   generalize World.setCell _ _ _=w5 at hS hB ⊢;go_wp2;go_roundw
   case rel=>exact ⟨2,by decide,by go_num,hS,hB.out.drew⟩
   case measure=>simp [intOf]
  ·go_wp2;go_ret;exact ⟨rfl,ownP_row hr.out (Nat.le_refl _) 2 rfl (by decide),hb.out⟩
def ps1 (dl:List UInt8):List Par:=[atr xmlnsK wspaceK,atr versionK dl,atr stateK fullK]
def nd1 (dl:List UInt8):Nd:=⟨0,winfoK,ps1 dl,[]⟩
theorem own_neI {w:World} {B b:Nat} {v:Value} {cs:List NdC} {l:List Value} (h:OwnN w B v cs) (hr:RowIs w b 24 l):v.ownBlock ≠ some b:=by
 intro e
 rcases h.1.2 with ⟨rfl,_⟩ | ⟨g,cap,cur,rfl,_,hg,_⟩
 ·cases e
 ·injection e with e
  simp only at e;subst e;unfold RowIs at hr;rw [hg] at hr
  injection hr with hr
  injection hr with _ h2
  exact absurd h2 (by decide)
structure PSi (w:World) (dl:List Value) (W:World) (v:Value) (cs:List NdC):Prop where
 own:OwnN W w.heap.size v cs
 row:RowIs W w.heap.size 24 dl
 bel:Below w.heap.size w W
theorem PSi.lt {w:World} {dl:List Value} {W:World} {v:Value} {cs:List NdC} (h:PSi w dl W v cs):w.heap.size < W.heap.size:=(Array.getElem?_eq_some_iff.1 (show W.heap[w.heap.size]? = some _ from h.row)).1
theorem PSi.below {w:World} {dl:List Value} {W W':World} {v:Value} {cs:List NdC} (h:PSi w dl W v cs) (hb:Below W.heap.size W W'):PSi w dl W' v cs :=
 ⟨h.own.below hb,h.row.below hb h.lt,h.bel.trans (hb.mono h.bel.size)⟩
theorem PSi.alloc {w:World} {dl:List Value} {W:World} {v:Value} {cs:List NdC} (h:PSi w dl W v cs) (o:Obj):PSi w dl (W.alloc o) v cs:=h.below ((Below.refl _ W).alloc (Nat.le_refl _) o)
theorem PSi.app {w:World} {dl:List Value} {W w5:World} {v v5:Value} {cs cs5:List NdC} (h:PSi w dl W v cs) (hf:FrN v W v5 w5) (ho:OwnN w5 w.heap.size v5 cs5):PSi w dl w5 v5 cs5 :=
 ⟨ho,hf.row h.row h.lt (own_neI h.own h.row),h.bel.trans (hf.to h.bel.size fun g hg=>(World.ownsRow.lt h.own.1 g hg).1)⟩
def ps2 (rs:List UInt8):List Par:=[atr resourceK (sipcK++rs),atr packageK presenceK]
def nd2 (rs:List UInt8):Nd:=⟨1,wlistK,ps2 rs,[]⟩
def TelI (F:List Nd) (w:World) (e:Ending) (w':World):Prop:=∃ v cs,e=.returned v∧ndsL cs=F∧OwnN w' w.heap.size v cs∧Below w.heap.size w w'
theorem nds_snocI (cs:List NdC) (c:NdC):ndsL (cs++[c])=ndsL cs++[c.nd]:=by simp [ndsL]
theorem wts_next {wl:List Wt} {j:Nat} (h:j < wl.length):(wl.take (j+1)).map wtN=(wl.take j).map wtN++[wtN wl[j]]:=by
 rw [List.take_succ_eq_append_getElem h,List.map_append]; rfl
end Go.Proofs.YtdbalahkmeknaaaGreatDoor
