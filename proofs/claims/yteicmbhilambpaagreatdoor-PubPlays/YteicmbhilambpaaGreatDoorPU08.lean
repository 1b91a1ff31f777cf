/-
  ScanKit, InvAny, OpKit, PubQ, PubS, RegMem, PubV, RX1, RX2, RX7, RX9, RefDig.
-/
import Derived.Test.YteicmbhilambpaaGreatDoorPU07
set_option linter.unusedVariables false
set_option linter.unusedSimpArgs false
set_option maxRecDepth 20000
namespace Go.Proofs.YteicmbhilambpaaGreatDoor
open Go.RowKit Sc
theorem reftoken_list (l:List UInt8) (w:World) (h:l.length≤140737488355328) :
  Calls Tryz.prog 26 #[.string ⟨l.toArray⟩] w fun e w'=>e=.returned (.bool (tokenB l))∧w'=w:=reftoken_any ⟨l.toArray⟩ w (by rw [size_list]; unfold maxLen; omega)
theorem refsame_list (a b:List UInt8) (w:World) (ha:a.length≤140737488355328) (hb:b.length≤140737488355328) :
  Calls Tryz.prog 150 #[.string ⟨a.toArray⟩,.string ⟨b.toArray⟩] w fun e w'=>e=.returned (.bool (sameB a b))∧Below w.heap.size w w' :=
 refsame_any ⟨a.toArray⟩ ⟨b.toArray⟩ w (by simp [ByteArray.size]; omega) (by simp [ByteArray.size]; omega)
end Go.Proofs.YteicmbhilambpaaGreatDoor
namespace Go.Proofs.YteicmbhilambpaaGreatDoor
section
variable {P : Program} {md : Region.Mode} {ops : Array Oper} {Q : Exit → Act → World → Prop}
theorem count_set {L:Array Bool} {i:Nat} (h:L.getD i true=false):(L.setIfInBounds i true).toList.count false+1=L.toList.count false:=by
 have hi:i < L.size:=by
  rcases Nat.lt_or_ge i L.size with h1 | h1
  ·exact h1
  ·rw [Array.getD_eq_getD_getElem?,Array.getElem?_eq_none h1] at h; simp at h
 have hv:L.toList[i]'(by simpa using hi)=false:=by
  rw [Array.getD_eq_getD_getElem?,Array.getElem?_eq_getElem hi] at h
  simpa using h
 have hm:false ∈ L.toList:=by rw [← hv]; exact List.getElem_mem _
 have hc:0 < L.toList.count false:=List.count_pos_iff.2 hm;rw [Array.toList_setIfInBounds,List.count_set (by simpa using hi),hv];have a1:(if (false==false)=true then (1:Nat) else 0)=1:=by decide
 have a2:(if (true==false)=true then (1:Nat) else 0)=0:=by decide
 rw [a1,a2];omega
theorem wpAny_inv (Inv:Array Bool → Act → World → Prop)
  (hend:∀ L a w,L.size=ops.size → Region.ready md ops L=[] → Inv L a w → Q .normal a w)
  (hstep:∀ L a w i,L.size=ops.size → i ∈ Region.ready md ops L → Inv L a w → wpOp P ops Q i (Inv (L.setIfInBounds i true)) a w) :
  ∀ (f:Nat) (L:Array Bool) (a:Act) (w:World),L.size=ops.size → L.toList.count false≤f → Inv L a w → wpAny P md ops Q f L a w:=by
 intro f
 induction f with
 | zero =>
  intro L a w hs hc hI
  have hr:Region.ready md ops L=[]:=by
   apply List.eq_nil_iff_forall_not_mem.2
   intro i hi
   have:=count_set (mem_ready.1 hi).1
   omega
  exact ⟨hr,hend L a w hs hr hI⟩
 | succ f ih =>
  intro L a w hs hc hI;refine ⟨fun hr=>hend L a w hs hr hI,fun i hi=>?_⟩
  refine wpOp_mono (fun a' w' k=>ih _ a' w' (by simpa using hs) ?_ k) (hstep L a w i hs hi hI)
  have:=count_set (mem_ready.1 hi).1
  omega
def lowB (md:Region.Mode) (ops:Array Oper):Bool:=(List.range ops.size).all fun j=>match ops[j]? with
 | some o=>o.after.all fun e=>!Region.binds md e || decide (e.on < j)
 | none=>false
theorem all_listed (hl:lowB md ops=true) {L:Array Bool} (hs:L.size=ops.size) (hr:Region.ready md ops L=[]):∀ j,j < ops.size → L.getD j false=true:=by
 intro j
 induction j using Nat.strongRecOn with
 | _ j ih =>
  intro hj;have h1:=List.all_eq_true.1 hl j (List.mem_range.2 hj);have ho:ops[j]? = some ops[j]:=Array.getElem?_eq_getElem hj;rw [ho] at h1;simp only at h1
  cases e:L[j]? with
  | none=>rw [Array.getElem?_eq_none_iff] at e; omega
  | some b =>
   cases b with
   | true=>rw [Array.getD_eq_getD_getElem?,e]; rfl
   | false =>
    exfalso
    have:j ∈ Region.ready md ops L:=by
     rw [mem_ready];refine ⟨by rw [Array.getD_eq_getD_getElem?,e]; rfl,ops[j],ho,fun x hx hb=>?_⟩
     have h2:=Array.all_eq_true_iff_forall_mem.1 h1 x hx;simp only [hb,Bool.not_true,Bool.false_or,decide_eq_true_eq] at h2;exact ih x.on h2 (by omega)
    rw [hr] at this
    cases this
theorem wp_region_inv {id:Nat} {a:Act} {w:World} (hm:P.follows .mixedOrders=true) (Inv:Array Bool → Act → World → Prop) (h0:Inv (Array.replicate ops.size false) a { w with drawn:=w.drawn+1 })
  (hend:∀ L a w,L.size=ops.size → Region.ready .any ops L=[] → Inv L a w → Q .normal a w)
  (hstep:∀ L a w i,L.size=ops.size → i ∈ Region.ready .any ops L → Inv L a w → wpOp P ops Q i (Inv (L.setIfInBounds i true)) a w):(Code.region id ops true).wp P Q a w :=
 wp_region_any hm (wpAny_inv Inv hend hstep ops.size _ a _ (by simp) (by simp) h0)
theorem wpOp_val {i:Nat} {o:Oper} {K:Act → World → Prop} {a:Act} {w w':World} {v:Value} (ho:ops[i]? = some o) (hg:o.guard=none) (hr:(execOp a.eval o).run P w=.ok (.value v) w') (h:K (a.put o.dst v) w'):wpOp P ops Q i K a w:=by
 unfold wpOp;rw [ho]
 simp only
 have hw:Region.wanted o (yielded ops a.tmps)=true:=by simp [Region.wanted,hg]
 rw [if_pos hw];refine Or.inl ?_
 unfold Oper.wp;rw [hr];exact h
theorem wpOp_of {i:Nat} {o:Oper} {K:Act → World → Prop} {a:Act} {w:World} (ho:ops[i]? = some o) {E:Prop} (h:if Region.wanted o (yielded ops a.tmps)=true then Oper.wp P o a w K Q else E) (hg:o.guard=none):wpOp P ops Q i K a w:=by
 unfold wpOp;rw [ho]
 simp only
 have hw:Region.wanted o (yielded ops a.tmps)=true:=by simp [Region.wanted,hg]
 rw [if_pos hw] at h ⊢;exact Or.inl h
theorem eval_put_ne {a:Act} {d s:Nat} {v:Value} (h:s ≠ d):(a.put (some d) v).eval (.tmp s)=a.eval (.tmp s):=by
 simp [Act.put,Act.eval,Array.getD_eq_getD_getElem?,Array.getElem?_setIfInBounds,Ne.symm h]
theorem eval_put_same {a:Act} {d:Nat} {v:Value} (h:d < a.tmps.size):(a.put (some d) v).eval (.tmp d)=v:=by
 simp [Act.put,Act.eval,Array.getD_eq_getD_getElem?,Array.getElem?_setIfInBounds,h]
theorem put_size (a:Act) (d:Option Nat) (v:Value):(a.put d v).tmps.size=a.tmps.size:=by
 cases d <;> simp [Act.put]
theorem put_defers (a:Act) (d:Option Nat) (v:Value):(a.put d v).defers=a.defers:=by
 cases d <;> simp [Act.put]
theorem getD_set_ne {L:Array Bool} {i j:Nat} (h:j ≠ i):(L.setIfInBounds i true).getD j false=L.getD j false:=by
 simp [Array.getD_eq_getD_getElem?,Array.getElem?_setIfInBounds,Ne.symm h]
theorem getD_set_same {L:Array Bool} {i:Nat} (h:i < L.size):(L.setIfInBounds i true).getD i false=true:=by
 simp [Array.getD_eq_getD_getElem?,Array.getElem?_setIfInBounds,h]
def TabOk (T:List (Nat × Nat × Value)) (L:Array Bool) (a:Act):Prop:=∀ e ∈ T,L.getD e.1 false=true → a.eval (.tmp e.2.1)=e.2.2
theorem TabOk.put {T:List (Nat × Nat × Value)} {L:Array Bool} {a:Act} (h:TabOk T L a) {i d:Nat} {v:Value} (hd:d < a.tmps.size) (hT:∀ e ∈ T,(e.2.1=d∧e.2.2=v)∨(e.1 ≠ i∧e.2.1 ≠ d)):TabOk T (L.setIfInBounds i true) (a.put (some d) v):=by
 intro e he hl
 rcases hT e he with ⟨h1,h2⟩ | ⟨h1,h2⟩
 ·rw [h1,h2]; exact eval_put_same hd
 ·rw [eval_put_ne h2];exact h e he (by rwa [getD_set_ne h1] at hl)
theorem TabOk.skip {T:List (Nat × Nat × Value)} {L:Array Bool} {a:Act} (h:TabOk T L a) {i:Nat} (hT:∀ e ∈ T,e.1 ≠ i):TabOk T (L.setIfInBounds i true) a:=by
 intro e he hl;exact h e he (by rwa [getD_set_ne (hT e he)] at hl)
end
end Go.Proofs.YteicmbhilambpaaGreatDoor
namespace Go.Proofs.YteicmbhilambpaaGreatDoor
open Go.RowKit
section
variable {w w' : World}
theorem alloc_grown (w:World) (o:Obj) (r:Option Nat):w.grownBy (w.alloc o) r:=⟨rfl,rfl,rfl,by simp,fun k hk _=>Below.heap_alloc _ _ _ hk⟩
end
def OpIs (ops:Array Oper) (i:Nat) (d:Option Nat) (op:Op):Prop:=∃ o,ops[i]? = some o∧o.guard=none∧o.dst=d∧o.op=op
def Waits (ops:Array Oper) (i j:Nat):Prop:=∃ o,ops[i]? = some o∧∃ e ∈ o.after,Region.binds .any e=true∧e.on=j
section
variable {P : Program} {ops : Array Oper} {Q : Exit → Act → World → Prop} {L : Array Bool} {a : Act} {w : World} {i j d : Nat} {K : Act → World → Prop}
theorem Waits.on (h:Waits ops i j) (hi:i ∈ Region.ready .any ops L):L.getD j false=true:=by
 obtain ⟨o,ho,e,he,hb,rfl⟩:=h;obtain ⟨_,o',ho',hall⟩:=mem_ready.1 hi;rw [ho] at ho'
 injection ho' with e'
 subst e';exact hall e he hb
theorem OpIs.val {op:Op} (h:OpIs ops i (some d) op) {v:Value} {w':World} (hr:∀ o:Oper,o.op=op → (execOp a.eval o).run P w=.ok (.value v) w') (hK:K (a.put (some d) v) w'):wpOp P ops Q i K a w:=by
 obtain ⟨o,ho,hg,hd,hop⟩:=h;refine wpOp_val ho hg (hr o hop) ?_
 rw [hd]; exact hK
theorem OpIs.skip {op:Op} (h:OpIs ops i none op) {w':World} (hr:∀ o:Oper,o.op=op → (execOp a.eval o).run P w=.ok .skip w') (hK:K a w'):wpOp P ops Q i K a w:=by
 obtain ⟨o,ho,hg,hd,hop⟩:=h;unfold wpOp;rw [ho]
 simp only
 have hw:Region.wanted o (yielded ops a.tmps)=true:=by simp [Region.wanted,hg]
 rw [if_pos hw];refine Or.inl ?_
 unfold Oper.wp;rw [hr o hop,Oper.upon_skip,hd];exact hK
end
end Go.Proofs.YteicmbhilambpaaGreatDoor
namespace Go.Proofs.YteicmbhilambpaaGreatDoor
open Go.RowKit Sc
def DocsAt (w:World) (cs:List PbC):Prop:=∀ c ∈ cs,TusAt w c.ts c.p.doc.tuples∧StrsAt w c.ns c.p.doc.notes
theorem DocsAt.below {w w':World} {cs:List PbC} (h:DocsAt w cs) (hb:Below w.heap.size w w'):DocsAt w' cs:=fun c hc=>⟨(h c hc).1.below hb,(h c hc).2.below hb⟩
theorem DocsAt.one {w:World} {cs:List PbC} (h:DocsAt w cs):∀ c ∈ cs,c.ts.oneCell'=true∧c.ns.oneCell'=true:=fun c hc=>by
 obtain ⟨⟨ta,tc,h1,_⟩,⟨na,nc,h2,_⟩⟩:=h c hc;rw [h1,h2]; exact ⟨rfl,rfl⟩
theorem DocsAt.sub {w:World} {cs ds:List PbC} (h:DocsAt w cs) (hs:∀ c ∈ ds,c ∈ cs):DocsAt w ds:=fun c hc=>h c (hs c hc)
def liveC (cs:List PbC) (who:List UInt8):List PbC:=cs.filter fun c=>c.p.who==who
theorem liveC_is (cs:List PbC) (who:List UInt8):pbsL (liveC cs who)=liveS (pbsL cs) who:=by
 unfold pbsL liveC liveS;rw [List.filter_map]; rfl
theorem live_step {cs:List PbC} {who:List UInt8} {k:Nat} (hk:k < cs.length):liveC (cs.take (k+1)) who=liveC (cs.take k) who++(if (cs[k].p.who==who)=true then [cs[k]] else []):=by
 rw [List.take_succ_eq_append_getElem hk];unfold liveC;rw [List.filter_append]
 cases h:(cs[k].p.who==who) <;> simp [h]
theorem live_len (cs:List PbC) (who:List UInt8) (k:Nat):(liveC (cs.take k) who).length≤k:=by
 unfold liveC;exact Nat.le_trans (List.length_filter_le _ _) (by rw [List.length_take]; omega)
set_option maxHeartbeats 4000000 in
set_option maxRecDepth 100000 in
theorem rlive16_any {w:World} {v:Value} {s:Sto} {cs:List PbC} (h:PbsAt w v cs) (hd:DocsAt w cs) (who:List UInt8) (hn:cs.length≤100000) :
  Calls Tryz.prog 23 #[stoV s v,.string ⟨who.toArray⟩] w fun e w'=>∃ v',e=.returned v'∧OwnPb w' w.heap.size v' (liveC cs who)∧Below w.heap.size w w':=by
 obtain ⟨i0,hi,hz0,hz1,hz2⟩:=info_parts infoPub;obtain ⟨oa,cap,rfl,hcp,hat⟩:=h;have HO:=hid hat;have HD:=hid hd.one;obtain ⟨n,hnn⟩:∃ n,n=cs.length:=⟨_,rfl⟩
 have hbw:Below w.heap.size w (w.alloc (objS s (.slice oa cs.length cap))):=(Below.refl _ w).alloc (Nat.le_refl _) _;have hlt0:=alloc_lt w (objS s (.slice oa cs.length cap));have hbx:=boxS_new w s (.slice oa cs.length cap);rw [← hnn] at hn hbw hbx hlt0 ⊢;have HN:=hid hnn;clear hat hnn hcp hd
 go_enter Tryz.func23,Tryz.ntmps23
 unfold stoV;unfold objS at hbw hbx hlt0;go_wp2;generalize World.alloc w _=W at hbw hbx hlt0 ⊢
 go_loopw [6,5] (fun i va wr=>∃ k:Nat,k≤n∧i=.int .i64 k∧Hid (Below W.heap.size W wr∧OwnPb wr W.heap.size va (liveC (cs.take k) who))) (fun i _ _=>n - (intOf i).toNat)
 case atStart=>exact ⟨0,by omega,rfl,Below.refl _ _,OwnPb.nil _ _⟩
 case round =>
  obtain ⟨k,hk,rfl,hM⟩:=hrel;obtain ⟨hbr,hown⟩:=hM.out;have x8:=(hbx.below hbr hlt0).c8;obtain ⟨ga,ka,hga⟩:=hown.form;have hL:=live_len cs who k;have HBW:=hid (And.intro hbw (And.intro hlt0 hbr));by_cases hlt:k < n
  ·have hlt':(k:Int) < n:=by omega
   have hkl:k < cs.length:=by rw [← HN.out]; exact hlt
   obtain ⟨ad,rfl,hab,cel⟩:=HO.out k hkl;have cel:=cel.below (hbw.trans (hbr.mono hbw.size)) hab;have ST:=hid (live_step (who:=who) hkl);have hone:=HD.out _ (List.getElem_mem hkl);clear HO HD hbx hM;generalize cs[k]=c at cel ST hone;have ONE:=hid hone;clear hone;obtain ⟨c0,c1,c2,c3,c4,c5,c6⟩:=cel.seven;clear cel;generalize liveC (cs.take k) who=L0 at *;subst hga
   cases heb:c.p.who==who
   ·have ST2:=hid (show liveC (cs.take (k+1)) who=L0 from by have h:=ST.out; rw [heb] at h; simpa using h);have HO2:=hid hown;clear ST hown hbw hbr hlt0;go_wp2;go_roundw
    case rel=>exact ⟨k+1,by omega,by go_num,HBW.out.2.2,by rw [ST2.out]; exact HO2.out⟩
    case measure=>simp [intOf]; omega
   ·have ST2:=hid (show liveC (cs.take (k+1)) who=L0++[c] from by have h:=ST.out; rw [heb] at h; simpa using h);have HBS:=hid hbr.size;clear ST hbw hbr hlt0;go_wp2_with (at_builtin; refine wp_appPb _ rfl (.tmp 22) (.tmp 28) 29 rfl W.heap.size i0 _ Tryz.underlying29 hi hz0 hz1 hz2 rfl _ L0 rfl (hown.alloc _) ⟨_,0,none⟩ 1 [c] 1 rfl (fun d hd=>by simp at hd; subst hd; exact ONE.out) rfl (pb_new1 _ c) (by omega) (by simp) (Nat.le_trans HBS.out (by simp)) ?_; intro v4 w4 hown4 hb4; have M4:=hid (And.intro hown4 ((HBW.out.2.2.alloc HBS.out _).trans hb4)); clear hown4 hb4)
    go_roundw
    case rel=>exact ⟨k+1,by omega,by go_num,M4.out.2,by rw [ST2.out]; exact M4.out.1⟩
    case measure=>simp [intOf]; omega
  ·have hlt':¬ ((k:Int) < n):=by omega
   have hkl:k=cs.length:=by have:=HN.out; omega
   rw [hkl,List.take_length] at hown hga;have HR:=hid (And.intro (ownPb_mono hown hbw.size) (hbw.trans (hbr.mono hbw.size)));clear hM hown hbr hbw hbx HO HD;subst hga;go_wp2;go_ret;exact ⟨_,rfl,HR.out.1,HR.out.2⟩
theorem rc_row9 (w:World) (v0 v1 v2 v3 v4 v5 v6 v7 v8:Value) (t:TypeId):RowIs (w.alloc (.cells #[v0,v1,v2,v3,v4,v5,v6,v7,v8] t)) w.heap.size t [v0,v1,v2,v3,v4,v5,v6,v7,v8]:=by
 unfold RowIs; rw [heap_alloc_new]
theorem rc_store9 {w:World} {b:Nat} {e:TypeId} {u0 u1 u2 u3 u4 u5 u6 u7 u8:Value} (h:RowIs w b e [u0,u1,u2,u3,u4,u5,u6,u7,u8]) (v0 v1 v2 v3 v4 v5 v6 v7 v8:Value):RowIs (((((((((w.setCell ⟨b,0,none⟩ v0).setCell ⟨b,1,none⟩ v1).setCell ⟨b,2,none⟩ v2).setCell ⟨b,3,none⟩ v3).setCell ⟨b,4,none⟩ v4).setCell ⟨b,5,none⟩ v5).setCell ⟨b,6,none⟩ v6).setCell ⟨b,7,none⟩ v7).setCell ⟨b,8,none⟩ v8) b e [v0,v1,v2,v3,v4,v5,v6,v7,v8]:=by
 have:=((((((((h.set 0 v0).set 1 v1).set 2 v2).set 3 v3).set 4 v4).set 5 v5).set 6 v6).set 7 v7).set 8 v8
 simpa using this
theorem rc_below9 {B:Nat} {a w:World} (h:Below B a w) (b:Nat) (hb:B≤b) (v0 v1 v2 v3 v4 v5 v6 v7 v8:Value):Below B a (((((((((w.setCell ⟨b,0,none⟩ v0).setCell ⟨b,1,none⟩ v1).setCell ⟨b,2,none⟩ v2).setCell ⟨b,3,none⟩ v3).setCell ⟨b,4,none⟩ v4).setCell ⟨b,5,none⟩ v5).setCell ⟨b,6,none⟩ v6).setCell ⟨b,7,none⟩ v7).setCell ⟨b,8,none⟩ v8):=((((((((h.setCell hb _).setCell hb _).setCell hb _).setCell hb _).setCell hb _).setCell hb _).setCell hb _).setCell hb _).setCell hb _
structure RowC9 (w:World) (b:Nat) (v0 v1 v2 v3 v4 v5 v6 v7 v8:Value):Prop where
 c0:w.cell? ⟨b,0,none⟩=some v0
 c1:w.cell? ⟨b,1,none⟩=some v1
 c2:w.cell? ⟨b,2,none⟩=some v2
 c3:w.cell? ⟨b,3,none⟩=some v3
 c4:w.cell? ⟨b,4,none⟩=some v4
 c5:w.cell? ⟨b,5,none⟩=some v5
 c6:w.cell? ⟨b,6,none⟩=some v6
 c7:w.cell? ⟨b,7,none⟩=some v7
 c8:w.cell? ⟨b,8,none⟩=some v8
 f0:w.frozen? ⟨b,0,none⟩=false
 f1:w.frozen? ⟨b,1,none⟩=false
 f2:w.frozen? ⟨b,2,none⟩=false
 f3:w.frozen? ⟨b,3,none⟩=false
 f4:w.frozen? ⟨b,4,none⟩=false
 f5:w.frozen? ⟨b,5,none⟩=false
 f6:w.frozen? ⟨b,6,none⟩=false
 f7:w.frozen? ⟨b,7,none⟩=false
 f8:w.frozen? ⟨b,8,none⟩=false
theorem RowIs.rc9 {w:World} {b:Nat} {e:TypeId} {v0 v1 v2 v3 v4 v5 v6 v7 v8:Value} (h:RowIs w b e [v0,v1,v2,v3,v4,v5,v6,v7,v8]):RowC9 w b v0 v1 v2 v3 v4 v5 v6 v7 v8:=⟨h.cell 0 (by simp),h.cell 1 (by simp),h.cell 2 (by simp),h.cell 3 (by simp),h.cell 4 (by simp),h.cell 5 (by simp),h.cell 6 (by simp),h.cell 7 (by simp),h.cell 8 (by simp),h.frozen 0,h.frozen 1,h.frozen 2,h.frozen 3,h.frozen 4,h.frozen 5,h.frozen 6,h.frozen 7,h.frozen 8⟩
theorem own_set9 {w:World} {B e s n b:Nat} {v:Value} {xs:List Value} (h:w.ownsRow B e s v n xs) (hb:b < B) (v0 v1 v2 v3 v4 v5 v6 v7 v8:Value):(((((((((w.setCell ⟨b,0,none⟩ v0).setCell ⟨b,1,none⟩ v1).setCell ⟨b,2,none⟩ v2).setCell ⟨b,3,none⟩ v3).setCell ⟨b,4,none⟩ v4).setCell ⟨b,5,none⟩ v5).setCell ⟨b,6,none⟩ v6).setCell ⟨b,7,none⟩ v7).setCell ⟨b,8,none⟩ v8).ownsRow B e s v n xs :=
 ownsRow_setCell_below (ownsRow_setCell_below (ownsRow_setCell_below (ownsRow_setCell_below (ownsRow_setCell_below (ownsRow_setCell_below (ownsRow_setCell_below (ownsRow_setCell_below (ownsRow_setCell_below h hb _) hb _) hb _) hb _) hb _) hb _) hb _) hb _) hb _
end Go.Proofs.YteicmbhilambpaaGreatDoor
namespace Go.Proofs.YteicmbhilambpaaGreatDoor
open Go.RowKit
theorem put_list (a:Act) (d:Nat) (v:Value):(a.put (some d) v).tmps.toList=a.tmps.toList.set d v:=by simp [Act.put]
structure MP where
 a0:Act
 lo:Nat
 hi:Nat
 n:Nat
 k:Nat
 W:World
 D:Nat → Nat
 R:Nat → Value → World → Prop
structure Outs (p:MP) (a0 a:Act):Prop where
 sz:a.tmps.size=p.n
 df:a.defers=[]
 out:∀ s,s < p.lo∨p.hi≤s → a.eval (.tmp s)=a0.eval (.tmp s)
theorem Outs.fin {p:MP} {a0 a:Act} (h:Outs p a0 a) (h0:a0.tmps.size=p.n) (hle:p.lo≤p.hi) (hn:p.hi≤p.n):∃ us:List Value,us.length=p.hi - p.lo∧a=⟨(a0.tmps.toList.take p.lo++(us++a0.tmps.toList.drop p.hi)).toArray,[]⟩:=by
 have key:∀ s,s < p.lo∨p.hi≤s → a.tmps.toList[s]? = a0.tmps.toList[s]? := fun s hs=>by
  have e:=h.out s hs;by_cases hlt:s < p.n
  ·have l1:s < a.tmps.size:=by rw [h.sz]; exact hlt
   have l2:s < a0.tmps.size:=by rw [h0]; exact hlt
   simp [Act.eval,Array.getD_eq_getD_getElem?,l1,l2] at e
   simp [l1,l2,e]
  ·rw [List.getElem?_eq_none (by simp; rw [h.sz]; omega),List.getElem?_eq_none (by simp; rw [h0]; omega)]
 refine ⟨(a.tmps.toList.take p.hi).drop p.lo,by simp [h.sz]; omega,?_⟩
 have e1:a0.tmps.toList.take p.lo=a.tmps.toList.take p.lo:=by
  apply List.ext_getElem?
  intro s;rw [List.getElem?_take,List.getElem?_take]
  split
  ·exact (key s (.inl ‹_›)).symm
  ·rfl
 have e2:a0.tmps.toList.drop p.hi=a.tmps.toList.drop p.hi:=by
  apply List.ext_getElem?
  intro s;rw [List.getElem?_drop,List.getElem?_drop];exact (key _ (.inr (by omega))).symm
 have e3:a.tmps.toList=a.tmps.toList.take p.lo++((a.tmps.toList.take p.hi).drop p.lo++a.tmps.toList.drop p.hi):=by
  have:=List.take_append_drop p.lo (a.tmps.toList.take p.hi)
  rw [← List.append_assoc];rw [List.take_take,Nat.min_eq_left hle] at this;rw [this,List.take_append_drop]
 rw [e1,e2,← e3];obtain ⟨tm,df⟩:=a
 have:=h.df
 simp only at this;subst this
 rfl
section
variable {p : MP} {ops : Array Oper} {L : Array Bool} {a : Act} {w w' : World}
theorem ready_nots {i:Nat} (hi:i ∈ Region.ready .any ops L):L.getD i false=false∧i < ops.size:=by
 refine ⟨?_,?_⟩
 ·have:=(mem_ready.1 hi).1
  rw [Array.getD_eq_getD_getElem?] at this ⊢
  cases e:L[i]? with
  | none=>rw [e] at this; simp at this
  | some b=>rw [e] at this; simpa using this
 ·obtain ⟨_,o,ho,_⟩:=mem_ready.1 hi;exact (Array.getElem?_eq_some_iff.1 ho).1
end
def waitsB (ops:Array Oper) (i j:Nat):Bool:=match ops[i]? with
 | some o=>o.after.any fun e=>Region.binds .any e && decide (e.on=j)
 | none=>false
theorem waits_of {ops:Array Oper} {i j:Nat} (h:waitsB ops i j=true):Waits ops i j:=by
 unfold waitsB at h
 cases ho:ops[i]? with
 | none=>rw [ho] at h; cases h
 | some o =>
  rw [ho] at h;simp only at h;obtain ⟨k,hk,hb⟩:=Array.any_eq_true.1 h;simp only [Bool.and_eq_true,decide_eq_true_eq] at hb;exact ⟨o,ho,o.after[k],Array.getElem_mem hk,hb.1,hb.2⟩
end Go.Proofs.YteicmbhilambpaaGreatDoor
namespace Go.Proofs.YteicmbhilambpaaGreatDoor
open Go.RowKit Sc
structure BoxA (w:World) (b:Nat) (a:Pa) (ts ns:Value):Prop where
 c0:w.cell? ⟨b,0,none⟩=some (.string ⟨a.who.toArray⟩)
 c1:w.cell? ⟨b,1,none⟩=some (.string ⟨a.mt.toArray⟩)
 c2:w.cell? ⟨b,2,none⟩=some (.int .i64 a.exp)
 c3:w.cell? ⟨b,3,none⟩=some (.bool a.has)
 c4:w.cell? ⟨b,4,none⟩=some (.string ⟨a.doc.entity.toArray⟩)
 c5:w.cell? ⟨b,5,none⟩=some ts
 c6:w.cell? ⟨b,6,none⟩=some ns
 c7:w.cell? ⟨b,7,none⟩=some (.string ⟨a.tag.toArray⟩)
def objA (a:Pa) (ts ns:Value):Obj:=.cells #[.string ⟨a.who.toArray⟩,.string ⟨a.mt.toArray⟩,.int .i64 a.exp,.bool a.has,.string ⟨a.doc.entity.toArray⟩,ts,ns,.string ⟨a.tag.toArray⟩] 37
theorem boxA_new (w:World) (a:Pa) (ts ns:Value):BoxA (w.alloc (objA a ts ns)) w.heap.size a ts ns:=by
 unfold objA
 constructor <;> rw [World.cell?_alloc_new] <;> rfl
theorem BoxA.below {w w':World} {b B:Nat} {a:Pa} {ts ns:Value} (h:BoxA w b a ts ns) (hb:Below B w w') (hl:b < B):BoxA w' b a ts ns :=
 ⟨cell_below hb hl h.c0,cell_below hb hl h.c1,cell_below hb hl h.c2,cell_below hb hl h.c3,cell_below hb hl h.c4,cell_below hb hl h.c5,cell_below hb hl h.c6,cell_below hb hl h.c7⟩
theorem cell_blk {w w':World} {b o:Nat} {v:Value} (he:w'.heap[b]? = w.heap[b]?) (h:w.cell? ⟨b,o,none⟩=some v):w'.cell? ⟨b,o,none⟩=some v:=by
 rw [World.cell?_of_block (a:=⟨b,o,none⟩) he]; exact h
theorem BoxA.blk {w w':World} {b:Nat} {a:Pa} {ts ns:Value} (h:BoxA w b a ts ns) (he:w'.heap[b]? = w.heap[b]?):BoxA w' b a ts ns :=
 ⟨cell_blk he h.c0,cell_blk he h.c1,cell_blk he h.c2,cell_blk he h.c3,cell_blk he h.c4,cell_blk he h.c5,cell_blk he h.c6,cell_blk he h.c7⟩
theorem BoxS.blk {w w':World} {b:Nat} {s:Sto} {v:Value} (h:BoxS w b s v) (he:w'.heap[b]? = w.heap[b]?):BoxS w' b s v :=
 ⟨⟨cell_blk he h.f.c0,cell_blk he h.f.c1,cell_blk he h.f.c2,cell_blk he h.f.c3,cell_blk he h.f.c4,cell_blk he h.f.c5,cell_blk he h.f.c6⟩,cell_blk he h.c7,cell_blk he h.c8⟩
theorem set9_block (w:World) {b g:Nat} (h:g ≠ b) (v0 v1 v2 v3 v4 v5 v6 v7 v8:Value):(((((((((w.setCell ⟨b,0,none⟩ v0).setCell ⟨b,1,none⟩ v1).setCell ⟨b,2,none⟩ v2).setCell ⟨b,3,none⟩ v3).setCell ⟨b,4,none⟩ v4).setCell ⟨b,5,none⟩ v5).setCell ⟨b,6,none⟩ v6).setCell ⟨b,7,none⟩ v7).setCell ⟨b,8,none⟩ v8).heap[g]? = w.heap[g]? := by
 rw [Below.heap_setCell _ ⟨b,8,none⟩ _ _ h,Below.heap_setCell _ ⟨b,7,none⟩ _ _ h,Below.heap_setCell _ ⟨b,6,none⟩ _ _ h,Below.heap_setCell _ ⟨b,5,none⟩ _ _ h,Below.heap_setCell _ ⟨b,4,none⟩ _ _ h,Below.heap_setCell _ ⟨b,3,none⟩ _ _ h,Below.heap_setCell _ ⟨b,2,none⟩ _ _ h,Below.heap_setCell _ ⟨b,1,none⟩ _ _ h,Below.heap_setCell _ ⟨b,0,none⟩ _ _ h]
theorem set4_block (w:World) {b g:Nat} (h:g ≠ b) (v0 v1 v2 v3:Value):((((w.setCell ⟨b,0,none⟩ v0).setCell ⟨b,1,none⟩ v1).setCell ⟨b,2,none⟩ v2).setCell ⟨b,3,none⟩ v3).heap[g]? = w.heap[g]? := by
 rw [Below.heap_setCell _ ⟨b,3,none⟩ _ _ h,Below.heap_setCell _ ⟨b,2,none⟩ _ _ h,Below.heap_setCell _ ⟨b,1,none⟩ _ _ h,Below.heap_setCell _ ⟨b,0,none⟩ _ _ h]
theorem set9_size (w:World) (b:Nat) (v0 v1 v2 v3 v4 v5 v6 v7 v8:Value):(((((((((w.setCell ⟨b,0,none⟩ v0).setCell ⟨b,1,none⟩ v1).setCell ⟨b,2,none⟩ v2).setCell ⟨b,3,none⟩ v3).setCell ⟨b,4,none⟩ v4).setCell ⟨b,5,none⟩ v5).setCell ⟨b,6,none⟩ v6).setCell ⟨b,7,none⟩ v7).setCell ⟨b,8,none⟩ v8).heap.size=w.heap.size :=
 Nat.le_antisymm (by simp) (rc_below9 (Below.refl 0 w) b (Nat.zero_le _) v0 v1 v2 v3 v4 v5 v6 v7 v8).size
def stoL (s:Sto) (v:Value):List Value:=[.string ⟨s.c.host.toArray⟩,.int .i64 s.c.calls,.int .i64 s.c.pubs,.int .i64 s.c.subs,.int .i64 s.c.least,.int .i64 s.c.most,.int .i64 s.c.usual,.int .i64 s.last,v]
def stoZ:List Value:=[.string ⟨#[]⟩,.int .i64 0,.int .i64 0,.int .i64 0,.int .i64 0,.int .i64 0,.int .i64 0,.int .i64 0,.slice none 0 0]
def tdL (t:Td):List Value:=[.int .i64 t.status,.int .i64 t.expires,.string ⟨t.tag.toArray⟩,.bool t.changed]
def tdZ:List Value:=[.int .i64 0,.int .i64 0,.string ⟨#[]⟩,.bool false]
theorem step_appPb {P:Program} {ops:Array Oper} {o:Oper} {a:Act} {w:World} {K:Act → World → Prop} {Q:Exit → Act → World → Prop} {E:Prop} (hgd:o.guard=none)
  (s x:Operand) (t:TypeId) (ho:o.op=Op.call { callee:=Callee.builtin Builtin.append,args:=#[s,x],argTypes:=#[t,t] }) (B:Nat) (i:TypeInfo)
  (z:Value) (ht:P.underlying t=some (TypeDesc.slice 62)) (hi:P.info? 62=some i) (hz:i.zero=some z) (hsize:i.size=7) (hby:i.bytes=112) (hzs:z.cells.size=7)
  (v:Value) (cs:List PbC) (hsv:a.eval s=v) (hown:OwnPb w B v cs) (va:Value) (ns:List PbC) (hx:a.eval x=va) (hc:∀ d ∈ ns,d.ts.oneCell'=true∧d.ns.oneCell'=true)
  (hat:(va=.slice none 0 0∧ns=[])∨∃ ad cap,va=.slice (some ad) ns.length cap∧∀ (j:Nat) (u:Value),(pbsCells ns)[j]? = some u → w.cell? (ad.add j)=some u)
  (hlen:cs.length+ns.length≤400000) (hB:B≤w.heap.size)
  (h:∀ (v':Value) (w':World),OwnPb w' B v' (cs++ns) → w.grownBy w' v.ownBlock → K (a.put o.dst v') w') :
  if Region.wanted o (yielded ops a.tmps)=true then Oper.wp P o a w K Q else E:=by
 have hw:Region.wanted o (yielded ops a.tmps)=true:=by simp [Region.wanted,hgd]
 rw [if_pos hw]
 rcases hat with ⟨hv,hn⟩ | ⟨ad,cap,hv,hcl⟩
 ·subst hn;rw [hv] at hx;have hrun:=run_append_owned_none (P:=P) (w:=w) B t o.type 62 i 7 ht hi v cs.length (pbsCells cs) hown;unfold Oper.wp
  simp [execOp,ho,resolve,invoke,builtin,hsv,hx,hrun,Result.andThen]
  exact h v w (by rw [List.append_nil]; exact hown) ⟨rfl,rfl,rfl,Nat.le_refl _,fun _ _ _=>rfl⟩
 ·rw [hv] at hx;obtain ⟨v',w',hrun,r1,hgr,_⟩:=run_append_own (P:=P) w B t o.type 62 i z 7 112 ht hi hz hsize hby hzs (by decide) v cs.length (pbsCells cs) hown ad ns.length cap (pbsCells ns) (pbsCells_len ns) hcl
   (by
    intro u hu;unfold pbsCells at hu;obtain ⟨d,hd,hu⟩:=List.mem_flatMap.1 hu
    simp [pbCells] at hu
    rcases hu with rfl | rfl | rfl | rfl | rfl | rfl | rfl <;> first | rfl | exact (hc d hd).1 | exact (hc d hd).2) (by unfold maxLen; omega) (by omega) hB
  unfold Oper.wp
  simp [execOp,ho,resolve,invoke,builtin,hsv,hx,hrun,Result.andThen]
  refine h v' w' ?_ hgr
  unfold OwnPb;rw [pbsCells_app,List.length_append];exact r1
structure KD.Ok (k:KD):Prop where
 h3:k.b3 < k.B
 h5:k.b5 < k.B
 h6:k.b6 < k.B
 h7:k.b7 < k.B
 n63:k.b3 ≠ k.b6
 n65:k.b5 ≠ k.b6
 n67:k.b7 ≠ k.b6
 n73:k.b3 ≠ k.b7
 n75:k.b5 ≠ k.b7
 l6:k.W0.heap.size≤k.b6
 l7:k.W0.heap.size≤k.b7
structure DynD (k:KD) (lA lB l6 l7:Bool) (xA xB:Value) (w:World):Prop where
 bs:BoxS w k.b3 k.S k.sv
 ba:BoxA w k.b5 k.A k.ts k.ns
 bel:Below k.W0.heap.size k.W0 w
 lo:k.B≤w.heap.size
 own0:lA=false → OwnPb w k.B k.v13 k.L0
 ownA:lA=true → OwnPb w k.B xA (k.L0++k.R0)
 eB:lB=true → xB=stoV k.S xA
 r6:RowIs w k.b6 31 (if l6=true then stoL k.S xA else stoZ)
 r7:RowIs w k.b7 46 (if l7=true then tdL k.T else tdZ)
 cB:lB=true → lA=true
 c6:l6=true → lB=true
section
variable {k : KD} {lA lB l6 l7 : Bool} {xA xB : Value} {w w' : World}
theorem DynD.app (h:DynD k lA lB l6 l7 xA xB w) (hk:k.Ok) (h0:lA=false) {v':Value} (ho:OwnPb w' k.B v' (k.L0++k.R0)) (hg:w.grownBy w' k.v13.ownBlock):DynD k true lB l6 l7 v' xB w':=by
 have hr:∀ g,k.v13.ownBlock=some g → k.B≤g:=fun g e=>(World.ownsRow.lt (h.own0 h0) g e).1;have hne:∀ b,b < k.B → some b ≠ k.v13.ownBlock:=fun b hb e=>by have:=hr b e.symm; omega
 have blk:∀ b,b < k.B → w'.heap[b]? = w.heap[b]? := fun b hb=>hg.block b (Nat.lt_of_lt_of_le hb h.lo) (hne b hb)
 have hB0:lB=false:=by
  cases e:lB with
  | false=>rfl
  | true=>have:=h.cB e; rw [h0] at this; cases this
 have h60:l6=false:=by
  cases e:l6 with
  | false=>rfl
  | true=>have:=h.c6 e; rw [hB0] at this; cases this
 have r6:=h.r6;rw [h60] at r6;rw [h60,hB0];refine ⟨h.bs.blk (blk _ hk.h3),h.ba.blk (blk _ hk.h5),h.bel.grown hg h.bel.size (fun g e=>Nat.le_trans (Nat.le_trans hk.l6 (Nat.le_of_lt hk.h6)) (hr g e)),Nat.le_trans h.lo hg.size,fun e=>(by cases e),fun _=>ho,fun e=>(by cases e),RowIs.blk r6 (blk _ hk.h6),RowIs.blk h.r7 (blk _ hk.h7),fun e=>(by cases e),fun e=>(by cases e)⟩
theorem DynD.bld (h:DynD k lA lB l6 l7 xA xB w) (hA:lA=true):DynD k lA true l6 l7 xA (stoV k.S xA) w :=
 ⟨h.bs,h.ba,h.bel,h.lo,h.own0,h.ownA,fun _=>rfl,h.r6,h.r7,fun _=>hA,fun _=>rfl⟩
theorem DynD.s6 (h:DynD k lA lB l6 l7 xA xB w) (hk:k.Ok) (hB:lB=true) (h0:l6=false) :
  DynD k lA lB true l7 xA xB ((((((((((w.setCell ⟨k.b6,0,none⟩ (.string ⟨k.S.c.host.toArray⟩)).setCell ⟨k.b6,1,none⟩ (.int .i64 k.S.c.calls)).setCell ⟨k.b6,2,none⟩ (.int .i64 k.S.c.pubs)).setCell ⟨k.b6,3,none⟩ (.int .i64 k.S.c.subs)).setCell ⟨k.b6,4,none⟩ (.int .i64 k.S.c.least)).setCell ⟨k.b6,5,none⟩ (.int .i64 k.S.c.most)).setCell ⟨k.b6,6,none⟩ (.int .i64 k.S.c.usual)).setCell ⟨k.b6,7,none⟩ (.int .i64 k.S.last)).setCell ⟨k.b6,8,none⟩ xA)):=by
 have r6:=h.r6;rw [h0] at r6;have blk:∀ b,b ≠ k.b6 → _:=fun b hb=>set9_block w hb (.string ⟨k.S.c.host.toArray⟩) (.int .i64 k.S.c.calls) (.int .i64 k.S.c.pubs) (.int .i64 k.S.c.subs) (.int .i64 k.S.c.least) (.int .i64 k.S.c.most) (.int .i64 k.S.c.usual) (.int .i64 k.S.last) xA;exact ⟨h.bs.blk (blk _ hk.n63),h.ba.blk (blk _ hk.n65),rc_below9 h.bel k.b6 hk.l6 _ _ _ _ _ _ _ _ _,by rw [set9_size]; exact h.lo,fun e=>own_set9 (h.own0 e) hk.h6 _ _ _ _ _ _ _ _ _,fun e=>own_set9 (h.ownA e) hk.h6 _ _ _ _ _ _ _ _ _,h.eB,rc_store9 r6 _ _ _ _ _ _ _ _ _,RowIs.blk h.r7 (blk _ hk.n67),h.cB,fun _=>hB⟩
theorem DynD.s7 (h:DynD k lA lB l6 l7 xA xB w) (hk:k.Ok) (h0:l7=false) :
  DynD k lA lB l6 true xA xB ((((w.setCell ⟨k.b7,0,none⟩ (.int .i64 k.T.status)).setCell ⟨k.b7,1,none⟩ (.int .i64 k.T.expires)).setCell ⟨k.b7,2,none⟩ (.string ⟨k.T.tag.toArray⟩)).setCell ⟨k.b7,3,none⟩ (.bool k.T.changed)):=by
 have r7:=h.r7;rw [h0] at r7;have blk:∀ b,b ≠ k.b7 → _:=fun b hb=>set4_block w hb (.int .i64 k.T.status) (.int .i64 k.T.expires) (.string ⟨k.T.tag.toArray⟩) (.bool k.T.changed);exact ⟨h.bs.blk (blk _ hk.n73),h.ba.blk (blk _ hk.n75),rc_below4 h.bel k.b7 hk.l7 _ _ _ _,Nat.le_trans h.lo (rc_below4 (Below.refl 0 w) k.b7 (Nat.zero_le _) _ _ _ _).size,fun e=>own_set4 (h.own0 e) hk.h7 _ _ _ _,fun e=>own_set4 (h.ownA e) hk.h7 _ _ _ _,h.eB,RowIs.blk h.r6 (blk _ (Ne.symm hk.n67)),rc_store4 r7 _ _ _ _,h.cB,h.c6⟩
end
theorem hasX (b:UInt8):hasL b [32,9,13,10]=xblk b:=by
 simp only [hasL,xblk,List.contains_cons,List.contains_nil,Bool.or_false]
theorem hasX_of {c:UInt8} {b:Bool} (h:xblk c=b) (w:World) :
  Calls Tryz.prog 113 #[.string ⟨#[32,9,13,10]⟩,.int .u8 c.toNat] w fun e w'=>e=.returned (.bool b)∧w'=w:=by
 have k:=has3_any ⟨#[32,9,13,10]⟩ c w (by decide);have e:hasL c (⟨#[32,9,13,10]⟩:ByteArray).data.toList=b:=by rw [← h]; exact hasX c
 rw [e] at k; exact k
set_option maxHeartbeats 2000000 in
set_option maxRecDepth 100000 in
theorem rsigns_any (s:ByteArray) (w:World) (hs:s.size≤140737488355328) :
  Calls Tryz.prog 81 #[.string s] w fun e w'=>e=.returned (.bool (signsX s.data.toList))∧w'=w:=by
 have HS:=hid (all_snocX signX s);have HB:=hid (all_badX signX s);have HT:Hid (∀ k,s.size≤k → (s.data.toList.take k).all signX=true → s.data.toList.all signX=true):=fun k hk ha=>by rw [take_all s k hk] at ha; exact ha
 unfold signsX;generalize s.data.toList.all signX=R at HB HT ⊢
 go_enter Tryz.func81,Tryz.ntmps81
 go_wp2
 go_loop [3] (fun i=>∃ k:Nat,k≤s.size∧i=.int .i64 k∧Hid ((s.data.toList.take k).all signX=true)) (fun i=>s.size - (intOf i).toNat)
 case atStart=>exact ⟨0,Nat.zero_le _,rfl,show _=_ by simp⟩
 case round =>
  obtain ⟨k,hk,rfl,ha⟩:=hrel;by_cases hlt:k < s.size
  ·have hbd:=u8_bd s[k]
   cases hx:xblk s[k] with
   | true =>
    have KH:=hid (fun w'=>hasX_of hx w');have ha2:Hid ((s.data.toList.take (k+1)).all signX=true):=HS.out k hlt ha.out (by unfold signX; rw [hx]; rfl);clear ha HS HB HT hx;go_wp2_with (go_at_call 113; refine (KH.out _).mono ?_; rintro e w' ⟨rfl,rfl⟩)
    go_round
    case rel=>exact ⟨k+1,by omega,by go_num,ha2⟩
    case measure=>simp [intOf]; omega
   | false =>
    have KH:=hid (fun w'=>hasX_of hx w');by_cases h32:(s[k].toNat:Int) < 32
    ·have hR:Hid (R=false):=show _=_ from HB.out k hlt (sign_low hx (by omega))
     clear ha HS HB HT hx;go_wp2_with (go_at_call 113; refine (KH.out _).mono ?_; rintro e w' ⟨rfl,rfl⟩)
     go_ret;exact ⟨ret_bool hR.out.symm,rfl⟩
    ·by_cases h127:s[k]=127
     ·have h3:((s[k].toNat:Int)==127)=true:=by rw [h127]; rfl
      have hR:Hid (R=false):=show _=_ from HB.out k hlt (by unfold signX; rw [hx,h127]; rfl)
      clear ha HS HB HT hx h127;go_wp2_with (go_at_call 113; refine (KH.out _).mono ?_; rintro e w' ⟨rfl,rfl⟩)
      go_ret;exact ⟨ret_bool hR.out.symm,rfl⟩
     ·have h3:((s[k].toNat:Int)==127)=false:=u8_ne (b:=127) h127;have ha2:Hid ((s.data.toList.take (k+1)).all signX=true):=HS.out k hlt ha.out (sign_ok (by omega) h127);clear ha HS HB HT hx h127;go_wp2_with (go_at_call 113; refine (KH.out _).mono ?_; rintro e w' ⟨rfl,rfl⟩)
      go_round
      case rel=>exact ⟨k+1,by omega,by go_num,ha2⟩
      case measure=>simp [intOf]; omega
  ·have hR:Hid (R=true):=show _=_ from HT.out k (by omega) ha.out
   clear ha HS HB HT;go_wp2;go_ret;exact ⟨ret_bool hR.out.symm,rfl⟩
theorem rev_last (u:ByteArray) (h:u.size - 1 < u.size):u.data.toList.reverse=u[u.size - 1] :: (u.extract 0 (u.size - 1)).data.toList.reverse:=by
 have e:=take_snoc u (u.size - 1) h;rw [take_all u _ (by omega)] at e;rw [ext_list]
 conv=>lhs; rw [e]
 simp
theorem rev_step (u:ByteArray) (h:u.size - 1 < u.size) (hx:xblk u[u.size - 1]=true):(u.extract 0 (u.size - 1)).data.toList.reverse.dropWhile xblk=u.data.toList.reverse.dropWhile xblk:=by
 rw [rev_last u h,List.dropWhile_cons,if_pos hx]
theorem rev_stop (u:ByteArray) (h:u.size - 1 < u.size) (hx:xblk u[u.size - 1]=false):u.data.toList.reverse.dropWhile xblk=u.data.toList.reverse:=by
 rw [rev_last u h,List.dropWhile_cons,if_neg (by simp [hx])]
def lenV:Value → Nat
 | .string t=>t.size
 | _=>0
set_option maxHeartbeats 2000000 in
set_option maxRecDepth 100000 in
theorem rtrimX_any (s:ByteArray) (w:World) (hs:s.size≤140737488355328) :
  Calls Tryz.prog 82 #[.string s] w fun e w'=>e=.returned (.string ⟨(xtrim s.data.toList).toArray⟩)∧w'=w:=by
 unfold xtrim
 go_enter Tryz.func82,Tryz.ntmps82
 go_wp2
 go_loop [0] (fun v=>∃ t:ByteArray,v=.string t∧t.size≤s.size∧Hid (t.data.toList.dropWhile xblk=s.data.toList.dropWhile xblk)) (fun v=>lenV v)
 case atStart=>exact ⟨s,rfl,Nat.le_refl _,show _=_ from rfl⟩
 case round =>
  obtain ⟨t,rfl,ht,hd⟩:=hrel;by_cases h0:0 < t.size
  ·have hbd:=u8_bd t[0]
   cases hx:xblk t[0] with
   | true =>
    have KH:=hid (fun w'=>hasX_of hx w')
    have hd2:Hid ((t.extract 1 t.size).data.toList.dropWhile xblk=s.data.toList.dropWhile xblk):=show _=_ by
     rw [ext_list,← hd.out];have e:=drop_cons t 0 h0;rw [List.drop_zero] at e;rw [List.take_of_length_le (by rw [List.length_drop,len_data]; omega)]
     show (t.data.toList.drop 1).dropWhile xblk=_
     conv=>rhs; rw [e]
     rw [List.dropWhile_cons,if_pos hx]
    have hz:(t.extract 1 t.size).size < t.size∧(t.extract 1 t.size).size≤s.size:=by rw [ByteArray.size_extract]; omega
    clear hd hx;go_wp2_with (go_at_call 113; refine (KH.out _).mono ?_; rintro e w' ⟨rfl,rfl⟩)
    go_round
    case rel=>exact ⟨_,rfl,hz.2,hd2⟩
    case measure=>exact hz.1
   | false =>
    have KH:=hid (fun w'=>hasX_of hx w')
    have hd2:Hid (s.data.toList.dropWhile xblk=t.data.toList):=show _=_ by
     rw [← hd.out];have e:=drop_cons t 0 h0;rw [List.drop_zero] at e;rw [e,List.dropWhile_cons,if_neg (by simp [hx])]
    clear hd hx;go_wp2_with (go_at_call 113; refine (KH.out _).mono ?_; rintro e w' ⟨rfl,rfl⟩)
    go_loop [0] (fun v=>∃ u:ByteArray,v=.string u∧u.size≤s.size∧Hid (u.data.toList.reverse.dropWhile xblk=t.data.toList.reverse.dropWhile xblk)) (fun v=>lenV v)
    case atStart=>exact ⟨t,rfl,ht,show _=_ from rfl⟩
    case round =>
     clear KH hbd;obtain ⟨u,rfl,hu,hr⟩:=hrel;by_cases hu0:0 < u.size
     ·have hlt:u.size - 1 < u.size:=by omega
      have hbd:=u8_bd u[u.size - 1];have hw1:IntKind.i64.wrap ((u.size:Int) - 1)=((u.size - 1:Nat):Int):=by rw [IntKind.wrap_i64]; omega
      have hn1:((u.size:Int) - 1).toNat=u.size - 1:=by omega
      cases hx:xblk u[u.size - 1] with
      | true =>
       have KH:=hid (fun w'=>hasX_of hx w');have hr2:Hid ((u.extract 0 (u.size - 1)).data.toList.reverse.dropWhile xblk=t.data.toList.reverse.dropWhile xblk):=show _=_ by rw [← hr.out]; exact rev_step u hlt hx
       have hz:(u.extract 0 (u.size - 1)).size < u.size∧(u.extract 0 (u.size - 1)).size≤s.size:=by rw [ByteArray.size_extract]; omega
       clear hr hx;go_wp2_with (go_at_call 113; refine (KH.out _).mono ?_; rintro e w' ⟨rfl,rfl⟩)
       go_round
       case rel=>exact ⟨_,rfl,hz.2,hr2⟩
       case measure=>exact hz.1
      | false =>
       have KH:=hid (fun w'=>hasX_of hx w');have hE:Hid (u=⟨((s.data.toList.dropWhile xblk).reverse.dropWhile xblk).reverse.toArray⟩):=show _=_ by rw [hd2.out,← hr.out,rev_stop u hlt hx]; apply ByteArray.ext; simp
       clear hr hx;go_wp2_with (go_at_call 113; refine (KH.out _).mono ?_; rintro e w' ⟨rfl,rfl⟩)
       go_ret;exact ⟨by rw [← hE.out]; rfl,rfl⟩
     ·have hE:Hid (u=⟨((s.data.toList.dropWhile xblk).reverse.dropWhile xblk).reverse.toArray⟩):=show _=_ by
       rw [hd2.out,← hr.out]
       have:u.data.toList=[]:=List.eq_nil_of_length_eq_zero (by rw [len_data]; omega)
       rw [this]
       apply ByteArray.ext
       have:=congrArg List.toArray this
       simpa using this
      clear hr;go_wp2;go_ret;exact ⟨by rw [← hE.out]; rfl,rfl⟩
  ·have hd2:Hid (s.data.toList.dropWhile xblk=t.data.toList):=show _=_ by
    rw [← hd.out]
    have:t.data.toList=[]:=List.eq_nil_of_length_eq_zero (by rw [len_data]; omega)
    rw [this]; rfl
   clear hd;go_wp2
   go_loop [0] (fun v=>∃ u:ByteArray,v=.string u∧u.size≤s.size∧Hid (u.data.toList.reverse.dropWhile xblk=t.data.toList.reverse.dropWhile xblk)) (fun v=>lenV v)
   case atStart=>exact ⟨t,rfl,ht,show _=_ from rfl⟩
   case round =>
    clear h0;obtain ⟨u,rfl,hu,hr⟩:=hrel;by_cases hu0:0 < u.size
    ·have hlt:u.size - 1 < u.size:=by omega
     have hbd:=u8_bd u[u.size - 1];have hw1:IntKind.i64.wrap ((u.size:Int) - 1)=((u.size - 1:Nat):Int):=by rw [IntKind.wrap_i64]; omega
     have hn1:((u.size:Int) - 1).toNat=u.size - 1:=by omega
     cases hx:xblk u[u.size - 1] with
     | true =>
      have KH:=hid (fun w'=>hasX_of hx w');have hr2:Hid ((u.extract 0 (u.size - 1)).data.toList.reverse.dropWhile xblk=t.data.toList.reverse.dropWhile xblk):=show _=_ by rw [← hr.out]; exact rev_step u hlt hx
      have hz:(u.extract 0 (u.size - 1)).size < u.size∧(u.extract 0 (u.size - 1)).size≤s.size:=by rw [ByteArray.size_extract]; omega
      clear hr hx;go_wp2_with (go_at_call 113; refine (KH.out _).mono ?_; rintro e w' ⟨rfl,rfl⟩)
      go_round
      case rel=>exact ⟨_,rfl,hz.2,hr2⟩
      case measure=>exact hz.1
     | false =>
      have KH:=hid (fun w'=>hasX_of hx w');have hE:Hid (u=⟨((s.data.toList.dropWhile xblk).reverse.dropWhile xblk).reverse.toArray⟩):=show _=_ by rw [hd2.out,← hr.out,rev_stop u hlt hx]; apply ByteArray.ext; simp
      clear hr hx;go_wp2_with (go_at_call 113; refine (KH.out _).mono ?_; rintro e w' ⟨rfl,rfl⟩)
      go_ret;exact ⟨by rw [← hE.out]; rfl,rfl⟩
    ·have hE:Hid (u=⟨((s.data.toList.dropWhile xblk).reverse.dropWhile xblk).reverse.toArray⟩):=show _=_ by
      rw [hd2.out,← hr.out]
      have:u.data.toList=[]:=List.eq_nil_of_length_eq_zero (by rw [len_data]; omega)
      rw [this]
      apply ByteArray.ext
      have:=congrArg List.toArray this
      simpa using this
     clear hr;go_wp2;go_ret;exact ⟨by rw [← hE.out]; rfl,rfl⟩
theorem signs_list (l:List UInt8) (w:World) (h:l.length≤140737488355328) :
  Calls Tryz.prog 81 #[.string ⟨l.toArray⟩] w fun e w'=>e=.returned (.bool (signsX l))∧w'=w:=rsigns_any ⟨l.toArray⟩ w (by rw [size_list]; exact h)
theorem trimX_list (l:List UInt8) (w:World) (h:l.length≤140737488355328) :
  Calls Tryz.prog 82 #[.string ⟨l.toArray⟩] w fun e w'=>e=.returned (.string ⟨(xtrim l).toArray⟩)∧w'=w:=rtrimX_any ⟨l.toArray⟩ w (by rw [size_list]; exact h)
theorem ref_stop {most n d:Int} (h:922337203685477580 < n∨most < d∨most - d < 10 * n) (hm:most≤9223372036854775807) (hd:0≤d):d > most∨n > (most - d) / 10:=by omega
end Go.Proofs.YteicmbhilambpaaGreatDoor
