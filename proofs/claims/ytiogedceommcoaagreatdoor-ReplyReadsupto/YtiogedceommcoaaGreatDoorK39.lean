/-
  CBase0, TailQ2, CStore, CBase, CAnswer.
-/
import Derived.Test.YtiogedceommcoaaGreatDoorK38
set_option linter.unusedVariables false
set_option linter.unusedSimpArgs false
set_option maxRecDepth 20000
namespace Go.Proofs.YtiogedceommcoaaGreatDoor
open Go.RowKit Sc
theorem addressV_one {m:Ms} {nm:List UInt8} (h:(oneV m nm).2=true):addressV m nm=parseA (oneV m nm).1:=by unfold addressV; rw [h]; rfl
theorem needF_list (m:Ms) (gm g:Nat):(needF m (needL gm g) (needE m) 0=(addressV m fromK).2)∧(needF m (needL gm g) (needE m) 1=(addressV m toK).2) ∧
  (needF m (needL gm g) (needE m) 2=if (oneV m callK).2=false then 100 else if callB (oneV m callK).1=true then 0 else 100) ∧
  (needF m (needL gm g) (needE m) 3=if (oneV m cseqK).2=false then 100 else if (seqV (oneV m cseqK).1).2.2 ≠ 0∨(seqV (oneV m cseqK).1).2.1 ≠ m.method then 80 else 0):=by
 refine ⟨?_,?_,rfl,rfl⟩
 ·show (if (oneV m fromK).2=false then 100 else (parseA (oneV m fromK).1).2)=_
  unfold addressV
  split <;> rfl
 ·show (if (oneV m toK).2=false then 100 else (parseA (oneV m toK).1).2)=_
  unfold addressV
  split <;> rfl
theorem base_hop {m:Ms} (hm:m.method ≠ []) (h:hopE m ≠ 0):baseV m=(noR,hopE m):=by
 unfold hopE at h ⊢;unfold baseV;rw [if_neg hm];by_cases h1:(hopsV (allV m rViaK)).2 ≠ 0
 ·rw [if_pos h1,if_pos h1]
 ·rw [if_neg h1] at h ⊢;rw [if_neg h1];by_cases h2:(brV (hop0 m).params).2=false
  ·rw [if_pos h2,if_pos h2]
  ·rw [if_neg h2] at h; exact absurd rfl h
theorem hop_ok {m:Ms} (h:hopE m=0):¬ (hopsV (allV m rViaK)).2 ≠ 0∧¬ (brV (hop0 m).params).2=false:=by
 unfold hopE at h;by_cases h1:(hopsV (allV m rViaK)).2 ≠ 0
 ·rw [if_pos h1] at h; exact absurd h h1
 ·rw [if_neg h1] at h;refine ⟨h1,fun h2=>?_⟩
  rw [if_pos h2] at h
  simp at h
theorem base_first {m:Ms} {gm g:Nat} {x:Int} (hm:m.method ≠ []) (hh:hopE m=0) (hx:FirstE (needF m (needL gm g) (needE m)) 4 x):baseV m=if x ≠ 0 then (noR,x) else (baseR m,0):=by
 obtain ⟨F0,F1,F2,F3⟩:=needF_list m gm g;obtain ⟨h1,h2⟩:=hop_ok hh;unfold baseV;rw [if_neg hm,if_neg h1,if_neg h2]
 rcases hx with ⟨rfl,hj⟩ | ⟨hx,k,hk,hj,he⟩
 ·have e0:=hj 0 (by omega);have e1:=hj 1 (by omega);have e2:=hj 2 (by omega);have e3:=hj 3 (by omega);rw [F0] at e0;rw [F1] at e1;rw [F2] at e2;rw [F3] at e3;rw [if_neg (by simp [e0]),if_neg (by simp [e1])];have q1:(oneV m callK).2=true:=by cases h:(oneV m callK).2 with | true=>rfl | false=>rw [h] at e2; simp at e2
  have q2:(oneV m cseqK).2=true:=by cases h:(oneV m cseqK).2 with | true=>rfl | false=>rw [h] at e3; simp at e3
  rw [q1] at e2;rw [q2] at e3;have q3:callB (oneV m callK).1=true:=by cases h:callB (oneV m callK).1 with | true=>rfl | false=>rw [h] at e2; simp at e2
  have q4:¬ ((seqV (oneV m cseqK).1).2.2 ≠ 0∨(seqV (oneV m cseqK).1).2.1 ≠ m.method):=fun h=>by rw [if_pos h] at e3; simp at e3
  rw [if_neg (by simp [q1,q2,q3]),if_neg q4]
  simp
 ·rw [if_pos hx]
  rcases (show k=0∨k=1∨k=2∨k=3 by omega) with rfl | rfl | rfl | rfl
  ·rw [F0] at he;rw [if_pos (by rw [he]; exact hx),he]
  ·have e0:=hj 0 (by omega);rw [F0] at e0;rw [F1] at he;rw [if_neg (by simp [e0]),if_pos (by rw [he]; exact hx),he]
  ·have e0:=hj 0 (by omega);have e1:=hj 1 (by omega);rw [F0] at e0;rw [F1] at e1;rw [F2] at he;rw [if_neg (by simp [e0]),if_neg (by simp [e1])];by_cases q1:(oneV m callK).2=false
   ·rw [if_pos q1] at he;rw [if_pos (Or.inl q1),he]
   ·rw [if_neg q1] at he;by_cases q3:callB (oneV m callK).1=true
    ·rw [if_pos q3] at he; exact absurd he.symm hx
    ·rw [if_neg q3] at he;rw [if_pos (Or.inr (Or.inr (by simpa using q3))),he]
  ·have e0:=hj 0 (by omega);have e1:=hj 1 (by omega);have e2:=hj 2 (by omega);rw [F0] at e0;rw [F1] at e1;rw [F2] at e2;rw [F3] at he;rw [if_neg (by simp [e0]),if_neg (by simp [e1])];have q1:(oneV m callK).2=true:=by cases h:(oneV m callK).2 with | true=>rfl | false=>rw [h] at e2; simp at e2
   rw [q1] at e2;have q3:callB (oneV m callK).1=true:=by cases h:callB (oneV m callK).1 with | true=>rfl | false=>rw [h] at e2; simp at e2
   by_cases q2:(oneV m cseqK).2=false
   ·rw [if_pos q2] at he;rw [if_pos (Or.inr (Or.inl q2)),he]
   ·rw [if_neg q2] at he;rw [if_neg (by simp [q1,q2,q3])];by_cases q4:(seqV (oneV m cseqK).1).2.2 ≠ 0∨(seqV (oneV m cseqK).1).2.1 ≠ m.method
    ·rw [if_pos q4] at he;rw [if_pos q4,he]
    ·rw [if_neg q4] at he; exact absurd he.symm hx
theorem RqB.below {B:Nat} {c:RqC} {w w':World} (h:RqB B c w) (hb:Below w.heap.size w w'):RqB B c w':=⟨h.frm.below hb,h.too.below hb,h.tp,h.th,h.eq,h.co,h.ro,h.ac,h.t,h.e,h.l⟩
structure CbIn (w:World) (m:Ms) (h:Value) (c:RqC) (wr:World):Prop where
 bx:BoxM wr w.heap.size m h
 rs:wr.heap[w.heap.size+1]? = some (.cells rq0 37 (0,0))
 row:RowIs wr (w.heap.size+1+1) 37 (rqCells c)
 rq:RqB (w.heap.size+1+1+1) c wr
 b:Below w.heap.size w wr
 lt:w.heap.size+1+1 < wr.heap.size
section
variable {w wr w' : World} {m : Ms} {h : Value} {c c' : RqC}
theorem CbIn.below (H:CbIn w m h c wr) (hb:Below wr.heap.size wr w'):CbIn w m h c w':=by
 have:=H.lt
 exact ⟨H.bx.below hb (by omega),Below.one hb H.rs,H.row.below hb (by omega),H.rq.below hb,H.b.trans (hb.mono H.b.size),Nat.lt_of_lt_of_le H.lt hb.size⟩
theorem CbIn.upd (H:CbIn w m h c wr) (hu:Upd (w.heap.size+1+1) c' wr w') (hq:RqB (w.heap.size+1+1+1) c' w'):CbIn w m h c' w':=by
 have:=H.lt
 exact ⟨H.bx.upd hu (by omega) (by omega),hu.one H.rs (by omega),hu.row,hq,hu.outer0 H.b (by omega),Nat.lt_of_lt_of_le H.lt hu.size⟩
theorem CbIn.hop (H:CbIn w m h c wr) {x y:List UInt8} (hu:Upd (w.heap.size+1+1) (c.hop x y) wr w'):CbIn w m h (c.hop x y) w' :=
 H.upd hu ⟨H.rq.frm.upd hu (by omega),H.rq.too.upd hu (by omega),H.rq.tp,H.rq.th,H.rq.eq,H.rq.co,H.rq.ro,H.rq.ac,H.rq.t,H.rq.e,H.rq.l⟩
theorem CbIn.frm (H:CbIn w m h c wr) {a:AdrC} (hu:Upd (w.heap.size+1+1) (c.frmC a) wr w') (ha:a.Own w' wr.heap.size):CbIn w m h (c.frmC a) w' :=
 H.upd hu ⟨ha.mono H.lt,H.rq.too.upd hu (by omega),H.rq.tp,H.rq.th,H.rq.eq,H.rq.co,H.rq.ro,H.rq.ac,H.rq.t,H.rq.e,H.rq.l⟩
theorem CbIn.too (H:CbIn w m h c wr) {a:AdrC} (hu:Upd (w.heap.size+1+1) (c.tooC a) wr w') (ha:a.Own w' wr.heap.size):CbIn w m h (c.tooC a) w' :=
 H.upd hu ⟨H.rq.frm.upd hu (by omega),ha.mono H.lt,H.rq.tp,H.rq.th,H.rq.eq,H.rq.co,H.rq.ro,H.rq.ac,H.rq.t,H.rq.e,H.rq.l⟩
theorem CbIn.cid (H:CbIn w m h c wr) {s:List UInt8} (hu:Upd (w.heap.size+1+1) (c.cid s) wr w'):CbIn w m h (c.cid s) w' :=
 H.upd hu ⟨H.rq.frm.upd hu (by omega),H.rq.too.upd hu (by omega),H.rq.tp,H.rq.th,H.rq.eq,H.rq.co,H.rq.ro,H.rq.ac,H.rq.t,H.rq.e,H.rq.l⟩
theorem CbIn.seq (H:CbIn w m h c wr) {n:Int} (hu:Upd (w.heap.size+1+1) (c.seqC n) wr w'):CbIn w m h (c.seqC n) w' :=
 H.upd hu ⟨H.rq.frm.upd hu (by omega),H.rq.too.upd hu (by omega),H.rq.tp,H.rq.th,H.rq.eq,H.rq.co,H.rq.ro,H.rq.ac,H.rq.t,H.rq.e,H.rq.l⟩
end
def NdIn (w:World) (m:Ms) (h:Value) (gm g:Nat) (k:Nat) (wr:World):Prop:=∃ c,CbIn w m h c wr∧c.r=preB m k∧TxtAt wr gm m.method∧PtrAt wr g (w.heap.size+1+1)
theorem NdIn.below {w wr w':World} {m:Ms} {h:Value} {gm g k:Nat} (H:NdIn w m h gm g k wr) (hb:Below wr.heap.size wr w'):NdIn w m h gm g k w':=by
 obtain ⟨c,h1,h2,h3,h4⟩:=H;exact ⟨c,h1.below hb,h2,h3.below hb,h4.below hb⟩
theorem need_calls (w:World) (m:Ms) (h:Value) (gm g:Nat) (hsm:SmallM 1048576 m):∀ k (hk:k < (needL gm g).length) wr,NdIn w m h gm g k wr → (oneV m (needL gm g)[k].nm).2=true →
  Calls Tryz.prog (needL gm g)[k].fn (#[.string ⟨(oneV m (needL gm g)[k].nm).1.toArray⟩]++(needL gm g)[k].cap) wr fun e w'=>e=.returned (.int .i64 (needE m k))∧(∃ c',Upd (w.heap.size+1+1) c' wr w')∧(needE m k=0 → NdIn w m h gm g (k+1) w'):=by
 intro k hk wr ⟨c,H,hc,ht,hp⟩ ho;have n1:=txt_ne ht H.row;have n2:=ptr_ne hp H.row
 match k,hk with
 | 0,hk =>
  refine (need1_any (oneV m fromK).1 (w.heap.size+1+1) g c wr (one_small hsm _) hp H.row).mono ?_
  rintro e w' ⟨rfl,a,ha,hao,hu⟩;refine ⟨rfl,⟨_,hu⟩,fun _=>⟨c.frmC a,H.frm hu hao,?_,hu.one ht n1,hu.one hp n2⟩⟩
  show { c.r with frm:=a.a }=pre1 m
  rw [hc,ha,← addressV_one (nm:=fromK) ho]
  rfl
 | 1,hk =>
  refine (need2_any (oneV m toK).1 (w.heap.size+1+1) g c wr (one_small hsm _) hp H.row).mono ?_
  rintro e w' ⟨rfl,a,ha,hao,hu⟩;refine ⟨rfl,⟨_,hu⟩,fun _=>⟨c.tooC a,H.too hu hao,?_,hu.one ht n1,hu.one hp n2⟩⟩
  show { c.r with too:=a.a }=pre2 m
  rw [hc,ha,← addressV_one (nm:=toK) ho]
  rfl
 | 2,hk =>
  refine (need3_any (oneV m callK).1 (w.heap.size+1+1) g c wr (one_small hsm _) hp H.row).mono ?_
  rintro e w' ⟨rfl,hu⟩;refine ⟨rfl,⟨_,hu⟩,fun h0=>?_⟩
  have hb:callB (oneV m callK).1=true:=by
   cases hx:callB (oneV m callK).1 with
   | true=>rfl
   | false=>simp [needE,hx] at h0
  rw [if_pos hb] at hu;refine ⟨c.cid (oneV m callK).1,H.cid hu,?_,hu.one ht n1,hu.one hp n2⟩
  show { c.r with callID:=(oneV m callK).1 }=pre3 m
  rw [hc]
  rfl
 | 3,hk =>
  refine (need4_any (oneV m cseqK).1 m.method (w.heap.size+1+1) g gm c wr (one_small hsm _) ht hp H.row).mono ?_
  rintro e w' ⟨rfl,hu⟩;refine ⟨rfl,⟨_,hu⟩,fun h0=>?_⟩
  have hb:¬ ((seqV (oneV m cseqK).1).2.2 ≠ 0∨(seqV (oneV m cseqK).1).2.1 ≠ m.method):=fun hx=>by
   have:needE m 3=80:=by show (if _ then _ else _)=_; rw [if_pos hx]
   rw [this] at h0
   simp at h0
  rw [if_neg hb] at hu;refine ⟨c.seqC (seqV (oneV m cseqK).1).1,H.seq hu,?_,hu.one ht n1,hu.one hp n2⟩
  show { c.r with seq:=(seqV (oneV m cseqK).1).1 }=pre4 m
  rw [hc]
  rfl
 | k+4,hk=>exact absurd hk (by simp [needL])
end Go.Proofs.YtiogedceommcoaaGreatDoor
namespace Go.Proofs.YtiogedceommcoaaGreatDoor
section
variable {P : Program} {md : Region.Mode} {C : World → Prop} {Q' : Exit → Act → World → Prop} {Q1 : Act → Prop}
def reachB (md:Region.Mode) (l:List Oper) (n:Nat):Nat → Nat → Nat → Bool
 | 0,_,_=>false
 | f+1,j,i=>match l[j]? with
  | some o=>o.after.any fun e=>Region.binds md e && (e.on==i || (decide (e.on < n) && reachB md l n f e.on i))
  | none=>false
def tailC (md:Region.Mode) (l:List Oper) (n:Nat):Bool :=
 decide (n≤l.length) &&
 (List.range n).all (fun j=>match l[j]? with
  | some o=>o.after.all (fun e=>!Region.binds md e || decide (e.on < j)) && (match o.guard with | some (g,_)=>decide (g < n) | none=>true)
  | none=>false) &&
 (List.range l.length).all (fun j=>decide (j < n) || (List.range n).all fun i=>reachB md l n (n+1) j i)
theorem tailC_spec {l:List Oper} {n:Nat} (h:tailC md l n=true):n≤l.length ∧
  (∀ j o,j < n → l[j]? = some o → (∀ e ∈ o.after,Region.binds md e=true → e.on < j)∧∀ g b,o.guard=some (g,b) → g < n) ∧
  (∀ j,n≤j → j < l.length → ∀ i,i < n → reachB md l n (n+1) j i=true):=by
 simp only [tailC,Bool.and_eq_true,decide_eq_true_eq] at h;obtain ⟨⟨h1,h2⟩,h3⟩:=h;refine ⟨h1,fun j o hj ho=>?_,fun j hj hl i hi=>?_⟩
 ·have:=List.all_eq_true.1 h2 j (List.mem_range.2 hj)
  simp only [ho,Bool.and_eq_true] at this;refine ⟨fun e he hb=>?_,fun g b hg=>?_⟩
  ·have h4:=Array.all_eq_true_iff_forall_mem.1 this.1 e he;simp only [hb,Bool.not_true,Bool.false_or,decide_eq_true_eq] at h4;exact h4
  ·have h5:=this.2;simp only [hg,decide_eq_true_eq] at h5;exact h5
 ·have:=List.all_eq_true.1 h3 j (List.mem_range.2 hl)
  simp only [show ¬ j < n by omega,decide_false,Bool.false_or] at this;exact List.all_eq_true.1 this i (List.mem_range.2 hi)
def DownC (md:Region.Mode) (l:List Oper) (n:Nat) (l1:Array Bool):Prop:=∀ k o,k < n → l1[k]? = some true → l[k]? = some o → ∀ e ∈ o.after,Region.binds md e=true → l1[e.on]? = some true
theorem reach_listed {l:List Oper} {n:Nat} {l1:Array Bool} (hd:DownC md l n l1):∀ (f j i:Nat) (o:Oper),l[j]? = some o → (∀ e ∈ o.after,Region.binds md e=true → e.on < n → l1[e.on]? = some true) → i < n → reachB md l n f j i=true → l1[i]? = some true
 | 0,j,i,o,ho,ha,hi,hr=>by simp [reachB] at hr
 | f+1,j,i,o,ho,ha,hi,hr=>by
  simp only [reachB,ho] at hr;obtain ⟨e,he,hb⟩:=Array.any_eq_true'.1 hr;simp only [Bool.and_eq_true,Bool.or_eq_true,beq_iff_eq,decide_eq_true_eq] at hb;obtain ⟨hb,h1 | ⟨h2,h3⟩⟩:=hb
  ·rw [← h1]; exact ha e he hb (by omega)
  ·have hl:=ha e he hb h2
   cases ho':l[e.on]? with
   | none =>
    cases f with
    | zero=>simp [reachB] at h3
    | succ f=>simp [reachB,ho'] at h3
   | some o'=>exact reach_listed hd f e.on i o' ho' (fun e' he' hb' _=>hd e.on o' h2 hl ho' e' he' hb') hi h3
theorem tailC_all {l:List Oper} {n:Nat} (hn:n≤l.length) (hlo:∀ j o,j < n → l[j]? = some o → (∀ e ∈ o.after,Region.binds md e=true → e.on < j)∧∀ g b,o.guard=some (g,b) → g < n) {l1:Array Bool} (hs:l1.size=n) (h:Region.ready md (l.take n).toArray l1=[]):∀ i,i < n → l1[i]? = some true:=by
 intro i
 induction i using Nat.strongRecOn with
 | _ i ih =>
  intro hi
  cases e:l1[i]? with
  | none=>rw [Array.getElem?_eq_none_iff] at e; omega
  | some b =>
   cases b with
   | true=>rfl
   | false =>
    exfalso
    have ho:l[i]? = some (l[i]'(by omega)):=List.getElem?_eq_getElem (by omega)
    have:i ∈ Region.ready md (l.take n).toArray l1:=by
     rw [mem_ready];refine ⟨by rw [Array.getD_eq_getD_getElem?,e]; rfl,l[i]'(by omega),by rw [take_at hi,List.getElem?_toArray]; exact ho,fun x hx hb=>?_⟩
     have hlt:=(hlo i _ hi ho).1 x hx hb;rw [Array.getD_eq_getD_getElem?,ih x.on hlt (by omega)]; rfl
    rw [h] at this
    cases this
theorem getD_true {a:Array Bool} {i:Nat} {d:Bool} (h:a.getD i d=true) (hi:i < a.size):a[i]? = some true:=by
 rw [Array.getD_eq_getD_getElem?,Array.getElem?_eq_getElem hi] at h;rw [Array.getElem?_eq_getElem hi]
 simpa using h
theorem wpAny_tailC {l:List Oper} {n:Nat} (hT:tailC md l n=true) (H:∀ a w,C w → Q1 a → wpAny P md l.toArray Q' (l.length - n) (endL n l.length) a w) :
  ∀ (f:Nat) (l1 listed:Array Bool) (a:Act) (w:World),wpAnyQ P md (l.take n).toArray C Q1 f l1 a → LRel n l.length listed l1 → DownC md l n l1 → C w → wpAny P md l.toArray Q' (f+(l.length - n)) listed a w:=by
 obtain ⟨hn,hlo,hhi⟩:=tailC_spec hT;intro f
 induction f with
 | zero =>
  intro l1 listed a w h hr hd hw;rw [hr.end hn (tailC_all hn hlo hr.s1 h.1),Nat.zero_add];exact H a w hw h.2
 | succ f ih =>
  intro l1 listed a w h hr hd hw
  cases hz:Region.ready md (l.take n).toArray l1 with
  | nil =>
   rw [hr.end hn (tailC_all hn hlo hr.s1 hz)];exact wpAny_plus (H a w hw (h.1 hz)) _
  | cons k ks =>
   have hk:k ∈ Region.ready md (l.take n).toArray l1:=by rw [hz]; simp
   obtain ⟨hk0,ok,hok,hkall⟩:=mem_ready.1 hk;have hkn:=take_lt hok;have up:∀ i,i < n → i ∈ Region.ready md l.toArray listed → i ∈ Region.ready md (l.take n).toArray l1:=fun i hi hm=>by
    obtain ⟨h0,o,ho,hall⟩:=mem_ready.1 hm;refine mem_ready.2 ⟨by rw [← hr.getD hi]; exact h0,o,by rw [take_at hi]; exact ho,fun e he hb=>?_⟩
    have hlt:=(hlo i o hi (by rw [← List.getElem?_toArray]; exact ho)).1 e he hb;rw [← hr.getD (by omega)]; exact hall e he hb
   rw [Nat.succ_add];refine ⟨fun h0=>?_,fun i hi=>?_⟩
   ·exfalso
    have:k ∈ Region.ready md l.toArray listed:=by
     refine mem_ready.2 ⟨by rw [hr.getD hkn]; exact hk0,ok,by rw [← take_at hkn]; exact hok,fun e he hb=>?_⟩
     have hlt:=(hlo k ok hkn (by rw [take_at hkn,List.getElem?_toArray] at hok; exact hok)).1 e he hb;rw [hr.getD (by omega)]; exact hkall e he hb
    rw [h0] at this
    cases this
   ·obtain ⟨h0,o,ho,hall⟩:=mem_ready.1 hi;have ho':l[i]? = some o:=by rw [← List.getElem?_toArray]; exact ho
    by_cases hin:i < n
    ·have h1:=h.2 i (up i hin hi);refine wpOp_of_qOp hw (fun a' w' hw' hk'=>ih _ _ a' w' hk' (hr.set hn hin) ?_ hw') (qOp_take hin (fun o ho=>(hlo i o hin ho).2) h1)
     intro k' o' hk' hl' hx e he hb;have hlt:=(hlo k' o' hk' hx).1 e he hb;have hs:=hr.s1;rw [Array.getElem?_setIfInBounds] at hl' ⊢;by_cases e1:i=e.on
     ·rw [if_pos e1,if_pos (by omega)]
     ·rw [if_neg e1];by_cases e2:i=k'
      ·subst e2;rw [ho'] at hx
       injection hx with hx
       subst hx
       have:=hall e he hb
       rw [hr.getD (show e.on < n by omega)] at this;exact getD_true this (by omega)
      ·rw [if_neg e2] at hl';exact hd k' o' hk' hl' hx e he hb
    ·exfalso
     have hil:i < l.length:=(List.getElem?_eq_some_iff.1 ho').1;have hs:=hr.s1;have hL:=reach_listed hd (n+1) i k o ho' (fun e he hb hlt=>by
      have:=hall e he hb
      rw [hr.getD hlt] at this;exact getD_true this (by omega)) hkn (hhi i (by omega) hil k hkn)
     rw [Array.getD_eq_getD_getElem?,hL] at hk0
     simp at hk0
theorem wp_region_tailC {id:Nat} {a:Act} {w:World} {l:List Oper} (n:Nat) (hm:P.follows .mixedOrders=true) (hB:Region.lexB .any (l.take n).toArray=true) (hT:tailC .any l n=true) (hC:C { w with drawn:=w.drawn+1 })
  (h:wpQuiet P (l.take n).toArray C (fun a'=>∀ w',C w' → wpAny P .any l.toArray Q' (l.length - n) (endL n l.length) a' w') (l.take n) a):(Code.region id l.toArray true).wp P Q' a w:=by
 obtain ⟨hn,_,_⟩:=tailC_spec hT;simp only [Region.lexB,Bool.and_eq_true] at hB;refine wp_region_any hm ?_
 have hq:=wpAnyQ_lex (C:=C) (md:=.any) (P:=P) hB.1 (l.take n) 0 (Array.replicate (l.take n).toArray.size false) a (by simp) (by simpa using hB.2) h;have hrel:LRel n l.length (Array.replicate l.length false) (Array.replicate (l.take n).toArray.size false):=by
  refine ⟨by simp,by simp; omega,fun i hi=>?_,fun i h1 h2=>?_⟩
  ·rw [Array.getElem?_replicate,Array.getElem?_replicate,if_pos (by omega),if_pos (by simp; omega)]
  ·rw [Array.getElem?_replicate,if_pos h2]
 have hd:DownC .any l n (Array.replicate (l.take n).toArray.size false):=by
  intro k o hk hl;rw [Array.getElem?_replicate] at hl
  split at hl <;> simp at hl
 have:=wpAny_tailC (Q':=Q') hT (fun a w hw h1=>h1 w hw) _ _ _ a _ hq hrel hd hC
 rw [List.length_take,Nat.min_eq_left hn,Nat.add_sub_cancel' hn] at this
 simpa using this
theorem wp_region_tailC_of {id:Nat} {a:Act} {w:World} {l:List Oper} (n:Nat) (hm:P.follows .mixedOrders=true) (hB:Region.lexB .any (l.take n).toArray=true) (hT:tailC .any l n=true)
  (h:∀ T:Act → Prop,(∀ a',(∀ w',(∃ p:Regrown,w'=Sort.grow (redrawn w p.d) p.os) → wpAny P .any l.toArray Q' (l.length - n) (endL n l.length) a' w') → T a') →
   wpQuiet P (l.take n).toArray (fun w'=>∃ p:Regrown,w'=Sort.grow (redrawn w p.d) p.os) T (l.take n) a):(Code.region id l.toArray true).wp P Q' a w :=
 wp_region_tailC (C:=fun w'=>∃ p:Regrown,w'=Sort.grow (redrawn w p.d) p.os) n hm hB hT ⟨⟨w.drawn+1,#[]⟩,by rw [Sort.grow_empty]; rfl⟩ (h _ fun _ h=>h)
end
end Go.Proofs.YtiogedceommcoaaGreatDoor
namespace Go.Proofs.YtiogedceommcoaaGreatDoor
open Go.RowKit Sc
theorem info_str10:(Tryz.prog.info? 9).map (·.size)=some 1:=by kernel_rfl
theorem run_storeVar_cell {P:Program} (w:World) (b k:Nat) (ty:TypeId) (v x:Value) (hv:v.cells=#[v]) (h1:v.oneCell'=true) (hi:(P.info? ty).map (·.size)=some 1) (hc:w.cell? ⟨b,k,none⟩=some x) (hf:w.frozen? ⟨b,k,none⟩=false) :
  (storeVar ty ⟨b,k,none⟩ v).run P w=.ok () (w.setCell ⟨b,k,none⟩ v):=by
 have h0:∀ j,j < [v].length → j=0:=fun j hj=>by simpa using hj
 have:=run_storeCells_cells (P:=P) b k [v] 0 w (fun j hj=>by rw [h0 j hj]; simp [hc]) (fun j hj=>by rw [h0 j hj]; simpa using hf) (fun u hu=>by simp at hu; rw [hu]; exact h1)
 cases hq:P.info? ty with
 | none=>simp [hq] at hi
 | some i =>
  have hs:i.size=1:=by simp [hq] at hi; omega
  simp only [Nat.add_zero] at this
  simp [storeVar,sizeOf,typeInfo,hq,hv,hs,this,World.setCells]
theorem wp_store_cell {P:Program} {o:Oper} {a:Act} {w:World} {K:Act → World → Prop} {Q:Exit → Act → World → Prop} (ty:TypeId) (x y:Operand) (ho:o.op=.store ty x y)
  (b k:Nat) (v:Value) (hx:a.eval x=.pointer (some ⟨b,k,none⟩)) (hy:a.eval y=v) (u:Value) (hv:v.cells=#[v]) (h1:v.oneCell'=true) (hi:(P.info? ty).map (·.size)=some 1) (hc:w.cell? ⟨b,k,none⟩=some u) (hf:w.frozen? ⟨b,k,none⟩=false)
  (h:K (a.put o.dst undef) (w.setCell ⟨b,k,none⟩ v)):o.wp P a w K Q:=by
 unfold Oper.wp execOp;simp only [ho,hx,hy,Instr.storeAt,Instr.sureAddr,Sem.run_bind,Sem.run_pure,Result.andThen_ok,run_storeVar_cell w b k ty v u hv h1 hi hc hf];exact h
theorem wp_field_op {P:Program} {o:Oper} {a:Act} {w:World} {K:Act → World → Prop} {Q:Exit → Act → World → Prop} (t:TypeId) (x:Operand) (f:Nat) (ho:o.op=.fieldAddr t x f) (v:Value)
  (hr:(Instr.fieldAt t (a.eval x) f).run P w=.ok v w) (h:K (a.put o.dst v) w):o.wp P a w K Q:=by
 unfold Oper.wp execOp;simp only [ho,Sem.run_bind,hr,Result.andThen_ok,Sem.run_pure];exact h
theorem readNeeded_base (m:Ms) (h:Value) (w W:World) (c:RqC) (gm g bl:Nat) (hsm:SmallM 1048576 m) (hhl:m.headers.length≤1048576) (hat:HdrsAt w h m.headers) (H:CbIn w m h c W) (hc:c.r=preB m 0) (ht:TxtAt W gm m.method) (hp:PtrAt W g (w.heap.size+1+1))
  (hrow:RowIs W bl 104 (singCells (needL gm g))) :
  Calls Tryz.prog 23 #[msgV m h,.slice (some ⟨bl,0,none⟩) 4 4] W fun e w'=>∃ x,e=.returned (.int .i64 x)∧FirstE (needF m (needL gm g) (needE m)) 4 x∧(x=0 → NdIn w m h gm g 4 w')∧∃ c',Upd (w.heap.size+1+1) c' W w':=by
 have hne:bl ≠ w.heap.size+1+1:=by
  rintro rfl
  have:=H.row
  unfold RowIs at this hrow;rw [hrow] at this
  simp at this
 exact readNeeded_any m h (needL gm g) bl (w.heap.size+1+1) c w W (NdIn w m h gm g) (needE m) (hsm.le (by omega)) (by omega) hat H.b (by omega) (need_enters gm g) (by intro s hs; simp [needL] at hs; rcases hs with rfl | rfl | rfl | rfl <;> simp [fromK,toK,callK,cseqK]) (by simp [needL]) hrow hne H.row
  (fun k wr w' h1 h2=>h1.below h2) ⟨c,H,hc,ht,hp⟩ (need_calls w m h gm g hsm)
def cE:RqC:=noC.exp (-1)
def rq1:Array Value:=(rqCells cE).toArray
theorem buildR0 (u:World):(Instr.build 37 #[]).run Tryz.prog u=.ok (.agg rq0) u:=by kernel_rfl
theorem buildR1 (u:World):(Instr.build 37 #[(10,.int .i64 (-1))]).run Tryz.prog u=.ok (.agg rq1) u:=by kernel_rfl
theorem infoR1:(Tryz.prog.info? 37).map (·.size)=some rq1.size:=by kernel_rfl
theorem cE_sl:cE.Sl:=⟨nil_sl,nil_sl,nil_sl,nil_sl,nil_sl,nil_sl,nil_sl,nil_sl,nil_sl,nil_sl,nil_sl,nil_sl⟩
theorem oneR1:rq1.all (·.oneCell')=true:=oneR cE_sl
theorem cb_in (w:World) (m:Ms) (h:Value):CbIn w m h cE (((w.alloc (objM m h)).alloc (.cells rq0 37)).alloc (.cells rq1 37)):=by
 have s1:(w.alloc (objM m h)).heap.size=w.heap.size+1:=by simp
 have s2:((w.alloc (objM m h)).alloc (.cells rq0 37)).heap.size=w.heap.size+1+1:=by simp
 have A1:=(Below.refl w.heap.size w).alloc (Nat.le_refl _) (objM m h);have A2:=(Below.refl _ (w.alloc (objM m h))).alloc (Nat.le_refl _) (.cells rq0 37);have A3:=(Below.refl _ ((w.alloc (objM m h)).alloc (.cells rq0 37))).alloc (Nat.le_refl _) (.cells rq1 37);refine ⟨((boxM_new w m h).below A2 (by simp)).below A3 (by simp; omega),?_,?_,?_,(A1.trans (A2.mono (by simp))).trans (A3.mono (by simp; omega)),by simp⟩
 ·rw [A3.block _ (by simp),← s1,heap_alloc_new]
 ·unfold RowIs; rw [← s2,heap_alloc_new]; rfl
 ·exact ⟨⟨OwnP.nil _ _,OwnP.nil _ _,OwnP.nil _ _⟩,⟨OwnP.nil _ _,OwnP.nil _ _,OwnP.nil _ _⟩,rfl,rfl,rfl,rfl,rfl,rfl,rfl,rfl,⟨rfl,rfl,rfl⟩⟩
def RqC.tags (c:RqC) (f t:List UInt8):RqC:={ c with r:={ c.r with fromTag:=f,toTag:=t } }
def RqC.whole (c:RqC) (me bo:List UInt8):RqC:={ c with r:={ c.r with method:=me,body:=bo } }
theorem base_whole {m:Ms} {c:RqC} (h:c.r=preB m 4):((c.tags (valV c.r.frm.params [116,97,103]).1 (valV c.r.too.params [116,97,103]).1).whole m.method m.body).r=baseR m:=by
 show ({ c.r with fromTag:=(valV c.r.frm.params [116,97,103]).1,toTag:=(valV c.r.too.params [116,97,103]).1,method:=m.method,body:=m.body }:Rq)=baseR m
 rw [h]
 rfl
section
variable {w wr w' : World} {m : Ms} {h : Value} {c : RqC}
theorem CbIn.tags (H:CbIn w m h c wr) (f t:List UInt8):CbIn w m h (c.tags f t) ((wr.setCell ⟨w.heap.size+1+1,25,none⟩ (.string ⟨f.toArray⟩)).setCell ⟨w.heap.size+1+1,26,none⟩ (.string ⟨t.toArray⟩)):=by
 have hu:=(((Upd.refl H.row).put (c':={ c with r:={ c.r with fromTag:=f } }) 25 (.string ⟨f.toArray⟩) rfl).put (c':=c.tags f t) 26 (.string ⟨t.toArray⟩) rfl)
 exact H.upd hu ⟨H.rq.frm.upd hu (by omega),H.rq.too.upd hu (by omega),H.rq.tp,H.rq.th,H.rq.eq,H.rq.co,H.rq.ro,H.rq.ac,H.rq.t,H.rq.e,H.rq.l⟩
theorem CbIn.whole (H:CbIn w m h c wr) (f t:List UInt8):CbIn w m h (c.whole f t) ((wr.setCell ⟨w.heap.size+1+1,0,none⟩ (.string ⟨f.toArray⟩)).setCell ⟨w.heap.size+1+1,37,none⟩ (.string ⟨t.toArray⟩)):=by
 have hu:=(((Upd.refl H.row).put (c':={ c with r:={ c.r with method:=f } }) 0 (.string ⟨f.toArray⟩) rfl).put (c':=c.whole f t) 37 (.string ⟨t.toArray⟩) rfl)
 exact H.upd hu ⟨H.rq.frm.upd hu (by omega),H.rq.too.upd hu (by omega),H.rq.tp,H.rq.th,H.rq.eq,H.rq.co,H.rq.ro,H.rq.ac,H.rq.t,H.rq.e,H.rq.l⟩
theorem cb_out {R:Rq × Int} (H:CbIn w m h c wr) (hR:R=(c.r,0)) :
  (BaseRes R w.heap.size (wr.setRow (w.heap.size+1) (rqCells c).toArray) (.returned (.tuple #[.agg (rqCells c).toArray,.int .i64 0]))∧Below w.heap.size w (wr.setRow (w.heap.size+1) (rqCells c).toArray)) ∧
  (wr.setRow (w.heap.size+1) (rqCells c).toArray).heap[w.heap.size+1]? = some (.cells (rqCells c).toArray 37 (0,0)):=by
 have q:=H.rq;have g1:w.heap.size+1 < w.heap.size+1+1+1:=by omega
 have f:AdrC.Own (wr.setRow (w.heap.size+1) (rqCells c).toArray) (w.heap.size+1+1+1) ⟨c.r.frm,c.fp,c.fh,c.fq⟩:=⟨OwnP.setRow q.frm.1 g1 _,OwnP.setRow q.frm.2.1 g1 _,OwnP.setRow q.frm.2.2 g1 _⟩
 have t:AdrC.Own (wr.setRow (w.heap.size+1) (rqCells c).toArray) (w.heap.size+1+1+1) ⟨c.r.too,c.op,c.oh,c.oq⟩:=⟨OwnP.setRow q.too.1 g1 _,OwnP.setRow q.too.2.1 g1 _,OwnP.setRow q.too.2.2 g1 _⟩
 refine ⟨⟨⟨c,by rw [hR],by rw [hR]; rfl,⟨f.mono (by omega),t.mono (by omega),q.tp,q.th,q.eq,q.co,q.ro,q.ac,q.t,q.e,q.l⟩⟩,below_setRow H.b (by omega) _⟩,setRow_heap _ _ _ _ _ _ H.rs⟩
end
set_option maxHeartbeats 8000000 in
set_option maxRecDepth 100000 in
theorem cbase_any (m:Ms) (h:Value) (w:World) (hsm:SmallM 1048576 m) (hhl:m.headers.length≤1048576) (hat:HdrsAt w h m.headers) :
  Calls Tryz.prog 10 #[msgV m h] w fun e w'=>BaseRes (baseV m) w.heap.size w' e∧Below w.heap.size w w':=by
 have hz:=zeroR0;have hb0:=buildR0;have hb1:=buildR1;have H0:=hid (base_in w m h);have HA:=hid (cb_in w m h);obtain ⟨ao,cap,hh0,_⟩:=hat.get;subst hh0;have hge:=H0.out.bx;have N0:((w.alloc (objM m (.slice ao m.headers.length cap))).alloc (.cells rq0 37)).heap[w.heap.size+1]? = some (.cells rq0 37 (0,0)):=by
  rw [show w.heap.size+1=(w.alloc (objM m (.slice ao m.headers.length cap))).heap.size by simp,heap_alloc_new]
 have B0:Below w.heap.size w ((w.alloc (objM m (.slice ao m.headers.length cap))).alloc (.cells rq0 37)):=((Below.refl w.heap.size w).alloc (Nat.le_refl _) (objM m (.slice ao m.headers.length cap))).alloc (by simp) _;have X0:=(boxM_new w m (.slice ao m.headers.length cap)).below ((Below.refl _ (w.alloc (objM m (.slice ao m.headers.length cap)))).alloc (Nat.le_refl _) (.cells rq0 37)) (by simp);by_cases hme:m.method=[]
 ·have HR:Hid (baseV m=(noR,1)):=show _=_ by unfold baseV; rw [if_pos hme]
  generalize baseV m=R at HR ⊢;obtain ⟨me,ta,st,re,hs,bo⟩:=m;simp only at hme;subst hme;clear H0 HA hge;unfold msgV;unfold objM at N0 B0 X0;simp only at N0 B0 X0 ⊢;obtain ⟨x0,x1,x2,x3,x4,x5⟩:=X0;simp only at x0 x1 x2 x3 x4 x5
  go_enter Tryz.func10,Tryz.ntmps10
  go_wp2_with (first
   | (refine wpList_store_row rfl 37 (.tmp 2) _ rfl (w.heap.size+1) rq0 rfl rfl _ _ N0 infoR0 rfl oneR0 ?_; rw [setRow_self _ _ _ _ _ N0]))
  have hld:=run_loadVar_row (P:=Tryz.prog) _ _ _ 37 _ _ _ N0 Tryz.underlying37 rfl infoR0
  try simp only [Exit.inBlock,Exit.then]
  refine bodyPost_ret (v:=.tuple #[.agg rq0,.int .i64 1]) (by simp [results,Tryz.results10,asAddr,hld]; try rfl) rfl ?_
  exact ⟨base_none HR.out,B0⟩
 ·have hme1:(m.method==[])=false:=by cases hm:m.method with | nil=>exact absurd hm hme | cons a b=>rfl
  have hme2:m.method.isEmpty=false:=by cases hm:m.method with | nil=>exact absurd hm hme | cons a b=>rfl
  have KH:=hid (fun W (H:CbIn w m (.slice ao m.headers.length cap) cE W)=>readHop_any m (.slice ao m.headers.length cap) (w.heap.size+1+1) cE w W hsm hhl hat H.b (by omega) H.row);have HBH:=hid (@base_hop m hme);have HHO:Hid (∀ W w',CbIn w m (.slice ao m.headers.length cap) cE W → hopE m=0 → Upd (w.heap.size+1+1) (hopC m cE) W w' → ∃ c,CbIn w m (.slice ao m.headers.length cap) c w'∧c.r=preB m 0):=fun W w' H h0 hu=>by
   unfold hopC at hu;rw [if_pos h0] at hu;exact ⟨_,H.hop hu,rfl⟩
  have KN:=hid (fun W=>needed_any m.method (w.heap.size+1+1) W);have KR:=hid (fun W c gm g bl=>readNeeded_base m (.slice ao m.headers.length cap) w W c gm g bl hsm hhl hat);have HBF:=hid (fun gm g x h0=>@base_first m gm g x hme h0);have HWH:=hid (fun c=>@base_whole m c);have HSP:Hid (∀ c:RqC,c.r=preB m 4 → SmallP 140737488355328 c.r.frm.params∧SmallP 140737488355328 c.r.too.params):=fun c hc=>by
   rw [hc];exact ⟨(@adr_small m fromK).2.2,(@adr_small m toK).2.2⟩
  have KC1:=hid (fun w'=>clone_list m.method w' (by have:=hsm.1; omega));have KC2:=hid (fun w'=>clone_list m.body w' (by have:=hsm.2.2.2.1; omega));have hset:(((w.alloc (objM m (.slice ao m.headers.length cap))).alloc (.cells rq0 37)).alloc (.cells rq0 37)).setRow (w.heap.size+1+1) rq1=((w.alloc (objM m (.slice ao m.headers.length cap))).alloc (.cells rq0 37)).alloc (.cells rq1 37):=by
   rw [show w.heap.size+1+1=((w.alloc (objM m (.slice ao m.headers.length cap))).alloc (.cells rq0 37)).heap.size by simp];exact World.setRow_alloc_new _ _ _ _
  have N1:=H0.out.no;obtain ⟨R,hR⟩:∃ R,baseV m=R:=⟨_,rfl⟩
  rw [hR] at HBH HBF ⊢;obtain ⟨hn,hhn⟩:∃ n,hopE m=n:=⟨_,rfl⟩
  rw [hhn] at KH HBH HHO HBF;have XA:=HA.out.bx;clear hsm hhl hat hR hhn H0 hge B0 N0;obtain ⟨me,ta,st,re,hs,bo⟩:=m;simp only at hme hme1 hme2;unfold msgV at KH KR ⊢;unfold objM at HA hset N1 X0 XA;simp only at KH KR KN KC1 KC2 HA hset N1 X0 XA ⊢;obtain ⟨x0,x1,x2,x3,x4,x5⟩:=X0;simp only at x0 x1 x2 x3 x4 x5;obtain ⟨z0,z1,z2,z3,z4,z5⟩:=XA;simp only at z0 z1 z2 z3 z4 z5
  go_enter Tryz.func10,Tryz.ntmps10
  go_wp2_with (first
   | (refine wpList_store_row rfl 37 (.tmp 4) _ rfl (w.heap.size+1+1) rq1 rfl rfl _ _ N1 infoR1 rfl oneR1 ?_; rw [hset]))
  refine (KH.out _ HA.out).mono ?_
  rintro e w1 ⟨rfl,hu1⟩;have rs1:=hu1.one HA.out.rs (by omega);have hbw1:=hu1.outer0 HA.out.b (by omega);have HO:=hid (fun h0=>HHO.out _ _ HA.out h0 hu1);clear x0 x1 x2 x3 x4 x5 z0 z1 z2 z3 z4 z5 HA hu1 hset N1 KH HHO;by_cases hn0:hn=0
  case neg =>
   have HR:Hid (R=(noR,hn)):=HBH.out hn0;have hne:(hn != 0)=true:=by simpa using hn0
   have hld:=run_loadVar_row (P:=Tryz.prog) _ _ _ 37 _ _ _ rs1 Tryz.underlying37 rfl infoR0;clear HBH HBF HO KN KR;go_wp2_with (first
    | (refine wpList_store_row rfl 37 (.tmp 2) _ rfl (w.heap.size+1) rq0 rfl rfl _ _ rs1 infoR0 rfl oneR0 ?_; rw [setRow_self _ _ _ _ _ rs1]))
   try simp only [Exit.inBlock,Exit.then]
   refine bodyPost_ret (v:=.tuple #[.agg rq0,.int .i64 hn]) (by simp [results,Tryz.results10,asAddr,hld]; try rfl) rfl ?_
   exact ⟨base_none HR.out,hbw1⟩
  subst hn0;obtain ⟨c1,hc1,hr1⟩:=HO.out rfl;have HX:=hid (fun w' (hb:Below w1.heap.size w1 w')=>hc1.below hb);have HR1:=hid hr1;obtain ⟨x0,x1,x2,x3,x4,x5⟩:=hc1.bx;simp only at x0 x1 x2 x3 x4 x5;have hlt1:=hc1.lt;clear HO HBH rs1 hbw1 hc1 hr1;go_wp2
  go_region_law (first
   | (go_simp; go_at_call 24; refine (KN.out _).mono ?_; rintro e w2 ⟨rfl,hw2,ht2,hp2,hrow2⟩; replace hw2:=(show Below w1.heap.size w1 w2 from (Below.refl w1.heap.size w1).drew.trans hw2); have HC2:=hid (HX.out w2 hw2); have HT2:=hid ht2; have HP2:=hid hp2; have HW2:=hid hrow2; obtain ⟨q0,q1,q2,q3,q4,q5⟩:=HC2.out.bx; simp only at q0 q1 q2 q3 q4 q5; clear ht2 hp2 hrow2)
   | (go_simp; go_at_call 23; refine (KR.out _ _ _ _ _ HC2.out HR1.out HT2.out HP2.out HW2.out).mono ?_; rintro e w3 ⟨x,rfl,hfx,hnx,⟨cq,hu3⟩⟩))
  all_goals (
   have rs3:=hu3.one HC2.out.rs (by omega);have hbw3:=hu3.outer0 HC2.out.b (by omega);have HF:=hid (HBF.out _ _ x (by first | rfl | trivial) hfx);have HNX:=hid hnx;clear x0 x1 x2 x3 x4 x5 q0 q1 q2 q3 q4 q5 HC2 HT2 HP2 HW2 hu3 hfx hnx HX HR1 KN KR HBF;by_cases hx:x=0
   case neg =>
    have HR:Hid (R=(noR,x)):=show _=_ by rw [HF.out,if_pos hx]
    have hne:(x != 0)=true:=by simpa using hx
    have hld:=run_loadVar_row (P:=Tryz.prog) _ _ _ 37 _ _ _ rs3 Tryz.underlying37 rfl infoR0;clear HF HNX;go_wp2_with (first
     | (refine wpList_store_row rfl 37 (.tmp 2) _ rfl (w.heap.size+1) rq0 rfl rfl _ _ rs3 infoR0 rfl oneR0 ?_; rw [setRow_self _ _ _ _ _ rs3]))
    try simp only [Exit.inBlock,Exit.then]
    refine bodyPost_ret (v:=.tuple #[.agg rq0,.int .i64 x]) (by simp [results,Tryz.results10,asAddr,hld]; try rfl) rfl ?_
    exact ⟨base_none HR.out,hbw3⟩
   subst hx;rw [if_neg (by simp)] at HF;obtain ⟨c4,hc4,hr4,_,_⟩:=HNX.out rfl;have HC4:=hid hc4;obtain ⟨sp1,sp2⟩:=HSP.out c4 hr4;have HWR:=hid (HWH.out c4 hr4);have KG1:=hid (fun w' (x:AdrC.At w' ⟨c4.r.frm,c4.fp,c4.fh,c4.fq⟩)=>tag_any ⟨c4.r.frm,c4.fp,c4.fh,c4.fq⟩ w' sp1 x);have KG2:=hid (fun w' (x:AdrC.At w' ⟨c4.r.too,c4.op,c4.oh,c4.oq⟩)=>tag_any ⟨c4.r.too,c4.op,c4.oh,c4.oq⟩ w' sp2 x);unfold adrV at KG1 KG2;simp only at KG1 KG2;generalize (valV c4.r.frm.params [116,97,103]).1=ft at KG1 HWR;generalize (valV c4.r.too.params [116,97,103]).1=tt at KG2 HWR;have cF:=hid (fun (d:Nat) (os:Array Obj)=>Calls.regrown_of (KG1.out (Sort.grow (redrawn w3 d) os) (HC4.out.rq.frm.below (below_regrown w3 d os)).at));have cT:=hid (fun (d:Nat) (os:Array Obj)=>Calls.regrown_of (KG2.out (Sort.grow (redrawn w3 d) os) (HC4.out.rq.too.below (below_regrown w3 d os)).at));have y9:w3.cell? ⟨w.heap.size+1+1,9,none⟩=some (.string ⟨c4.r.frm.display.toArray⟩):=HC4.out.row.cell 9 (by rw [rq_len]; decide);have y10:w3.cell? ⟨w.heap.size+1+1,10,none⟩=some (.string ⟨c4.r.frm.uri.scheme.toArray⟩):=HC4.out.row.cell 10 (by rw [rq_len]; decide);have y11:w3.cell? ⟨w.heap.size+1+1,11,none⟩=some (.string ⟨c4.r.frm.uri.user.toArray⟩):=HC4.out.row.cell 11 (by rw [rq_len]; decide);have y12:w3.cell? ⟨w.heap.size+1+1,12,none⟩=some (.string ⟨c4.r.frm.uri.host.toArray⟩):=HC4.out.row.cell 12 (by rw [rq_len]; decide);have y13:w3.cell? ⟨w.heap.size+1+1,13,none⟩=some (.int .i64 c4.r.frm.uri.port):=HC4.out.row.cell 13 (by rw [rq_len]; decide);have y14:w3.cell? ⟨w.heap.size+1+1,14,none⟩=some (c4.fp):=HC4.out.row.cell 14 (by rw [rq_len]; decide);have y15:w3.cell? ⟨w.heap.size+1+1,15,none⟩=some (c4.fh):=HC4.out.row.cell 15 (by rw [rq_len]; decide);have y16:w3.cell? ⟨w.heap.size+1+1,16,none⟩=some (c4.fq):=HC4.out.row.cell 16 (by rw [rq_len]; decide);have y17:w3.cell? ⟨w.heap.size+1+1,17,none⟩=some (.string ⟨c4.r.too.display.toArray⟩):=HC4.out.row.cell 17 (by rw [rq_len]; decide);have y18:w3.cell? ⟨w.heap.size+1+1,18,none⟩=some (.string ⟨c4.r.too.uri.scheme.toArray⟩):=HC4.out.row.cell 18 (by rw [rq_len]; decide);have y19:w3.cell? ⟨w.heap.size+1+1,19,none⟩=some (.string ⟨c4.r.too.uri.user.toArray⟩):=HC4.out.row.cell 19 (by rw [rq_len]; decide);have y20:w3.cell? ⟨w.heap.size+1+1,20,none⟩=some (.string ⟨c4.r.too.uri.host.toArray⟩):=HC4.out.row.cell 20 (by rw [rq_len]; decide);have y21:w3.cell? ⟨w.heap.size+1+1,21,none⟩=some (.int .i64 c4.r.too.uri.port):=HC4.out.row.cell 21 (by rw [rq_len]; decide);have y22:w3.cell? ⟨w.heap.size+1+1,22,none⟩=some (c4.op):=HC4.out.row.cell 22 (by rw [rq_len]; decide);have y23:w3.cell? ⟨w.heap.size+1+1,23,none⟩=some (c4.oh):=HC4.out.row.cell 23 (by rw [rq_len]; decide);have y24:w3.cell? ⟨w.heap.size+1+1,24,none⟩=some (c4.oq):=HC4.out.row.cell 24 (by rw [rq_len]; decide);clear hc4 hr4 sp1 sp2 KG1 KG2 rs3 hbw3 HNX HSP HWH;go_wp2;replace y9:=cell_regrown y9;replace y10:=cell_regrown y10;replace y11:=cell_regrown y11;replace y12:=cell_regrown y12;replace y13:=cell_regrown y13;replace y14:=cell_regrown y14;replace y15:=cell_regrown y15;replace y16:=cell_regrown y16;replace y17:=cell_regrown y17;replace y18:=cell_regrown y18;replace y19:=cell_regrown y19;replace y20:=cell_regrown y20;replace y21:=cell_regrown y21;replace y22:=cell_regrown y22;replace y23:=cell_regrown y23;replace y24:=cell_regrown y24;refine wp_region_tailC_of 7 followsMixed10 (by kernel_rfl) (by kernel_rfl) ?_
   intro T HT;replace HT:=hid HT;simp only [List.take_succ_cons,List.take_zero]
   repeat (go_big_quiet_step (first | with_reducible exact cF.out _ _ | with_reducible exact cT.out _ _))
   refine wpQuiet_nil (HT.out _ ?_)
   clear HT cF cT y9 y10 y11 y12 y13 y14 y15 y16 y17 y18 y19 y20 y21 y22 y23 y24;intro _ hw';obtain ⟨⟨dq,osq⟩,hw''⟩:=hw';subst hw'';have hq:=below_regrown w3 dq osq;generalize Sort.grow _ _=wx5 at hq ⊢;have HC5:=hid (HC4.out.below hq);have HS5:=hid (HC5.out.tags ft tt);have p1:=HC5.out.row.cell 25 (by rw [rq_len]; decide);have p2:=HC5.out.row.frozen 25;have p3:=HC5.out.row.set 25 (.string ⟨ft.toArray⟩);clear HC4;refine wpAny_go (f:=2) 7 _ (by kernel_rfl) rfl rfl ?_
   refine wp_store_cell 9 _ _ rfl (w.heap.size+1+1) 25 (.string ⟨ft.toArray⟩) rfl rfl _ rfl rfl info_str10 p1 p2 ?_
   refine wpAny_go (f:=1) 8 _ (by kernel_rfl) rfl rfl ?_
   refine wp_field_op 37 (.tmp 4) 7 rfl (.pointer (some ⟨w.heap.size+1+1,26,none⟩)) (by rfl) ?_
   refine wpAny_go (f:=0) 9 _ (by kernel_rfl) rfl rfl ?_
   refine wp_store_cell 9 _ _ rfl (w.heap.size+1+1) 26 (.string ⟨tt.toArray⟩) rfl rfl _ rfl rfl info_str10 (p3.cell 26 (by simp [rqCells])) (p3.frozen 26) ?_
   refine wpAny_end (by kernel_rfl) ?_
   clear p1 p2 p3 hq HC5;generalize World.setCell (World.setCell _ _ _) _ _=w5 at HS5 ⊢;obtain ⟨x0,_,_,_,_,x5⟩:=HS5.out.bx;simp only at x0 x5;have cA:=hid (fun (d:Nat) (os:Array Obj)=>Calls.regrown_of (KC1.out (Sort.grow (redrawn w5 d) os)));have cB:=hid (fun (d:Nat) (os:Array Obj)=>Calls.regrown_of (KC2.out (Sort.grow (redrawn w5 d) os)));go_wp2;replace x0:=cell_regrown x0;replace x5:=cell_regrown x5;refine wp_region_tailC_of 7 followsMixed10 (by kernel_rfl) (by kernel_rfl) ?_
   intro T HT;replace HT:=hid HT;simp only [List.take_succ_cons,List.take_zero]
   repeat (go_big_quiet_step (first | with_reducible exact cA.out _ _ | with_reducible exact cB.out _ _))
   refine wpQuiet_nil (HT.out _ ?_)
   clear HT cA cB x0 x5;intro _ hw';obtain ⟨⟨dq,osq⟩,hw''⟩:=hw';subst hw'';have hq:=below_regrown w5 dq osq;generalize Sort.grow _ _=wx7 at hq ⊢;have HC7:=hid (HS5.out.below hq);have HS7:=hid (HC7.out.whole me bo);have p1:=HC7.out.row.cell 0 (by rw [rq_len]; decide);have p2:=HC7.out.row.frozen 0;have p3:=HC7.out.row.set 0 (.string ⟨me.toArray⟩);clear HS5;refine wpAny_go (f:=2) 7 _ (by kernel_rfl) rfl rfl ?_
   refine wp_store_cell 9 _ _ rfl (w.heap.size+1+1) 0 (.string ⟨me.toArray⟩) rfl rfl _ rfl rfl info_str10 p1 p2 ?_
   refine wpAny_go (f:=1) 8 _ (by kernel_rfl) rfl rfl ?_
   refine wp_field_op 37 (.tmp 4) 17 rfl (.pointer (some ⟨w.heap.size+1+1,37,none⟩)) (by rfl) ?_
   refine wpAny_go (f:=0) 9 _ (by kernel_rfl) rfl rfl ?_
   refine wp_store_cell 9 _ _ rfl (w.heap.size+1+1) 37 (.string ⟨bo.toArray⟩) rfl rfl _ rfl rfl info_str10 (p3.cell 37 (by simp [rqCells])) (p3.frozen 37) ?_
   refine wpAny_end (by kernel_rfl) ?_
   clear p1 p2 p3 hq HC7;generalize World.setCell (World.setCell _ _ _) _ _=w7 at HS7 ⊢;have HO:=hid (cb_out (R:=R) HS7.out (by rw [HF.out,HWR.out]));have hlo:_=_:=HS7.out.row;unfold RowIs at hlo;have hst:=HS7.out.rs;have hone:=oneR HS7.out.rq.sl;have hinf:(Tryz.prog.info? 37).map (·.size)=some (rqCells ((c4.tags ft tt).whole me bo)).toArray.size:=infoR;generalize (rqCells ((c4.tags ft tt).whole me bo)).toArray=CA at hlo hone HO hinf;have hsz:rq0.size=CA.size:=by have:=infoR0; rw [hinf] at this; injection this with this; exact this.symm
   clear HS7 HF HWR KC1 KC2;go_wp2_with (first
    | (refine wpList_load_row rfl 37 (.tmp 4) rfl (w.heap.size+1+1) rfl _ _ _ _ hlo Tryz.underlying37 rfl hinf ?_)
    | (refine wpList_store_row rfl 37 (.tmp 2) _ rfl (w.heap.size+1) CA rfl rfl _ _ hst hinf hsz hone ?_))
   obtain ⟨HO1,HO2⟩:=HO.out;generalize World.setRow _ _ _=wE at HO1 HO2 ⊢;have hld:=run_loadVar_row (P:=Tryz.prog) _ _ _ 37 _ _ _ HO2 Tryz.underlying37 rfl hinf
   try simp only [Exit.inBlock,Exit.then]
   refine bodyPost_ret (v:=.tuple #[.agg CA,.int .i64 0]) (by simp [results,Tryz.results10,asAddr,hld]; try rfl) rfl ?_
   exact HO1)
theorem one_all {m:Ms} {nm:List UInt8} (h:(oneV m nm).2=true):allV m nm=[(oneV m nm).1]:=by
 obtain ⟨h1,h2⟩:=oneV_is m nm;by_cases hl:(allV m nm).length=1
 ·obtain ⟨x,hx⟩:=List.length_eq_one_iff.1 hl;rw [h1 x hx,hx]
 ·rw [h2 hl] at h; simp at h
theorem address_one {m:Ms} {nm:List UInt8} (h:(addressV m nm).2=0):(oneV m nm).2=true:=by
 unfold addressV at h
 cases hx:(oneV m nm).2 with
 | true=>rfl
 | false=>rw [hx] at h; simp at h
end Go.Proofs.YtiogedceommcoaaGreatDoor
