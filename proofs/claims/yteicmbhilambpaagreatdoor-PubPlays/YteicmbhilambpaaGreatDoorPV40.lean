/-
  PubL, PubM, HeapL, WheelL, WheelM, WWhen, WTm, WDue, SvW, PsL.
-/
import Derived.Test.YteicmbhilambpaaGreatDoorPU06
set_option linter.unusedVariables false
set_option linter.unusedSimpArgs false
set_option maxRecDepth 20000
namespace Go.Proofs.YteicmbhilambpaaGreatDoor
open Go.RowKit Sc
def riseV:List (List UInt8) → List UInt8 → List (List UInt8)
 | [],s=>[s]
 | x :: l,s=>if Op.bytesLess x s=true then x :: riseV l s else if x=s then x :: l else s :: x :: l
def overP (now:Int) (p:Pb):Bool:=decide (p.til≤now)
def expS (s:Sto) (now:Int):Sto × List (List UInt8):=(⟨s.c,s.last,s.l.filter fun p=>!overP now p⟩,((s.l.filter (overP now)).map Pb.who).foldl riseV [])
theorem lt_irr (x:List UInt8):¬ x < x:=List.lt_irrefl x
theorem lt_tr {x y z:List UInt8} (h:x < y) (k:y < z):x < z:=List.lt_trans h k
theorem lt_tot {x y:List UInt8} (h:¬ x < y) (e:x ≠ y):y < x:=by
 refine Classical.byContradiction fun hn=>e ?_
 exact List.le_antisymm (List.not_lt.1 hn) (List.not_lt.1 h)
theorem rise_mem (l:List (List UInt8)) (s x:List UInt8):x ∈ riseV l s ↔ x ∈ l∨x=s:=by
 induction l with
 | nil=>simp [riseV]
 | cons y l ih =>
  rw [riseV]
  split
  ·rw [List.mem_cons,ih,List.mem_cons]; exact ⟨fun h=>by rcases h with h | h | h <;> simp [h],fun h=>by rcases h with (h | h) | h <;> simp [h]⟩
  ·split
   ·next e=>subst e; simp only [List.mem_cons]; exact ⟨fun h=>.inl h,fun h=>by rcases h with h | h; exact h; exact .inl h⟩
   ·simp only [List.mem_cons]; exact ⟨fun h=>by rcases h with h | h | h <;> simp [h],fun h=>by rcases h with (h | h) | h <;> simp [h]⟩
theorem rise_sorted {l:List (List UInt8)} (h:l.Pairwise (· < ·)) (s:List UInt8):(riseV l s).Pairwise (· < ·):=by
 induction l with
 | nil=>simp [riseV]
 | cons y l ih =>
  rw [List.pairwise_cons] at h;rw [riseV]
  split
  ·next hb =>
   rw [bytesLess_eq,decide_eq_true_eq] at hb;rw [List.pairwise_cons];refine ⟨fun x hx=>?_,ih h.2⟩
   rcases (rise_mem l s x).1 hx with hx | hx
   ·exact h.1 x hx
   ·subst hx; exact hb
  ·next hb =>
   rw [bytesLess_eq,decide_eq_true_eq] at hb
   split
   ·exact List.pairwise_cons.2 h
   ·next he =>
    have hs:=lt_tot hb he;refine List.pairwise_cons.2 ⟨fun x hx=>?_,List.pairwise_cons.2 h⟩
    rcases List.mem_cons.1 hx with hx | hx
    ·subst hx; exact hs
    ·exact lt_tr hs (h.1 x hx)
theorem rises_mem (ws:List (List UInt8)) (x:List UInt8):∀ l:List (List UInt8),x ∈ ws.foldl riseV l ↔ x ∈ l∨x ∈ ws:=by
 induction ws with
 | nil=>intro l; simp
 | cons w ws ih=>intro l; rw [List.foldl_cons,ih,rise_mem,List.mem_cons]; exact ⟨fun h=>by rcases h with (h | h) | h <;> simp [h],fun h=>by rcases h with h | h | h <;> simp [h]⟩
theorem rises_sorted (ws:List (List UInt8)):∀ l:List (List UInt8),l.Pairwise (· < ·) → (ws.foldl riseV l).Pairwise (· < ·):=by
 induction ws with
 | nil=>intro l h; exact h
 | cons w ws ih=>intro l h; rw [List.foldl_cons]; exact ih _ (rise_sorted h w)
theorem rising_one:∀ (a b:List (List UInt8)),a.Pairwise (· < ·) → b.Pairwise (· < ·) → (∀ x,x ∈ a ↔ x ∈ b) → a=b
 | [],[],_,_,_=>rfl
 | [],y :: b,_,_,h=>by have:=(h y).2 (by simp); simp at this
 | x :: a,[],_,_,h=>by have:=(h x).1 (by simp); simp at this
 | x :: a,y :: b,ha,hb,h=>by
  rw [List.pairwise_cons] at ha hb
  have e:x=y:=by
   rcases List.mem_cons.1 ((h x).1 (by simp)) with e | e
   ·exact e
   ·rcases List.mem_cons.1 ((h y).2 (by simp)) with e2 | e2
    ·exact e2.symm
    ·exact absurd (lt_tr (ha.1 y e2) (hb.1 x e)) (lt_irr x)
  subst e
  congr 1
  refine rising_one a b ha.2 hb.2 fun z=>?_
  have hz:=h z;simp only [List.mem_cons] at hz
  constructor
  ·intro k
   rcases hz.1 (.inr k) with e | e
   ·subst e; exact absurd (ha.1 z k) (lt_irr z)
   ·exact e
  ·intro k
   rcases hz.2 (.inr k) with e | e
   ·subst e; exact absurd (hb.1 z k) (lt_irr z)
   ·exact e
end Go.Proofs.YteicmbhilambpaaGreatDoor
namespace Go.Proofs.YteicmbhilambpaaGreatDoor
open Go.RowKit
section
variable {α : Type} {lt : α → α → Bool}
theorem heap_first (o:Ord lt) {f:Nat → α} {n:Nat} (h:Heap lt f n):∀ m k,k≤m → k < n → lt (f k) (f 0)=false:=by
 intro m
 induction m with
 | zero =>
  intro k hk _;obtain rfl:=Nat.le_zero.1 hk
  cases e:lt (f 0) (f 0) with
  | false=>rfl
  | true=>rw [o.asymm _ _ e] at e; cases e
 | succ m ih =>
  intro k hk hn;by_cases h0:k=0
  ·subst h0; exact ih 0 (by omega) hn
  ·have hp:=par_lt (Nat.pos_of_ne_zero h0);exact o.trans _ _ _ (ih (par k) (by omega) (by omega)) (h k (by omega) hn)
end
def dueT (l:List Tm) (now:Int):List Tm:=l.takeWhile fun t=>decide (t.1≤now)
def leftT (l:List Tm) (now:Int):List Tm:=l.dropWhile fun t=>decide (t.1≤now)
theorem Keeps.first {f:Nat → It} {n:Nat} {t:Tm} {l:List Tm} (h:Keeps f n (t :: l)):0 < n∧(f 0).tm=t:=by
 have hn:0 < n:=by have:=h.len; simp at this; omega
 refine ⟨hn,?_⟩
 have h0:(f 0).tm ∈ t :: l:=(h.mem _).2 ⟨0,hn,rfl⟩
 rcases List.mem_cons.1 h0 with h0 | h0
 ·exact h0
 ·exfalso
  have a1:=(List.pairwise_cons.1 h.row.sorted).1 _ h0;obtain ⟨i,hi,hti⟩:=(h.mem t).1 (by simp);have a2:=heap_first it_ord h.heap i i (Nat.le_refl _) hi;unfold itLt at a2;rw [hti,a1] at a2
  cases a2
theorem Keeps.empty {f:Nat → It} {n:Nat} (h:Keeps f n []):n=0:=by have:=h.len; simpa using this.symm
theorem stop_first {t:Tm} {l:List Tm} (h:Row9 (t :: l)):stopT (t :: l) t.2=l:=by
 have h1:=(List.pairwise_cons.1 h.ids).1;unfold stopT;rw [List.filter_cons];simp only [decide_true,Bool.not_true,Bool.false_eq_true,if_false];rw [List.filter_eq_self];intro a ha
 have:=h1 a ha
 simp
 exact fun e=>this e.symm
end Go.Proofs.YteicmbhilambpaaGreatDoor
namespace Go.Proofs.YteicmbhilambpaaGreatDoor
open Go.RowKit Go.Maps Go.WideMaps
section
variable {bw m B : Nat} {v : Value} {f : Nat → It} {n : Nat} {D : DataW Unit} {w : World} {l : List Tm}
theorem cellB {B:Nat} {w w':World} (h:Below B w w') {a:Addr} (ha:a.block < B) {v:Value} (hc:w.cell? a=some v):w'.cell? a=some v:=by
 rw [World.cell?_of_block (h.block a.block ha)]; exact hc
def nextV (l:List Tm):Value:=match l with | t :: _=>.tuple #[.agg #[.int .i64 t.1,.int .i64 t.2],.bool true] | []=>.tuple #[.agg #[.int .i64 0,.int .i64 0],.bool false]
set_option maxHeartbeats 4000000 in
set_option maxRecDepth 100000 in
theorem next_any (h:WH bw m B v f n D w l) :
  Calls Tryz.prog 65 #[.pointer (some ⟨bw,0,none⟩)] w fun e w'=>e=.returned (nextV l)∧Below w.heap.size w w':=by
 have cq:=h.q.at;have KL:=hid (fun (o:Obj)=>wlen_n (h.new o));obtain ⟨ao,cap,hv⟩:=h.q.form;have bwl:bw < w.heap.size:=(Array.getElem?_eq_some_iff.1 h.q.wheel).1
 cases l with
 | nil =>
  have hn:=h.k.empty;subst hn;rw [hv] at cq;have cq1:=fun o=>cellB (a:=⟨bw,0,none⟩) ((Below.refl w.heap.size w).alloc (Nat.le_refl _) o) bwl cq;have hb:=(Below.refl w.heap.size w).alloc (Nat.le_refl _) (.cells #[.int .i64 0,.int .i64 0] 87);have hz:=two_new w 0 0;clear h
  go_enter Tryz.func65,Tryz.ntmps65
  go_wp2_with (go_at_call 101; refine (KL.out _).mono ?_; rintro e w0 ⟨rfl,hw0⟩; rw [hw0]; clear hw0)
  refine bodyPost_ret (v:=.tuple #[.agg #[.int .i64 0,.int .i64 0],.bool false]) (by simp [results,Tryz.results65,go_sem,hz.1,hz.2]) rfl ⟨rfl,hb⟩
 | cons t l =>
  obtain ⟨hn,ht⟩:=h.k.first;obtain ⟨g,cap',hv'⟩:=h.q.block hn;have hq:=h.q;rw [hv'] at hq cq;have c0:=hq.cell 0 hn;have a0:=(hq.item 0 hn).cell 0 (by simp [itemL]);have a1:=(hq.item 0 hn).cell 1 (by simp [itemL]);simp only [itemL,ptrV,List.getElem_cons_zero,List.getElem_cons_succ] at c0 a0 a1;rw [ht] at a0 a1;have bl:(f 0).blk < w.heap.size:=(Array.getElem?_eq_some_iff.1 (hq.item 0 hn)).1;have gl:g < w.heap.size:=World.block_lt_of_cell? w ⟨g,0,none⟩ c0;have BA:=fun o=>(Below.refl w.heap.size w).alloc (Nat.le_refl _) o;have cq1:=fun o=>cellB (a:=⟨bw,0,none⟩) (BA o) bwl cq;have c01:=fun o=>cellB (a:=⟨g,0,none⟩) (BA o) gl c0;have a01:=fun o=>cellB (a:=⟨(f 0).blk,0,none⟩) (BA o) bl a0;have a11:=fun o=>cellB (a:=⟨(f 0).blk,1,none⟩) (BA o) bl a1;have hn0:((n:Int)==0)=false:=by rw [beq_eq_false_iff_ne]; omega
  have hni:(0:Int) < n:=by omega
  have hnn:¬ n=0:=by omega
  clear h hq hv hv'
  go_enter Tryz.func65,Tryz.ntmps65
  go_wp2_with (go_at_call 101; refine (KL.out _).mono ?_; rintro e w0 ⟨rfl,hw0⟩; rw [hw0]; clear hw0)
  have hz:=two_new w t.1 t.2;refine bodyPost_ret (v:=.tuple #[.agg #[.int .i64 t.1,.int .i64 t.2],.bool true]) (by simp [results,Tryz.results65,go_sem,hz.1,hz.2]) rfl ⟨rfl,BA _⟩
end
def tmCells (t:Tm):List Value:=[.int .i64 t.1,.int .i64 t.2]
def tmsCells (ts:List Tm):List Value:=ts.flatMap tmCells
theorem tmsCells_get (ts:List Tm):∀ (k:Nat) (hk:k < ts.length),(tmsCells ts)[k * 2]? = some (.int .i64 ts[k].1)∧(tmsCells ts)[k * 2+1]? = some (.int .i64 ts[k].2):=by
 induction ts with
 | nil=>intro k hk; simp at hk
 | cons t ts ih =>
  intro k hk;have e:tmsCells (t :: ts)=tmCells t++tmsCells ts:=by simp [tmsCells]
  cases k with
  | zero=>rw [e]; simp [tmCells]
  | succ k =>
   have:=ih k (by simpa using hk)
   rw [e,show (k+1) * 2=k * 2+2 by omega]
   simpa [tmCells] using this
def OwnT (w:World) (B:Nat) (v:Value) (ts:List Tm):Prop:=w.ownsRow B 87 2 v ts.length (tmsCells ts)
theorem OwnT.nil (w:World) (B:Nat):OwnT w B (.slice none 0 0) []:=World.ownsRow_nil _ _ _ _
theorem OwnT.alloc {w:World} {B:Nat} {v:Value} {ts:List Tm} (h:OwnT w B v ts) (o:Obj):OwnT (w.alloc o) B v ts:=World.ownsRow.alloc h o
theorem OwnT.form {w:World} {B:Nat} {v:Value} {ts:List Tm} (h:OwnT w B v ts):∃ a cap,v=.slice a ts.length cap:=by
 rcases h.2 with ⟨rfl,hn⟩ | ⟨g,cap,cur,rfl,_⟩
 ·exact ⟨none,0,by rw [hn]⟩
 ·exact ⟨_,cap,rfl⟩
theorem OwnT.chg {S:Nat → Prop} {w w':World} {B:Nat} {v:Value} {ts:List Tm} (h:OwnT w B v ts) (hc:Chg S w w') (hn:∀ k,v.ownBlock=some k → ¬ S k):OwnT w' B v ts:=by
 obtain ⟨h1,h2⟩:=h;refine ⟨h1,?_⟩
 rcases h2 with h2 | ⟨g,cap,cur,hv,hg,hh,r⟩
 ·exact Or.inl h2
 ·exact Or.inr ⟨g,cap,cur,hv,hg,by rw [hc.block g (Array.getElem?_eq_some_iff.1 hh).1 (hn g (by rw [hv]; rfl))]; exact hh,r⟩
theorem OwnT.row {w:World} {B k:Nat} {v:Value} {ts:List Tm} (h:OwnT w B v ts) (hk:v.ownBlock=some k):B≤k∧∃ cs,w.heap[k]? = some (.cells cs 87 (0,0)):=by
 rcases h.2 with ⟨rfl,_⟩ | ⟨g,cap,cur,rfl,hg,hh,_⟩
 ·cases hk
 ·simp [Value.ownBlock] at hk; subst hk; exact ⟨hg,cur,hh⟩
theorem infoTm:(Tryz.prog.info? 87).map (fun i=>(i.zero,i.size,i.bytes))=some (some (.agg #[.int .i64 0,.int .i64 0]),2,16):=by kernel_rfl
theorem wp_appTm {P:Program} (w:World) {ops:Array Oper} {rest:List Oper} {o:Oper} {a:Act} {Q:Exit → Act → World → Prop} (hgd:o.guard=none)
  (s x:Operand) (t:TypeId) (ho:o.op=Op.call { callee:=Callee.builtin Builtin.append,args:=#[s,x],argTypes:=#[t,t] }) (B:Nat) (i:TypeInfo)
  (z:Value) (ht:P.underlying t=some (TypeDesc.slice 87)) (hi:P.info? 87=some i) (hz:i.zero=some z) (hsize:i.size=2) (hby:i.bytes=16) (hzs:z.cells.size=2)
  (v:Value) (ts:List Tm) (hs:a.eval s=v) (hown:OwnT w B v ts) (ad:Addr) (c:Nat) (p:Tm) (hx:a.eval x=Value.slice (some ad) 1 c)
  (hnews:∀ (j:Nat) (u:Value),(tmCells p)[j]? = some u → w.cell? (ad.add j)=some u)
  (hlen:ts.length≤2000000) (hB:B≤w.heap.size)
  (h:∀ (v':Value) (w':World),OwnT w' B v' (ts++[p]) → w.grownBy w' v.ownBlock → wpList P ops Q rest (a.put o.dst v') w'):wpList P ops Q (o :: rest) a w:=by
 refine wpList_append_own w hgd s x t ho B 87 i z 2 16 ht hi hz hsize hby hzs (by decide) v ts.length (tmsCells ts) hs hown ad 1 c (tmCells p) hx rfl hnews (by intro u hu; simp [tmCells] at hu; rcases hu with rfl | rfl <;> rfl) (by unfold maxLen; omega) (by omega) hB ?_
 intro v' w' hown' hgr _;refine h v' w' ?_ hgr
 unfold OwnT;have e:tmsCells (ts++[p])=tmsCells ts++tmCells p:=by simp [tmsCells]
 rw [e,List.length_append];exact hown'
section
variable {bw m B : Nat} {v : Value} {f : Nat → It} {n : Nat} {D : DataW Unit} {w : World} {l : List Tm}
theorem cells_ne {w:World} {k:Nat} {cs:Array Value} {e e':TypeId} {l:List Value} (h:w.heap[k]? = some (.cells cs e (0,0))) (hr:RowIs w k e' l) (hne:e ≠ e'):False:=by
 unfold RowIs at hr;rw [hr] at h
 simp at h
 exact hne h.2.symm
theorem WH.noT (h:WH bw m B v f n D w l) {k:Nat} {cs:Array Value} (hk:w.heap[k]? = some (.cells cs 87 (0,0))):¬ SS B bw m f n w k:=by
 rintro ⟨_,rfl | rfl | ⟨i,hi,rfl⟩ | ⟨cs',e⟩⟩
 ·exact map_no_row h.mp _ _ _ hk
 ·exact cells_ne hk h.q.wheel (by decide)
 ·exact cells_ne hk (h.q.item i hi) (by decide)
 ·rw [e] at hk
  simp at hk
theorem WH.noTs (h:WH bw m B v f n D w l) {B':Nat} {va:Value} {ts:List Tm} (ho:OwnT w B' va ts):∀ k,va.ownBlock=some k → ¬ SS B bw m f n w k:=fun k hk=>by
 obtain ⟨_,cs,hc⟩:=ho.row hk;exact h.noT hc
theorem WH.app (h:WH bw m B v f n D w l) {B':Nat} {va:Value} {ts:List Tm} {w':World} (ho:OwnT w B' va ts) (hg:w.grownBy w' va.ownBlock):WH bw m B v f n D w' l :=
 h.chg (S:=fun k=>va.ownBlock=some k) ((Chg.refl _ w).grown hg fun k hk _=>hk) fun k hk e=>h.noTs ho k e (h.ss hk)
end
def wlenV:Value → Nat | .slice _ n _=>n | _=>0
theorem due_stop {l:List Tm} {now:Int} {k:Nat} (h1:∀ t ∈ l.take k,t.1≤now) (h2:∀ t r,l.drop k=t :: r → ¬ t.1≤now):dueT l now=l.take k∧leftT l now=l.drop k:=by
 have e:=(List.take_append_drop k l).symm;have p1:∀ t ∈ l.take k,decide (t.1≤now)=true:=fun t ht=>decide_eq_true (h1 t ht)
 have q:(l.drop k).takeWhile (fun t=>decide (t.1≤now))=[]∧(l.drop k).dropWhile (fun t=>decide (t.1≤now))=l.drop k:=by
  cases hd:l.drop k with
  | nil=>exact ⟨rfl,rfl⟩
  | cons t r =>
   have:=h2 t r hd
   constructor
   ·rw [List.takeWhile_cons,if_neg (by simpa using this)]
   ·rw [List.dropWhile_cons,if_neg (by simpa using this)]
 unfold dueT leftT
 constructor
 ·conv=>lhs; rw [e]
  rw [List.takeWhile_append_of_pos p1,q.1,List.append_nil]
 ·conv=>lhs; rw [e]
  rw [List.dropWhile_append_of_pos p1,q.2]
section
variable {bw m B : Nat} {v : Value} {f : Nat → It} {n : Nat} {D : DataW Unit} {w : World} {l : List Tm}
def DueIn (B bw m:Nat) (v:Value) (f:Nat → It) (n:Nat) (w:World) (l:List Tm) (now:Int) (va:Value) (wr:World):Prop :=
 ∃ k v' f' n' D',(∀ t ∈ l.take k,t.1≤now)∧OwnT wr w.heap.size va (l.take k)∧WH bw m B v' f' n' D' wr (l.drop k)∧n'+k=n∧(∀ x,WS bw m v' f' n' x → WS bw m v f n x)∧Chg (WS bw m v f n) w wr
def DueOut (B bw m:Nat) (v:Value) (f:Nat → It) (n:Nat) (w:World) (l:List Tm) (now:Int) (va:Value) (w':World):Prop:=OwnT w' w.heap.size va (dueT l now)∧∃ v' f' n' D',WH bw m B v' f' n' D' w' (leftT l now)∧n'≤n∧(∀ x,WS bw m v' f' n' x → WS bw m v f n x)∧Chg (WS bw m v f n) w w'
theorem tm_new (w:World) (t:Tm):∀ (j:Nat) (u:Value),(tmCells t)[j]? = some u → (w.alloc (.cells #[.int .i64 t.1,.int .i64 t.2] 87)).cell? ((⟨w.heap.size,0,none⟩:Addr).add j)=some u:=by
 intro j u hj
 match j,hj with
 | 0,hj=>simp [tmCells] at hj; subst hj; simp [Addr.add]
 | 1,hj=>simp [tmCells] at hj; subst hj; simp [Addr.add]
theorem due_step {now:Int} {va v' va':Value} {f':Nat → It} {n' k:Nat} {D':DataW Unit} {wr w2 w4:World} {t:Tm} {r:List Tm} (hd:l.drop k=t :: r) (ht:t.1≤now) (hall:∀ t ∈ l.take k,t.1≤now) (hw:WH bw m B v' f' (n'+1) D' wr (t :: r))
  (hnk:n'+1+k=n) (hss:∀ x,WS bw m v' f' (n'+1) x → WS bw m v f n x) (hch:Chg (WS bw m v f n) w wr)
  (hto:TakeOut B bw m v' f' n' wr (t :: r) 0 w2) (o:Obj) (ho4:OwnT w4 w.heap.size va' (l.take k++[t])) (hown:OwnT (w2.alloc o) w.heap.size va (l.take k)) (hg4:(w2.alloc o).grownBy w4 va.ownBlock) :
  DueIn B bw m v f n w l now va' w4:=by
 have hft:=hw.k.first.2;obtain ⟨v1,f1,D1,W2,hs2,hc2⟩:=hto;rw [hft,stop_first hw.k.row] at W2;have W4:=(W2.new o).app hown hg4
 have hk:k < l.length:=by
  have:=congrArg List.length hd
  simp at this
  omega
 have hlk:l[k]=t:=by
  have e:=List.drop_eq_getElem_cons hk;rw [hd] at e
  injection e with e _
  exact e.symm
 have htk:l.take (k+1)=l.take k++[t]:=by rw [List.take_succ_eq_append_getElem hk,hlk]
 have hdk:l.drop (k+1)=r:=by
  have e:=List.drop_eq_getElem_cons hk;rw [hd] at e
  injection e with _ e
  exact e.symm
 refine ⟨k+1,v1,f1,n',_,?_,by rw [htk]; exact ho4,by rw [hdk]; exact W4,by omega,fun x hs=>hss x (hs2 x hs),?_⟩
 ·intro t' h';rw [htk] at h'
  rcases List.mem_append.1 h' with h' | h'
  ·exact hall t' h'
  ·simp at h'; subst h'; exact ht
 ·refine ((hch.step hc2 fun x _ hs=>hss x hs).alloc o).grown hg4 fun x e hx=>?_
  have:=(hown.row e).1
  omega
def dueB (l:List Tm) (now:Int):Bool:=match l with | t :: _=>decide (t.1≤now) | []=>false
set_option maxHeartbeats 4000000 in
set_option maxRecDepth 100000 in
theorem isdue_any (h:WH bw m B v f n D w l) {now:Int} :
  Calls Tryz.prog 48 #[.pointer (some ⟨bw,0,none⟩),.int .i64 now] w fun e w'=>e=.returned (.bool (dueB l now))∧Below w.heap.size w w':=by
 have KN:=hid (next_any h);clear h
 cases l with
 | nil =>
  unfold nextV at KN
  go_enter Tryz.func48,Tryz.ntmps48
  go_wp2_with (go_at_call 65; refine KN.out.mono ?_; rintro e w1 ⟨rfl,hb1⟩; replace hb1:=hid hb1)
  go_ret;exact ⟨rfl,hb1.out.alloc hb1.out.size _⟩
 | cons t l =>
  unfold nextV at KN;have hz:=fun (w1:World)=>two_new w1 t.1 t.2
  go_enter Tryz.func48,Tryz.ntmps48
  go_wp2_with (go_at_call 65; refine KN.out.mono ?_; rintro e w1 ⟨rfl,hb1⟩; replace hb1:=hid hb1)
  go_ret;exact ⟨rfl,hb1.out.alloc hb1.out.size _⟩
set_option maxHeartbeats 4000000 in
set_option maxRecDepth 100000 in
theorem due_any (h:WH bw m B v f n D w l) {now:Int} (hn:n≤4096) :
  Calls Tryz.prog 35 #[.pointer (some ⟨bw,0,none⟩),.int .i64 now] w fun e w'=>∃ va,e=.returned va∧DueOut B bw m v f n w l now va w':=by
 obtain ⟨i0,hi,hz0,hz1,hz2⟩:=info_parts infoTm;have I0:Hid (DueIn B bw m v f n w l now (.slice none 0 0) w):=⟨0,v,f,n,D,by simp,OwnT.nil _ _,h,by omega,fun x hs=>hs,Chg.refl _ _⟩
 clear h
 go_enter Tryz.func35,Tryz.ntmps35
 go_wp2
 go_loopw [5] (fun va wr=>Hid (DueIn B bw m v f n w l now va wr)) (fun va _=>n - wlenV va)
 case atStart=>exact I0
 case round =>
  obtain ⟨k,v',f',n',D',hall,hown,hw,hnk,hss,hch⟩:=hrel.out;clear I0 hrel;obtain ⟨oa,oc,hoe⟩:=hown.form;obtain ⟨K,hK⟩:∃ K,K=(l.take k).length:=⟨_,rfl⟩
  rw [← hK] at hoe;have HK:=hid hK;clear hK;subst hoe;have KI:=hid (isdue_any hw (now:=now))
  -- the wheel, and the row, behind isDue
  have W1:=hid (fun (w1:World) (hb:Below wr.heap.size wr w1)=>hw.chg (S:=No) (chg_below hb) (fun _ _ x=>x));have O1:=hid (fun (w1:World) (hb:Below wr.heap.size wr w1)=>hown.chg (S:=No) (chg_below hb) (fun _ _ x=>x));have C1:=hid (fun (w1:World) (hb:Below wr.heap.size wr w1)=>hch.no (chg_below hb));clear hown hw hch
  cases hd:l.drop k with
  | nil =>
   rw [hd] at KI W1;have KI':Hid (Calls Tryz.prog 48 #[.pointer (some ⟨bw,0,none⟩),.int .i64 now] wr fun e w'=>e=.returned (.bool false)∧Below wr.heap.size wr w'):=KI.out;clear KI
   have OUT:=hid (fun (w1:World) (hb:Below wr.heap.size wr w1)=>show DueOut B bw m v f n w l now (.slice oa K oc) w1 by
    obtain ⟨e1,e2⟩:=due_stop hall (fun t r e=>by rw [hd] at e; cases e);unfold DueOut;rw [e1,e2,hd];exact ⟨O1.out _ hb,v',f',n',D',W1.out _ hb,by omega,hss,C1.out _ hb⟩)
   clear W1 O1 C1 hall hss;go_wp2_with (go_at_call 48; refine KI'.out.mono ?_; rintro e w1 ⟨rfl,hb1⟩; replace hb1:=hid hb1)
   go_ret;exact ⟨_,rfl,OUT.out _ hb1.out⟩
  | cons t r =>
   rw [hd] at KI W1;by_cases htn:t.1≤now
   ·have KI':Hid (Calls Tryz.prog 48 #[.pointer (some ⟨bw,0,none⟩),.int .i64 now] wr fun e w'=>e=.returned (.bool true)∧Below wr.heap.size wr w'):=by
     have:=KI.out
     rw [show dueB (t :: r) now=true from decide_eq_true htn] at this;exact this
    clear KI
    have hkl:k < l.length:=by
     have:=congrArg List.length hd
     simp at this
     omega
    have hKk:K=k:=by rw [HK.out,List.length_take]; omega
    subst hKk;obtain ⟨hn0,hft⟩:=(W1.out wr (Below.refl _ _)).k.first;obtain ⟨n',rfl⟩:∃ j,n'=j+1:=⟨n' - 1,by omega⟩
    have KT:=hid (fun (w1:World) (hb:Below wr.heap.size wr w1)=>by
     have:=take_any (W1.out w1 hb) (i:=0) (by omega) (by omega)
     rw [hft] at this;exact this)
    have ST:=hid (fun (w1 w2:World) (hb:Below wr.heap.size wr w1) (va':Value) (w4:World) (o:Obj) a1 a2 a3 a4=>due_step (va':=va') (w2:=w2) (w4:=w4) (va:=.slice oa K oc) hd htn hall (W1.out w1 hb) hnk hss (C1.out w1 hb) a1 o a2 a3 a4)
    have OC:=hid (fun (w1 w2:World) (hb:Below wr.heap.size wr w1) (hto:TakeOut B bw m v' f' n' w1 (t :: r) 0 w2)=>by
     obtain ⟨v1,f1,D1,W2,hs2,hc2⟩:=hto;exact (⟨(O1.out w1 hb).chg hc2 (fun kk e x=>(W1.out w1 hb).noTs (O1.out w1 hb) kk e ((W1.out w1 hb).ss x)),Nat.le_trans (C1.out w1 hb).size hc2.size⟩:OwnT w2 w.heap.size (.slice oa K oc) (l.take K)∧w.heap.size≤w2.heap.size))
    clear W1 O1 C1 hall hss hft
    go_wp2_with (first
     | (go_at_call 48; refine KI'.out.mono ?_; rintro e w1 ⟨rfl,hb1⟩; replace hb1:=hid hb1)
     | (go_at_call 49; refine (KT.out _ hb1.out).mono ?_; rintro e w2 ⟨rfl,hto⟩; have O2:=hid (OC.out _ _ hb1.out hto); have SZ2:Hid (∀ o,w.heap.size≤(w2.alloc o).heap.size):=(fun o=>Nat.le_trans O2.out.2 (by simp)); replace hto:=hid hto)
     | (at_builtin; refine wp_appTm _ rfl (.tmp 9) (.tmp 12) 84 rfl w.heap.size i0 _ Tryz.underlying84 hi hz0 hz1 hz2 rfl (.slice oa K oc) (l.take K) rfl (OwnT.alloc O2.out.1 _) ⟨_,0,none⟩ 1 t rfl (tm_new _ _) (by rw [← HK.out]; omega) (SZ2.out _) ?_; intro v4 w4 hown4 hgr4; have I4:=hid (ST.out _ _ hb1.out _ _ _ hto.out hown4 (OwnT.alloc O2.out.1 _) hgr4); (obtain ⟨oa4,oc4,hoe4⟩:=hown4.form); rw [List.length_append,← HK.out] at hoe4; subst hoe4; clear hown4 hgr4))
    go_roundw
    case rel=>exact I4
    case measure=>simp [wlenV]; omega
   ·have KI':Hid (Calls Tryz.prog 48 #[.pointer (some ⟨bw,0,none⟩),.int .i64 now] wr fun e w'=>e=.returned (.bool false)∧Below wr.heap.size wr w'):=by
     have:=KI.out
     rw [show dueB (t :: r) now=false from decide_eq_false htn] at this;exact this
    clear KI
    have OUT:=hid (fun (w1:World) (hb:Below wr.heap.size wr w1)=>show DueOut B bw m v f n w l now (.slice oa K oc) w1 by
     obtain ⟨e1,e2⟩:=due_stop hall (fun t' r' e=>by rw [hd] at e; injection e with e _; subst e; exact htn);unfold DueOut;rw [e1,e2,hd];exact ⟨O1.out _ hb,v',f',n',D',W1.out _ hb,by omega,hss,C1.out _ hb⟩)
    clear W1 O1 C1 hall hss;go_wp2_with (go_at_call 48; refine KI'.out.mono ?_; rintro e w1 ⟨rfl,hb1⟩; replace hb1:=hid hb1)
    go_ret;exact ⟨_,rfl,OUT.out _ hb1.out⟩
end
section
variable {bw m B : Nat} {v : Value} {f : Nat → It} {n : Nat} {D : DataW Unit} {w w' : World} {l : List Tm}
theorem WWm.row (h:WWm m B bw w l):Row9 l∧l.length≤4096:=by
 obtain ⟨v,f,n,D,h,hn⟩:=h;exact ⟨h.k.row,by rw [h.k.len]; exact hn⟩
theorem wmdue_any (h:WWm m B bw w l) {now:Int} :
  Calls Tryz.prog 35 #[.pointer (some ⟨bw,0,none⟩),.int .i64 now] w fun e w'=>∃ va,e=.returned va∧OwnT w' w.heap.size va (dueT l now)∧WWm m B bw w' (leftT l now)∧FrM m B w w':=by
 obtain ⟨v,f,n,D,h,hn⟩:=h;refine (due_any h hn).mono ?_
 rintro e w' ⟨va,rfl,ho,v',f',n',D',h',hn',hs,hc⟩;exact ⟨va,rfl,ho,⟨v',f',n',D',h',by omega⟩,h.frm (hc.mono fun k _ x=>h.ss x)⟩
end
end Go.Proofs.YteicmbhilambpaaGreatDoor
namespace Go.Proofs.YteicmbhilambpaaGreatDoor
open Go.RowKit Sc
theorem due_filterP {r:List Tm} (h:Row9 r) (now:Int):dueT r now=r.filter (fun t=>decide (t.1≤now))∧leftT r now=r.filter (fun t=>!decide (t.1≤now)):=by
 induction r with
 | nil=>exact ⟨rfl,rfl⟩
 | cons a r ih =>
  obtain ⟨i1,i2⟩:=ih h.tail;unfold dueT at i1 ⊢;unfold leftT at i2 ⊢;by_cases e:a.1≤now
  ·simp [e,i1,i2]
  ·have hall:∀ b ∈ r,¬ b.1≤now:=fun b hb=>by
    have:=(List.pairwise_cons.1 h.sorted).1 b hb
    have:=ahd_iff.1 this
    omega
   have f1:r.filter (fun t=>decide (t.1≤now))=[]:=List.filter_eq_nil_iff.2 fun b hb=>by simpa using hall b hb
   have f2:r.filter (fun t=>!decide (t.1≤now))=r:=List.filter_eq_self.2 fun b hb=>by simpa using hall b hb
   have f3:r.filter (fun t=>decide (now < t.1))=r:=List.filter_eq_self.2 fun b hb=>by have:=hall b hb; simp; omega
   simp [e,f1,f2,f3]
def overD (now:Int) (x:PbC):Bool:=decide (x.p.til≤now)
theorem ends_dueP {l:List PbC} {r:List Tm} (h:EndsP l r) (hr:Row9 r) (now:Int):(dueT r now).Perm ((l.filter (overD now)).map endP)∧EndsP (l.filter fun x=>!overD now x) (leftT r now):=by
 obtain ⟨e1,e2⟩:=due_filterP hr now;unfold EndsP;rw [e1,e2];refine ⟨(h.filter _).trans ?_,(h.filter _).trans ?_⟩ <;> rw [List.filter_map] <;> exact List.Perm.refl _
theorem due_idsP {r:List Tm} (h:Row9 r) (now:Int):(dueT r now).Pairwise fun a b=>a.2 ≠ b.2:=by
 rw [(due_filterP h now).1]; exact h.ids.filter _
def behindP (l:List PbC) (ds:List Tm):List PbC:=l.filter fun x=>!(ds.map Prod.snd).contains x.p.num
theorem behindP_nil (l:List PbC):behindP l []=l:=List.filter_eq_self.2 fun c _=>by simp
theorem num_one {l:List PbC} (hr:l.Pairwise fun a b=>a.p.num < b.p.num) {x y:PbC} (hx:x ∈ l) (hy:y ∈ l) (e:x.p.num=y.p.num):x=y:=by
 obtain ⟨i,hi,rfl⟩:=List.mem_iff_getElem.1 hx;obtain ⟨j,hj,rfl⟩:=List.mem_iff_getElem.1 hy;have hP:=List.pairwise_iff_getElem.1 hr
 rcases Nat.lt_trichotomy i j with h | h | h
 ·have:=hP i j hi hj h; omega
 ·subst h; rfl
 ·have:=hP j i hj hi h; omega
theorem behindP_all {l:List PbC} {ds:List Tm} {now:Int} (hr:l.Pairwise fun a b=>a.p.num < b.p.num) (hp:ds.Perm ((l.filter (overD now)).map endP)):behindP l ds=l.filter fun x=>!overD now x:=by
 unfold behindP
 apply List.filter_congr
 intro x hx
 congr 1
 rw [Bool.eq_iff_iff];simp only [List.contains_iff_mem,List.mem_map]
 constructor
 ·rintro ⟨t,ht,e⟩;obtain ⟨y,hy,rfl⟩:=List.mem_map.1 (hp.mem_iff.1 ht);obtain ⟨h1,h2⟩:=List.mem_filter.1 hy
  have:y=x:=num_one hr h1 hx e
  subst this; exact h2
 ·intro h;exact ⟨endP x,hp.mem_iff.2 (List.mem_map.2 ⟨x,List.mem_filter.2 ⟨hx,h⟩,rfl⟩),rfl⟩
theorem behindP_step (l:List PbC) {ds:List Tm} {k:Nat} (hk:k < ds.length):behindP l (ds.take (k+1))=(behindP l (ds.take k)).filter (notN ds[k].2):=by
 unfold behindP;rw [List.filter_filter]
 apply List.filter_congr
 intro c _;rw [List.take_succ_eq_append_getElem hk,List.map_append,Bool.eq_iff_iff]
 simp [notN,Bool.and_comm,not_or,and_comm]
theorem behindP_mem {l:List PbC} {ds:List Tm} {now:Int} (hp:ds.Perm ((l.filter (overD now)).map endP)) (hd:ds.Pairwise fun a b=>a.2 ≠ b.2) {k:Nat} (hk:k < ds.length):∃ x ∈ behindP l (ds.take k),x.p.num=ds[k].2:=by
 obtain ⟨c,hc,e⟩:=List.mem_map.1 (hp.mem_iff.1 (List.getElem_mem hk));have hid:c.p.num=ds[k].2:=by rw [← e]; rfl
 refine ⟨c,List.mem_filter.2 ⟨(List.mem_filter.1 hc).1,?_⟩,hid⟩
 simp only [Bool.not_eq_true',List.contains_eq_mem,decide_eq_false_iff_not,List.mem_map];rintro ⟨t,ht,et⟩;obtain ⟨j,hj,rfl⟩:=List.mem_iff_getElem.1 ht;rw [List.length_take] at hj;rw [List.getElem_take] at et;exact List.pairwise_iff_getElem.1 hd j k (by omega) hk (by omega) (by rw [et,hid])
def whoN (l:List PbC) (n:Int):List UInt8:=((l.find? fun x=>x.p.num==n).map fun x=>x.p.who).getD []
theorem whoN_is {l:List PbC} (hr:l.Pairwise fun a b=>a.p.num < b.p.num) {x:PbC} (hx:x ∈ l):whoN l x.p.num=x.p.who:=by
 unfold whoN
 cases h:l.find? fun y=>y.p.num==x.p.num with
 | none =>
  have:=List.find?_eq_none.1 h x hx
  simp at this
 | some y =>
  have h1:=List.find?_some h;have h2:=List.mem_of_find?_eq_some h
  have:y=x:=num_one hr h2 hx (by simpa using h1)
  subst this; rfl
def whoseP (l:List PbC) (ds:List Tm):List (List UInt8):=ds.map fun d=>whoN l d.2
theorem whose_mem {l:List PbC} {ds:List Tm} {now:Int} (hr:l.Pairwise fun a b=>a.p.num < b.p.num) (hp:ds.Perm ((l.filter (overD now)).map endP)) (u:List UInt8):u ∈ whoseP l ds ↔ u ∈ ((pbsL l).filter (overP now)).map Pb.who:=by
 unfold whoseP;simp only [List.mem_map]
 constructor
 ·rintro ⟨d,hd,rfl⟩;obtain ⟨x,hx,rfl⟩:=List.mem_map.1 (hp.mem_iff.1 hd);obtain ⟨h1,h2⟩:=List.mem_filter.1 hx;refine ⟨x.p,List.mem_filter.2 ⟨List.mem_map.2 ⟨x,h1,rfl⟩,h2⟩,?_⟩
  rw [show (endP x).2=x.p.num from rfl,whoN_is hr h1]
 ·rintro ⟨p,hp',rfl⟩;obtain ⟨h1,h2⟩:=List.mem_filter.1 hp';obtain ⟨x,hx,rfl⟩:=List.mem_map.1 h1;exact ⟨endP x,hp.mem_iff.2 (List.mem_map.2 ⟨x,List.mem_filter.2 ⟨hx,h2⟩,rfl⟩),whoN_is hr hx⟩
theorem cmp_inv (zs:List (List UInt8)) (h:zs.Pairwise (fun x y=>x≤y)):∀ m,m≤zs.length → (Lib.compactUpTo zs.toArray m).Pairwise (· < ·)∧(∀ x ∈ Lib.compactUpTo zs.toArray m,∃ (j:Nat) (hj:j < zs.length),j < m∧x=zs[j])∧(∀ (j:Nat) (hj:j < zs.length),j < m → zs[j] ∈ Lib.compactUpTo zs.toArray m)
 | 0,_=>⟨by simp [Lib.compactUpTo],fun x hx=>by simp [Lib.compactUpTo] at hx,fun j hj h=>by omega⟩
 | m+1,hm=>by
  obtain ⟨i1,i2,i3⟩:=cmp_inv zs h m (by omega);have hm':m < zs.length:=hm;have em:zs.toArray[m]! = zs[m]:=by simp [getElem!_pos,hm']
  have hP:=List.pairwise_iff_getElem.1 h;rw [Lib.compactUpTo_succ];by_cases hk:Lib.keeps zs.toArray m=true
  ·rw [if_pos hk,em];refine ⟨List.pairwise_append.2 ⟨i1,List.pairwise_singleton _ _,fun a ha b hb=>?_⟩,fun x hx=>?_,fun j hj hjm=>?_⟩
   ·simp at hb
    subst hb;obtain ⟨j,hj,hjm,rfl⟩:=i2 a ha
    have hne:zs[m] ≠ zs[m - 1]:=by
     unfold Lib.keeps at hk;rw [decide_eq_true_eq] at hk
     rcases hk with hk | hk
     ·omega
     ·have e1:zs.toArray[m - 1]! = zs[m - 1]:=by simp [getElem!_pos,show m - 1 < zs.length by omega]
      rw [em,e1] at hk;exact hk
    have h1:zs[m - 1] < zs[m]:=lt_tot (List.not_lt.2 (hP (m - 1) m (by omega) hm' (by omega))) hne;by_cases hj1:j=m - 1
    ·subst hj1; exact h1
    ·have h2:=hP j (m - 1) hj (by omega) (by omega);by_cases e:zs[j]=zs[m - 1]
     ·rw [e]; exact h1
     ·exact lt_tr (lt_tot (List.not_lt.2 h2) (fun x=>e x.symm)) h1
   ·rcases List.mem_append.1 hx with hx | hx
    ·obtain ⟨j,hj,hjm,e⟩:=i2 x hx;exact ⟨j,hj,by omega,e⟩
    ·simp at hx
     exact ⟨m,hm',by omega,hx⟩
   ·by_cases e:j=m
    ·subst e; simp
    ·exact List.mem_append.2 (.inl (i3 j hj (by omega)))
  ·rw [if_neg hk,List.append_nil];refine ⟨i1,fun x hx=>?_,fun j hj hjm=>?_⟩
   ·obtain ⟨j,hj,hjm,e⟩:=i2 x hx;exact ⟨j,hj,by omega,e⟩
   ·by_cases e:j=m
    ·subst e;unfold Lib.keeps at hk;rw [decide_eq_true_eq,not_or,Classical.not_not] at hk;have e1:zs.toArray[j - 1]! = zs[j - 1]:=by simp [getElem!_pos,show j - 1 < zs.length by omega]
     rw [em,e1] at hk;rw [hk.2];exact i3 (j - 1) (by omega) (by omega)
    ·exact i3 j hj (by omega)
def sortS (l:List (List UInt8)):List (List UInt8):=l.mergeSort fun x y=>decide (x≤y)
theorem sortS_len (l:List (List UInt8)):(sortS l).length=l.length:=(List.mergeSort_perm _ _).length_eq
theorem le_totS (a b:List UInt8):a≤b∨b≤a:=by
 by_cases h:b < a
 ·by_cases k:a < b
  ·exact absurd (lt_tr h k) (lt_irr b)
  ·exact .inr (List.not_lt.1 k)
 ·exact .inl (List.not_lt.1 h)
theorem le_trS {a b c:List UInt8} (h:a≤b) (k:b≤c):a≤c:=by
 refine List.not_lt.1 fun hc=>?_
 by_cases e:a=b
 ·subst e; exact List.not_lt.2 k hc
 ·have h1:a < b:=lt_tot (List.not_lt.2 h) (fun x=>e x.symm);exact List.not_lt.2 k (lt_tr hc h1)
theorem sortS_sorted (l:List (List UInt8)):(sortS l).Pairwise (fun x y=>x≤y):=by
 have:=List.pairwise_mergeSort (le:=fun x y:List UInt8=>decide (x≤y)) (fun a b c h k=>by simp only [decide_eq_true_eq] at *; exact le_trS h k) (fun a b=>by rcases le_totS a b with h | h <;> simp [h]) l
 exact this.imp fun h=>by simpa using h
theorem told_is {l:List PbC} {ds:List Tm} {now:Int} (hr:l.Pairwise fun a b=>a.p.num < b.p.num) (hp:ds.Perm ((l.filter (overD now)).map endP)):Lib.compact (sortS (whoseP l ds))=(((pbsL l).filter (overP now)).map Pb.who).foldl riseV []:=by
 obtain ⟨h1,h2,h3⟩:=cmp_inv _ (sortS_sorted (whoseP l ds)) _ (Nat.le_refl _);refine rising_one _ _ h1 (rises_sorted _ _ List.Pairwise.nil) fun x=>?_
 rw [rises_mem,← whose_mem hr hp];have hm:x ∈ sortS (whoseP l ds) ↔ x ∈ whoseP l ds:=(List.mergeSort_perm _ _).mem_iff
 constructor
 ·intro hx;obtain ⟨j,hj,_,rfl⟩:=h2 x hx;exact .inr (hm.1 (List.getElem_mem hj))
 ·rintro (hx | hx)
  ·simp at hx
  ·obtain ⟨j,hj,rfl⟩:=List.mem_iff_getElem.1 (hm.2 hx);exact h3 j hj hj
end Go.Proofs.YteicmbhilambpaaGreatDoor
