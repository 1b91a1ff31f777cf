/-
  PsT, HeapL, WheelL, WheelM, WQ, WQLess, WQSwap, WQM.
-/
import Derived.Test.YtbmjodlbkgblpaaGreatDoorPO05
set_option linter.unusedVariables false
set_option linter.unusedSimpArgs false
set_option maxRecDepth 20000
namespace Go.Proofs.YtbmjodlbkgblpaaGreatDoor
open Go.RowKit Sc
theorem OwnU.form {w:World} {B:Nat} {v:Value} {ts:List Tu} (h:OwnU w B v ts):∃ a cap,v=.slice a ts.length cap:=by
 rcases h.2 with ⟨rfl,hn⟩ | ⟨g,cap,cur,rfl,_⟩
 ·exact ⟨none,0,by rw [hn]⟩
 ·exact ⟨_,cap,rfl⟩
theorem OwnU.tusAt {w:World} {B:Nat} {v:Value} {ts:List Tu} (h:OwnU w B v ts):TusAt w v ts:=by
 have h0:=h
 rcases h.2 with ⟨rfl,hn⟩ | ⟨g,cap,cur,rfl,hb,hg,r⟩
 ·exact ⟨none,0,by rw [hn],fun k hk=>by omega⟩
 ·refine ⟨some ⟨g,0,none⟩,cap,rfl,fun k hk=>⟨_,rfl,(Array.getElem?_eq_some_iff.1 hg).1,?_⟩⟩
  have e:∀ j,(⟨g,0,none⟩:Addr).add j=⟨g,j,none⟩:=fun j=>by unfold Addr.add; split <;> simp_all
  have c:∀ j u,(tuCells ts[k])[j]? = some u → w.cell? ⟨g,k * 5+j,none⟩=some u:=fun j u hj=>by
   have:=World.ownsRow.cells h0 (g:=g) rfl (k * 5+j) _ (tusCells_get ts k hk j u hj)
   rw [e] at this; exact this
  refine ⟨?_,?_,?_,?_,?_⟩
  ·rw [e]; exact c 0 _ rfl
  ·rw [e]; exact c 1 _ rfl
  ·rw [e]; exact c 2 _ rfl
  ·rw [e]; exact c 3 _ rfl
  ·rw [e]; exact c 4 _ rfl
theorem infoTup:(Tryz.prog.info? 89).map (fun i=>(i.zero,i.size,i.bytes))=some (some (.agg #[.string .empty,.bool false,.string .empty,.int .i64 0,.string .empty]),5,64):=by kernel_rfl
end Go.Proofs.YtbmjodlbkgblpaaGreatDoor
namespace Go.Proofs.YtbmjodlbkgblpaaGreatDoor
open Go.RowKit
structure Ord {α:Type} (lt:α → α → Bool):Prop where
 asymm:∀ a b,lt a b=true → lt b a=false
 trans:∀ a b c,lt b a=false → lt c b=false → lt c a=false
def par (k:Nat):Nat:=(k - 1) / 2
def swapF {α:Type} (f:Nat → α) (i j:Nat):Nat → α:=fun k=>if k=i then f j else if k=j then f i else f k
theorem swap_l {α:Type} (f:Nat → α) (i j:Nat):swapF f i j i=f j:=by simp [swapF]
theorem swap_r {α:Type} (f:Nat → α) (i j:Nat):swapF f i j j=f i:=by unfold swapF; split <;> simp_all
theorem swap_o {α:Type} (f:Nat → α) {i j k:Nat} (h1:k ≠ i) (h2:k ≠ j):swapF f i j k=f k:=by simp [swapF,h1,h2]
theorem par_lt {k:Nat} (h:0 < k):par k < k:=by unfold par; omega
theorem kids_of {c i:Nat} (h:0 < c):par c=i ↔ c=2 * i+1∨c=2 * i+2:=by unfold par; omega
section
variable {α : Type} {lt : α → α → Bool}
def Heap (lt:α → α → Bool) (f:Nat → α) (n:Nat):Prop:=∀ k,0 < k → k < n → lt (f k) (f (par k))=false
def UpOK (lt:α → α → Bool) (f:Nat → α) (n j:Nat):Prop :=
 (∀ k,0 < k → k < n → k ≠ j → lt (f k) (f (par k))=false)∧∀ c,0 < c → c < n → par c=j → 0 < j → lt (f c) (f (par j))=false
def FixOK (lt:α → α → Bool) (f:Nat → α) (n i:Nat):Prop :=
 (∀ k,0 < k → k < n → k ≠ i → par k ≠ i → lt (f k) (f (par k))=false)∧∀ c,0 < c → c < n → par c=i → 0 < i → lt (f c) (f (par i))=false
def DownOK (lt:α → α → Bool) (f:Nat → α) (n i:Nat):Prop :=
 (∀ k,0 < k → k < n → par k ≠ i → lt (f k) (f (par k))=false)∧∀ c,0 < c → c < n → par c=i → 0 < i → lt (f c) (f (par i))=false
theorem DownOK.fix {f:Nat → α} {n i:Nat} (h:DownOK lt f n i):FixOK lt f n i:=⟨fun k h0 h1 _ h2=>h.1 k h0 h1 h2,h.2⟩
theorem up_stop {f:Nat → α} {n j:Nat} (h:UpOK lt f n j) (hs:j=0∨lt (f j) (f (par j))=false):Heap lt f n:=by
 intro k h0 h1;by_cases hk:k=j
 ·subst hk
  rcases hs with rfl | hs
  ·omega
  ·exact hs
 ·exact h.1 k h0 h1 hk
theorem up_step (o:Ord lt) {f:Nat → α} {n j:Nat} (h:UpOK lt f n j) (hj:0 < j) (hn:j < n) (hl:lt (f j) (f (par j))=true):UpOK lt (swapF f (par j) j) n (par j):=by
 have hij:=par_lt hj;refine ⟨fun k h0 h1 hk=>?_,fun c h0 h1 hc hi=>?_⟩
 ·by_cases hkj:k=j
  ·subst hkj;rw [swap_r,swap_l]; exact o.asymm _ _ hl
  ·rw [swap_o f hk hkj];by_cases hp:par k=par j
   ·rw [hp,swap_l]
    have:=h.1 k h0 h1 hkj
    rw [hp] at this;exact o.trans _ _ _ (o.asymm _ _ hl) this
   ·by_cases hp2:par k=j
    ·rw [hp2,swap_r]; exact h.2 k h0 h1 hp2 hj
    ·rw [swap_o f hp hp2]; exact h.1 k h0 h1 hkj
 ·have hpi:=par_lt hi;rw [swap_o f (i:=par j) (j:=j) (k:=par (par j)) (by omega) (by omega)];have hii:=h.1 (par j) hi (by omega) (by omega);by_cases hcj:c=j
  ·subst hcj; rw [swap_r]; exact hii
  ·have hci:c ≠ par j:=by have:=par_lt h0; omega
   rw [swap_o f hci hcj]
   have:=h.1 c h0 h1 hcj
   rw [hc] at this;exact o.trans _ _ _ hii this
theorem down_stop0 {f:Nat → α} {n i:Nat} (h:FixOK lt f n i) (hs:∀ c,0 < c → c < n → par c=i → lt (f c) (f i)=false):UpOK lt f n i:=by
 refine ⟨fun k h0 h1 hk=>?_,h.2⟩
 by_cases hp:par k=i
 ·rw [hp]; exact hs k h0 h1 hp
 ·exact h.1 k h0 h1 hk hp
theorem down_stop {f:Nat → α} {n i:Nat} (h:DownOK lt f n i) (hs:∀ c,0 < c → c < n → par c=i → lt (f c) (f i)=false):Heap lt f n:=by
 intro k h0 h1;by_cases hp:par k=i
 ·rw [hp]; exact hs k h0 h1 hp
 ·exact h.1 k h0 h1 hp
theorem down_step (o:Ord lt) {f:Nat → α} {n i j:Nat} (h:FixOK lt f n i) (hj:0 < j) (hn:j < n) (hp:par j=i) (hl:lt (f j) (f i)=true) (hm:∀ c,0 < c → c < n → par c=i → lt (f c) (f j)=false):DownOK lt (swapF f i j) n j:=by
 have hij:i < j:=by have:=par_lt hj; omega
 refine ⟨fun k h0 h1 hk=>?_,fun c h0 h1 hc _=>?_⟩
 ·by_cases hki:k=i
  ·subst hki
   have:=par_lt h0
   rw [swap_l,swap_o f (i:=k) (j:=j) (k:=par k) (by omega) (by omega)];exact h.2 j hj hn hp h0
  ·by_cases hkj:k=j
   ·subst hkj;rw [swap_r,hp,swap_l]; exact o.asymm _ _ hl
   ·rw [swap_o f hki hkj];by_cases hpi:par k=i
    ·rw [hpi,swap_l]; exact hm k h0 h1 hpi
    ·rw [swap_o f hpi hk]; exact h.1 k h0 h1 hki hpi
 ·have hcj:=par_lt h0;rw [hp,swap_l,swap_o f (by omega) (by omega)]
  have:=h.1 c h0 h1 (by omega) (by omega)
  rw [hc] at this; exact this
theorem child_l (o:Ord lt) {f:Nat → α} {n i:Nat} (h1:2 * i+1 < n) (hl:¬ (2 * i+2 < n∧lt (f (2 * i+2)) (f (2 * i+1))=true)):∀ c,0 < c → c < n → par c=i → lt (f c) (f (2 * i+1))=false:=by
 intro c h0 hc hp
 rcases (kids_of h0).1 hp with rfl | rfl
 ·cases e:lt (f (2 * i+1)) (f (2 * i+1)) with
  | false=>rfl
  | true=>rw [o.asymm _ _ e] at e; cases e
 ·cases e:lt (f (2 * i+2)) (f (2 * i+1)) with
  | false=>rfl
  | true=>exact absurd ⟨hc,e⟩ hl
theorem child_r (o:Ord lt) {f:Nat → α} {n i:Nat} (hl:lt (f (2 * i+2)) (f (2 * i+1))=true):∀ c,0 < c → c < n → par c=i → lt (f c) (f (2 * i+2))=false:=by
 intro c h0 hc hp
 rcases (kids_of h0).1 hp with rfl | rfl
 ·exact o.asymm _ _ hl
 ·cases e:lt (f (2 * i+2)) (f (2 * i+2)) with
  | false=>rfl
  | true=>rw [o.asymm _ _ e] at e; cases e
theorem none_less (o:Ord lt) {f:Nat → α} {n i j:Nat} (hm:∀ c,0 < c → c < n → par c=i → lt (f c) (f j)=false) (hl:lt (f j) (f i)=false):∀ c,0 < c → c < n → par c=i → lt (f c) (f i)=false :=
 fun c h0 h1 hp=>o.trans _ _ _ hl (hm c h0 h1 hp)
theorem no_child {f:Nat → α} {n i:Nat} (h:n≤2 * i+1):∀ c,0 < c → c < n → par c=i → lt (f c) (f i)=false:=by
 intro c h0 h1 hp
 rcases (kids_of h0).1 hp with rfl | rfl <;> omega
theorem push_ok {f g:Nat → α} {n:Nat} (h:Heap lt f n) (hg:∀ k,k < n → g k=f k):UpOK lt g (n+1) n:=by
 refine ⟨fun k h0 h1 hk=>?_,fun c h0 h1 hc hn=>?_⟩
 ·have:=par_lt h0
  rw [hg k (by omega),hg (par k) (by omega)]; exact h k h0 (by omega)
 ·have:=par_lt h0; omega
theorem remove_ok (o:Ord lt) {f:Nat → α} {n i:Nat} (h:Heap lt f (n+1)) (hi:i < n):FixOK lt (swapF f i n) n i:=by
 refine ⟨fun k h0 h1 hk hp=>?_,fun c h0 h1 hc h2=>?_⟩
 ·have:=par_lt h0
  rw [swap_o f hk (by omega),swap_o f hp (by omega)]; exact h k h0 (by omega)
 ·have a1:=par_lt h0;have a2:=par_lt h2;rw [swap_o f (by omega) (by omega),swap_o f (by omega) (by omega)];have b1:=h c h0 (by omega);rw [hc] at b1;exact o.trans _ _ _ (h i h2 (by omega)) b1
theorem fix_ok (o:Ord lt) {f g:Nat → α} {n i:Nat} (h:Heap lt f n) (hi:i < n) (hg:∀ k,k ≠ i → g k=f k):FixOK lt g n i:=by
 refine ⟨fun k h0 h1 hk hp=>?_,fun c h0 h1 hc h2=>?_⟩
 ·rw [hg k hk,hg (par k) hp]; exact h k h0 h1
 ·have a1:=par_lt h0;have a2:=par_lt h2;rw [hg c (by omega),hg (par i) (by omega)];have b1:=h c h0 h1;rw [hc] at b1;exact o.trans _ _ _ (h i h2 hi) b1
end
abbrev Tm:=Int × Int
def ahd (a b:Tm):Bool:=decide (a.1 < b.1) || (decide (a.1=b.1) && decide (a.2 < b.2))
theorem ahd_iff {a b:Tm}:ahd a b=true ↔ a.1 < b.1∨(a.1=b.1∧a.2 < b.2):=by simp [ahd]
theorem ahd_not {a b:Tm}:ahd a b=false ↔ ¬ (a.1 < b.1∨(a.1=b.1∧a.2 < b.2)):=by rw [← ahd_iff]; simp
theorem ahd_trans {a b c:Tm} (h1:ahd a b=true) (h2:ahd b c=true):ahd a c=true:=by
 rw [ahd_iff] at *; omega
theorem ahd_total {a b:Tm} (h:a.2 ≠ b.2) (h1:ahd a b=false):ahd b a=true:=by
 rw [ahd_not] at h1; rw [ahd_iff]; omega
structure It where
 blk:Nat
 tm:Tm
def itLt (a b:It):Bool:=ahd a.tm b.tm
theorem it_ord:Ord itLt :=
 ⟨fun a b h=>by unfold itLt at *; rw [ahd_iff] at h; rw [ahd_not]; omega,fun a b c h1 h2=>by unfold itLt at *; rw [ahd_not] at *; omega⟩
structure Re (m:Nat) (f g:Nat → It):Prop where
 mem:∀ x,(∃ i,i < m∧g i=x) ↔ ∃ i,i < m∧f i=x
 inj:(∀ i j,i < m → j < m → (f i).blk=(f j).blk → i=j) → ∀ i j,i < m → j < m → (g i).blk=(g j).blk → i=j
 rest:∀ k,m≤k → g k=f k
theorem Re.refl (m:Nat) (f:Nat → It):Re m f f:=⟨fun _=>Iff.rfl,fun h=>h,fun _ _=>rfl⟩
theorem Re.trans {m:Nat} {f g h:Nat → It} (a:Re m f g) (b:Re m g h):Re m f h :=
 ⟨fun x=>(b.mem x).trans (a.mem x),fun hi=>b.inj (a.inj hi),fun k hk=>(b.rest k hk).trans (a.rest k hk)⟩
theorem Re.swap {m:Nat} (f:Nat → It) {i j:Nat} (hi:i < m) (hj:j < m):Re m f (swapF f i j):=by
 have hs:∀ k,k < m → ∃ k',k' < m∧swapF f i j k=f k'∧swapF f i j k'=f k:=by
  intro k hk;by_cases h1:k=i
  ·subst h1; exact ⟨j,hj,swap_l f k j,swap_r f k j⟩
  ·by_cases h2:k=j
   ·subst h2; exact ⟨i,hi,swap_r f i k,swap_l f i k⟩
   ·exact ⟨k,hk,swap_o f h1 h2,swap_o f h1 h2⟩
 refine ⟨fun x=>⟨?_,?_⟩,fun h a b ha hb hab=>?_,fun k hk=>swap_o f (by omega) (by omega)⟩
 ·rintro ⟨k,hk,rfl⟩;obtain ⟨k',h1,h2,_⟩:=hs k hk;exact ⟨k',h1,h2.symm⟩
 ·rintro ⟨k,hk,rfl⟩;obtain ⟨k',h1,_,h2⟩:=hs k hk;exact ⟨k',h1,h2⟩
 ·by_cases a1:a=i
  ·subst a1;rw [swap_l] at hab;by_cases b1:b=a
   ·exact b1.symm
   ·by_cases b2:b=j
    ·subst b2; rw [swap_r] at hab; exact (h _ _ hj hi hab).symm
    ·rw [swap_o f b1 b2] at hab; exact absurd (h _ _ hj hb hab).symm b2
  ·by_cases a2:a=j
   ·subst a2;rw [swap_r] at hab;by_cases b1:b=i
    ·subst b1; rw [swap_l] at hab; exact (h _ _ hi hj hab).symm
    ·by_cases b2:b=a
     ·exact b2.symm
     ·rw [swap_o f b1 b2] at hab; exact absurd (h _ _ hi hb hab).symm b1
   ·rw [swap_o f a1 a2] at hab;by_cases b1:b=i
    ·subst b1; rw [swap_l] at hab; exact absurd (h _ _ ha hj hab) a2
    ·by_cases b2:b=j
     ·subst b2; rw [swap_r] at hab; exact absurd (h _ _ ha hi hab) a1
     ·rw [swap_o f b1 b2] at hab; exact h _ _ ha hb hab
theorem Re.more {m n:Nat} {f g:Nat → It} (h:Re m f g) (hmn:m≤n) (hi:∀ i j,i < n → j < n → (f i).blk=(f j).blk → i=j):Re n f g:=by
 refine ⟨fun x=>⟨?_,?_⟩,fun _ a b ha hb hab=>?_,fun k hk=>h.rest k (by omega)⟩
 ·rintro ⟨k,hk,rfl⟩;by_cases hm:k < m
  ·obtain ⟨k',h1,h2⟩:=(h.mem (g k)).1 ⟨k,hm,rfl⟩;exact ⟨k',by omega,h2⟩
  ·exact ⟨k,hk,(h.rest k (by omega)).symm⟩
 ·rintro ⟨k,hk,rfl⟩;by_cases hm:k < m
  ·obtain ⟨k',h1,h2⟩:=(h.mem (f k)).2 ⟨k,hm,rfl⟩;exact ⟨k',by omega,h2⟩
  ·exact ⟨k,hk,h.rest k (by omega)⟩
 ·by_cases am:a < m
  ·by_cases bm:b < m
   ·exact h.inj (fun i j a1 a2 a3=>hi i j (by omega) (by omega) a3) a b am bm hab
   ·obtain ⟨k',h1,h2⟩:=(h.mem (g a)).1 ⟨a,am,rfl⟩;rw [← h2,h.rest b (by omega)] at hab
    have:=hi _ _ (by omega) hb hab
    omega
  ·by_cases bm:b < m
   ·obtain ⟨k',h1,h2⟩:=(h.mem (g b)).1 ⟨b,bm,rfl⟩;rw [← h2,h.rest a (by omega)] at hab
    have:=hi _ _ ha (by omega) hab
    omega
   ·rw [h.rest a (by omega),h.rest b (by omega)] at hab;exact hi _ _ ha hb hab
def stopT (l:List Tm) (id:Int):List Tm:=l.filter fun t=>!decide (t.2=id)
def setT (l:List Tm) (id at':Int):List Tm:=(stopT l id).takeWhile (fun t=>ahd t (at',id))++(at',id) :: (stopT l id).dropWhile (fun t=>ahd t (at',id))
def whenT:List Tm → Int → Option Int
 | [],_=>none
 | t :: l,id=>if t.2=id then some t.1 else whenT l id
structure Row9 (l:List Tm):Prop where
 sorted:l.Pairwise fun a b=>ahd a b=true
 ids:l.Pairwise fun a b=>a.2 ≠ b.2
theorem Row9.nil:Row9 []:=⟨.nil,.nil⟩
theorem Row9.tail {t:Tm} {l:List Tm} (h:Row9 (t :: l)):Row9 l:=⟨(List.pairwise_cons.1 h.sorted).2,(List.pairwise_cons.1 h.ids).2⟩
theorem stop_mem {l:List Tm} {id:Int} {t:Tm}:t ∈ stopT l id ↔ t ∈ l∧t.2 ≠ id:=by simp [stopT]
theorem Row9.stop {l:List Tm} (h:Row9 l) (id:Int):Row9 (stopT l id):=⟨h.sorted.filter _,h.ids.filter _⟩
theorem stop_len {l:List Tm} (h:Row9 l) (id:Int):(stopT l id).length+(if (∃ t ∈ l,t.2=id) then 1 else 0)=l.length:=by
 induction l with
 | nil=>simp [stopT]
 | cons t l ih =>
  obtain ⟨h1,_⟩:=List.pairwise_cons.1 h.ids;have ih:=ih h.tail;by_cases e:t.2=id
  ·have hn:¬ ∃ x ∈ l,x.2=id:=fun ⟨x,hx,hxi⟩=>h1 x hx (by rw [e,hxi]);rw [if_neg hn] at ih;rw [if_pos ⟨t,by simp,e⟩]
   have:stopT (t :: l) id=stopT l id:=by simp [stopT,e]
   rw [this]; simp at ih ⊢; exact ih
  ·have:stopT (t :: l) id=t :: stopT l id:=by simp [stopT,e]
   rw [this];by_cases hx:∃ x ∈ l,x.2=id
   ·rw [if_pos hx] at ih;obtain ⟨x,hx1,hx2⟩:=hx;rw [if_pos ⟨x,by simp [hx1],hx2⟩]; simp at ih ⊢; omega
   ·rw [if_neg hx] at ih;rw [if_neg (by rintro ⟨x,hx1,hx2⟩; rcases List.mem_cons.1 hx1 with rfl | hx1; exact e hx2; exact hx ⟨x,hx1,hx2⟩)]; simp at ih ⊢; exact ih
theorem when_iff {l:List Tm} (h:Row9 l) (id a:Int):whenT l id=some a ↔ (a,id) ∈ l:=by
 induction l with
 | nil=>simp [whenT]
 | cons t l ih =>
  obtain ⟨h1,_⟩:=List.pairwise_cons.1 h.ids;unfold whenT;by_cases e:t.2=id
  ·rw [if_pos e]
   constructor
   ·intro h; injection h with h; subst h; subst e; simp
   ·intro hm
    rcases List.mem_cons.1 hm with hm | hm
    ·rw [← hm]
    ·exact absurd e (h1 _ hm)
  ·rw [if_neg e,ih h.tail]
   constructor
   ·intro hm; simp [hm]
   ·intro hm
    rcases List.mem_cons.1 hm with hm | hm
    ·exact absurd (by rw [← hm]) e
    ·exact hm
theorem when_none {l:List Tm} (id:Int):whenT l id=none ↔ ∀ t ∈ l,t.2 ≠ id:=by
 induction l with
 | nil=>simp [whenT]
 | cons t l ih =>
  unfold whenT;by_cases e:t.2=id
  ·rw [if_pos e]; simp [e]
  ·rw [if_neg e,ih]; simp [e]
theorem set_mem {l:List Tm} {id at':Int} {t:Tm}:t ∈ setT l id at' ↔ t=(at',id)∨(t ∈ l∧t.2 ≠ id):=by
 unfold setT;rw [← stop_mem];generalize stopT l id=r
 have hr:t ∈ r ↔ t ∈ r.takeWhile (fun t=>ahd t (at',id))∨t ∈ r.dropWhile (fun t=>ahd t (at',id)):=by
  rw [← List.mem_append,List.takeWhile_append_dropWhile]
 rw [hr];simp only [List.mem_append,List.mem_cons]
 constructor
 ·rintro (h | h | h)
  ·exact .inr (.inl h)
  ·exact .inl h
  ·exact .inr (.inr h)
 ·rintro (h | h | h)
  ·exact .inr (.inl h)
  ·exact .inl h
  ·exact .inr (.inr h)
theorem mid_len (a b:List Tm) (t:Tm):(a++t :: b).length=(a++b).length+1:=by simp only [List.length_append,List.length_cons]; omega
theorem set_len {l:List Tm} (h:Row9 l) (id at':Int):(setT l id at').length+(if (∃ t ∈ l,t.2=id) then 1 else 0)=l.length+1:=by
 have h1:=stop_len h id
 have h2:(setT l id at').length=(stopT l id).length+1:=by
  unfold setT;rw [mid_len,List.takeWhile_append_dropWhile]
 omega
theorem dw_first {p:Tm → Bool}:∀ {r:List Tm} {t:Tm} {s:List Tm},r.dropWhile p=t :: s → p t=false
 | [],t,s,h=>by simp at h
 | x :: r,t,s,h=>by
  rw [List.dropWhile_cons] at h
  split at h
  ·exact dw_first h
  ·injection h with h1 h2; subst h1; simp_all
theorem tw_all {p:Tm → Bool}:∀ {r:List Tm} {t:Tm},t ∈ r.takeWhile p → p t=true
 | [],t,h=>by simp at h
 | x :: r,t,h=>by
  rw [List.takeWhile_cons] at h
  split at h
  ·rcases List.mem_cons.1 h with rfl | h
   ·assumption
   ·exact tw_all h
  ·simp at h
theorem dw_all {r:List Tm} {t0:Tm} (h:Row9 r) (hid:∀ t ∈ r,t.2 ≠ t0.2):∀ t ∈ r.dropWhile (fun t=>ahd t t0),ahd t0 t=true:=by
 intro t ht
 cases e:r.dropWhile (fun t=>ahd t t0) with
 | nil=>rw [e] at ht; simp at ht
 | cons x s =>
  have hx:=dw_first e;have hsub:(x :: s).Sublist r:=e ▸ List.dropWhile_sublist _;have hxr:x ∈ r:=hsub.subset (by simp);have h0:ahd t0 x=true:=ahd_total (hid x hxr) hx;rw [e] at ht
  rcases List.mem_cons.1 ht with rfl | ht
  ·exact h0
  ·have:=(List.pairwise_cons.1 (h.sorted.sublist hsub)).1 t ht
   exact ahd_trans h0 this
theorem Row9.set {l:List Tm} (h:Row9 l) (id at':Int):Row9 (setT l id at'):=by
 have hr:=h.stop id;have hid:∀ t ∈ stopT l id,t.2 ≠ ((at',id):Tm).2:=fun t ht=>(stop_mem.1 ht).2;unfold setT;generalize stopT l id=r at hr hid;have hall:=dw_all (t0:=(at',id)) hr hid;have hsp:=List.takeWhile_append_dropWhile (p:=fun t=>ahd t (at',id)) (l:=r);have hta:∀ t ∈ r.takeWhile (fun t=>ahd t (at',id)),ahd t (at',id)=true:=fun t ht=>tw_all (p:=fun t=>ahd t (at',id)) ht;have s1:=hr.sorted;have s2:=hr.ids;rw [← hsp,List.pairwise_append] at s1 s2;have m1:∀ t ∈ r.takeWhile (fun t=>ahd t (at',id)),t ∈ r:=fun t ht=>(List.takeWhile_sublist _).subset ht;have m2:∀ t ∈ r.dropWhile (fun t=>ahd t (at',id)),t ∈ r:=fun t ht=>(List.dropWhile_sublist _).subset ht;refine ⟨?_,?_⟩
 ·rw [List.pairwise_append];refine ⟨s1.1,List.pairwise_cons.2 ⟨hall,s1.2.1⟩,fun a ha b hb=>?_⟩
  rcases List.mem_cons.1 hb with rfl | hb
  ·exact hta a ha
  ·exact s1.2.2 a ha b hb
 ·rw [List.pairwise_append];refine ⟨s2.1,List.pairwise_cons.2 ⟨fun b hb=>(hid b (m2 b hb)).symm,s2.2.1⟩,fun a ha b hb=>?_⟩
  rcases List.mem_cons.1 hb with rfl | hb
  ·exact hid a (m1 a ha)
  ·exact s2.2.2 a ha b hb
structure Keeps (f:Nat → It) (n:Nat) (l:List Tm):Prop where
 row:Row9 l
 heap:Heap itLt f n
 inj:∀ i j,i < n → j < n → (f i).blk=(f j).blk → i=j
 ids:∀ i j,i < n → j < n → (f i).tm.2=(f j).tm.2 → i=j
 mem:∀ t,t ∈ l ↔ ∃ i,i < n∧(f i).tm=t
 len:l.length=n
theorem keeps_nil (f:Nat → It):Keeps f 0 []:=⟨.nil,fun k _ h=>by omega,fun i j h=>by omega,fun i j h=>by omega,fun t=>by simp,rfl⟩
def putF (f:Nat → It) (k:Nat) (x:It):Nat → It:=fun i=>if i=k then x else f i
theorem put_at (f:Nat → It) (k:Nat) (x:It):putF f k x k=x:=by simp [putF]
theorem put_ne (f:Nat → It) {k i:Nat} (x:It) (h:i ≠ k):putF f k x i=f i:=by simp [putF,h]
theorem Re.ids {m:Nat} {f g:Nat → It} (h:Re m f g) (hb:∀ i j,i < m → j < m → (f i).blk=(f j).blk → i=j) (hi:∀ i j,i < m → j < m → (f i).tm.2=(f j).tm.2 → i=j) :
  ∀ i j,i < m → j < m → (g i).tm.2=(g j).tm.2 → i=j:=by
 intro i j h1 h2 he;obtain ⟨a,ha,ea⟩:=(h.mem (g i)).1 ⟨i,h1,rfl⟩;obtain ⟨b,hb',eb⟩:=(h.mem (g j)).1 ⟨j,h2,rfl⟩;have hab:=hi a b ha hb' (by rw [ea,eb]; exact he);subst hab;exact h.inj hb i j h1 h2 (by rw [← ea,← eb])
theorem Re.tms {m:Nat} {f g:Nat → It} (h:Re m f g) (t:Tm):(∃ i,i < m∧(g i).tm=t) ↔ ∃ i,i < m∧(f i).tm=t:=by
 constructor
 ·rintro ⟨i,hi,rfl⟩;obtain ⟨a,ha,ea⟩:=(h.mem (g i)).1 ⟨i,hi,rfl⟩;exact ⟨a,ha,by rw [ea]⟩
 ·rintro ⟨i,hi,rfl⟩;obtain ⟨a,ha,ea⟩:=(h.mem (f i)).2 ⟨i,hi,rfl⟩;exact ⟨a,ha,by rw [ea]⟩
theorem keeps_re {f g:Nat → It} {n:Nat} {l:List Tm} (hr:Row9 l) (hre:Re n f g) (hh:Heap itLt g n) (hinj:∀ i j,i < n → j < n → (f i).blk=(f j).blk → i=j)
  (hids:∀ i j,i < n → j < n → (f i).tm.2=(f j).tm.2 → i=j) (hm:∀ t,t ∈ l ↔ ∃ i,i < n∧(f i).tm=t) (hl:l.length=n):Keeps g n l :=
 ⟨hr,hh,hre.inj hinj,hre.ids hinj hids,fun t=>(hm t).trans (hre.tms t).symm,hl⟩
theorem Keeps.push {f g:Nat → It} {n b:Nat} {l:List Tm} {id at':Int} (h:Keeps f n l) (hno:∀ t ∈ l,t.2 ≠ id) (hb:∀ i,i < n → (f i).blk ≠ b)
  (hre:Re (n+1) (putF f n ⟨b,(at',id)⟩) g) (hh:Heap itLt g (n+1)):Keeps g (n+1) (setT l id at'):=by
 have hid:∀ i,i < n → (f i).tm.2 ≠ id:=fun i hi=>hno _ ((h.mem _).2 ⟨i,hi,rfl⟩);refine keeps_re (h.row.set id at') hre hh ?_ ?_ ?_ ?_
 ·intro i j hi hj he;by_cases e1:i=n <;> by_cases e2:j=n
  ·omega
  ·subst e1; rw [put_at,put_ne _ _ e2] at he; exact absurd he.symm (hb j (by omega))
  ·subst e2; rw [put_at,put_ne _ _ e1] at he; exact absurd he (hb i (by omega))
  ·rw [put_ne _ _ e1,put_ne _ _ e2] at he; exact h.inj i j (by omega) (by omega) he
 ·intro i j hi hj he;by_cases e1:i=n <;> by_cases e2:j=n
  ·omega
  ·subst e1; rw [put_at,put_ne _ _ e2] at he; exact absurd he.symm (hid j (by omega))
  ·subst e2; rw [put_at,put_ne _ _ e1] at he; exact absurd he (hid i (by omega))
  ·rw [put_ne _ _ e1,put_ne _ _ e2] at he; exact h.ids i j (by omega) (by omega) he
 ·intro t;rw [set_mem]
  constructor
  ·rintro (rfl | ⟨ht,_⟩)
   ·exact ⟨n,by omega,by rw [put_at]⟩
   ·obtain ⟨i,hi,he⟩:=(h.mem t).1 ht;exact ⟨i,by omega,by rw [put_ne _ _ (by omega)]; exact he⟩
  ·rintro ⟨i,hi,he⟩;by_cases e1:i=n
   ·subst e1; rw [put_at] at he; exact .inl he.symm
   ·rw [put_ne _ _ e1] at he;have hm:=(h.mem t).2 ⟨i,by omega,he⟩;exact .inr ⟨hm,hno t hm⟩
 ·have:=set_len h.row id at'
  rw [if_neg (by rintro ⟨t,ht,he⟩; exact hno t ht he)] at this
  have:=h.len
  omega
theorem Keeps.fix {f g:Nat → It} {n i:Nat} {l:List Tm} {at':Int} (h:Keeps f n l) (hi:i < n)
  (hre:Re n (putF f i ⟨(f i).blk,(at',(f i).tm.2)⟩) g) (hh:Heap itLt g n):Keeps g n (setT l (f i).tm.2 at'):=by
 have hid:∀ k,k < n → k ≠ i → (f k).tm.2 ≠ (f i).tm.2:=fun k hk hne he=>hne (h.ids k i hk hi he)
 have hP:∀ k,(putF f i ⟨(f i).blk,(at',(f i).tm.2)⟩ k).blk=(f k).blk∧(putF f i ⟨(f i).blk,(at',(f i).tm.2)⟩ k).tm.2=(f k).tm.2:=fun k=>by
  by_cases e:k=i
  ·subst e; rw [put_at]; exact ⟨rfl,rfl⟩
  ·rw [put_ne _ _ e]; exact ⟨rfl,rfl⟩
 refine keeps_re (h.row.set _ at') hre hh ?_ ?_ ?_ ?_
 ·intro a b ha hb he;rw [(hP a).1,(hP b).1] at he;exact h.inj a b ha hb he
 ·intro a b ha hb he;rw [(hP a).2,(hP b).2] at he;exact h.ids a b ha hb he
 ·intro t;rw [set_mem]
  constructor
  ·rintro (rfl | ⟨ht,hne⟩)
   ·exact ⟨i,hi,by rw [put_at]⟩
   ·obtain ⟨k,hk,he⟩:=(h.mem t).1 ht;have hki:k ≠ i:=fun e=>by subst e; exact hne (by rw [he])
    exact ⟨k,hk,by rw [put_ne _ _ hki]; exact he⟩
  ·rintro ⟨k,hk,he⟩;by_cases e1:k=i
   ·subst e1; rw [put_at] at he; exact .inl he.symm
   ·rw [put_ne _ _ e1] at he;exact .inr ⟨(h.mem t).2 ⟨k,hk,he⟩,by rw [← he]; exact hid k hk e1⟩
 ·have:=set_len h.row (f i).tm.2 at'
  rw [if_pos ⟨(f i).tm,(h.mem _).2 ⟨i,hi,rfl⟩,rfl⟩] at this
  have:=h.len
  omega
theorem Keeps.drop {f g:Nat → It} {n i:Nat} {l:List Tm} (h:Keeps f (n+1) l) (hi:i < n+1)
  (hre:Re n (swapF f i n) g) (hh:Heap itLt g n):Keeps g n (stopT l (f i).tm.2):=by
 have hs:=Re.swap f hi (show n < n+1 by omega);have hl:swapF f i n n=f i:=swap_r f i n;have hinj:=hs.inj h.inj;have hids:=hs.ids h.inj h.ids;refine keeps_re (h.row.stop _) hre hh ?_ ?_ ?_ ?_
 ·intro a b ha hb he; exact hinj a b (by omega) (by omega) he
 ·intro a b ha hb he; exact hids a b (by omega) (by omega) he
 ·intro t;rw [stop_mem,h.mem,← hs.tms]
  constructor
  ·rintro ⟨⟨k,hk,he⟩,hne⟩;have hkn:k ≠ n:=fun e=>by subst e; rw [hl] at he; exact hne (by rw [he])
   exact ⟨k,by omega,he⟩
  ·rintro ⟨k,hk,he⟩;refine ⟨⟨k,by omega,he⟩,fun e=>?_⟩
   have:=hids k n (by omega) (by omega) (by rw [hl,he]; exact e)
   omega
 ·have:=stop_len h.row (f i).tm.2
  rw [if_pos ⟨(f i).tm,(h.mem _).2 ⟨i,hi,rfl⟩,rfl⟩] at this
  have:=h.len
  omega
structure Chg (S:Nat → Prop) (w w':World):Prop where
 os:w'.os=w.os
 tape:w'.tape=w.tape
 output:w'.output=w.output
 size:w.heap.size≤w'.heap.size
 block:∀ k,k < w.heap.size → ¬ S k → w'.heap[k]? = w.heap[k]?
theorem Chg.refl (S:Nat → Prop) (w:World):Chg S w w:=⟨rfl,rfl,rfl,Nat.le_refl _,fun _ _ _=>rfl⟩
theorem Chg.drew {S:Nat → Prop} {a w:World} (h:Chg S a w):Chg S a w.drew:=⟨h.os,h.tape,h.output,h.size,h.block⟩
theorem Chg.step {S S':Nat → Prop} {a b c:World} (h:Chg S a b) (k:Chg S' b c) (hs:∀ i,i < a.heap.size → S' i → S i):Chg S a c :=
 ⟨k.os.trans h.os,k.tape.trans h.tape,k.output.trans h.output,Nat.le_trans h.size k.size,fun i hi hn=>(k.block i (Nat.lt_of_lt_of_le hi h.size) (fun x=>hn (hs i hi x))).trans (h.block i hi hn)⟩
theorem Chg.mono {S S':Nat → Prop} {a b:World} (h:Chg S a b) (hs:∀ i,i < a.heap.size → S i → S' i):Chg S' a b:=⟨h.os,h.tape,h.output,h.size,fun k hk hn=>h.block k hk fun x=>hn (hs k hk x)⟩
theorem Chg.setCell {S:Nat → Prop} {a w:World} (h:Chg S a w) {p:Addr} (hp:p.block < a.heap.size → S p.block) (u:Value):Chg S a (w.setCell p u) :=
 ⟨h.os,h.tape,h.output,by simpa [World.setCell] using h.size,fun k hk hn=>by
  rw [Below.heap_setCell w p u k (fun e=>by subst e; exact hn (hp hk))]; exact h.block k hk hn⟩
theorem Chg.alloc {S:Nat → Prop} {a w:World} (h:Chg S a w) (o:Obj):Chg S a (w.alloc o) :=
 ⟨h.os,h.tape,h.output,Nat.le_trans h.size (by simp),fun k hk hn=>by rw [Below.heap_alloc _ _ _ (Nat.lt_of_lt_of_le hk h.size)]; exact h.block k hk hn⟩
theorem Chg.grown {S:Nat → Prop} {a w w':World} {row:Option Nat} (h:Chg S a w) (hg:w.grownBy w' row) (hr:∀ k,row=some k → k < a.heap.size → S k):Chg S a w' :=
 ⟨hg.os.trans h.os,hg.tape.trans h.tape,hg.output.trans h.output,Nat.le_trans h.size hg.size,fun k hk hn=>(hg.block k (Nat.lt_of_lt_of_le hk h.size) (fun e=>hn (hr k e.symm hk))).trans (h.block k hk hn)⟩
theorem Chg.below {S:Nat → Prop} {w w':World} {B:Nat} (h:Chg S w w') (hB:B≤w.heap.size) (hS:∀ k,S k → B≤k):Below B w w' :=
 ⟨h.os,h.tape,h.output,h.size,fun k hk=>h.block k (by omega) (fun hs=>by have:=hS k hs; omega)⟩
theorem chg_below {S:Nat → Prop} {w w':World} (h:Below w.heap.size w w'):Chg S w w':=⟨h.os,h.tape,h.output,h.size,fun k hk _=>h.block k hk⟩
theorem RowIs.chg {S:Nat → Prop} {w w':World} {b:Nat} {e:TypeId} {l:List Value} (h:RowIs w b e l) (hc:Chg S w w') (hn:¬ S b):RowIs w' b e l:=by
 unfold RowIs at *;rw [hc.block b (Array.getElem?_eq_some_iff.1 h).1 hn]; exact h
theorem RowIs.other {w:World} {b g j:Nat} {e:TypeId} {l:List Value} (h:RowIs w b e l) (hne:b ≠ g) (x:Value):RowIs (w.setCell ⟨g,j,none⟩ x) b e l:=by
 unfold RowIs at *;rw [Below.heap_setCell _ _ _ _ hne]; exact h
theorem own_other {w:World} {B b j:Nat} {e:TypeId} {v:Value} {xs:List Value} (h:Own w B e v xs) (hne:v.ownBlock ≠ some b) (x:Value):Own (w.setCell ⟨b,j,none⟩ x) B e v xs:=by
 obtain ⟨h1,h2⟩:=h;refine ⟨h1,?_⟩
 rcases h2 with h2 | ⟨g,cap,cur,hv,hg,hh,r⟩
 ·exact Or.inl h2
 ·subst hv;exact Or.inr ⟨g,cap,cur,rfl,hg,by rw [Below.heap_setCell _ _ _ _ (fun e=>hne (by simp [Value.ownBlock]; exact e))]; exact hh,r⟩
theorem own_cell {w:World} {B g cap n:Nat} {e:TypeId} {xs:List Value} (h:Own w B e (.slice (some ⟨g,0,none⟩) n cap) xs) (i:Nat) (hi:i < xs.length):w.cell? ⟨g,i,none⟩=some xs[i]:=by
 rcases h.2 with ⟨h2,_⟩ | ⟨g',cap',cur,hv,hb,hg,hnc,hcm,hcs,ht⟩
 ·cases h2
 ·simp only [Value.slice.injEq,Option.some.injEq,Addr.mk.injEq,and_true] at hv;obtain ⟨rfl,_,rfl⟩:=hv
  have:cur[i]? = some xs[i]:=by
   rw [← Array.getElem?_toList];have e:(cur.toList.take (xs.length * 1))[i]? = some xs[i]:=by rw [ht]; simp [hi]
   rw [List.getElem?_take] at e
   rwa [if_pos (by omega)] at e
  simp [World.cell?,hg,this]
theorem ownq_set {w:World} {B:Nat} {e:TypeId} {g cap n:Nat} {xs:List Value} (h:Own w B e (.slice (some ⟨g,0,none⟩) n cap) xs) (i:Nat) (x:Value):Own (w.setCell ⟨g,i,none⟩ x) B e (.slice (some ⟨g,0,none⟩) n cap) (xs.set i x):=by
 obtain ⟨h1,h2⟩:=h
 rcases h2 with ⟨h2,_⟩ | ⟨g',cap',cur,hv,hb,hg,hnc,hcm,hcs,ht⟩
 ·cases h2
 ·simp only [Value.slice.injEq,Option.some.injEq,Addr.mk.injEq,and_true] at hv;obtain ⟨rfl,hn,rfl⟩:=hv;refine ⟨by simp,Or.inr ⟨g,cap,cur.setIfInBounds i x,by rw [List.length_set,hn],hb,heap_setCell_same w g i cur e x hg,by simpa using hnc,hcm,by simpa using hcs,?_⟩⟩
  rw [Array.toList_setIfInBounds,List.take_set,List.length_set,ht]
theorem ownq_frozen {w:World} {B:Nat} {e:TypeId} {g cap n:Nat} {xs:List Value} (h:Own w B e (.slice (some ⟨g,0,none⟩) n cap) xs) (i:Nat):w.frozen? ⟨g,i,none⟩=false:=by
 rcases h.2 with ⟨h2,_⟩ | ⟨g',cap',cur,hv,hb,hg,_⟩
 ·cases h2
 ·simp only [Value.slice.injEq,Option.some.injEq,Addr.mk.injEq,and_true] at hv;obtain ⟨rfl,_⟩:=hv
  simp [World.frozen?,hg]
theorem own_block_ne {w:World} {B b:Nat} {e e':TypeId} {v:Value} {xs l:List Value} (h:Own w B e v xs) (hr:RowIs w b e' l) (hne:e ≠ e'):v.ownBlock ≠ some b:=by
 rcases h.2 with ⟨rfl,_⟩ | ⟨g,cap,cur,rfl,_,hg,_⟩
 ·simp [Value.ownBlock]
 ·simp only [Value.ownBlock,ne_eq,Option.some.injEq];rintro rfl;unfold RowIs at hr;rw [hr] at hg
  simp at hg
  exact hne hg.2.symm
theorem row_block_ne {w:World} {b c:Nat} {e e':TypeId} {l l':List Value} (h:RowIs w b e l) (hr:RowIs w c e' l') (hne:e ≠ e'):b ≠ c:=by
 rintro rfl;unfold RowIs at *;rw [hr] at h
 simp at h
 exact hne h.2.symm
def ptrV (x:It):Value:=.pointer (some ⟨x.blk,0,none⟩)
def ptrs (f:Nat → It) (n:Nat):List Value:=(List.range n).map fun i=>ptrV (f i)
theorem ptrs_len (f:Nat → It) (n:Nat):(ptrs f n).length=n:=by simp [ptrs]
theorem ptrs_at (f:Nat → It) (n i:Nat) (h:i < n):(ptrs f n)[i]'(by rw [ptrs_len]; exact h)=ptrV (f i):=by simp [ptrs]
theorem ptrs_succ (f:Nat → It) (n:Nat):ptrs f (n+1)=ptrs f n++[ptrV (f n)]:=by simp [ptrs,List.range_succ]
theorem ptrs_congr {f g:Nat → It} {n:Nat} (h:∀ i,i < n → g i=f i):ptrs g n=ptrs f n:=by
 unfold ptrs; apply List.map_congr_left; intro i hi; rw [h i (List.mem_range.1 hi)]
theorem ptrs_swap (f:Nat → It) (n:Nat) {i j:Nat} (hi:i < n) (hj:j < n):((ptrs f n).set i (ptrV (f j))).set j (ptrV (f i))=ptrs (swapF f i j) n:=by
 apply List.ext_getElem
 ·simp [ptrs]
 ·intro k h1 h2;have hk:k < n:=by rw [ptrs_len] at h2; exact h2
  rw [ptrs_at _ _ _ hk,List.getElem_set];by_cases e1:j=k
  ·subst e1; rw [if_pos rfl,swap_r]
  ·rw [if_neg e1,List.getElem_set];by_cases e2:i=k
   ·subst e2; rw [if_pos rfl,swap_l]
   ·rw [if_neg e2,swap_o f (fun h=>e2 h.symm) (fun h=>e1 h.symm),ptrs_at _ _ _ hk]
def itemL (x:It) (i:Nat):List Value:=[.int .i64 x.tm.1,.int .i64 x.tm.2,.int .i64 i]
structure HQ (bw m B:Nat) (v:Value) (w:World) (f:Nat → It) (n:Nat):Prop where
 wheel:RowIs w bw 106 [v,.map (some m)]
 own:Own w B 162 v (ptrs f n)
 item:∀ i,i < n → RowIs w (f i).blk 170 (itemL (f i) i)
 inj:∀ i j,i < n → j < n → (f i).blk=(f j).blk → i=j
 lo:∀ i,i < n → B≤(f i).blk
def HS (v:Value) (f:Nat → It) (n:Nat) (k:Nat):Prop:=v.ownBlock=some k∨∃ i,i < n∧(f i).blk=k
theorem HQ.drew {bw m B:Nat} {v:Value} {w:World} {f:Nat → It} {n:Nat} (h:HQ bw m B v w f n):HQ bw m B v w.drew f n:=⟨h.wheel,h.own.drew,h.item,h.inj,h.lo⟩
theorem HQ.form {bw m B:Nat} {v:Value} {w:World} {f:Nat → It} {n:Nat} (h:HQ bw m B v w f n):∃ a cap,v=.slice a n cap:=by
 have:=h.own.form
 rw [ptrs_len] at this;exact this
theorem HQ.block {bw m B:Nat} {v:Value} {w:World} {f:Nat → It} {n:Nat} (h:HQ bw m B v w f n) (hn:0 < n):∃ g cap,v=.slice (some ⟨g,0,none⟩) n cap:=by
 rcases h.own.2 with ⟨_,h0⟩ | ⟨g,cap,cur,hv,_⟩
 ·rw [ptrs_len] at h0; omega
 ·rw [ptrs_len] at hv; exact ⟨g,cap,hv⟩
theorem HQ.cell {bw m B g cap:Nat} {w:World} {f:Nat → It} {n:Nat} (h:HQ bw m B (.slice (some ⟨g,0,none⟩) n cap) w f n) (i:Nat) (hi:i < n):w.cell? ⟨g,i,none⟩=some (ptrV (f i)):=by
 have:=own_cell h.own i (by rw [ptrs_len]; exact hi)
 rwa [ptrs_at _ _ _ hi] at this
theorem HQ.swap {bw m B g cap:Nat} {w:World} {f:Nat → It} {n:Nat} (h:HQ bw m B (.slice (some ⟨g,0,none⟩) n cap) w f n) {i j:Nat} (hi:i < n) (hj:j < n) :
  HQ bw m B (.slice (some ⟨g,0,none⟩) n cap) ((((w.setCell ⟨g,i,none⟩ (ptrV (f j))).setCell ⟨g,j,none⟩ (ptrV (f i))).setCell ⟨(f j).blk,2,none⟩ (.int .i64 i)).setCell ⟨(f i).blk,2,none⟩ (.int .i64 j)) (swapF f i j) n:=by
 have hre:=Re.swap f hi hj;have gi:∀ k,k < n → (f k).blk ≠ g:=fun k hk e=>own_block_ne h.own (h.item k hk) (by decide) (by rw [e]; rfl);have wg:bw ≠ g:=fun e=>own_block_ne h.own h.wheel (by decide) (by rw [e]; rfl);have wi:∀ k,k < n → bw ≠ (f k).blk:=fun k hk=>row_block_ne h.wheel (h.item k hk) (by decide);refine ⟨(((h.wheel.other wg _).other wg _).other (wi j hj) _).other (wi i hi) _,?_,?_,hre.inj h.inj,?_⟩
 ·rw [← ptrs_swap f n hi hj];exact own_other (own_other (ownq_set (ownq_set h.own i _) j _) (fun e=>gi j hj (by simpa [Value.ownBlock] using e.symm)) _) (fun e=>gi i hi (by simpa [Value.ownBlock] using e.symm)) _
 ·intro k hk;have base:∀ k,k < n → RowIs ((w.setCell ⟨g,i,none⟩ (ptrV (f j))).setCell ⟨g,j,none⟩ (ptrV (f i))) (f k).blk 170 (itemL (f k) k):=fun k hk=>((h.item k hk).other (gi k hk) _).other (gi k hk) _;generalize (w.setCell ⟨g,i,none⟩ (ptrV (f j))).setCell ⟨g,j,none⟩ (ptrV (f i))=W at base;by_cases e2:k=j
  ·subst e2;rw [swap_r];by_cases e1:i=k
   ·subst e1; exact ((base i hi).set 2 _).set 2 _
   ·exact (((base i hi).other (fun e=>e1 (h.inj i k hi hk e)) _).set 2 _)
  ·by_cases e1:k=i
   ·subst e1;rw [swap_l];exact (((base j hj).set 2 _).other (fun e=>e2 (h.inj k j hk hj e.symm)) _)
   ·rw [swap_o f e1 e2];exact ((base k hk).other (fun e=>e2 (h.inj k j hk hj e)) _).other (fun e=>e1 (h.inj k i hk hi e)) _
 ·intro k hk;obtain ⟨k',hk',he⟩:=(hre.mem (swapF f i j k)).1 ⟨k,hk,rfl⟩;rw [← he]; exact h.lo k' hk'
def No (_:Nat):Prop:=False
set_option maxHeartbeats 4000000 in
set_option maxRecDepth 100000 in
theorem less_any {bw m B:Nat} {v:Value} {w:World} {f:Nat → It} {n:Nat} (h:HQ bw m B v w f n) {i j:Nat} (hi:i < n) (hj:j < n) :
  Calls Tryz.prog 201 #[v,.int .i64 i,.int .i64 j] w fun e w'=>e=.returned (.bool (itLt (f i) (f j)))∧HQ bw m B v w' f n∧Chg No w w':=by
 obtain ⟨g,cap,rfl⟩:=h.block (by omega);have HH:=hid h;have ci:=h.cell i hi;have cj:=h.cell j hj;have ai:=(h.item i hi).cell 0 (by simp [itemL]);have bi:=(h.item i hi).cell 1 (by simp [itemL]);have aj:=(h.item j hj).cell 0 (by simp [itemL]);have bj:=(h.item j hj).cell 1 (by simp [itemL]);simp only [itemL,ptrV,List.getElem_cons_zero,List.getElem_cons_succ] at ci cj ai bi aj bj;have ci1:w.drew.cell? _=_:=ci;have cj1:w.drew.cell? _=_:=cj;have ai1:w.drew.cell? _=_:=ai;have aj1:w.drew.cell? _=_:=aj;have bi1:w.drew.cell? _=_:=bi;have bj1:w.drew.cell? _=_:=bj;have hii:(i:Int) < n:=by omega
 have hjj:(j:Int) < n:=by omega
 have C1:=hid ((Chg.refl No w).drew.drew)
 have hlt:itLt (f i) (f j)=if (f i).tm.1 != (f j).tm.1 then decide ((f i).tm.1 < (f j).tm.1) else decide ((f i).tm.2 < (f j).tm.2):=by
  unfold itLt ahd;by_cases e:(f i).tm.1=(f j).tm.1
  ·simp [e]
  ·simp [e]
 rw [hlt];clear h hlt;generalize (f i).tm.1=x1 at *;generalize (f j).tm.1=y1 at *;generalize (f i).tm.2=x2 at *;generalize (f j).tm.2=y2 at *
 cases e:(x1 != y1) with
 | true =>
  go_enter Tryz.func201,Tryz.ntmps201
  go_wp2
  go_region
  all_goals go_wp2
  all_goals go_region
  all_goals go_wp2
  all_goals go_ret
  all_goals exact ⟨rfl,HH.out.drew.drew,C1.out⟩
 | false =>
  go_enter Tryz.func201,Tryz.ntmps201
  go_wp2
  go_region
  all_goals go_wp2
  all_goals go_region
  all_goals go_wp2
  all_goals go_ret
  all_goals exact ⟨rfl,HH.out.drew.drew,C1.out⟩
set_option maxHeartbeats 4000000 in
set_option maxRecDepth 100000 in
theorem qlen_any {bw m B:Nat} {v:Value} {w:World} {f:Nat → It} {n:Nat} (h:HQ bw m B v w f n) (hn:n≤1000000) :
  Calls Tryz.prog 200 #[v] w fun e w'=>e=.returned (.int .i64 n)∧w'=w:=by
 obtain ⟨a,cap,rfl⟩:=h.form;clear h
 go_enter Tryz.func200,Tryz.ntmps200
 go_wp2;go_ret;exact ⟨rfl,rfl⟩
theorem cell_dr {w:World} {a:Addr} {v:Option Value} (h:w.cell? a=v):w.drew.cell? a=v:=h
set_option maxHeartbeats 4000000 in
set_option maxRecDepth 100000 in
theorem swap_any {bw m B:Nat} {v:Value} {w:World} {f:Nat → It} {n:Nat} (h:HQ bw m B v w f n) {i j:Nat} (hi:i < n) (hj:j < n) :
  Calls Tryz.prog 202 #[v,.int .i64 i,.int .i64 j] w fun e w'=>e=.returned (.tuple #[])∧HQ bw m B v w' (swapF f i j) n∧Chg (HS v f n) w w':=by
 obtain ⟨g,cap,rfl⟩:=h.block (by omega);have H4:=hid ((h.swap hi hj).drew.drew);have ci:=h.cell i hi;have cj:=h.cell j hj;have gi:∀ k,k < n → (f k).blk ≠ g:=fun k hk e=>own_block_ne h.own (h.item k hk) (by decide) (by rw [e]; rfl);have fr:=ownq_frozen h.own;have o1:=ownq_set h.own i (ptrV (f j))
 have e1:(w.setCell ⟨g,i,none⟩ (ptrV (f j))).cell? ⟨g,j,none⟩=some (ptrV (f j)):=by
  have:=own_cell o1 j (by simp [ptrs_len,hj])
  rw [List.getElem_set] at this;rw [this,ptrs_at _ _ _ hj]
  split <;> rfl
 have o2:=ownq_set o1 j (ptrV (f i));have e2:=own_cell o2 i (by simp [ptrs_len,hi]);have hsw:=ptrs_swap f n hi hj;simp only [hsw,ptrs_at _ _ _ hi,swap_l] at e2;have it:∀ k,k < n → RowIs ((w.setCell ⟨g,i,none⟩ (ptrV (f j))).setCell ⟨g,j,none⟩ (ptrV (f i))) (f k).blk 170 (itemL (f k) k):=fun k hk=>((h.item k hk).other (gi k hk) _).other (gi k hk) _;have c2:=(it j hj).cell 2 (by simp [itemL]);have fj:=(h.item j hj).frozen 2;have fi:=(h.item i hi).frozen 2;have e3:=own_cell o2 j (by simp [ptrs_len,hj]);simp only [hsw,ptrs_at _ _ _ hj,swap_r] at e3;have e2d:=cell_dr e2;have e3d:=cell_dr e3
 obtain ⟨u3,c3⟩:∃ u,(((w.setCell ⟨g,i,none⟩ (ptrV (f j))).setCell ⟨g,j,none⟩ (ptrV (f i))).setCell ⟨(f j).blk,2,none⟩ (.int .i64 i)).cell? ⟨(f i).blk,2,none⟩=some u:=by
  by_cases e:i=j
  ·subst e; exact ⟨_,((it i hi).set 2 (.int .i64 i)).cell 2 (by simp [itemL])⟩
  ·exact ⟨_,((it i hi).other (fun e'=>e (h.inj i j hi hj e')) _).cell 2 (by simp [itemL])⟩
 simp only [itemL,List.getElem_cons_zero,List.getElem_cons_succ] at c2;have c2d:=cell_dr c2;have c3d:World.cell? (World.setCell (World.drew ((w.setCell ⟨g,i,none⟩ (ptrV (f j))).setCell ⟨g,j,none⟩ (ptrV (f i)))) ⟨(f j).blk,2,none⟩ (.int .i64 i)) _=_:=c3;have C:=hid (((((Chg.refl (HS (.slice (some ⟨g,0,none⟩) n cap) f n) w).setCell (p:=⟨g,i,none⟩) (fun _=>.inl rfl) (ptrV (f j))).setCell (p:=⟨g,j,none⟩) (fun _=>.inl rfl) (ptrV (f i))).setCell (p:=⟨(f j).blk,2,none⟩) (fun _=>.inr ⟨j,hj,rfl⟩) (.int .i64 i)).setCell (p:=⟨(f i).blk,2,none⟩) (fun _=>.inr ⟨i,hi,rfl⟩) (.int .i64 j)).drew.drew;have hii:(i:Int) < n:=by omega
 have hjj:(j:Int) < n:=by omega
 clear h o1 o2 it hsw gi;unfold ptrV at *
 go_enter Tryz.func202,Tryz.ntmps202
 go_wp2
 go_region
 all_goals go_wp2
 all_goals go_region
 all_goals go_wp2
 all_goals go_end0
 all_goals exact ⟨rfl,H4.out,C.out⟩
def hV (bw:Nat):Value:=.iface 183 (.pointer (some ⟨bw,0,none⟩))
theorem m_less0 (b : Nat) (w : World) : (method 338 183 (.pointer (some ⟨b, 0, none⟩)) "Less").run Tryz.prog w = (do let v ← loadVar 104 ⟨b, 0, none⟩; pure (201, v)).run Tryz.prog w := by kernel_rfl
theorem m_less {b : Nat} {w : World} {a : Option Addr} {n c : Nat} (h : w.cell? ⟨b, 0, none⟩ = some (.slice a n c)) : (method 338 183 (.pointer (some ⟨b, 0, none⟩)) "Less").run Tryz.prog w = .ok (201, .slice a n c) w := by
 rw [m_less0];go_simp
theorem m_swap0 (b : Nat) (w : World) : (method 338 183 (.pointer (some ⟨b, 0, none⟩)) "Swap").run Tryz.prog w = (do let v ← loadVar 104 ⟨b, 0, none⟩; pure (202, v)).run Tryz.prog w := by kernel_rfl
theorem m_swap {b : Nat} {w : World} {a : Option Addr} {n c : Nat} (h : w.cell? ⟨b, 0, none⟩ = some (.slice a n c)) : (method 338 183 (.pointer (some ⟨b, 0, none⟩)) "Swap").run Tryz.prog w = .ok (202, .slice a n c) w := by
 rw [m_swap0];go_simp
theorem m_len0 (b : Nat) (w : World) : (method 338 183 (.pointer (some ⟨b, 0, none⟩)) "Len").run Tryz.prog w = (do let v ← loadVar 104 ⟨b, 0, none⟩; pure (200, v)).run Tryz.prog w := by kernel_rfl
theorem m_len {b : Nat} {w : World} {a : Option Addr} {n c : Nat} (h : w.cell? ⟨b, 0, none⟩ = some (.slice a n c)) : (method 338 183 (.pointer (some ⟨b, 0, none⟩)) "Len").run Tryz.prog w = .ok (200, .slice a n c) w := by
 rw [m_len0];go_simp
theorem m_push (b : Nat) (w : World) : (method 338 183 (.pointer (some ⟨b, 0, none⟩)) "Push").run Tryz.prog w = .ok (204, .pointer (some ⟨b, 0, none⟩)) w := by kernel_rfl
theorem m_pop (b : Nat) (w : World) : (method 338 183 (.pointer (some ⟨b, 0, none⟩)) "Pop").run Tryz.prog w = .ok (203, .pointer (some ⟨b, 0, none⟩)) w := by kernel_rfl
end Go.Proofs.YtbmjodlbkgblpaaGreatDoor
