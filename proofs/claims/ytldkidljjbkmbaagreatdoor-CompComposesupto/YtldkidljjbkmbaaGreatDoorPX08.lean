/-
  CompL, CompM, CompN, CompO, PsT, PsG, XmlPadL, PidfRoundL.
-/
import Derived.Test.YtldkidljjbkmbaaGreatDoorPX06
import Derived.Sort.Walk0
import Derived.Deep.Cut
set_option linter.unusedVariables false
set_option linter.unusedSimpArgs false
set_option maxRecDepth 20000
namespace Go.Proofs.YtldkidljjbkmbaaGreatDoor
open Go.RowKit Sc
theorem give_is {l:List Tu} {num:Nat}:∀ (f k:Nat) (id:List UInt8),giveC l num f k id=id∨∃ j,k≤j∧j < k+f∧giveC l num f k id=candC num j
 | 0,k,id=>.inl rfl
 | f+1,k,id=>by
  unfold giveC;by_cases hn:namedC l id=true
  ·rw [if_pos hn]
   rcases give_is (l:=l) (num:=num) f (k+1) (candC num k) with h | ⟨j,h1,h2,h3⟩
   ·exact .inr ⟨k,by omega,by omega,h⟩
   ·exact .inr ⟨j,by omega,by omega,h3⟩
  ·rw [if_neg hn]; exact .inl rfl
theorem tupC_full {l:List Tu} {num:Int} {t:Tu} (h:16≤l.length):tupC l num t=l:=by unfold tupC; rw [if_pos h]
theorem tupC_take {l:List Tu} {num:Int} {t:Tu} (h:l.length < 16):tupC l num t=l++[⟨giveC l num.toNat 17 1 t.id,t.opn,t.contact,t.prio,t.note⟩]:=by unfold tupC; rw [if_neg (by omega)]
theorem digb_rng (n:Nat):48≤(digb n).toNat∧(digb n).toNat≤57:=by
 have:=digb_toNat n
 omega
theorem digL_rng (n:Nat):∀ b ∈ digL n,48≤b.toNat∧b.toNat≤57:=by
 induction n using Nat.strongRecOn with
 | ind n ih =>
  by_cases h:n < 10
  ·rw [digL_small h];intro b hb;rw [List.mem_singleton] at hb;subst hb;exact digb_rng n
  ·rw [digL_big h];intro b hb
   rcases List.mem_append.1 hb with hb | hb
   ·exact ih (n / 10) (by omega) b hb
   ·rw [List.mem_singleton] at hb;subst hb;exact digb_rng n
theorem cand_ident {num j:Nat} (h:num≤9223372036854775807) (hj:j≤9223372036854775807):identP (candC num j)=true:=by
 have h1:=digL_len19 h;have h2:=digL_len19 hj;unfold identP candC;simp only [Bool.and_eq_true,decide_eq_true_eq,List.length_append,List.length_cons,List.length_nil];refine ⟨?_,by omega,by omega⟩
 rw [List.all_eq_true];intro b hb;simp only [List.mem_append,List.mem_singleton] at hb
 have hd:∀ {n:Nat},b ∈ digL n → idc b=true:=fun {n} h=>by
  have:=digL_rng n b h
  simp only [idc,Bool.and_eq_true,decide_eq_true_eq];omega
 rcases hb with ((rfl | hb) | rfl) | hb
 ·decide
 ·exact hd hb
 ·decide
 ·exact hd hb
theorem give_ident {l:List Tu} {num:Nat} {id:List UInt8} (h:num≤9223372036854775807) (hi:identP id=true):identP (giveC l num 17 1 id)=true:=by
 rcases give_is (l:=l) (num:=num) 17 1 id with e | ⟨j,h1,h2,e⟩
 ·rw [e]; exact hi
 ·rw [e]; exact cand_ident h (by omega)
theorem tup_given {l:List Tu} {num:Nat} {t:Tu} (h:num≤9223372036854775807) (ht:tupP t=true):tupP ⟨giveC l num 17 1 t.id,t.opn,t.contact,t.prio,t.note⟩=true:=by
 unfold tupP prioP at ht ⊢;simp only [Bool.and_eq_true] at ht ⊢;exact ⟨give_ident h ht.1,ht.2⟩
structure InvC (st:List Tu × List Tu):Prop where
 len:st.1.length=min 16 st.2.length
 ids:(st.1.map Tu.id).Nodup
 seen:st.2.Nodup
 like:∀ i (h1:i < st.1.length) (h2:i < st.2.length),st.1[i]=⟨st.1[i].id,st.2[i].opn,st.2[i].contact,st.2[i].prio,st.2[i].note⟩
theorem InvC.nil:InvC ([],[]):=⟨rfl,List.nodup_nil,List.nodup_nil,fun i h=>by simp at h⟩
theorem InvC.step {st:List Tu × List Tu} (h:InvC st) (num:Int) (t:Tu):InvC (stepT num st t):=by
 unfold stepT;by_cases hm:t ∈ st.2
 ·rw [if_pos hm]; exact h
 ·rw [if_neg hm];have hl:=h.len
  have hs:(st.2++[t]).Nodup:=by
   rw [List.nodup_append];refine ⟨h.seen,by simp,fun a ha b hb=>?_⟩
   rw [List.mem_singleton] at hb;subst hb;rintro rfl;exact hm ha
  by_cases hf:16≤st.1.length
  ·rw [tupC_full hf];refine ⟨by simp only [List.length_append,List.length_singleton]; omega,h.ids,hs,fun i h1 h2=>?_⟩
   have h3:i < st.2.length:=by simp only at h1; omega
   have:=h.like i h1 h3
   simp only [List.getElem_append_left h3];exact this
  ·rw [tupC_take (by omega)];have hlen:st.1.length=st.2.length:=by omega
   refine ⟨by simp only [List.length_append,List.length_singleton]; omega,?_,hs,fun i h1 h2=>?_⟩
   ·simp only [List.map_append,List.map_cons,List.map_nil];rw [List.nodup_append];refine ⟨h.ids,by simp,fun a ha b hb=>?_⟩
    rw [List.mem_singleton] at hb;subst hb;rintro rfl
    have:=given_free (l:=st.1) (by omega) num.toNat t.id
    rw [named_mem.2 ha] at this
    cases this
   ·simp only [List.length_append,List.length_singleton] at h1 h2;by_cases hi:i < st.1.length
    ·have h3:i < st.2.length:=by omega
     have:=h.like i hi h3
     simp only [List.getElem_append_left hi,List.getElem_append_left h3];exact this
    ·have hi1:i=st.1.length:=by omega
     subst hi1
     simp [hlen]
theorem foldl_inv {α β:Type} {P:β → Prop} {f:β → α → β} (hf:∀ b a,P b → P (f b a)):∀ (l:List α) (b:β),P b → P (l.foldl f b)
 | [],_,h=>h
 | a :: l,b,h=>foldl_inv hf l (f b a) (hf b a h)
theorem foldl_mem {α β:Type} {P:β → Prop} {f:β → α → β} {l:List α} (hf:∀ b,∀ a ∈ l,P b → P (f b a)):∀ (b:β),P b → P (l.foldl f b):=by
 induction l with
 | nil=>intro b h; exact h
 | cons a l ih =>
  intro b h;exact ih (fun b' a' ha=>hf b' a' (.tail _ ha)) (f b a) (hf b a (.head _) h)
theorem foldC_inv (l:List Pb):InvC (foldC l).1:=by
 unfold foldC;refine foldl_inv (P:=fun st:(List Tu × List Tu) × List (List UInt8)=>InvC st.1) (fun st p h=>?_) l _ InvC.nil
 unfold pubC;exact foldl_inv (fun b a hb=>hb.step p.num a) p.doc.tuples st.1 h
theorem foldC_ok {l:List Pb} (hn:∀ p ∈ l,p.num≤9223372036854775807) (hd:∀ p ∈ l,∀ t ∈ p.doc.tuples,tupP t=true):(foldC l).1.1.all tupP=true:=by
 unfold foldC;refine foldl_mem (P:=fun st:(List Tu × List Tu) × List (List UInt8)=>st.1.1.all tupP=true) (fun st p hp h=>?_) _ rfl
 unfold pubC;refine foldl_mem (P:=fun st:List Tu × List Tu=>st.1.all tupP=true) (fun b t ht hb=>?_) st.1 h
 unfold stepT
 split
 ·exact hb
 ·simp only
  by_cases hf:16≤b.1.length
  ·rw [tupC_full hf]; exact hb
  ·rw [tupC_take (by omega),List.all_append,hb];have h1:=hn p hp
   simp [tup_given (l:=b.1) (num:=p.num.toNat) (t:=t) (by omega) (hd p hp t ht)]
structure InvN (n:List (List UInt8)):Prop where
 len:n.length≤16
 nodup:n.Nodup
theorem InvN.step {n:List (List UInt8)} (h:InvN n) (s:List UInt8):InvN (stepN n s):=by
 unfold stepN
 split
 ·exact h
 ·next hx =>
  have h1:¬ s ∈ n:=fun e=>hx (.inl e);have h2:¬ 16≤n.length:=fun e=>hx (.inr e);refine ⟨by simp only [List.length_append,List.length_singleton]; omega,?_⟩
  rw [List.nodup_append];refine ⟨h.nodup,by simp,fun a ha b hb=>?_⟩
  rw [List.mem_singleton] at hb;subst hb;rintro rfl;exact h1 ha
theorem foldN_inv (l:List Pb):InvN (foldC l).2:=by
 unfold foldC;refine foldl_inv (P:=fun st:(List Tu × List Tu) × List (List UInt8)=>InvN st.2) (fun st p h=>?_) l _ ⟨by simp,by simp⟩
 unfold pubC;exact foldl_inv (fun b a hb=>hb.step a) p.doc.notes st.2 h
theorem foldN_ok {l:List Pb} (hd:∀ p ∈ l,∀ s ∈ p.doc.notes,noteP s=true):(foldC l).2.all noteP=true:=by
 unfold foldC;refine foldl_mem (P:=fun st:(List Tu × List Tu) × List (List UInt8)=>st.2.all noteP=true) (fun st p hp h=>?_) _ rfl
 unfold pubC;refine foldl_mem (P:=fun n:List (List UInt8)=>n.all noteP=true) (fun b s hs hb=>?_) st.2 h
 unfold stepN
 split
 ·exact hb
 ·rw [List.all_append,hb]; simp [hd p hp s hs]
theorem check_parts {d:Dc} (h:checkD d=0):(hostV d.entity).2=0∧d.tuples.length≤16∧d.notes.length≤16∧d.tuples.all tupP=true∧distinctT d.tuples=true∧d.notes.all noteP=true:=by
 unfold checkD at h
 split at h
 ·cases h
 ·next h1 =>
  split at h
  ·next h2 =>
   simp only [Bool.and_eq_true] at h2;exact ⟨Classical.byContradiction fun e=>h1 (.inl e),Classical.byContradiction fun e=>h1 (.inr (.inl (by omega))),Classical.byContradiction fun e=>h1 (.inr (.inr (by omega))),h2.1,h2.2.1,h2.2.2⟩
  ·cases h
theorem check_mk {d:Dc} (h1:(hostV d.entity).2=0) (h2:d.tuples.length≤16) (h3:d.notes.length≤16) (h4:d.tuples.all tupP=true) (h5:distinctT d.tuples=true) (h6:d.notes.all noteP=true):checkD d=0:=by
 unfold checkD;rw [if_neg (by rintro (h | h | h) <;> omega),if_pos (by simp only [Bool.and_eq_true]; exact ⟨h4,h5,h6⟩)]
theorem distinct_ofC:∀ {l:List Tu},(l.map Tu.id).Nodup → distinctT l=true
 | [],_=>rfl
 | t :: l,h=>by
  have h1:=List.nodup_cons.1 h;unfold distinctT;rw [distinct_ofC h1.2,Bool.and_true,List.all_eq_true];intro q hq
  have:q.id ≠ t.id:=fun e=>h1.1 (List.mem_map.2 ⟨q,hq,e⟩)
  simpa using this
theorem chk_all:∀ {l:List Pb} {last:Int},chkC last l=0 → ∀ p ∈ l,checkD p.doc=0
 | [],_,_,p,hp=>by simp at hp
 | q :: l,last,h,p,hp=>by
  unfold chkC at h
  split at h
  ·cases h
  ·split at h
   ·next h1=>exact absurd h h1
   ·next h1 =>
    rcases List.mem_cons.1 hp with rfl | hp
    ·exact Classical.byContradiction h1
    ·exact chk_all h p hp
theorem comp_parts {who:List UInt8} {l:List Pb} {d:Dc} (h:compC who l=(d,0)):checkD ⟨who,[],[]⟩=0∧chkC 0 l=0∧d=⟨who,(foldC l).1.1,(foldC l).2⟩:=by
 unfold compC at h
 split at h
 ·next h1 =>
  have:=congrArg Prod.snd h
  exact absurd this h1
 ·next h1 =>
  split at h
  ·next h2 =>
   have:=congrArg Prod.snd h
   exact absurd this h2
  ·next h2=>exact ⟨Classical.byContradiction h1,Classical.byContradiction h2,(congrArg Prod.fst h).symm⟩
theorem comp_mk {who:List UInt8} {l:List Pb} (h1:checkD ⟨who,[],[]⟩=0) (h2:chkC 0 l=0):compC who l=(⟨who,(foldC l).1.1,(foldC l).2⟩,0):=by
 unfold compC;rw [if_neg (by rw [h1]; simp),if_neg (by rw [h2]; simp)]
theorem comp_none {who:List UInt8} {l:List Pb} (h:(compC who l).2 ≠ 0):(compC who l).1=noD:=by
 unfold compC at h ⊢
 split
 ·rfl
 ·next h1 =>
  rw [if_neg h1] at h
  split
  ·rfl
  ·next h2=>rw [if_neg h2] at h; exact absurd rfl h
theorem right_plain {who:List UInt8} {l:List Pb} {d:Dc} (hn:∀ p ∈ l,p.num≤9223372036854775807) (h:compC who l=(d,0)):checkD d=0∧d.entity=who∧d.tuples.length≤16:=by
 obtain ⟨h1,h2,rfl⟩:=comp_parts h;have hi:=foldC_inv l
 have hd:∀ p ∈ l,(∀ t ∈ p.doc.tuples,tupP t=true)∧∀ s ∈ p.doc.notes,noteP s=true:=fun p hp=>by
  obtain ⟨_,_,_,a,_,b⟩:=check_parts (chk_all h2 p hp);exact ⟨List.all_eq_true.1 a,List.all_eq_true.1 b⟩
 have hlen:(foldC l).1.1.length≤16:=by rw [hi.len]; omega
 exact ⟨check_mk (check_parts h1).1 hlen (foldN_inv l).len (foldC_ok hn fun p hp=>(hd p hp).1) (distinct_ofC hi.ids) (foldN_ok fun p hp=>(hd p hp).2),rfl,hlen⟩
def stepK (num:Int) (st:List Tu × List Tu) (t:Tu):List Tu × List Tu:=if t ∈ st.2∨st.1.length=16 then st else (st.1++[⟨giveC st.1 num.toNat 17 1 t.id,t.opn,t.contact,t.prio,t.note⟩],st.2++[t])
def pubK (st:(List Tu × List Tu) × List (List UInt8)) (p:Pb):(List Tu × List Tu) × List (List UInt8):=(p.doc.tuples.foldl (stepK p.num) st.1,p.doc.notes.foldl stepN st.2)
def foldK (l:List Pb):(List Tu × List Tu) × List (List UInt8):=l.foldl pubK (([],[]),[])
structure RelK (k s:List Tu × List Tu):Prop where
 inv:InvC s
 tup:k.1=s.1
 seen:s.1.length < 16 → k.2=s.2
theorem RelK.step {k s:List Tu × List Tu} (h:RelK k s) (num:Int) (t:Tu):RelK (stepK num k t) (stepT num s t):=by
 have hi:=h.inv.step num t;have hlen:=h.inv.len;by_cases hf:s.1.length < 16
 ·have hk:=h.seen hf;have ht:=h.tup;unfold stepK;by_cases hm:t ∈ s.2
  ·have e:stepT num s t=s:=by unfold stepT; rw [if_pos hm]
   rw [if_pos (.inl (by rw [hk]; exact hm)),e];exact h
  ·have e:stepT num s t=(s.1++[⟨giveC s.1 num.toNat 17 1 t.id,t.opn,t.contact,t.prio,t.note⟩],s.2++[t]):=by unfold stepT; rw [if_neg hm,tupC_take hf]
   rw [if_neg (by rintro (x | x); rw [hk] at x; exact hm x; rw [ht] at x; omega)];refine ⟨hi,?_,fun _=>?_⟩
   ·rw [e,ht]
   ·rw [e,hk]
 ·have h16:s.1.length=16:=by omega
  have e:stepK num k t=k:=by unfold stepK; rw [if_pos (.inr (by rw [h.tup]; exact h16))]
  have e2:(stepT num s t).1=s.1:=by
   unfold stepT
   split
   ·rfl
   ·exact tupC_full (by omega)
  rw [e];exact ⟨hi,by rw [e2]; exact h.tup,fun x=>by rw [e2] at x; omega⟩
theorem RelK.fold (num:Int):∀ (l:List Tu) {k s:List Tu × List Tu},RelK k s → RelK (l.foldl (stepK num) k) (l.foldl (stepT num) s)
 | [],_,_,h=>h
 | t :: l,_,_,h=>RelK.fold num l (h.step num t)
theorem foldK_rel:∀ (l:List Pb) {k s:(List Tu × List Tu) × List (List UInt8)},RelK k.1 s.1 → k.2=s.2 → RelK (l.foldl pubK k).1 (l.foldl pubC s).1∧(l.foldl pubK k).2=(l.foldl pubC s).2
 | [],_,_,h,e=>⟨h,e⟩
 | p :: l,k,s,h,e=>foldK_rel l (k:=pubK k p) (s:=pubC s p) (h.fold p.num p.doc.tuples) (by unfold pubK pubC; rw [e])
theorem foldK_is (l:List Pb):(foldK l).1.1=(foldC l).1.1∧(foldK l).2=(foldC l).2:=by
 obtain ⟨h1,h2⟩:=foldK_rel l (k:=(([],[]),[])) (s:=(([],[]),[])) ⟨InvC.nil,rfl,fun _=>rfl⟩ rfl;exact ⟨h1.tup,h2⟩
def tusCells (ts:List Tu):List Value:=ts.flatMap tuCells
theorem tusCells_get (ts:List Tu) (k:Nat) (hk:k < ts.length) (j:Nat) (u:Value) (h:(tuCells ts[k])[j]? = some u):(tusCells ts)[k * 5+j]? = some u:=by
 induction ts generalizing k with
 | nil=>simp at hk
 | cons t ts ih =>
  have e:tusCells (t :: ts)=tuCells t++tusCells ts:=rfl;have el:(tuCells t).length=5:=rfl
  cases k with
  | zero =>
   have hj:j < 5:=by have:=(List.getElem?_eq_some_iff.1 h).1; simpa [tuCells] using this
   rw [e,List.getElem?_append_left (by rw [el]; omega),Nat.zero_mul,Nat.zero_add];exact h
  | succ k =>
   have:=ih k (by simpa using hk) (by simpa using h)
   rw [e,List.getElem?_append_right (by rw [el]; omega),el,show (k+1) * 5+j - 5=k * 5+j by omega];exact this
def OwnU (w:World) (B:Nat) (v:Value) (ts:List Tu):Prop:=w.ownsRow B 48 5 v ts.length (tusCells ts)
theorem OwnU.below {w w':World} {B:Nat} {v:Value} {ts:List Tu} (h:OwnU w B v ts) (hb:Below w.heap.size w w'):OwnU w' B v ts:=by
 obtain ⟨h1,h2⟩:=h;refine ⟨h1,?_⟩
 rcases h2 with h2 | ⟨g,cap,cur,hv,hg,hh,r⟩
 ·exact Or.inl h2
 ·exact Or.inr ⟨g,cap,cur,hv,hg,by rw [hb.block g (Array.getElem?_eq_some_iff.1 hh).1]; exact hh,r⟩
theorem OwnU.alloc {w:World} {B:Nat} {v:Value} {ts:List Tu} (h:OwnU w B v ts) (o:Obj):OwnU (w.alloc o) B v ts:=World.ownsRow.alloc h o
theorem OwnU.form {w:World} {B:Nat} {v:Value} {ts:List Tu} (h:OwnU w B v ts):∃ a cap,v=.slice a ts.length cap:=by
 rcases h.2 with ⟨rfl,hn⟩ | ⟨g,cap,cur,rfl,_⟩
 ·exact ⟨none,0,by rw [hn]⟩
 ·exact ⟨_,cap,rfl⟩
theorem OwnU.tusAt {w:World} {B:Nat} {v:Value} {ts:List Tu} (h:OwnU w B v ts):TusAt w v ts:=by
 have h0:=h
 rcases h.2 with ⟨rfl,hn⟩ | ⟨g,cap,cur,rfl,hb,hg,r⟩
 ·exact ⟨none,0,by rw [hn],fun k hk=>by omega⟩
 ·refine ⟨some ⟨g,0,none⟩,cap,rfl,fun k hk=>⟨_,rfl,(Array.getElem?_eq_some_iff.1 hg).1,?_⟩⟩
  have e:∀ j,(⟨g,0,none⟩:Addr).add j=⟨g,j,none⟩:=fun j=>by unfold Addr.add; split <;> simp_all
  have c:∀ j u,(tuCells ts[k])[j]? = some u → w.cell? ⟨g,k * 5+j,none⟩=some u:=fun j u hj=>by
   have:=World.ownsRow.cells h0 (g:=g) rfl (k * 5+j) _ (tusCells_get ts k hk j u hj)
   rw [e] at this; exact this
  refine ⟨?_,?_,?_,?_,?_⟩
  ·rw [e]; exact c 0 _ rfl
  ·rw [e]; exact c 1 _ rfl
  ·rw [e]; exact c 2 _ rfl
  ·rw [e]; exact c 3 _ rfl
  ·rw [e]; exact c 4 _ rfl
theorem infoTup:(Tryz.prog.info? 48).map (fun i=>(i.zero,i.size,i.bytes))=some (some (.agg #[.string .empty,.bool false,.string .empty,.int .i64 0,.string .empty]),5,64):=by kernel_rfl
end Go.Proofs.YtldkidljjbkmbaaGreatDoor
namespace Go.Proofs.YtldkidljjbkmbaaGreatDoor
open Go.RowKit Go.Maps Go.WideMaps Sc
theorem rows_neP {w:World} {B1 B2 e1 e2 s1 s2 n1 n2:Nat} {v1 v2:Value} {x1 x2:List Value} (h1:w.ownsRow B1 e1 s1 v1 n1 x1) (h2:w.ownsRow B2 e2 s2 v2 n2 x2) (hne:e2 ≠ e1):v2.ownBlock=none∨v2.ownBlock ≠ v1.ownBlock:=by
 rcases h2.2 with ⟨rfl,_⟩ | ⟨g2,c2,u2,rfl,_,hg2,_⟩
 ·exact Or.inl rfl
 ·right
  rcases h1.2 with ⟨rfl,_⟩ | ⟨g1,c1,u1,rfl,_,hg1,_⟩
  ·simp [Value.ownBlock]
  ·simp only [Value.ownBlock];intro e
   injection e with e
   rw [e,hg1] at hg2
   injection hg2 with hg2
   injection hg2 with _ hg2
   exact hne hg2.symm
theorem step_appTu {P:Program} {ops:Array Oper} {o:Oper} {a:Act} {w:World} {K:Act → World → Prop} {Q:Exit → Act → World → Prop} {E:Prop} (hgd:o.guard=none)
  (s x:Operand) (t:TypeId) (ho:o.op=Op.call { callee:=Callee.builtin Builtin.append,args:=#[s,x],argTypes:=#[t,t] }) (B:Nat) (i:TypeInfo)
  (z:Value) (ht:P.underlying t=some (TypeDesc.slice 48)) (hi:P.info? 48=some i) (hz:i.zero=some z) (hsize:i.size=5) (hby:i.bytes=64) (hzs:z.cells.size=5)
  (v:Value) (ts:List Tu) (hs:a.eval s=v) (hown:OwnU w B v ts) (ad:Addr) (k:Nat) (c:Tu) (hx:a.eval x=Value.slice (some ad) 1 k)
  (hnews:∀ (j:Nat) (u:Value),(tuCells c)[j]? = some u → w.cell? (ad.add j)=some u)
  (hlen:ts.length≤2000000) (hB:B≤w.heap.size)
  (h:∀ (v':Value) (w':World),OwnU w' B v' (ts++[c]) → w.grownBy w' v.ownBlock → K (a.put o.dst v') w'):if Region.wanted o (yielded ops a.tmps)=true then Oper.wp P o a w K Q else E:=by
 have hw:Region.wanted o (yielded ops a.tmps)=true:=by simp [Region.wanted,hgd]
 rw [if_pos hw];obtain ⟨v',w',hrun,r1,hgr,_,hat⟩:=run_append_own_at (P:=P) w B t o.type 48 i z 5 64 ht hi hz hsize hby hzs (by decide) v ts.length (tusCells ts) hown ad 1 k (tuCells c) rfl hnews
  (by intro u hu; simp [tuCells] at hu; rcases hu with rfl | rfl | rfl | rfl | rfl <;> rfl) (by unfold maxLen; omega) (by omega) hB
 unfold Oper.wp
 simp [execOp,ho,resolve,invoke,builtin,hs,hx,hrun,Result.andThen]
 refine h v' w' ?_ hgr
 have e:tusCells (ts++[c])=tusCells ts++tuCells c:=by simp [tusCells]
 unfold OwnU;rw [e,List.length_append];exact r1
theorem step_appS {P:Program} {ops:Array Oper} {o:Oper} {a:Act} {w:World} {K:Act → World → Prop} {Q:Exit → Act → World → Prop} {E:Prop} (hgd:o.guard=none)
  (s x:Operand) (t:TypeId) (ho:o.op=Op.call { callee:=Callee.builtin Builtin.append,args:=#[s,x],argTypes:=#[t,t] }) (B:Nat) (e:TypeId) (i:TypeInfo)
  (z:Value) (bytes:Nat) (ht:P.underlying t=some (TypeDesc.slice e)) (hi:P.info? e=some i) (hz:i.zero=some z) (hsize:i.size=1) (hby:i.bytes=bytes) (hzs:z.cells.size=1)
  (v:Value) (xs:List Value) (hs:a.eval s=v) (hown:Own w B e v xs) (ad:Addr) (m:Nat) (c:Nat) (news:List Value) (hx:a.eval x=Value.slice (some ad) m c) (hl:news.length=m)
  (hnews:∀ (j:Nat) (u:Value),news[j]? = some u → w.cell? (ad.add j)=some u) (h1:∀ u ∈ news,u.oneCell'=true)
  (h63:xs.length+m≤maxLen) (hbytes:(xs.length+m) * bytes≤140737488355328) (hB:B≤w.heap.size)
  (h:∀ (v':Value) (w':World),Own w' B e v' (xs++news) → w.grownBy w' v.ownBlock → K (a.put o.dst v') w') :
  if Region.wanted o (yielded ops a.tmps)=true then Oper.wp P o a w K Q else E:=by
 have hw:Region.wanted o (yielded ops a.tmps)=true:=by simp [Region.wanted,hgd]
 rw [if_pos hw];obtain ⟨v',w',hrun,r1,hgr,_⟩:=run_append_own (P:=P) w B t o.type e i z 1 bytes ht hi hz hsize hby hzs (by decide) v xs.length xs hown ad m c news (by simpa using hl) hnews h1 h63 hbytes hB;unfold Oper.wp
 simp [execOp,ho,resolve,invoke,builtin,hs,hx,hrun,Result.andThen]
 refine h v' w' ?_ hgr
 unfold Own;rw [List.length_append,hl];exact r1
theorem tu_newP (W:World) (x:Tu) (g:Nat) (hg:g=W.heap.size):∀ (j:Nat) (u:Value),(tuCells x)[j]? = some u → (W.alloc (.cells #[.string ⟨x.id.toArray⟩,.bool x.opn,.string ⟨x.contact.toArray⟩,.int .i64 x.prio,.string ⟨x.note.toArray⟩] 48)).cell? ((⟨g,0,none⟩:Addr).add j)=some u:=by
 intro j u hj;subst hg;have e:(⟨W.heap.size,0,none⟩:Addr).add j=⟨W.heap.size,j,none⟩:=by unfold Addr.add; split <;> simp_all
 rw [e];unfold World.cell?;rw [heap_alloc_new]
 simpa [tuCells] using hj
theorem own_ge {w:World} {B e s n:Nat} {v:Value} {xs:List Value} (h:w.ownsRow B e s v n xs):∀ g,v.ownBlock=some g → B≤g:=fun g e=>(World.ownsRow.lt h g e).1
theorem own_lower {w:World} {B C e s n:Nat} {v:Value} {xs:List Value} (h:w.ownsRow B e s v n xs) (hc:C≤B):w.ownsRow C e s v n xs:=by
 obtain ⟨h1,h2⟩:=h;refine ⟨h1,?_⟩
 rcases h2 with h2 | ⟨g,cap,cur,hv,hg,r⟩
 ·exact Or.inl h2
 ·exact Or.inr ⟨g,cap,cur,hv,Nat.le_trans hc hg,r⟩
theorem own_formP {w:World} {B:Nat} {e:TypeId} {v:Value} {xs:List Value} (h:Own w B e v xs):∃ a cap,v=.slice a xs.length cap:=by
 rcases h.2 with ⟨rfl,hn⟩ | ⟨g,cap,cur,rfl,_⟩
 ·exact ⟨none,0,by rw [hn]⟩
 ·exact ⟨_,cap,rfl⟩
theorem rp_row7 (w:World) (v0 v1 v2 v3 v4 v5 v6:Value) (t:TypeId):RowIs (w.alloc (.cells #[v0,v1,v2,v3,v4,v5,v6] t)) w.heap.size t [v0,v1,v2,v3,v4,v5,v6]:=by
 unfold RowIs; rw [heap_alloc_new]
structure RowP7 (w:World) (b:Nat) (v0 v1 v2 v3 v4 v5 v6:Value):Prop where
 c0:w.cell? ⟨b,0,none⟩=some v0
 c1:w.cell? ⟨b,1,none⟩=some v1
 c2:w.cell? ⟨b,2,none⟩=some v2
 c3:w.cell? ⟨b,3,none⟩=some v3
 c4:w.cell? ⟨b,4,none⟩=some v4
 c5:w.cell? ⟨b,5,none⟩=some v5
 c6:w.cell? ⟨b,6,none⟩=some v6
 f0:w.frozen? ⟨b,0,none⟩=false
 f1:w.frozen? ⟨b,1,none⟩=false
 f2:w.frozen? ⟨b,2,none⟩=false
 f3:w.frozen? ⟨b,3,none⟩=false
 f4:w.frozen? ⟨b,4,none⟩=false
 f5:w.frozen? ⟨b,5,none⟩=false
 f6:w.frozen? ⟨b,6,none⟩=false
theorem RowIs.rp7 {w:World} {b:Nat} {e:TypeId} {v0 v1 v2 v3 v4 v5 v6:Value} (h:RowIs w b e [v0,v1,v2,v3,v4,v5,v6]):RowP7 w b v0 v1 v2 v3 v4 v5 v6:=⟨h.cell 0 (by simp),h.cell 1 (by simp),h.cell 2 (by simp),h.cell 3 (by simp),h.cell 4 (by simp),h.cell 5 (by simp),h.cell 6 (by simp),h.frozen 0,h.frozen 1,h.frozen 2,h.frozen 3,h.frozen 4,h.frozen 5,h.frozen 6⟩
def DocsAt (w:World) (cs:List PbC):Prop:=∀ c ∈ cs,TusAt w c.ts c.p.doc.tuples∧StrsAt w c.ns c.p.doc.notes
theorem DocsAt.below {w w':World} {cs:List PbC} (h:DocsAt w cs) (hb:Below w.heap.size w w'):DocsAt w' cs:=fun c hc=>⟨(h c hc).1.below hb,(h c hc).2.below hb⟩
end Go.Proofs.YtldkidljjbkmbaaGreatDoor
namespace Go.Proofs.YtldkidljjbkmbaaGreatDoor
open Go.RowKit Sc
def blanksX (l:List UInt8):Prop:=∀ b ∈ l,xblk b=true
theorem drop_blanks {l:List UInt8} (h:blanksX l):l.dropWhile xblk=[]:=by
 induction l with
 | nil=>rfl
 | cons x l ih=>rw [List.dropWhile_cons,h x (by simp),if_pos rfl]; exact ih (fun b hb=>h b (by simp [hb]))
theorem host_is {s:List UInt8} (h:(hostV s).2=0):∃ u,checkV u=0∧u.user ≠ []∧s=whoT u:=by
 unfold hostV at h
 split at h
 ·next h1=>exact absurd h h1
 ·split at h
  ·next h2 =>
   generalize (parseV ([115,105,112,58]++s)).1=u at h2;unfold whoV at h2
   split at h2
   ·next h3=>simp only [Prod.mk.injEq] at h2; exact absurd h2.2 h3
   ·next h3 =>
    split at h2
    ·simp at h2
    ·next h4 =>
     simp only [Prod.mk.injEq,and_true] at h2;exact ⟨u,Classical.not_not.1 h3,h4,h2.symm⟩
  ·simp at h
theorem checkD_ok {d:Dc} (h:checkD d=0):(hostV d.entity).2=0∧d.tuples.length≤16∧d.notes.length≤16∧(∀ t ∈ d.tuples,tupP t=true)∧distinctT d.tuples=true∧∀ s ∈ d.notes,noteP s=true:=by
 unfold checkD at h
 split at h
 ·simp at h
 ·next h1 =>
  split at h
  ·next h2 =>
   simp only [Bool.and_eq_true,List.all_eq_true] at h2;simp only [not_or,Nat.not_lt] at h1;exact ⟨Classical.not_not.1 h1.1,h1.2.1,h1.2.2,h2.1,h2.2.1,h2.2.2⟩
  ·simp at h
theorem textP_facts {s:List UInt8} (h:textP s=true):s.length≤128∧signsX s=true∧xtrim s=s:=by
 simp only [textP,Bool.and_eq_true,decide_eq_true_eq,beq_iff_eq] at h;exact h
theorem tupP_facts {t:Tu} (h:tupP t=true):identP t.id=true∧textP t.contact=true∧textP t.note=true∧-1≤t.prio∧t.prio≤1000∧(t.contact=[] → t.prio=-1):=by
 simp only [tupP,prioP,Bool.and_eq_true,decide_eq_true_eq,Bool.or_eq_true,Bool.not_eq_true',beq_iff_eq] at h;obtain ⟨h1,h2,h3,h4,h5,h6⟩:=h;refine ⟨h1,h2,h3,h4,h5,fun e=>?_⟩
 rcases h6 with h6 | h6
 ·rw [e] at h6; simp at h6
 ·exact h6
theorem attrs_none:attrsOk []=true:=rfl
end Go.Proofs.YtldkidljjbkmbaaGreatDoor
