/-
  Own, ParseL, UBackL, XmlL, XmlBackL, XmlDocL, OpenNode, ParOwn, PidfL, RowN, PidfBackL, PidfRoundL, RX2, RX3, NdOwn, NdFr, XBytes, XElL, XInn, XSmall, PR2, PR3, RX10, XLawL, PNd.
-/
import Derived.Test.YtldkidljjbkmbaaGreatDoorPX10
import Derived.Test.YtldkidljjbkmbaaGreatDoorPX07
import Derived.Deep.AppendLies
import Derived.Lib.FrozenHead2
import Derived.WalkMore
import Derived.Lib.OthersKept
import Derived.Deep.CutRange
import Derived.Defers
import Derived.Recover
import Derived.Laws.Pointers
set_option linter.unusedVariables false
set_option linter.unusedSimpArgs false
set_option maxRecDepth 20000
namespace Go.Proofs.YtldkidljjbkmbaaGreatDoor
open Go.RowKit
theorem Own.nil (w:World) (B:Nat) (e:TypeId):Own w B e (.slice none 0 0) []:=World.ownsRow_nil _ _ _ _
theorem Own.form {w:World} {B:Nat} {e:TypeId} {v:Value} {xs:List Value} (h:Own w B e v xs):∃ a cap,v=.slice a xs.length cap:=by
 rcases h.2 with ⟨rfl,hn⟩ | ⟨g,cap,cur,rfl,_⟩
 ·exact ⟨none,0,by rw [hn]⟩
 ·exact ⟨_,cap,rfl⟩
end Go.Proofs.YtldkidljjbkmbaaGreatDoor
namespace Go.Proofs.YtldkidljjbkmbaaGreatDoor
open Go.RowKit Sc
theorem esc_free (kp:Nat → Bool):∀ (l:List UInt8),∀ b ∈ esc kp l,b=37∨isB b.toNat 16=true∨kp b.toNat=true
 | [],b,h=>by simp [esc] at h
 | x :: r,b,h=>by
  have ih:=esc_free kp r b;rw [esc] at h;by_cases hf:free kp x=true
  ·rw [if_pos hf] at h
   rcases List.mem_append.1 h with h | h
   ·have:b=x:=by simpa using h
    subst this
    right; simpa [free] using hf
   ·exact ih h
  ·rw [if_neg hf] at h;have hx:∀ n:Fin 16,isB ((hexd n.val).toNat:Int) 16=true:=by decide +kernel
   rcases List.mem_append.1 h with h | h
   ·simp only [List.mem_cons,List.not_mem_nil,or_false] at h
    have:=x.toNat_lt
    rcases h with rfl | rfl | rfl
    ·exact .inl rfl
    ·exact .inr (.inl (hx ⟨x.toNat / 16,by omega⟩))
    ·exact .inr (.inl (hx ⟨x.toNat % 16,Nat.mod_lt _ (by decide)⟩))
   ·exact ih h
theorem inK_mem (keep:List UInt8) (b:UInt8):inK keep b.toNat=hasL b keep:=by
 unfold inK hasL
 induction keep with
 | nil=>rfl
 | cons x l ih =>
  simp only [List.any_cons,List.contains_cons,ih]
  congr 1
  rw [Bool.eq_iff_iff];simp only [beq_iff_eq]
  constructor
  ·intro h; exact (UInt8.toNat_inj.1 h).symm
  ·intro h; rw [h]
theorem escL_ok (keep l:List UInt8):∀ b ∈ escL keep l,okw keep b=true:=by
 intro b hb
 rcases esc_free _ l b hb with h | h | h
 ·simp [okw,h]
 ·simp [okw,h]
 ·unfold kpF at h;by_cases e:b.toNat=37
  ·rw [if_pos e] at h; simp at h
  ·rw [if_neg e,inK_mem] at h
   simp [okw,h]
def passB:Bool → List UInt8 → Bool
 | _,[]=>true
 | ins,x :: l=>!(!ins && x==58) && passB (insN ins x) l
theorem splitL_mem {c b:UInt8} {l:List UInt8} (h:b ∈ l):b=c∨∃ p ∈ splitL c l,b ∈ p:=by
 induction l with
 | nil=>simp at h
 | cons x l ih =>
  obtain ⟨p,ps,hp⟩:=splitL_cons c l;rw [splitL];by_cases hx:x=c
  ·rw [if_pos hx]
   rcases List.mem_cons.1 h with h | h
   ·exact .inl (h.trans hx)
   ·rcases ih h with h | ⟨q,hq,hb⟩
    ·exact .inl h
    ·exact .inr ⟨q,by simp [hq],hb⟩
  ·rw [if_neg hx];rw [hp] at ih ⊢;simp only [List.headD_cons,List.tail_cons]
   rcases List.mem_cons.1 h with h | h
   ·exact .inr ⟨x :: p,by simp,by simp [h]⟩
   ·rcases ih h with h | ⟨q,hq,hb⟩
    ·exact .inl h
    ·rcases List.mem_cons.1 hq with h | h
     ·exact .inr ⟨x :: p,by simp,by simp [← h,hb]⟩
     ·exact .inr ⟨q,by simp [h],hb⟩
theorem pass_plain (ins:Bool) (l:List UInt8) (h:∀ b ∈ l,b ≠ 58∧b ≠ 91∧b ≠ 93):passB ins l=true∧l.foldl insN ins=ins:=by
 induction l generalizing ins with
 | nil=>exact ⟨rfl,rfl⟩
 | cons x l ih =>
  obtain ⟨h1,h2,h3⟩:=h x (by simp);have e:insN ins x=ins:=by unfold insN; rw [if_neg h3,if_neg h2]
  have:=ih ins (fun b hb=>h b (by simp [hb]))
  refine ⟨?_,?_⟩
  ·rw [passB,e,this.1]; simp [h1]
  ·rw [List.foldl_cons,e,this.2]
theorem pass_in (l:List UInt8) (h:∀ b ∈ l,b ≠ 91∧b ≠ 93):passB true l=true∧l.foldl insN true=true:=by
 induction l with
 | nil=>exact ⟨rfl,rfl⟩
 | cons x l ih =>
  obtain ⟨h2,h3⟩:=h x (by simp);have e:insN true x=true:=by unfold insN; rw [if_neg h3,if_neg h2]
  have:=ih (fun b hb=>h b (by simp [hb]))
  refine ⟨?_,?_⟩
  ·rw [passB,e,this.1]; simp
  ·rw [List.foldl_cons,e,this.2]
theorem passB_append (ins:Bool) (a b:List UInt8):passB ins (a++b)=(passB ins a && passB (a.foldl insN ins) b):=by
 induction a generalizing ins with
 | nil=>simp [passB]
 | cons x a ih=>rw [List.cons_append,passB,passB,ih,List.foldl_cons,Bool.and_assoc]
theorem ends_of {l:List UInt8} (h:2≤l.length):l=l.getD 0 0 :: (mid l 1 (l.length - 1)++[l.getD (l.length - 1) 0]):=by
 cases l with
 | nil=>simp at h
 | cons x l =>
  have hne:l ≠ []:=by intro e; subst e; simp at h
  have e1:mid (x :: l) 1 ((x :: l).length - 1)=l.dropLast:=by
   unfold mid; rw [List.dropLast_eq_take]; simp
  rw [e1]
  have e2:(x :: l).getD ((x :: l).length - 1) 0=l.getLast hne:=by
   rw [List.getLast_eq_getElem,List.getD_eq_getElem?_getD];have hl:0 < l.length:=List.length_pos_iff.2 hne
   have:(x :: l).length - 1=(l.length - 1)+1:=by simp; omega
   rw [this,List.getElem?_cons_succ,List.getElem?_eq_getElem (by omega)]; rfl
  rw [e2,List.dropLast_concat_getLast hne]; rfl
theorem host_facts {l:List UInt8} (h:hostB l=true):(∀ b ∈ l,hob b=true)∧passB false l=true∧l.foldl insN false=false∧lowL l=l:=by
 have hok:=hostB_ok h;simp only [hostB,Bool.and_eq_true,decide_eq_true_eq,beq_iff_eq] at h;obtain ⟨h1,h2,h3,h4⟩:=h;by_cases hb:l.getD 0 0=91
 ·rw [if_pos hb] at h4;simp only [brkB,Bool.and_eq_true,decide_eq_true_eq,beq_iff_eq] at h4;obtain ⟨h5,h6,h7,h8⟩:=h4;have e:=ends_of (l:=l) (by omega);rw [hb,h6] at e;generalize mid l 1 (l.length - 1)=m at e h7;have hm:∀ b ∈ m,okc b=true:=by rwa [List.all_eq_true] at h7
  have hno:∀ b:UInt8,okc b=true → b ≠ 91∧b ≠ 93:=by
   apply byte_all; decide +kernel
  have hp:=pass_in m (fun b hbm=>hno b (hm b hbm));refine ⟨?_,?_,?_,h3⟩
  ·rw [e];intro b hbm;simp only [List.mem_cons,List.mem_append,List.not_mem_nil,or_false] at hbm
   rcases hbm with rfl | hbm | rfl
   ·rfl
   ·simp [hob,hm b hbm]
   ·rfl
  ·rw [e,passB,passB_append]
   show (_ && (passB true m && passB (m.foldl insN true) [93]))=true
   rw [hp.1,hp.2]; rfl
  ·rw [e,List.foldl_cons,List.foldl_append]
   show ([93]:List UInt8).foldl insN (m.foldl insN true)=false
   rw [hp.2]; rfl
 ·rw [if_neg hb] at h4;rw [List.all_eq_true] at h4
  have hall:∀ b ∈ l,b=46∨isB b.toNat 64=true:=by
   intro b hbm
   rcases splitL_mem (c:=46) hbm with h | ⟨p,hp,hbp⟩
   ·exact .inl h
   ·right
    have:=h4 p hp
    simp only [labB,Bool.and_eq_true,allB,List.all_eq_true] at this;exact this.2.1 b hbp
  have hno:∀ b:UInt8,(b=46∨isB b.toNat 64=true) → b ≠ 58∧b ≠ 91∧b ≠ 93:=by
   apply byte_all; decide +kernel
  have hp:=pass_plain false l (fun b hbm=>hno b (hall b hbm));refine ⟨?_,hp.1,hp.2,h3⟩
  intro b hbm
  rcases hall b hbm with rfl | h
  ·rfl
  ·simp [hob,h]
def escS (b:UInt8):List UInt8:=if b=38 then [38,97,109,112,59] else if b=60 then [38,108,116,59] else if b=62 then [38,103,116,59] else if b=34 then [38,113,117,111,116,59] else [b]
def escX (l:List UInt8):List UInt8:=l.flatMap escS
theorem escX_app (a b:List UInt8):escX (a++b)=escX a++escX b:=by simp [escX]
theorem escX_nil {l:List UInt8}:escX l=[] ↔ l=[]:=by
 constructor
 ·intro h
  cases l with
  | nil=>rfl
  | cons b l =>
   have hb:∀ b:UInt8,escS b ≠ []:=by apply byte_all; decide +kernel
   have e:escX (b :: l)=escS b++escX l:=by simp [escX]
   rw [e] at h; simp at h; exact absurd h.1 (hb b)
 ·rintro rfl; rfl
inductive XT where
 | mk (name:List UInt8) (attrs:List Par) (text:List UInt8) (kids:List XT)
def attrT (p:Par):List UInt8:=[32]++p.name++[61,34]++escX p.value++[34]
def attrsT (l:List Par):List UInt8:=l.flatMap attrT
mutual
def printX:XT → List UInt8
 | .mk n a t k=>[60]++n++attrsT a++(if escX t++printXs k=[] then [47,62] else [62]++(escX t++printXs k)++([60,47]++n++[62]))
def printXs:List XT → List UInt8
 | []=>[]
 | k :: ks=>printX k++printXs ks
end
mutual
def flatX:Nat → XT → List Nd
 | d,.mk n a t k=>⟨d,n,a,t⟩ :: flatXs (d+1) k
def flatXs:Nat → List XT → List Nd
 | _,[]=>[]
 | d,k :: ks=>flatX d k++flatXs d ks
end
mutual
def szX:XT → Nat
 | .mk _ _ _ k=>szXs k+2
def szXs:List XT → Nat
 | []=>1
 | k :: ks=>szX k+szXs ks+1
end
theorem steps_tail {x:Nd} {r:List Nd} (h:stepsX (x :: r)=true):nodeOk x=true∧stepsX r=true∧(∀ y,r.head? = some y → nextOk x y=true):=by
 cases r with
 | nil=>rw [stepsX] at h; exact ⟨h,rfl,by simp⟩
 | cons y r =>
  rw [stepsX] at h;simp only [Bool.and_eq_true] at h;exact ⟨h.1,h.2.2,fun z hz=>by simp at hz; subst hz; exact h.2.1⟩
theorem steps_drop:∀ (a b:List Nd),stepsX (a++b)=true → stepsX b=true
 | [],b,h=>h
 | x :: a,b,h=>steps_drop a b (steps_tail h).2.1
theorem checkX_ok {l:List Nd} (h:checkX l=0):1≤l.length∧l.length≤200∧(l.head?.map (·.deep))=some 0∧stepsX l=true:=by
 unfold checkX at h
 split at h
 ·simp at h
 ·rename_i hc
  simp only [not_or,Nat.not_lt,ne_eq,Decidable.not_not,Bool.not_eq_false] at hc;exact ⟨by omega,hc.2.1,hc.2.2.1,hc.2.2.2⟩
def prologK:List UInt8:=[60,63,120,109,108,32,118,101,114,115,105,111,110,61,34,49,46,48,34,32,101,110,99,111,100,105,110,103,61,34,85,84,70,45,56,34,63,62,10]
end Go.Proofs.YtldkidljjbkmbaaGreatDoor
namespace Go.Proofs.YtldkidljjbkmbaaGreatDoor
open Go.RowKit Go.ChangeShapes Go.WideShapes Go.Deep
def ndV (x:Nd) (a:Value):Value:=.agg #[.int .i64 x.deep,.string ⟨x.name.toArray⟩,a,.string ⟨x.text.toArray⟩]
theorem NdsAt.below {w w':World} {v:Value} {cs:List NdC} (h:NdsAt w v cs) (hb:Below w.heap.size w w'):NdsAt w' v cs:=by
 obtain ⟨ao,cap,hv,hc⟩:=h;refine ⟨ao,cap,hv,fun k hk=>?_⟩
 obtain ⟨ad,e,hlt,hcell,hp⟩:=hc k hk;exact ⟨ad,e,Nat.lt_of_lt_of_le hlt hb.size,hcell.below hb hlt,hp.below hb⟩
end Go.Proofs.YtldkidljjbkmbaaGreatDoor
namespace Go.Proofs.YtldkidljjbkmbaaGreatDoor
open Go.RowKit Sc
theorem parsCells_len (ps:List Par):(parsCells ps).length=ps.length * 3:=by
 induction ps with
 | nil=>rfl
 | cons p ps ih=>simp [parsCells,parCells] at ih ⊢; omega
def stripZ (l:List UInt8):List UInt8:=(l.reverse.dropWhile (·==48)).reverse
def decL (n:Int):List UInt8:=if n < 0∨1000 < n then [] else if n=0 then [48] else if n=1000 then [49] else [48,46]++stripZ (d3 n.toNat)
def presenceK:List UInt8:=[112,114,101,115,101,110,99,101]
def xmlnsK:List UInt8:=[120,109,108,110,115]
def spaceK:List UInt8:=[117,114,110,58,105,101,116,102,58,112,97,114,97,109,115,58,120,109,108,58,110,115,58,112,105,100,102]
def entityK:List UInt8:=[101,110,116,105,116,121]
def presK:List UInt8:=[112,114,101,115]
def tupleK:List UInt8:=[116,117,112,108,101]
def pidK:List UInt8:=[105,100]
def pstatK:List UInt8:=[115,116,97,116,117,115]
def basicK:List UInt8:=[98,97,115,105,99]
def openK:List UInt8:=[111,112,101,110]
def closedK:List UInt8:=[99,108,111,115,101,100]
def pcontK:List UInt8:=[99,111,110,116,97,99,116]
def priorityK:List UInt8:=[112,114,105,111,114,105,116,121]
def atr (n v:List UInt8):Par:=⟨n,v,true⟩
def statT (o:Bool):XT:=.mk pstatK [] [] [.mk basicK [] (if o then openK else closedK) []]
def contT (t:Tu):List XT:=if t.contact=[] then [] else [.mk pcontK (if t.prio=-1 then [] else [atr priorityK (decL t.prio)]) t.contact []]
def noteT (s:List UInt8):XT:=.mk noteK [] s []
def tnoteT (t:Tu):List XT:=if t.note=[] then [] else [noteT t.note]
def tupT (t:Tu):XT:=.mk tupleK [atr pidK t.id] [] (statT t.opn :: (contT t++tnoteT t))
def treeD (d:Dc):XT:=.mk presenceK [atr xmlnsK spaceK,atr entityK (presK++[58]++d.entity)] [] (d.tuples.map tupT++d.notes.map noteT)
theorem dec_signs_all:∀ n:Fin 1001,signsX (decL (n.val:Int))=true∧(decL (n.val:Int)).length≤5:=by decide +kernel
theorem dec_signs {n:Int} (h0:0≤n) (h1:n≤1000):signsX (decL n)=true∧(decL n).length≤5:=by
 obtain ⟨k,rfl⟩:=Int.eq_ofNat_of_zero_le h0;exact dec_signs_all ⟨k,by omega⟩
end Go.Proofs.YtldkidljjbkmbaaGreatDoor
namespace Go.Proofs.YtldkidljjbkmbaaGreatDoor
open Go.RowKit
theorem rc_store3 {w:World} {b:Nat} {e:TypeId} {u0 u1 u2:Value} (h:RowIs w b e [u0,u1,u2]) (v0 v1 v2:Value):RowIs (((w.setCell ⟨b,0,none⟩ v0).setCell ⟨b,1,none⟩ v1).setCell ⟨b,2,none⟩ v2) b e [v0,v1,v2]:=by
 have:=(((h.set 0 v0).set 1 v1).set 2 v2)
 simpa using this
theorem rc_below3 {B:Nat} {a w:World} (h:Below B a w) (b:Nat) (hb:B≤b) (v0 v1 v2:Value):Below B a (((w.setCell ⟨b,0,none⟩ v0).setCell ⟨b,1,none⟩ v1).setCell ⟨b,2,none⟩ v2):=(((h.setCell hb _).setCell hb _).setCell hb _)
theorem rc_store4 {w:World} {b:Nat} {e:TypeId} {u0 u1 u2 u3:Value} (h:RowIs w b e [u0,u1,u2,u3]) (v0 v1 v2 v3:Value):RowIs ((((w.setCell ⟨b,0,none⟩ v0).setCell ⟨b,1,none⟩ v1).setCell ⟨b,2,none⟩ v2).setCell ⟨b,3,none⟩ v3) b e [v0,v1,v2,v3]:=by
 have:=((((h.set 0 v0).set 1 v1).set 2 v2).set 3 v3)
 simpa using this
theorem rc_below4 {B:Nat} {a w:World} (h:Below B a w) (b:Nat) (hb:B≤b) (v0 v1 v2 v3:Value):Below B a ((((w.setCell ⟨b,0,none⟩ v0).setCell ⟨b,1,none⟩ v1).setCell ⟨b,2,none⟩ v2).setCell ⟨b,3,none⟩ v3):=((((h.setCell hb _).setCell hb _).setCell hb _).setCell hb _)
end Go.Proofs.YtldkidljjbkmbaaGreatDoor
namespace Go.Proofs.YtldkidljjbkmbaaGreatDoor
open Go.RowKit Sc
mutual
def goodX:Nat → XT → Prop
 | d,.mk n a t k=>nodeOk ⟨d,n,a,t⟩=true∧(k=[]∨t=[])∧goodXs (d+1) k
def goodXs:Nat → List XT → Prop
 | _,[]=>True
 | d,k :: ks=>goodX d k∧goodXs d ks
end
theorem goodXs_app (d:Nat):∀ a b:List XT,goodXs d (a++b) ↔ goodXs d a∧goodXs d b
 | [],b=>by simp [goodXs]
 | k :: a,b=>by rw [List.cons_append,goodXs,goodXs,goodXs_app d a b,and_assoc]
theorem goodXs_all (d:Nat):∀ a:List XT,goodXs d a ↔ ∀ k ∈ a,goodX d k
 | []=>by simp [goodXs]
 | k :: a=>by rw [goodXs,goodXs_all d a]; simp
theorem steps_cons {x:Nd} {r:List Nd} (h:nodeOk x=true) (hr:stepsX r=true) (hn:∀ y,r.head? = some y → nextOk x y=true):stepsX (x :: r)=true:=by
 cases r with
 | nil=>simpa [stepsX] using h
 | cons y r=>simp [stepsX,h,hr,hn y rfl]
mutual
theorem steps_good:∀ (t:XT) (d:Nat) (post:List Nd),goodX d t → stepsX post=true → (∀ y,post.head? = some y → 1≤y.deep∧y.deep≤(d:Int)) → stepsX (flatX d t++post)=true
 | .mk n a tx ks,d,post,hg,hp,hh=>by
  rw [goodX] at hg;obtain ⟨h1,h2,h3⟩:=hg;obtain ⟨k1,k2⟩:=steps_goods ks (d+1) post (by omega) h3 hp (fun y hy=>⟨(hh y hy).1,by have:=(hh y hy).2; omega⟩);rw [flatX,List.cons_append];refine steps_cons h1 k1 fun y hy=>?_
  have h4:=k2 y hy;simp only [nextOk,Bool.and_eq_true,decide_eq_true_eq,Bool.or_eq_true,Bool.not_eq_true',decide_eq_false_iff_not];refine ⟨⟨h4.1,by have:=h4.2; omega⟩,?_⟩
  rcases h2 with rfl | rfl
  ·left
   rw [flatXs,List.nil_append] at hy
   have:=(hh y hy).2
   omega
  ·right; rfl
theorem steps_goods:∀ (ks:List XT) (d:Nat) (post:List Nd),1≤d → goodXs d ks → stepsX post=true → (∀ y,post.head? = some y → 1≤y.deep∧y.deep≤(d:Int)) → stepsX (flatXs d ks++post)=true∧∀ y,(flatXs d ks++post).head? = some y → 1≤y.deep∧y.deep≤(d:Int)
 | [],d,post,hd,_,hp,hh=>by rw [flatXs,List.nil_append]; exact ⟨hp,hh⟩
 | k :: ks,d,post,hd,hg,hp,hh=>by
  rw [goodXs] at hg;obtain ⟨k1,k2⟩:=steps_goods ks d post hd hg.2 hp hh;rw [flatXs,List.append_assoc];refine ⟨steps_good k d _ hg.1 k1 k2,fun y hy=>?_⟩
  obtain ⟨n,a,t,q⟩:=k;rw [flatX,List.cons_append,List.head?_cons] at hy
  injection hy with hy
  subst hy;exact ⟨by simp only; omega,by simp⟩
end
theorem check_good {t:XT} (h:goodX 0 t) (hl:(flatX 0 t).length≤200):checkX (flatX 0 t)=0:=by
 have hs:=steps_good t 0 [] h rfl (fun y hy=>by simp at hy);rw [List.append_nil] at hs;obtain ⟨n,a,tx,k⟩:=t;unfold checkX;rw [if_neg];rw [hs];rw [flatX] at hl ⊢
 simp at hl ⊢
 omega
theorem sign_users (b:UInt8) (h:okw usersK b=true):signX b=true:=byte_all (P:=fun b=>okw usersK b=true → signX b=true) (by decide +kernel) b h
theorem sign_host (b:UInt8) (h:hob b=true):signX b=true:=byte_all (P:=fun b=>hob b=true → signX b=true) (by decide +kernel) b h
theorem sign_id (b:UInt8) (h:idc b=true):signX b=true:=byte_all (P:=fun b=>idc b=true → signX b=true) (by decide +kernel) b h
theorem who_signs {u:Uri} (h:checkV u=0):signsX (presK++[58]++whoT u)=true:=by
 obtain ⟨c1,c2,c3,_⟩:=check_ok h;unfold signsX;rw [List.all_eq_true];intro b hb;unfold whoT at hb;simp only [List.mem_append,List.mem_singleton] at hb
 rcases hb with (hb | hb) | ((hb | hb) | hb)
 ·revert b; decide +kernel
 ·subst hb; decide +kernel
 ·exact sign_users b (escL_ok _ _ b hb)
 ·subst hb; decide +kernel
 ·exact sign_host b ((host_facts c3).1 b hb)
theorem ident_signs {s:List UInt8} (h:identP s=true):signsX s=true:=by
 simp only [identP,Bool.and_eq_true,List.all_eq_true] at h;unfold signsX;rw [List.all_eq_true];exact fun b hb=>sign_id b (h.1 b hb)
theorem node_of {d:Nat} {n tx:List UInt8} {a:List Par} (hd:d < 8) (hn:nameX n=true) (ha:attrsOk a=true) (hs:signsX tx=true) (ht:xtrim tx=tx):nodeOk ⟨d,n,a,tx⟩=true:=by
 have hd':(d:Int) < 8:=by omega
 simp [nodeOk,hd',hn,ha,hs,ht]
theorem attrs_one {n v:List UInt8} (hn:nameX n=true) (hv:signsX v=true):attrsOk [atr n v]=true:=by
 simp [attrsOk,distinctX,atr,hn,hv]
theorem trim_nil:xtrim []=[]:=rfl
theorem good_note {d:Nat} {s:List UInt8} (hd:d < 8) (h:textP s=true):goodX d (noteT s):=by
 obtain ⟨h1,h2,h3⟩:=textP_facts h;rw [noteT,goodX];exact ⟨node_of hd (by decide +kernel) attrs_none h2 h3,.inl rfl,trivial⟩
theorem good_stat (o:Bool):goodX 2 (statT o):=by
 rw [statT,goodX];refine ⟨node_of (by decide) (by decide +kernel) attrs_none rfl trim_nil,.inr rfl,?_,trivial⟩
 rw [goodX];refine ⟨node_of (by decide) (by decide +kernel) attrs_none ?_ ?_,.inl rfl,trivial⟩
 ·cases o <;> decide +kernel
 ·cases o <;> decide +kernel
theorem good_tup {t:Tu} (h:tupP t=true):goodX 1 (tupT t):=by
 obtain ⟨h1,h2,h3,h4,h5,h6⟩:=tupP_facts h;obtain ⟨c1,c2,c3⟩:=textP_facts h2;rw [tupT,goodX];refine ⟨node_of (by decide) (by decide +kernel) (attrs_one (by decide +kernel) (ident_signs h1)) rfl trim_nil,.inr rfl,good_stat _,?_⟩
 rw [goodXs_app]
 constructor
 ·unfold contT
  split
  ·trivial
  ·refine ⟨?_,trivial⟩
   rw [goodX];refine ⟨node_of (by decide) (by decide +kernel) ?_ c2 c3,.inl rfl,trivial⟩
   split
   ·rfl
   ·exact attrs_one (by decide +kernel) (dec_signs (by omega) h5).1
 ·unfold tnoteT
  split
  ·trivial
  ·exact ⟨good_note (by decide) h3,trivial⟩
theorem good_tree {d:Dc} (h:checkD d=0):goodX 0 (treeD d):=by
 obtain ⟨h1,h2,h3,h4,h5,h6⟩:=checkD_ok h;obtain ⟨u,k1,k2,k3⟩:=host_is h1;rw [treeD,goodX];refine ⟨node_of (by decide) (by decide +kernel) ?_ rfl trim_nil,.inr rfl,?_⟩
 ·have e1:nameX xmlnsK=true:=by decide +kernel
  have e2:nameX entityK=true:=by decide +kernel
  have e3:signsX spaceK=true:=by decide +kernel
  have e4:=who_signs k1;rw [← k3] at e4;have e5:(entityK==xmlnsK)=false:=by decide
  unfold attrsOk;simp only [List.all_cons,List.all_nil,atr,e1,e2,e3,e4,distinctX,e5,List.length_cons,List.length_nil]
  rfl
 ·rw [goodXs_app,goodXs_all,goodXs_all]
  constructor
  ·intro k hk;obtain ⟨t,ht,rfl⟩:=List.mem_map.1 hk;exact good_tup (h4 t ht)
  ·intro k hk;obtain ⟨s,hs,rfl⟩:=List.mem_map.1 hk
   have:=h6 s hs
   simp only [noteP,Bool.and_eq_true] at this;exact good_note (by decide) this.2
theorem flatXs_le (d m:Nat):∀ ks:List XT,(∀ k ∈ ks,(flatX d k).length≤m) → (flatXs d ks).length≤ks.length * m
 | [],_=>by simp [flatXs]
 | k :: ks,h=>by
  have h1:=h k (by simp);have h2:=flatXs_le d m ks fun q hq=>h q (by simp [hq]);rw [flatXs,List.length_append,List.length_cons,Nat.succ_mul]; omega
theorem tup_count (t:Tu):(flatX 1 (tupT t)).length≤5:=by
 have e:flatX 1 (tupT t)=⟨1,tupleK,[atr pidK t.id],[]⟩ :: (flatX 2 (statT t.opn)++flatXs 2 (contT t++tnoteT t)):=by rw [tupT,flatX,flatXs]; rfl
 have h1:(flatX 2 (statT t.opn)).length=2:=by rw [statT]; simp [flatX,flatXs]
 have h2:(flatXs 2 (contT t++tnoteT t)).length≤2:=by
  unfold contT tnoteT noteT;by_cases hc:t.contact=[] <;> by_cases hn:t.note=[] <;> simp [hc,hn,flatX,flatXs]
 rw [e,List.length_cons,List.length_append]; omega
theorem tree_count {d:Dc} (h:checkD d=0):(flatX 0 (treeD d)).length≤97:=by
 obtain ⟨h1,h2,h3,_⟩:=checkD_ok h;have k1:=flatXs_le 1 5 (d.tuples.map tupT) fun k hk=>by obtain ⟨t,_,rfl⟩:=List.mem_map.1 hk; exact tup_count t
 have k2:=flatXs_le 1 1 (d.notes.map noteT) fun k hk=>by obtain ⟨s,_,rfl⟩:=List.mem_map.1 hk; simp [noteT,flatX,flatXs]
 have e:∀ a b:List XT,flatXs 1 (a++b)=flatXs 1 a++flatXs 1 b:=by
  intro a b
  induction a with
  | nil=>simp [flatXs]
  | cons k a ih=>rw [List.cons_append,flatXs,flatXs,ih,List.append_assoc]
 rw [treeD,flatX,e];simp only [List.length_cons,List.length_append,List.length_map] at k1 k2 ⊢;omega
theorem tree_check {d:Dc} (h:checkD d=0):checkX (flatX 0 (treeD d))=0:=check_good (good_tree h) (by have:=tree_count h; omega)
theorem rev_last (u:ByteArray) (h:u.size - 1 < u.size):u.data.toList.reverse=u[u.size - 1] :: (u.extract 0 (u.size - 1)).data.toList.reverse:=by
 have e:=take_snoc u (u.size - 1) h;rw [take_all u _ (by omega)] at e;rw [ext_list]
 conv=>lhs; rw [e]
 simp
def lenV:Value → Nat
 | .string t=>t.size
 | _=>0
theorem escS_len:∀ b:UInt8,(escS b).length≤6:=by apply byte_all; decide +kernel
theorem escX_len (l:List UInt8):(escX l).length≤6 * l.length:=by
 induction l with
 | nil=>simp [escX]
 | cons b r ih =>
  have:=escS_len b
  have e:escX (b :: r)=escS b++escX r:=by simp [escX]
  rw [e,List.length_append,List.length_cons]; omega
theorem ndsCells_len (cs:List NdC):(ndsCells cs).length=cs.length * 4:=by
 induction cs with
 | nil=>rfl
 | cons c cs ih =>
  have e:ndsCells (c :: cs)=ndCells c++ndsCells cs:=rfl;rw [e,List.length_append,ih,ndCells_len,List.length_cons]; omega
theorem ownP_mono {w:World} {B C:Nat} {v:Value} {ps:List Par} (h:OwnP w B v ps) (hc:C≤B):OwnP w C v ps:=by
 obtain ⟨h1,h2⟩:=h;refine ⟨h1,?_⟩
 rcases h2 with h2 | ⟨g,cap,cur,hv,hg,r⟩
 ·exact Or.inl h2
 ·exact Or.inr ⟨g,cap,cur,hv,Nat.le_trans hc hg,r⟩
def OwnN (w:World) (B:Nat) (v:Value) (cs:List NdC):Prop:=w.ownsRow B 82 4 v cs.length (ndsCells cs)∧∀ c ∈ cs,OwnP w B c.a c.nd.attrs
theorem OwnN.below {w w':World} {B:Nat} {v:Value} {cs:List NdC} (h:OwnN w B v cs) (hb:Below w.heap.size w w'):OwnN w' B v cs:=by
 obtain ⟨⟨h1,h2⟩,h3⟩:=h;refine ⟨⟨h1,?_⟩,fun c hc=>(h3 c hc).below hb⟩
 rcases h2 with h2 | ⟨g,cap,cur,hv,hg,hh,r⟩
 ·exact Or.inl h2
 ·exact Or.inr ⟨g,cap,cur,hv,hg,by rw [hb.block g (Array.getElem?_eq_some_iff.1 hh).1]; exact hh,r⟩
theorem OwnN.alloc {w:World} {B:Nat} {v:Value} {cs:List NdC} (h:OwnN w B v cs) (o:Obj):OwnN (w.alloc o) B v cs:=h.below ((Below.refl _ w).alloc (Nat.le_refl _) o)
theorem OwnN.form {w:World} {B:Nat} {v:Value} {cs:List NdC} (h:OwnN w B v cs):∃ a cap,v=.slice a cs.length cap:=by
 rcases h.1.2 with ⟨rfl,hn⟩ | ⟨g,cap,cur,rfl,_⟩
 ·exact ⟨none,0,by rw [hn]⟩
 ·exact ⟨_,cap,rfl⟩
theorem OwnN.ndsAt {w:World} {B:Nat} {v:Value} {cs:List NdC} (h:OwnN w B v cs):NdsAt w v cs:=by
 have h0:=h.1
 rcases h.1.2 with ⟨rfl,hn⟩ | ⟨g,cap,cur,rfl,hb,hg,r⟩
 ·exact ⟨none,0,by rw [hn],fun k hk=>by omega⟩
 ·refine ⟨some ⟨g,0,none⟩,cap,rfl,fun k hk=>⟨_,rfl,(Array.getElem?_eq_some_iff.1 hg).1,?_,(h.2 _ (List.getElem_mem hk)).parsAt⟩⟩
  have e:∀ j,(⟨g,0,none⟩:Addr).add j=⟨g,j,none⟩:=fun j=>by unfold Addr.add; split <;> simp_all
  have c:∀ j u,(ndCells cs[k])[j]? = some u → w.cell? ⟨g,k * 4+j,none⟩=some u:=fun j u hj=>by
   have:=World.ownsRow.cells h0 (g:=g) rfl (k * 4+j) _ (ndsCells_get cs k hk j u hj)
   rw [e] at this; exact this
  refine ⟨?_,?_,?_,?_⟩
  ·rw [e]; exact c 0 _ rfl
  ·rw [e]; exact c 1 _ rfl
  ·rw [e]; exact c 2 _ rfl
  ·rw [e]; exact c 3 _ rfl
theorem rows_neN {w:World} {B1 B2 e1 e2 s1 s2 n1 n2:Nat} {v1 v2:Value} {x1 x2:List Value} (h1:w.ownsRow B1 e1 s1 v1 n1 x1) (h2:w.ownsRow B2 e2 s2 v2 n2 x2) (hne:e2 ≠ e1):v2.ownBlock=none∨v2.ownBlock ≠ v1.ownBlock:=by
 rcases h2.2 with ⟨rfl,_⟩ | ⟨g2,c2,u2,rfl,_,hg2,_⟩
 ·exact Or.inl rfl
 ·right
  rcases h1.2 with ⟨rfl,_⟩ | ⟨g1,c1,u1,rfl,_,hg1,_⟩
  ·simp [Value.ownBlock]
  ·simp only [Value.ownBlock];intro e
   injection e with e
   rw [e,hg1] at hg2
   injection hg2 with hg2
   injection hg2 with _ hg2
   exact hne hg2.symm
theorem infoNodeB:(Tryz.prog.info? 82).map (fun i=>(i.zero,i.size,i.bytes))=some (some (.agg #[.int .i64 0,.string .empty,.slice none 0 0,.string .empty]),4,64):=by kernel_rfl
structure FrN (v:Value) (w:World) (v':Value) (w':World):Prop where
 os:w'.os=w.os
 tape:w'.tape=w.tape
 output:w'.output=w.output
 size:w.heap.size≤w'.heap.size
 block:∀ b,b < w.heap.size → v.ownBlock ≠ some b → w'.heap[b]? = w.heap[b]?
 own:∀ g,v'.ownBlock=some g → v.ownBlock=some g∨w.heap.size≤g
theorem FrN.to {v v':Value} {w w':World} (h:FrN v w v' w') {B:Nat} (hB:B≤w.heap.size) (hv:∀ g,v.ownBlock=some g → B≤g):Below B w w' :=
 ⟨h.os,h.tape,h.output,h.size,fun b hb=>h.block b (Nat.lt_of_lt_of_le hb hB) (fun e=>by have:=hv b e; omega)⟩
theorem FrN.row {v v':Value} {w w':World} (h:FrN v w v' w') {b:Nat} {e:TypeId} {l:List Value} (hr:RowIs w b e l) (hb:b < w.heap.size) (hn:v.ownBlock ≠ some b):RowIs w' b e l:=by
 unfold RowIs at hr ⊢;rw [h.block b hb hn]; exact hr
theorem grown_fr {v v':Value} {w w':World} (h:w.grownBy w' v.ownBlock) (ho:v'.ownBlock=v.ownBlock∨v'.ownBlock=some w.heap.size):FrN v w v' w' :=
 ⟨h.os,h.tape,h.output,h.size,fun b hb hn=>h.block b hb (fun e=>hn e.symm),fun g hg=>by
  rcases ho with ho | ho
  ·exact .inl (by rw [← ho]; exact hg)
  ·rw [ho] at hg; injection hg with hg; exact .inr (by omega)⟩
theorem wp_appN2 {P:Program} (w:World) {ops:Array Oper} {rest:List Oper} {o:Oper} {a:Act} {Q:Exit → Act → World → Prop} (hgd:o.guard=none)
  (s x:Operand) (t:TypeId) (ho:o.op=Op.call { callee:=Callee.builtin Builtin.append,args:=#[s,x],argTypes:=#[t,t] }) (B:Nat) (i:TypeInfo)
  (z:Value) (ht:P.underlying t=some (TypeDesc.slice 82)) (hi:P.info? 82=some i) (hz:i.zero=some z) (hsize:i.size=4) (hby:i.bytes=64) (hzs:z.cells.size=4)
  (v:Value) (cs:List NdC) (hs:a.eval s=v) (hown:OwnN w B v cs) (ad:Addr) (k:Nat) (c:NdC) (hc:OwnP w B c.a c.nd.attrs) (hx:a.eval x=Value.slice (some ad) 1 k)
  (hnews:∀ (j:Nat) (u:Value),(ndCells c)[j]? = some u → w.cell? (ad.add j)=some u)
  (hlen:cs.length≤2000000) (hB:B≤w.heap.size)
  (h:∀ (v':Value) (w':World),OwnN w' B v' (cs++[c]) → FrN v w v' w' → wpList P ops Q rest (a.put o.dst v') w'):wpList P ops Q (o :: rest) a w:=by
 have one:∀ (ps:List Par) (B:Nat) (v:Value),OwnP w B v ps → v.oneCell'=true:=fun ps B v h=>by
  rcases h.2 with ⟨rfl,_⟩ | ⟨g,cap,cur,rfl,_⟩ <;> rfl
 refine wpList_append_own_at w hgd s x t ho B 82 i z 4 64 ht hi hz hsize hby hzs (by decide) v cs.length (ndsCells cs) hs hown.1 ad 1 k (ndCells c) hx rfl hnews
  (by intro u hu; simp [ndCells] at hu; rcases hu with rfl | rfl | rfl | rfl <;> first | rfl | exact one _ _ _ hc) (by unfold maxLen; omega) (by omega) hB ?_
 intro v' w' hown' hgr _ hat;have keep:∀ (ps:List Par) (u:Value),OwnP w B u ps → OwnP w' B u ps:=fun ps u hu=>World.ownsRow.kept hu hgr (rows_neN hown.1 hu (by decide));refine h v' w' ⟨?_,?_⟩ (grown_fr hgr hat)
 ·have e:ndsCells (cs++[c])=ndsCells cs++ndCells c:=by simp [ndsCells]
  rw [e,List.length_append];exact hown'
 ·intro c' hc'
  rcases List.mem_append.1 hc' with hc' | hc'
  ·exact keep _ _ (hown.2 c' hc')
  ·simp at hc'; subst hc'
   exact keep _ _ hc
end Go.Proofs.YtldkidljjbkmbaaGreatDoor
namespace Go.Proofs.YtldkidljjbkmbaaGreatDoor
open Go.RowKit Go.Lib
theorem strC_list (r:List UInt8):Lib.strCells ⟨r.toArray⟩=Lib.byteCells r:=by simp [Lib.strCells,Lib.byteCells]
end Go.Proofs.YtldkidljjbkmbaaGreatDoor
namespace Go.Proofs.YtldkidljjbkmbaaGreatDoor
open Go.RowKit Sc
theorem xnd_new (W:World) (c:NdC) (g:Nat) (hg:g=W.heap.size):∀ (j:Nat) (u:Value),(ndCells c)[j]? = some u → (W.alloc (.cells #[.int .i64 c.nd.deep,.string ⟨c.nd.name.toArray⟩,c.a,.string ⟨c.nd.text.toArray⟩] 82)).cell? ((⟨g,0,none⟩:Addr).add j)=some u:=by
 intro j u hj;subst hg;have e:(⟨W.heap.size,0,none⟩:Addr).add j=⟨W.heap.size,j,none⟩:=by unfold Addr.add; split <;> simp_all
 rw [e];unfold World.cell?;rw [heap_alloc_new]
 simpa [ndCells] using hj
theorem xcat (a b:List UInt8):(⟨a.toArray⟩:ByteArray)++⟨b.toArray⟩=⟨(a++b).toArray⟩:=by
 apply ByteArray.ext
 simp [ByteArray.data_append]
def SmNd (K:Nat) (x:Nd):Prop:=x.name.length≤K∧x.text.length≤K∧x.attrs.length≤K∧(∀ p ∈ x.attrs,p.name.length≤K∧p.value.length≤K)∧0≤x.deep∧x.deep≤K
theorem SmNd.small {K:Nat} {x:Nd} (h:SmNd K x) (hK:K≤100000):SmallN 140737488355328 x:=by
 obtain ⟨h1,h2,h3,h4,h5,h6⟩:=h;refine ⟨by omega,by omega,⟨by omega,fun p hp=>?_⟩,?_⟩
 ·have:=h4 p hp; omega
 ·simp [Lit.wf,IntKind.min,IntKind.max,IntKind.signed,IntKind.bits]
  omega
theorem glueLL (a b:List UInt8):(⟨a.toArray⟩:ByteArray)++⟨b.toArray⟩=⟨(a++b).toArray⟩:=by
 rw [ByteArray.mk_append_mk]; first | done | simp
theorem rev_lastB (u:ByteArray) (h:u.size - 1 < u.size):u.data.toList.reverse=u[u.size - 1] :: (u.extract 0 (u.size - 1)).data.toList.reverse:=rev_last u h
theorem stripB_step (u:ByteArray) (h:u.size - 1 < u.size) (hx:u[u.size - 1]=48):stripZ (u.extract 0 (u.size - 1)).data.toList=stripZ u.data.toList:=by
 unfold stripZ;rw [rev_lastB u h,List.dropWhile_cons,hx]; rfl
theorem stripB_stop (u:ByteArray) (h:u.size - 1 < u.size) (hx:u[u.size - 1] ≠ 48):stripZ u.data.toList=u.data.toList:=by
 unfold stripZ;rw [rev_lastB u h,List.dropWhile_cons,if_neg (by simpa using hx),← rev_lastB u h,List.reverse_reverse]
theorem drop_nd {cs:List NdC} {k:Nat} {x:Nd} {r:List Nd} (h:(ndsL cs).drop k=x :: r):∃ h:k < cs.length,cs[k].nd=x∧(ndsL cs).drop (k+1)=r:=by
 have hk:k < (ndsL cs).length:=by
  apply Classical.byContradiction
  intro hk;rw [List.drop_eq_nil_of_le (by omega)] at h; cases h
 have e:=List.drop_eq_getElem_cons hk;rw [h] at e;simp only [List.cons.injEq] at e;refine ⟨by rw [ndsL_len] at hk; exact hk,?_,e.2.symm⟩
 rw [e.1]; simp [ndsL]
theorem drop_more {cs:List NdC} {k:Nat} {a r:List Nd} (h:(ndsL cs).drop k=a++r):(ndsL cs).drop (k+a.length)=r:=by
 rw [← List.drop_drop,h,List.drop_left]
theorem attrsT_snoc {ps:List Par} {k:Nat} (h:k < ps.length):attrsT (ps.take (k+1))=attrsT (ps.take k)++attrT ps[k]:=by
 rw [List.take_succ_eq_append_getElem h];unfold attrsT;rw [List.flatMap_append,List.flatMap_singleton]
theorem printXs_app (a b:List XT):printXs (a++b)=printXs a++printXs b:=by
 induction a with
 | nil=>rfl
 | cons x a ih=>rw [List.cons_append,printXs,printXs,ih,List.append_assoc]
theorem flatXs_app (d:Nat) (a b:List XT):flatXs d (a++b)=flatXs d a++flatXs d b:=by
 induction a with
 | nil=>rfl
 | cons x a ih=>rw [List.cons_append,flatXs,flatXs,ih,List.append_assoc]
theorem flat_head (d:Nat) (t:XT):∃ x r,flatX d t=x :: r∧x.deep=d:=by
 obtain ⟨n,a,tx,k⟩:=t;exact ⟨_,_,by rw [flatX],rfl⟩
theorem post_head {d:Nat} {ks:List XT} {post:List Nd} (h:∀ x,post.head? = some x → x.deep≤(d:Int)):∀ x,(flatXs (d+1) ks++post).head? = some x → x.deep≤((d+1:Nat):Int):=by
 intro x hx
 cases ks with
 | nil=>rw [flatXs,List.nil_append] at hx; have:=h x hx; omega
 | cons k ks =>
  obtain ⟨y,r,e,hy⟩:=flat_head (d+1) k;rw [flatXs,e] at hx
  simp at hx
  subst hx; omega
theorem sz_in {n:List UInt8} {a:List Par} {t:List UInt8} {ks done rest:List XT} {k:XT} {N:Nat} (h:szX (.mk n a t ks)≤N+1) (e:ks=done++k :: rest):szX k≤N:=by
 have key:∀ l:List XT,szX k≤szXs (l++k :: rest):=fun l=>by
  induction l with
  | nil=>rw [List.nil_append,szXs]; omega
  | cons x l ih=>rw [List.cons_append,szXs]; omega
 have:=key done
 rw [szX,e] at h;omega
theorem attrT_len (p:Par):(attrT p).length=4+p.name.length+(escX p.value).length:=by unfold attrT; simp; omega
theorem attrsT_len {ps:List Par} {j:Nat} (h:j < ps.length):(attrsT (ps.take j)).length+(attrT ps[j]).length≤(attrsT ps).length:=by
 have e:=List.take_append_drop (j+1) ps
 have h1:attrsT ps=attrsT (ps.take (j+1))++attrsT (ps.drop (j+1)):=by
  conv=>lhs; rw [← e]
  unfold attrsT; rw [List.flatMap_append]
 rw [h1,attrsT_snoc h,List.length_append,List.length_append]; omega
theorem print_nil {nm:List UInt8} {ps:List Par} {tx:List UInt8} {ks:List XT} (h:escX tx++printXs ks=[]):printX (.mk nm ps tx ks)=[60]++nm++attrsT ps++[47,62]:=by
 rw [printX,if_pos h]
theorem print_in {nm:List UInt8} {ps:List Par} {tx:List UInt8} {ks:List XT} (h:escX tx++printXs ks ≠ []):printX (.mk nm ps tx ks)=[60]++nm++attrsT ps++([62]++(escX tx++printXs ks)++([60,47]++nm++[62])):=by
 rw [printX,if_neg h]
theorem print_len (nm:List UInt8) (ps:List Par) (tx:List UInt8) (ks:List XT):3+nm.length+(attrsT ps).length+(escX tx).length+(printXs ks).length≤(printX (.mk nm ps tx ks)).length:=by
 by_cases h:escX tx++printXs ks=[]
 ·rw [print_nil h]
  have:=congrArg List.length h
  simp at this ⊢
  simp [this]; omega
 ·rw [print_in h]
  simp; omega
def attW (p:Par):Nat:=5+p.name.length+p.value.length
def attsW (l:List Par):Nat:=(l.map attW).sum
def ndW (x:Nd):Nat:=5+x.name.length+x.text.length+attsW x.attrs
def ndsW (l:List Nd):Nat:=(l.map ndW).sum
theorem ndsW_app (a b:List Nd):ndsW (a++b)=ndsW a+ndsW b:=by simp [ndsW]
theorem attsW_le {l:List Par} {K:Nat} (h:∀ p ∈ l,attW p≤K):attsW l≤l.length * K:=by
 induction l with
 | nil=>simp [attsW]
 | cons a l ih =>
  have e:attsW (a :: l)=attW a+attsW l:=by simp [attsW]
  have h1:=h a (by simp);have h2:=ih fun p hp=>h p (by simp [hp]);rw [e,List.length_cons,Nat.succ_mul]; omega
theorem ndsW_le {l:List Nd} {K:Nat} (h:∀ x ∈ l,ndW x≤K):ndsW l≤l.length * K:=by
 induction l with
 | nil=>simp [ndsW]
 | cons a l ih =>
  have e:ndsW (a :: l)=ndW a+ndsW l:=by simp [ndsW]
  have h1:=h a (by simp);have h2:=ih fun p hp=>h p (by simp [hp]);rw [e,List.length_cons,Nat.succ_mul]; omega
theorem attrsT_W (l:List Par):(attrsT l).length≤6 * attsW l:=by
 induction l with
 | nil=>simp [attrsT]
 | cons a l ih =>
  have e:attsW (a :: l)=attW a+attsW l:=by simp [attsW]
  have e2:attrsT (a :: l)=attrT a++attrsT l:=rfl;have h1:=escX_len a.value;rw [e,e2,List.length_append,attrT_len];unfold attW;omega
mutual
theorem printX_W (d:Nat):∀ t:XT,(printX t).length≤6 * ndsW (flatX d t)
 | .mk n a tx ks=>by
  have h1:=printXs_W (d+1) ks;have h2:=attrsT_W a;have h3:=escX_len tx;have e:ndsW (flatX d (.mk n a tx ks))=(5+n.length+tx.length+attsW a)+ndsW (flatXs (d+1) ks):=by rw [flatX]; simp [ndsW,ndW]
  rw [e,printX]
  split
  ·simp only [List.length_append,List.length_cons,List.length_nil]; omega
  ·simp only [List.length_append,List.length_cons,List.length_nil]; omega
theorem printXs_W (d:Nat):∀ ks:List XT,(printXs ks).length≤6 * ndsW (flatXs d ks)
 | []=>by simp [printXs]
 | k :: ks=>by
  have h1:=printX_W d k;have h2:=printXs_W d ks;rw [printXs,flatXs,List.length_append,ndsW_app]; omega
end
theorem ok_W {l:List Nd} {K:Nat} (h:checkX l=0) (hk:∀ x ∈ l,x.name.length≤K∧x.text.length≤K∧∀ p ∈ x.attrs,p.name.length≤K∧p.value.length≤K):ndsW l≤200 * (17 * (5+2 * K)):=by
 obtain ⟨h1,h2,h3,h4⟩:=checkX_ok h
 have hn:∀ x ∈ l,nodeOk x=true:=by
  intro x hx;obtain ⟨a,b,rfl⟩:=List.append_of_mem hx;exact (steps_tail (steps_drop a (x :: b) h4)).1
 have hw:∀ x ∈ l,ndW x≤17 * (5+2 * K):=by
  intro x hx;obtain ⟨k1,k2,k3⟩:=hk x hx
  have ha:x.attrs.length≤16:=by
   have:=hn x hx
   simp only [nodeOk,attrsOk,Bool.and_eq_true,decide_eq_true_eq] at this;exact this.2.2.1.1
  have hp:=attsW_le (l:=x.attrs) (K:=5+2 * K) fun p hp=>by have:=k3 p hp; unfold attW; omega
  have hm:x.attrs.length * (5+2 * K)≤16 * (5+2 * K):=Nat.mul_le_mul_right _ ha;unfold ndW; omega
 have:=ndsW_le hw
 have hm:l.length * (17 * (5+2 * K))≤200 * (17 * (5+2 * K)):=Nat.mul_le_mul_right _ h2;omega
theorem bstep14 {S:Nat} {w1 u wa:World} (h:Below S w1 u) (hS:S≤w1.heap.size) (hw:Below u.heap.size u wa):Below S w1 wa:=h.trans (hw.mono (Nat.le_trans hS h.size))
theorem al14 {S:Nat} {w1 wa:World} (h:Below S w1 wa) (hS:S≤w1.heap.size) (o1 o2:Obj):Below S w1 ((wa.alloc o1).alloc o2):=(h.alloc (Nat.le_trans hS h.size) o1).alloc (by simp; have:=h.size; omega) o2
theorem ownP_newX (W:World) (B:Nat) (hB:B≤W.heap.size) (ps:List Par) (n:Nat) (hn:ps.length=n) (hm:n≤1000):OwnP (W.alloc (.cells (parsCells ps).toArray 78)) B (.slice (some ⟨W.heap.size,0,none⟩) n n) ps:=by
 subst hn;refine ⟨parsCells_len ps,.inr ⟨_,_,(parsCells ps).toArray,rfl,hB,heap_alloc_new _ _,Nat.le_refl _,by unfold maxLen; omega,by simp [parsCells_len],?_⟩⟩
 rw [List.take_of_length_le (by simp [parsCells_len])]
theorem ownN_newX (W:World) (B:Nat) (hB:B≤W.heap.size) (c:NdC) (hc:OwnP W B c.a c.nd.attrs):OwnN (W.alloc (.cells (ndCells c).toArray 82)) B (.slice (some ⟨W.heap.size,0,none⟩) 1 1) [c]:=by
 refine ⟨⟨rfl,.inr ⟨_,_,(ndCells c).toArray,rfl,hB,heap_alloc_new _ _,Nat.le_refl _,by unfold maxLen; omega,rfl,by simp [ndsCells,ndCells]⟩⟩,fun c' h'=>?_⟩
 simp only [List.mem_singleton] at h'; subst h'; exact hc.alloc _
theorem root_own (W:World) (B:Nat) (hB:B≤W.heap.size) (g:Nat) (hg:g=W.heap.size+1) (en:List UInt8):OwnN ((W.alloc (.cells #[.string ⟨#[120,109,108,110,115]⟩,.string ⟨#[117,114,110,58,105,101,116,102,58,112,97,114,97,109,115,58,120,109,108,58,110,115,58,112,105,100,102]⟩,.bool true,.string ⟨#[101,110,116,105,116,121]⟩,.string ((⟨#[112,114,101,115,58]⟩:ByteArray)++⟨en.toArray⟩),.bool true] 78)).alloc (.cells #[.int .i64 0,.string ⟨#[112,114,101,115,101,110,99,101]⟩,.slice (some ⟨W.heap.size,0,none⟩) 2 2,.string ⟨#[]⟩] 82)) B (.slice (some ⟨g,0,none⟩) 1 1)
  [⟨⟨0,presenceK,[atr xmlnsK spaceK,atr entityK (presK++[58]++en)],[]⟩,.slice (some ⟨W.heap.size,0,none⟩) 2 2⟩]:=by
 have hE:(⟨#[112,114,101,115,58]⟩:ByteArray)++⟨en.toArray⟩=⟨(presK++[58]++en).toArray⟩:=by rw [ByteArray.mk_append_mk]; simp [presK]
 rw [hE];have h1:=ownP_newX W B hB [atr xmlnsK spaceK,atr entityK (presK++[58]++en)] 2 rfl (by decide);have hs:(W.alloc (.cells (parsCells [atr xmlnsK spaceK,atr entityK (presK++[58]++en)]).toArray 78)).heap.size=W.heap.size+1:=by simp
 have h2:=ownN_newX _ B (by rw [hs]; omega) ⟨⟨0,presenceK,[atr xmlnsK spaceK,atr entityK (presK++[58]++en)],[]⟩,.slice (some ⟨W.heap.size,0,none⟩) 2 2⟩ h1;rw [hs,← hg] at h2;exact h2
structure PSt (w1:World) (b:Nat) (x:Tu) (W:World) (v:Value) (cs:List NdC):Prop where
 own:OwnN W w1.heap.size v cs
 row:RowIs W b 48 (tuCells x)
 lt:b < W.heap.size
 ne:v.ownBlock ≠ some b
 bel:Below w1.heap.size w1 W
theorem PSt.below {w1:World} {b:Nat} {x:Tu} {W W':World} {v:Value} {cs:List NdC} (h:PSt w1 b x W v cs) (hb:Below W.heap.size W W'):PSt w1 b x W' v cs :=
 ⟨h.own.below hb,h.row.below hb h.lt,Nat.lt_of_lt_of_le h.lt hb.size,h.ne,h.bel.trans (hb.mono h.bel.size)⟩
theorem PSt.alloc {w1:World} {b:Nat} {x:Tu} {W:World} {v:Value} {cs:List NdC} (h:PSt w1 b x W v cs) (o:Obj):PSt w1 b x (W.alloc o) v cs:=h.below ((Below.refl _ W).alloc (Nat.le_refl _) o)
theorem PSt.app {w1:World} {b:Nat} {x:Tu} {W w5:World} {v v5:Value} {cs:List NdC} {c:NdC} (h:PSt w1 b x W v cs) (hf:FrN v W v5 w5) (ho:OwnN w5 w1.heap.size v5 (cs++[c])):PSt w1 b x w5 v5 (cs++[c]) :=
 ⟨ho,hf.row h.row h.lt h.ne,Nat.lt_of_lt_of_le h.lt hf.size,fun e=>by
  rcases hf.own b e with q | q
  ·exact h.ne q
  ·have:=h.lt; omega,h.bel.trans (hf.to h.bel.size fun g hg=>(World.ownsRow.lt h.own.1 g hg).1)⟩
theorem PSt.c5 {w1:World} {b:Nat} {x:Tu} {W:World} {v:Value} {cs:List NdC} (h:PSt w1 b x W v cs):RowC5 W b (.string ⟨x.id.toArray⟩) (.bool x.opn) (.string ⟨x.contact.toArray⟩) (.int .i64 x.prio) (.string ⟨x.note.toArray⟩):=RowIs.rc5 h.row
theorem PSt.size {w1:World} {b:Nat} {x:Tu} {W:World} {v:Value} {cs:List NdC} (h:PSt w1 b x W v cs):w1.heap.size≤W.heap.size:=h.bel.size
theorem nds_snoc (cs:List NdC) (c:NdC):ndsL (cs++[c])=ndsL cs++[c.nd]:=by simp [ndsL]
theorem flat_next {tl:List Tu} {j:Nat} (h:j < tl.length):flatXs 1 ((tl.take (j+1)).map tupT)=flatXs 1 ((tl.take j).map tupT)++flatX 1 (tupT tl[j]):=by
 rw [List.take_succ_eq_append_getElem h,List.map_append,flatXs_app]; simp [flatXs]
theorem flat_tup (x:Tu):flatX 1 (tupT x)=[⟨1,tupleK,[atr pidK x.id],[]⟩,⟨2,pstatK,[],[]⟩,⟨3,basicK,[],if x.opn then openK else closedK⟩]++(flatXs 2 (contT x)++flatXs 2 (tnoteT x)):=by
 rw [tupT,flatX,flatXs,statT,flatX,flatXs,flatXs,flatX,flatXs,flatXs_app]; simp
end Go.Proofs.YtldkidljjbkmbaaGreatDoor
