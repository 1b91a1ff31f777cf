/-
  SameL, XmlL, XmlBackL, XmlDocL, PidfL, PubL, OpenUri, OpenNode, RefCut, RefWritten, ParOwn, RefParams, OpenDoc, RowN, PubO, PubP, PubM, ScanKit, OpKit, PsT, PsP.
-/
import Derived.Test.YteicmbhilambpaaGreatDoorPU04
import Derived.Test.YteicmbhilambpaaGreatDoorPU09
import Derived.Maps.AppendAt
import Derived.Sort.Walk0
import Derived.Orders
import Derived.OwnWalk
import Derived.Laws.AppendOwnNone
import Derived.Maps.OwnOps
import Derived.Maps.OwnSet
import Derived.Lib.SlicesCompact
import Derived.Lib.Bytealg
import Derived.Lib.CountLaws
import Derived.Laws.Entries
import Derived.Deep.Cut
set_option linter.unusedVariables false
set_option linter.unusedSimpArgs false
set_option maxRecDepth 20000
namespace Go.Proofs.YteicmbhilambpaaGreatDoor
open Go.RowKit Sc
theorem print_name {u:Uri} (h:checkV u=0) (hu:u.user ≠ []):printV (nameU sipK u)=([115,105,112,58]++whoT u,0):=by
 rw [printV,if_pos (check_name (by decide +kernel) h),text_name hu]
def hostV (s:List UInt8):List UInt8 × Int :=
 if (parseV ([115,105,112,58]++s)).2 ≠ 0 then ([],(parseV ([115,105,112,58]++s)).2)
 else if whoV (parseV ([115,105,112,58]++s)).1=(s,0) then ((parseV ([115,105,112,58]++s)).1.host,0) else ([],31)
structure Nd where
 deep:Int
 name:List UInt8
 attrs:List Par
 text:List UInt8
deriving DecidableEq
def xblk (b:UInt8):Bool:=b==32 || (b==9 || (b==13 || b==10))
def xtrim (l:List UInt8):List UInt8:=((l.dropWhile xblk).reverse.dropWhile xblk).reverse
def letX (b:UInt8):Bool:=isB b.toNat 2 || b==95
def namc (b:UInt8):Bool:=letX b || (isB b.toNat 1 || (b==45 || (b==46 || b==58)))
def nameX (l:List UInt8):Bool:=l.all namc && (l.head?.any letX && decide (l.length≤64))
def signX (b:UInt8):Bool:=xblk b || !(decide (b.toNat < 32) || b==127)
def signsX (l:List UInt8):Bool:=l.all signX
def xbehind (l:List UInt8):List UInt8:=(l.reverse.dropWhile xblk).reverse
theorem takeW_app {p:UInt8 → Bool} {a:List UInt8} {c:UInt8} {r:List UInt8} (h:∀ b ∈ a,p b=true) (hc:p c=false):(a++c :: r).takeWhile p=a∧(a++c :: r).dropWhile p=c :: r:=by
 induction a with
 | nil=>simp [List.takeWhile_cons,List.dropWhile_cons,hc]
 | cons x a ih =>
  have hx:=h x (by simp);obtain ⟨i1,i2⟩:=ih (fun b hb=>h b (by simp [hb]));rw [List.cons_append,List.takeWhile_cons,List.dropWhile_cons,hx]
  simp [i1,i2]
def distinctX:List Par → Bool
 | []=>true
 | p :: ps=>ps.all (fun q=>!(q.name==p.name)) && distinctX ps
def attrsOk (l:List Par):Bool:=decide (l.length≤16) && (l.all (fun p=>nameX p.name && (p.has && signsX p.value)) && distinctX l)
def nodeOk (x:Nd):Bool:=decide (x.deep < 8) && (nameX x.name && (attrsOk x.attrs && (signsX x.text && xtrim x.text==x.text)))
def nextOk (x y:Nd):Bool:=decide (1≤y.deep∧y.deep≤x.deep+1) && (!decide (x.deep < y.deep) || x.text.isEmpty)
def stepsX:List Nd → Bool
 | []=>true
 | [x]=>nodeOk x
 | x :: y :: r=>nodeOk x && (nextOk x y && stepsX (y :: r))
def checkX (l:List Nd):Int:=if l.length < 1∨200 < l.length∨(l.head?.map (·.deep)) ≠ some 0∨stepsX l=false then 130 else 0
theorem node_facts {x:Nd} (h:nodeOk x=true):x.deep < 8∧nameX x.name=true∧(x.attrs.all fun p=>nameX p.name && p.has)=true∧xtrim x.text=x.text:=by
 simp only [nodeOk,attrsOk,Bool.and_eq_true,decide_eq_true_eq,beq_iff_eq] at h;obtain ⟨h1,h2,⟨_,h3,_⟩,_,h5⟩:=h;refine ⟨h1,h2,?_,h5⟩
 rw [List.all_eq_true] at h3 ⊢;intro p hp
 have:=h3 p hp
 simp only [Bool.and_eq_true] at this ⊢;exact ⟨this.1,this.2.1⟩
structure Tu where
 id:List UInt8
 opn:Bool
 contact:List UInt8
 prio:Int
 note:List UInt8
deriving DecidableEq
structure Dc where
 entity:List UInt8
 tuples:List Tu
 notes:List (List UInt8)
deriving DecidableEq
def textP (s:List UInt8):Bool:=decide (s.length≤128) && (signsX s && xtrim s==s)
def idc (b:UInt8):Bool:=decide (33≤b.toNat) && decide (b.toNat≤126)
def identP (s:List UInt8):Bool:=s.all idc && (decide (1≤s.length) && decide (s.length≤64))
def prioP (t:Tu):Bool:=decide (-1≤t.prio) && (decide (t.prio≤1000) && (!t.contact.isEmpty || t.prio==-1))
def tupP (t:Tu):Bool:=identP t.id && (textP t.contact && (textP t.note && prioP t))
def distinctT:List Tu → Bool
 | []=>true
 | t :: r=>r.all (fun q=>!(q.id==t.id)) && distinctT r
def noteP (s:List UInt8):Bool:=!s.isEmpty && textP s
def checkD (d:Dc):Int:=if (hostV d.entity).2 ≠ 0∨16 < d.tuples.length∨16 < d.notes.length then 140 else if (d.tuples.all tupP && (distinctT d.tuples && d.notes.all noteP))=true then 0 else 140
def d3 (n:Nat):List UInt8:=[UInt8.ofNat (48+n / 100 % 10),UInt8.ofNat (48+n / 10 % 10),UInt8.ofNat (48+n % 10)]
def noteK:List UInt8:=[110,111,116,101]
structure Pb where
 num:Int
 who:List UInt8
 tag:List UInt8
 til:Int
 doc:Dc
structure Cf where
 host:List UInt8
 calls:Int
 pubs:Int
 subs:Int
 least:Int
 most:Int
 usual:Int
structure Sto where
 c:Cf
 last:Int
 l:List Pb
structure Pa where
 who:List UInt8
 mt:List UInt8
 exp:Int
 has:Bool
 doc:Dc
 tag:List UInt8
structure Td where
 status:Int
 expires:Int
 tag:List UInt8
 changed:Bool
deriving DecidableEq
def noTd:Td:=⟨0,0,[],false⟩
def rightC (c:Cf):Bool:=decide (1≤c.calls∧c.calls≤200∧1≤c.pubs∧c.pubs≤200∧1≤c.subs∧c.subs≤200∧1≤c.least∧c.least≤c.usual∧c.usual≤c.most∧c.most≤2147483647)
def secC (c:Cf) (a:Int):Int × Bool:=if a < 0 then (c.usual,true) else if c.most < a then (c.most,true) else (a,decide (a=0) || decide (c.least≤a))
def isP (tag:List UInt8) (p:Pb):Bool:=p.tag==tag
def pidxP (l:List Pb) (tag:List UInt8):Nat:=l.findIdx (isP tag)
def placeP (l:List Pb) (tag:List UInt8):Int:=if pidxP l tag < l.length then (pidxP l tag:Int) else -1
def badA (s:Sto) (now:Int) (a:Pa):Bool:=decide (now < 0) || (decide (549755813888 < now) || (!tokenB a.tag || (decide (0≤placeP s.l a.tag) || (a.has && !decide (checkD a.doc=0)))))
def newP (s:Sto) (now n:Int) (a:Pa):Pb:=⟨s.last+1,a.who,a.tag,now+10 * n,a.doc⟩
def goP (p:Pb) (now n:Int) (a:Pa):Pb:=⟨p.num,p.who,a.tag,now+10 * n,if a.has=true then a.doc else p.doc⟩
def noneP (s:Sto) (a:Pa):Bool:=!a.mt.isEmpty && (decide (placeP s.l a.mt < 0) || !decide ((s.l[pidxP s.l a.mt]?).map Pb.who=some a.who))
def doS (s:Sto) (now:Int) (a:Pa):Sto × Td × Int :=
 if badA s now a=true then (s,noTd,1)
 else if noneP s a=true then (s,⟨412,0,[],false⟩,0)
 else if (secC s.c a.exp).2=false then (s,⟨423,s.c.least,[],false⟩,0)
 else if a.mt=[] then
  if a.has=false∨(secC s.c a.exp).1=0 then (s,⟨400,0,[],false⟩,0)
  else if s.c.pubs≤s.l.length then (s,⟨503,0,[],false⟩,0)
  else (⟨s.c,s.last+1,s.l++[newP s now (secC s.c a.exp).1 a]⟩,⟨200,(secC s.c a.exp).1,a.tag,true⟩,0)
 else if a.has=true∧(secC s.c a.exp).1=0 then (s,⟨400,0,[],false⟩,0)
 else if (secC s.c a.exp).1=0 then (⟨s.c,s.last,s.l.eraseIdx (pidxP s.l a.mt)⟩,⟨200,0,a.tag,true⟩,0)
 else (⟨s.c,s.last,s.l.modify (pidxP s.l a.mt) (fun p=>goP p now (secC s.c a.exp).1 a)⟩,⟨200,(secC s.c a.exp).1,a.tag,a.has⟩,0)
theorem idx_two (l:List Pb) (tag:List UInt8):(pidxP l tag=l.length∧placeP l tag=-1∧∀ p ∈ l,p.tag ≠ tag)∨∃ (k:Nat) (hk:k < l.length),pidxP l tag=k∧placeP l tag=k∧l[k].tag=tag∧∀ j (hj:j < k),l[j].tag ≠ tag:=by
 unfold placeP pidxP;by_cases h:l.findIdx (isP tag) < l.length
 ·refine .inr ⟨_,h,rfl,by rw [if_pos h],?_,fun j hj=>?_⟩
  ·have:=List.findIdx_getElem (w:=h)
   simpa [isP] using this
  ·have:=List.not_of_lt_findIdx (p:=isP tag) (xs:=l) hj
   simpa [isP] using this
 ·have he:l.findIdx (isP tag)=l.length:=by
   have:=List.findIdx_le_length (xs:=l) (p:=isP tag)
   omega
  refine .inl ⟨he,by rw [if_neg h],fun p hp=>?_⟩
  have:=List.findIdx_eq_length.1 he p hp
  simpa [isP] using this
structure StOK (s:Sto):Prop where
 len:(s.l.length:Int)≤s.c.pubs
 tags:∀ i j (hi:i < s.l.length) (hj:j < s.l.length),s.l[i].tag=s.l[j].tag → i=j
 tok:∀ p ∈ s.l,tokenB p.tag=true
 nums:s.l.Pairwise (fun p q=>p.num < q.num)
 num1:∀ p ∈ s.l,1≤p.num∧p.num≤s.last
 doc:∀ p ∈ s.l,checkD p.doc=0
 til:∀ p ∈ s.l,0≤p.til∧p.til≤571230650358
 last:0≤s.last
theorem StOK.nil {c:Cf} (h:rightC c=true):StOK ⟨c,0,[]⟩:=by
 simp only [rightC,decide_eq_true_eq] at h;exact ⟨by simp only [List.length_nil]; omega,fun i j hi=>by simp at hi,fun p hp=>by simp at hp,List.Pairwise.nil,fun p hp=>by simp at hp,fun p hp=>by simp at hp,fun p hp=>by simp at hp,Int.le_refl _⟩
theorem secC_rng {c:Cf} (h:rightC c=true) (a:Int):0≤(secC c a).1∧(secC c a).1≤2147483647:=by
 simp only [rightC,decide_eq_true_eq] at h;unfold secC
 split
 ·simp only; omega
 ·split
  ·simp only; omega
  ·simp only; omega
theorem badA_no {s:Sto} {now:Int} {a:Pa} (h:badA s now a=false):0≤now∧now≤549755813888∧tokenB a.tag=true∧placeP s.l a.tag < 0∧(a.has=true → checkD a.doc=0):=by
 unfold badA at h;simp only [Bool.or_eq_false_iff,decide_eq_false_iff_not,Bool.not_eq_false',Bool.and_eq_false_iff,Bool.not_eq_eq_eq_not,Bool.not_false,Bool.not_true] at h;obtain ⟨h1,h2,h3,h4,h5⟩:=h;refine ⟨by omega,by omega,h3,by omega,fun hh=>?_⟩
 rcases h5 with h5 | h5
 ·rw [hh] at h5; cases h5
 ·simpa using h5
theorem place_no {l:List Pb} {tag:List UInt8} (h:placeP l tag < 0):∀ p ∈ l,p.tag ≠ tag:=by
 rcases idx_two l tag with ⟨_,_,h2⟩ | ⟨k,hk,_,h1,_⟩
 ·exact h2
 ·omega
theorem StOK.add {s:Sto} (h:StOK s) {p:Pb} (hl:(s.l.length:Int) < s.c.pubs) (hn:p.num=s.last+1) (ht:tokenB p.tag=true) (hf:∀ q ∈ s.l,q.tag ≠ p.tag) (hd:checkD p.doc=0) (hu:0≤p.til∧p.til≤571230650358):StOK ⟨s.c,s.last+1,s.l++[p]⟩:=by
 refine ⟨by simp only [List.length_append,List.length_singleton]; omega,fun i j hi hj e=>?_,fun q hq=>?_,?_,fun q hq=>?_,fun q hq=>?_,fun q hq=>?_,by simp only; have:=h.last; omega⟩
 ·simp only [List.length_append,List.length_singleton] at hi hj;simp only [List.getElem_append] at e
  split at e
  ·split at e
   ·exact h.tags i j _ _ e
   ·simp at e
    exact absurd e (hf _ (List.getElem_mem _))
  ·split at e
   ·simp at e
    exact absurd e.symm (hf _ (List.getElem_mem _))
   ·omega
 ·rcases List.mem_append.1 hq with hq | hq
  ·exact h.tok q hq
  ·simp at hq; subst hq; exact ht
 ·rw [List.pairwise_append];refine ⟨h.nums,List.pairwise_singleton _ _,fun q hq r hr=>?_⟩
  simp at hr; subst hr
  have:=(h.num1 q hq).2
  omega
 ·rcases List.mem_append.1 hq with hq | hq
  ·have:=h.num1 q hq; simp only; omega
  ·simp at hq; subst hq; have:=h.last; simp only; omega
 ·rcases List.mem_append.1 hq with hq | hq
  ·exact h.doc q hq
  ·simp at hq; subst hq; exact hd
 ·rcases List.mem_append.1 hq with hq | hq
  ·exact h.til q hq
  ·simp at hq; subst hq; exact hu
theorem StOK.sub {s:Sto} (h:StOK s) {l:List Pb} (hs:l.Sublist s.l):StOK ⟨s.c,s.last,l⟩:=by
 have hp:s.l.Pairwise (fun p q=>p.tag ≠ q.tag):=by
  rw [List.pairwise_iff_getElem];intro i j hi hj hij e
  have:=h.tags i j hi hj e
  omega
 have hp2:=hp.sublist hs;have hm:∀ q ∈ l,q ∈ s.l:=fun q hq=>hs.subset hq;refine ⟨by have:=hs.length_le; have:=h.len; simp only; omega,fun i j hi hj e=>?_,fun q hq=>h.tok q (hm q hq),h.nums.sublist hs,fun q hq=>h.num1 q (hm q hq),fun q hq=>h.doc q (hm q hq),fun q hq=>h.til q (hm q hq),h.last⟩
 rw [List.pairwise_iff_getElem] at hp2
 rcases Nat.lt_trichotomy i j with hij | hij | hij
 ·exact absurd e (hp2 i j hi hj hij)
 ·exact hij
 ·exact absurd e.symm (hp2 j i hj hi hij)
end Go.Proofs.YteicmbhilambpaaGreatDoor
namespace Go.Proofs.YteicmbhilambpaaGreatDoor
open Go.RowKit Go.ChangeShapes Go.WideShapes Go.Deep
section
variable {H : Type} {enc : TypeId × Value → H} {W : World} {sp : Nat → Bool}
def SmallP (B:Nat) (ps:List Par):Prop:=ps.length≤B∧∀ p ∈ ps,p.name.length≤B∧p.value.length≤B
def SmallU (B:Nat) (u:Uri):Prop:=u.scheme.length≤B∧u.user.length≤B∧u.host.length≤B∧SmallP B u.params∧SmallP B u.headers
end
structure NdC where
 nd:Nd
 a:Value
def ndCells (c:NdC):List Value:=[.int .i64 c.nd.deep,.string ⟨c.nd.name.toArray⟩,c.a,.string ⟨c.nd.text.toArray⟩]
structure NdAt (w:World) (ad:Addr) (k:Nat) (c:NdC):Prop where
 c0:w.cell? (ad.add (k * 4))=some (.int .i64 c.nd.deep)
 c1:w.cell? ⟨(ad.add (k * 4)).block,(ad.add (k * 4)).off+1,none⟩=some (.string ⟨c.nd.name.toArray⟩)
 c2:w.cell? ⟨(ad.add (k * 4)).block,(ad.add (k * 4)).off+2,none⟩=some c.a
 c3:w.cell? ⟨(ad.add (k * 4)).block,(ad.add (k * 4)).off+3,none⟩=some (.string ⟨c.nd.text.toArray⟩)
theorem NdAt.below {B:Nat} {w w':World} {ad:Addr} {k:Nat} {c:NdC} (h:NdAt w ad k c) (hb:Below B w w') (ha:ad.block < B):NdAt w' ad k c :=
 ⟨cell_below hb (by rw [add_block]; exact ha) h.c0,cell_below hb (by simp only [add_block]; exact ha) h.c1,cell_below hb (by simp only [add_block]; exact ha) h.c2,cell_below hb (by simp only [add_block]; exact ha) h.c3⟩
def NdsAt (w:World) (v:Value) (cs:List NdC):Prop :=
 ∃ (ao:Option Addr) (cap:Nat),v=.slice ao cs.length cap∧∀ k (hk:k < cs.length),∃ ad,ao=some ad∧ad.block < w.heap.size∧NdAt w ad k cs[k]∧ParsAt w cs[k].a cs[k].nd.attrs
def ndsL (cs:List NdC):List Nd:=cs.map NdC.nd
theorem ndsL_len (cs:List NdC):(ndsL cs).length=cs.length:=by simp [ndsL]
def SmallN (B:Nat) (x:Nd):Prop:=x.name.length≤B∧x.text.length≤B∧SmallP B x.attrs∧(Lit.int .i64 x.deep).wf=true
end Go.Proofs.YteicmbhilambpaaGreatDoor
namespace Go.Proofs.YteicmbhilambpaaGreatDoor
open Go.RowKit Sc
theorem u8_eq {a b:UInt8} (h:a=b):((a.toNat:Int)==(b.toNat:Int))=true:=by simp [h]
theorem u8_ne {a b:UInt8} (h:¬ a=b):((a.toNat:Int)==(b.toNat:Int))=false:=by
 simp only [beq_eq_false_iff_ne,ne_eq];intro e; exact h (UInt8.toNat_inj.1 (by omega))
theorem ret_cut {p:List UInt8 × List UInt8 × Bool} {x y:ByteArray} {b:Bool} (h:p=(x.data.toList,y.data.toList,b)):Ending.returned (.tuple #[.string x,.string y,.bool b])=.returned (.tuple #[.string ⟨p.1.toArray⟩,.string ⟨p.2.1.toArray⟩,.bool p.2.2]):=by
 have hx:(⟨x.data.toList.toArray⟩:ByteArray)=x:=by apply ByteArray.ext; simp
 have hy:(⟨y.data.toList.toArray⟩:ByteArray)=y:=by apply ByteArray.ext; simp
 rw [h,hx,hy]
theorem size_list (l:List UInt8):(⟨l.toArray⟩:ByteArray).size=l.length:=by simp [ByteArray.size]
theorem splitL_next {c:UInt8} {l0 r:List UInt8} {ps:List (List UInt8)} (h:splitL c l0=ps++splitL c r) (hb:(cutL c r).2.2=true):splitL c l0=(ps++[(cutL c r).1])++splitL c (cutL c r).2.1:=by
 rw [h,splitL_cut c r,if_pos hb]; simp
theorem ret_wr {p:List UInt8 × Bool} {x:List UInt8} {b:Bool} (h:p=(x,b)):Ending.returned (.tuple #[.string ⟨x.toArray⟩,.bool b])=.returned (.tuple #[.string ⟨p.1.toArray⟩,.bool p.2]):=by rw [h]
def parsCells (ps:List Par):List Value:=ps.flatMap parCells
theorem parsCells_get (ps:List Par) (k:Nat) (hk:k < ps.length):(parsCells ps)[k * 3]? = some (.string ⟨ps[k].name.toArray⟩)∧(parsCells ps)[k * 3+1]? = some (.string ⟨ps[k].value.toArray⟩)∧(parsCells ps)[k * 3+2]? = some (.bool ps[k].has):=by
 induction ps generalizing k with
 | nil=>simp at hk
 | cons p ps ih =>
  have e:parsCells (p :: ps)=parCells p++parsCells ps:=rfl
  cases k with
  | zero=>rw [e]; simp [parCells]
  | succ k =>
   have:=ih k (by simpa using hk)
   rw [e,show (k+1) * 3=k * 3+3 by omega]
   simpa [parCells] using this
def OwnP (w:World) (B:Nat) (v:Value) (ps:List Par):Prop:=w.ownsRow B 200 3 v ps.length (parsCells ps)
theorem OwnP.nil (w:World) (B:Nat):OwnP w B (.slice none 0 0) []:=World.ownsRow_nil _ _ _ _
theorem OwnP.alloc {w:World} {B:Nat} {v:Value} {ps:List Par} (h:OwnP w B v ps) (o:Obj):OwnP (w.alloc o) B v ps:=World.ownsRow.alloc h o
theorem OwnP.below {w w':World} {B:Nat} {v:Value} {ps:List Par} (h:OwnP w B v ps) (hb:Below w.heap.size w w'):OwnP w' B v ps:=by
 obtain ⟨h1,h2⟩:=h;refine ⟨h1,?_⟩
 rcases h2 with h2 | ⟨g,cap,cur,hv,hg,hh,r⟩
 ·exact Or.inl h2
 ·exact Or.inr ⟨g,cap,cur,hv,hg,by rw [hb.block g (Array.getElem?_eq_some_iff.1 hh).1]; exact hh,r⟩
theorem OwnP.parsAt {w:World} {B:Nat} {v:Value} {ps:List Par} (h:OwnP w B v ps):ParsAt w v ps:=by
 have h0:=h
 rcases h.2 with ⟨rfl,hn⟩ | ⟨g,cap,cur,rfl,hb,hg,r⟩
 ·exact Or.inl ⟨rfl,List.eq_nil_of_length_eq_zero hn⟩
 ·refine Or.inr ⟨⟨g,0,none⟩,cap,rfl,fun k hk=>⟨(Array.getElem?_eq_some_iff.1 hg).1,?_⟩⟩
  obtain ⟨c0,c1,c2⟩:=parsCells_get ps k hk;have a0:=World.ownsRow.cells h0 (g:=g) rfl (k * 3) _ c0;have a1:=World.ownsRow.cells h0 (g:=g) rfl (k * 3+1) _ c1;have a2:=World.ownsRow.cells h0 (g:=g) rfl (k * 3+2) _ c2;have e:∀ j,(⟨g,0,none⟩:Addr).add j=⟨g,j,none⟩:=fun j=>by unfold Addr.add; split <;> simp_all
  rw [e] at a0 a1 a2;unfold ParAt;rw [e];exact ⟨a0,a1,a2⟩
theorem infoPar:(Tryz.prog.info? 200).map (fun i=>(i.zero,i.size,i.bytes))=some (some (.agg #[.string .empty,.string .empty,.bool false]),3,40):=by kernel_rfl
theorem wp_appP {P:Program} (w:World) {ops:Array Oper} {rest:List Oper} {o:Oper} {a:Act} {Q:Exit → Act → World → Prop} (hgd:o.guard=none)
  (s x:Operand) (t:TypeId) (ho:o.op=Op.call { callee:=Callee.builtin Builtin.append,args:=#[s,x],argTypes:=#[t,t] }) (B:Nat) (i:TypeInfo)
  (z:Value) (ht:P.underlying t=some (TypeDesc.slice 200)) (hi:P.info? 200=some i) (hz:i.zero=some z) (hsize:i.size=3) (hby:i.bytes=40) (hzs:z.cells.size=3)
  (v:Value) (ps:List Par) (hs:a.eval s=v) (hown:OwnP w B v ps) (ad:Addr) (c:Nat) (p:Par) (hx:a.eval x=Value.slice (some ad) 1 c)
  (hnews:∀ (j:Nat) (u:Value),(parCells p)[j]? = some u → w.cell? (ad.add j)=some u)
  (hlen:ps.length≤2000000) (w0:World) (hb:Below B w0 w) (hB:B≤w.heap.size)
  (h:∀ (v':Value) (w':World),OwnP w' B v' (ps++[p]) → Below B w0 w' → B≤w'.heap.size → wpList P ops Q rest (a.put o.dst v') w'):wpList P ops Q (o :: rest) a w:=by
 refine wpList_append_own w hgd s x t ho B 200 i z 3 40 ht hi hz hsize hby hzs (by decide) v ps.length (parsCells ps) hs hown ad 1 c (parCells p) hx rfl hnews (by intro u hu; simp [parCells] at hu; rcases hu with rfl | rfl | rfl <;> rfl) (by unfold maxLen; omega) (by omega) hB ?_
 intro v' w' hown' hgr _;refine h v' w' ?_ (hb.grown hgr hB (fun k hk=>(World.ownsRow.lt hown k hk).1)) (Nat.le_trans hB hgr.size)
 unfold OwnP;have e:parsCells (ps++[p])=parsCells ps++parCells p:=by simp [parsCells]
 rw [e,List.length_append];exact hown'
def StrsAt (w:World) (v:Value) (ls:List (List UInt8)):Prop :=
 ∃ (ao:Option Addr) (cap:Nat),v=.slice ao ls.length cap∧∀ k (hk:k < ls.length),∃ a,ao=some a∧a.block < w.heap.size∧w.cell? (a.add k)=some (.string ⟨ls[k].toArray⟩)
theorem StrsAt.below {w w':World} {v:Value} {ls:List (List UInt8)} (h:StrsAt w v ls) (hb:Below w.heap.size w w'):StrsAt w' v ls:=by
 obtain ⟨ao,cap,hv,hc⟩:=h;refine ⟨ao,cap,hv,fun k hk=>?_⟩
 obtain ⟨a,e,ha,hcell⟩:=hc k hk;exact ⟨a,e,Nat.lt_of_lt_of_le ha hb.size,cell_below hb (by rw [add_block]; exact ha) hcell⟩
theorem parsOf_snoc (keep:List UInt8) (ls:List (List UInt8)) (l:List UInt8):parsOf keep (ls++[l])=match parsOf keep ls,parOf keep l with | some ps,some p=>some (ps++[p]) | _,_=>none:=by
 induction ls with
 | nil =>
  rw [List.nil_append,parsOf,parsOf]
  cases parOf keep l <;> rfl
 | cons x ls ih =>
  rw [List.cons_append,parsOf,parsOf,ih]
  cases parOf keep x <;> cases parsOf keep ls <;> cases parOf keep l <;> rfl
theorem parsOf_bad {keep:List UInt8} {ls:List (List UInt8)} {k:Nat} (hk:k < ls.length) (h:parOf keep ls[k]=none):parsOf keep ls=none:=by
 induction ls generalizing k with
 | nil=>simp at hk
 | cons x ls ih =>
  rw [parsOf]
  cases k with
  | zero=>simp at h; rw [h]
  | succ k =>
   rw [ih (by simpa using hk) (by simpa using h)]
   cases parOf keep x <;> rfl
theorem parsOf_len {keep:List UInt8} {ls:List (List UInt8)} {ps:List Par} (h:parsOf keep ls=some ps):ps.length=ls.length:=by
 induction ls generalizing ps with
 | nil=>simp [parsOf] at h; subst h; rfl
 | cons x ls ih =>
  rw [parsOf] at h
  cases hx:parOf keep x with
  | none=>rw [hx] at h; simp at h
  | some p =>
   cases hl:parsOf keep ls with
   | none=>rw [hx,hl] at h; simp at h
   | some qs=>rw [hx,hl] at h; simp at h; subst h; simp [ih hl]
theorem parOf_some {keep l:List UInt8} (h1:(writtenV keep (cutL 61 l).1).2=true) (h2:(writtenV keep (cutL 61 l).2.1).2=true):parOf keep l=some ⟨(writtenV keep (cutL 61 l).1).1,(writtenV keep (cutL 61 l).2.1).1,(cutL 61 l).2.2⟩:=by
 rw [parOf,if_pos ⟨h1,h2⟩]
theorem parOf_none {keep l:List UInt8} (h:¬ ((writtenV keep (cutL 61 l).1).2=true∧(writtenV keep (cutL 61 l).2.1).2=true)):parOf keep l=none:=by
 rw [parOf,if_neg h]
def ParsRes (keep:List UInt8) (ls:List (List UInt8)) (w w':World) (v:Value) (b:Bool):Prop :=
 (∃ ps,parsOf keep ls=some ps∧b=true∧OwnP w' w.heap.size v ps)∨(parsOf keep ls=none∧b=false∧v=.slice none 0 0)
end Go.Proofs.YteicmbhilambpaaGreatDoor
namespace Go.Proofs.YteicmbhilambpaaGreatDoor
open Go.RowKit Go.ChangeShapes Go.WideShapes Go.Deep
def tuCells (t:Tu):List Value:=[.string ⟨t.id.toArray⟩,.bool t.opn,.string ⟨t.contact.toArray⟩,.int .i64 t.prio,.string ⟨t.note.toArray⟩]
def tuV (t:Tu):Value:=.agg #[.string ⟨t.id.toArray⟩,.bool t.opn,.string ⟨t.contact.toArray⟩,.int .i64 t.prio,.string ⟨t.note.toArray⟩]
def docV (d:Dc) (ts ns:Value):Value:=.agg #[.string ⟨d.entity.toArray⟩,ts,ns]
structure TuAt (w:World) (ad:Addr) (k:Nat) (t:Tu):Prop where
 c0:w.cell? (ad.add (k * 5))=some (.string ⟨t.id.toArray⟩)
 c1:w.cell? ⟨(ad.add (k * 5)).block,(ad.add (k * 5)).off+1,none⟩=some (.bool t.opn)
 c2:w.cell? ⟨(ad.add (k * 5)).block,(ad.add (k * 5)).off+2,none⟩=some (.string ⟨t.contact.toArray⟩)
 c3:w.cell? ⟨(ad.add (k * 5)).block,(ad.add (k * 5)).off+3,none⟩=some (.int .i64 t.prio)
 c4:w.cell? ⟨(ad.add (k * 5)).block,(ad.add (k * 5)).off+4,none⟩=some (.string ⟨t.note.toArray⟩)
theorem TuAt.below {B:Nat} {w w':World} {ad:Addr} {k:Nat} {t:Tu} (h:TuAt w ad k t) (hb:Below B w w') (ha:ad.block < B):TuAt w' ad k t :=
 ⟨cell_below hb (by rw [add_block]; exact ha) h.c0,cell_below hb (by simp only [add_block]; exact ha) h.c1,cell_below hb (by simp only [add_block]; exact ha) h.c2,cell_below hb (by simp only [add_block]; exact ha) h.c3,cell_below hb (by simp only [add_block]; exact ha) h.c4⟩
def TusAt (w:World) (v:Value) (ts:List Tu):Prop :=
 ∃ (ao:Option Addr) (cap:Nat),v=.slice ao ts.length cap∧∀ k (hk:k < ts.length),∃ ad,ao=some ad∧ad.block < w.heap.size∧TuAt w ad k ts[k]
theorem TusAt.below {w w':World} {v:Value} {ts:List Tu} (h:TusAt w v ts) (hb:Below w.heap.size w w'):TusAt w' v ts:=by
 obtain ⟨ao,cap,hv,hc⟩:=h;refine ⟨ao,cap,hv,fun k hk=>?_⟩
 obtain ⟨ad,e,hlt,hcell⟩:=hc k hk;exact ⟨ad,e,Nat.lt_of_lt_of_le hlt hb.size,hcell.below hb hlt⟩
def SmallT (B:Nat) (t:Tu):Prop:=t.id.length≤B∧t.contact.length≤B∧t.note.length≤B∧(Lit.int .i64 t.prio).wf=true
structure SmallD (B:Nat) (d:Dc):Prop where
 ent:d.entity.length≤B
 tl:d.tuples.length≤B
 nl:d.notes.length≤B
 ts:∀ t ∈ d.tuples,SmallT B t
 ns:∀ s ∈ d.notes,s.length≤B
end Go.Proofs.YteicmbhilambpaaGreatDoor
namespace Go.Proofs.YteicmbhilambpaaGreatDoor
open Go.RowKit
theorem rc_row3 (w:World) (v0 v1 v2:Value) (t:TypeId):RowIs (w.alloc (.cells #[v0,v1,v2] t)) w.heap.size t [v0,v1,v2]:=by
 unfold RowIs; rw [heap_alloc_new]
theorem rc_store3 {w:World} {b:Nat} {e:TypeId} {u0 u1 u2:Value} (h:RowIs w b e [u0,u1,u2]) (v0 v1 v2:Value):RowIs (((w.setCell ⟨b,0,none⟩ v0).setCell ⟨b,1,none⟩ v1).setCell ⟨b,2,none⟩ v2) b e [v0,v1,v2]:=by
 have:=(((h.set 0 v0).set 1 v1).set 2 v2)
 simpa using this
theorem rc_below3 {B:Nat} {a w:World} (h:Below B a w) (b:Nat) (hb:B≤b) (v0 v1 v2:Value):Below B a (((w.setCell ⟨b,0,none⟩ v0).setCell ⟨b,1,none⟩ v1).setCell ⟨b,2,none⟩ v2):=(((h.setCell hb _).setCell hb _).setCell hb _)
structure RowC3 (w:World) (b:Nat) (v0 v1 v2:Value):Prop where
 c0:w.cell? ⟨b,0,none⟩=some v0
 c1:w.cell? ⟨b,1,none⟩=some v1
 c2:w.cell? ⟨b,2,none⟩=some v2
 f0:w.frozen? ⟨b,0,none⟩=false
 f1:w.frozen? ⟨b,1,none⟩=false
 f2:w.frozen? ⟨b,2,none⟩=false
theorem RowIs.rc3 {w:World} {b:Nat} {e:TypeId} {v0 v1 v2:Value} (h:RowIs w b e [v0,v1,v2]):RowC3 w b v0 v1 v2:=⟨h.cell 0 (by simp),h.cell 1 (by simp),h.cell 2 (by simp),h.frozen 0,h.frozen 1,h.frozen 2⟩
theorem rc_row4 (w:World) (v0 v1 v2 v3:Value) (t:TypeId):RowIs (w.alloc (.cells #[v0,v1,v2,v3] t)) w.heap.size t [v0,v1,v2,v3]:=by
 unfold RowIs; rw [heap_alloc_new]
theorem rc_store4 {w:World} {b:Nat} {e:TypeId} {u0 u1 u2 u3:Value} (h:RowIs w b e [u0,u1,u2,u3]) (v0 v1 v2 v3:Value):RowIs ((((w.setCell ⟨b,0,none⟩ v0).setCell ⟨b,1,none⟩ v1).setCell ⟨b,2,none⟩ v2).setCell ⟨b,3,none⟩ v3) b e [v0,v1,v2,v3]:=by
 have:=((((h.set 0 v0).set 1 v1).set 2 v2).set 3 v3)
 simpa using this
theorem rc_below4 {B:Nat} {a w:World} (h:Below B a w) (b:Nat) (hb:B≤b) (v0 v1 v2 v3:Value):Below B a ((((w.setCell ⟨b,0,none⟩ v0).setCell ⟨b,1,none⟩ v1).setCell ⟨b,2,none⟩ v2).setCell ⟨b,3,none⟩ v3):=((((h.setCell hb _).setCell hb _).setCell hb _).setCell hb _)
structure RowC4 (w:World) (b:Nat) (v0 v1 v2 v3:Value):Prop where
 c0:w.cell? ⟨b,0,none⟩=some v0
 c1:w.cell? ⟨b,1,none⟩=some v1
 c2:w.cell? ⟨b,2,none⟩=some v2
 c3:w.cell? ⟨b,3,none⟩=some v3
 f0:w.frozen? ⟨b,0,none⟩=false
 f1:w.frozen? ⟨b,1,none⟩=false
 f2:w.frozen? ⟨b,2,none⟩=false
 f3:w.frozen? ⟨b,3,none⟩=false
theorem RowIs.rc4 {w:World} {b:Nat} {e:TypeId} {v0 v1 v2 v3:Value} (h:RowIs w b e [v0,v1,v2,v3]):RowC4 w b v0 v1 v2 v3:=⟨h.cell 0 (by simp),h.cell 1 (by simp),h.cell 2 (by simp),h.cell 3 (by simp),h.frozen 0,h.frozen 1,h.frozen 2,h.frozen 3⟩
theorem rc_row5 (w:World) (v0 v1 v2 v3 v4:Value) (t:TypeId):RowIs (w.alloc (.cells #[v0,v1,v2,v3,v4] t)) w.heap.size t [v0,v1,v2,v3,v4]:=by
 unfold RowIs; rw [heap_alloc_new]
theorem rc_store5 {w:World} {b:Nat} {e:TypeId} {u0 u1 u2 u3 u4:Value} (h:RowIs w b e [u0,u1,u2,u3,u4]) (v0 v1 v2 v3 v4:Value):RowIs (((((w.setCell ⟨b,0,none⟩ v0).setCell ⟨b,1,none⟩ v1).setCell ⟨b,2,none⟩ v2).setCell ⟨b,3,none⟩ v3).setCell ⟨b,4,none⟩ v4) b e [v0,v1,v2,v3,v4]:=by
 have:=(((((h.set 0 v0).set 1 v1).set 2 v2).set 3 v3).set 4 v4)
 simpa using this
theorem rc_below5 {B:Nat} {a w:World} (h:Below B a w) (b:Nat) (hb:B≤b) (v0 v1 v2 v3 v4:Value):Below B a (((((w.setCell ⟨b,0,none⟩ v0).setCell ⟨b,1,none⟩ v1).setCell ⟨b,2,none⟩ v2).setCell ⟨b,3,none⟩ v3).setCell ⟨b,4,none⟩ v4):=(((((h.setCell hb _).setCell hb _).setCell hb _).setCell hb _).setCell hb _)
structure RowC5 (w:World) (b:Nat) (v0 v1 v2 v3 v4:Value):Prop where
 c0:w.cell? ⟨b,0,none⟩=some v0
 c1:w.cell? ⟨b,1,none⟩=some v1
 c2:w.cell? ⟨b,2,none⟩=some v2
 c3:w.cell? ⟨b,3,none⟩=some v3
 c4:w.cell? ⟨b,4,none⟩=some v4
 f0:w.frozen? ⟨b,0,none⟩=false
 f1:w.frozen? ⟨b,1,none⟩=false
 f2:w.frozen? ⟨b,2,none⟩=false
 f3:w.frozen? ⟨b,3,none⟩=false
 f4:w.frozen? ⟨b,4,none⟩=false
theorem RowIs.rc5 {w:World} {b:Nat} {e:TypeId} {v0 v1 v2 v3 v4:Value} (h:RowIs w b e [v0,v1,v2,v3,v4]):RowC5 w b v0 v1 v2 v3 v4:=⟨h.cell 0 (by simp),h.cell 1 (by simp),h.cell 2 (by simp),h.cell 3 (by simp),h.cell 4 (by simp),h.frozen 0,h.frozen 1,h.frozen 2,h.frozen 3,h.frozen 4⟩
theorem RowIs.bl {w:World} {b:Nat} {e:TypeId} {l:List Value} (h:RowIs w b e l):b < w.heap.size:=(Array.getElem?_eq_some_iff.1 h).1
end Go.Proofs.YteicmbhilambpaaGreatDoor
namespace Go.Proofs.YteicmbhilambpaaGreatDoor
open Go.RowKit Sc
structure PbC where
 p:Pb
 ts:Value
 ns:Value
def pbV (c:PbC):Value:=.agg #[.int .i64 c.p.num,.string ⟨c.p.who.toArray⟩,.string ⟨c.p.tag.toArray⟩,.int .i64 c.p.til,.string ⟨c.p.doc.entity.toArray⟩,c.ts,c.ns]
def pbsL (cs:List PbC):List Pb:=cs.map PbC.p
theorem pbsL_len (cs:List PbC):(pbsL cs).length=cs.length:=by simp [pbsL]
def cfV (c:Cf):Value:=.agg #[.string ⟨c.host.toArray⟩,.int .i64 c.calls,.int .i64 c.pubs,.int .i64 c.subs,.int .i64 c.least,.int .i64 c.most,.int .i64 c.usual]
structure BoxF (w:World) (b:Nat) (c:Cf):Prop where
 c0:w.cell? ⟨b,0,none⟩=some (.string ⟨c.host.toArray⟩)
 c1:w.cell? ⟨b,1,none⟩=some (.int .i64 c.calls)
 c2:w.cell? ⟨b,2,none⟩=some (.int .i64 c.pubs)
 c3:w.cell? ⟨b,3,none⟩=some (.int .i64 c.subs)
 c4:w.cell? ⟨b,4,none⟩=some (.int .i64 c.least)
 c5:w.cell? ⟨b,5,none⟩=some (.int .i64 c.most)
 c6:w.cell? ⟨b,6,none⟩=some (.int .i64 c.usual)
def objF (c:Cf):Obj:=.cells #[.string ⟨c.host.toArray⟩,.int .i64 c.calls,.int .i64 c.pubs,.int .i64 c.subs,.int .i64 c.least,.int .i64 c.most,.int .i64 c.usual] 23
theorem boxF_new (w:World) (c:Cf):BoxF (w.alloc (objF c)) w.heap.size c:=by
 unfold objF
 constructor <;> rw [World.cell?_alloc_new] <;> rfl
theorem ret_sec {R:Int × Bool} {n:Int} {b:Bool} (h:(n,b)=R):Ending.returned (.tuple #[.int .i64 n,.bool b])=.returned (.tuple #[.int .i64 R.1,.bool R.2]):=by rw [← h]
theorem StOK.put {s:Sto} (h:StOK s) {k:Nat} (hk:k < s.l.length) {f:Pb → Pb} (hn:(f s.l[k]).num=s.l[k].num) (ht:tokenB (f s.l[k]).tag=true) (hf:∀ q ∈ s.l,q.tag ≠ (f s.l[k]).tag) (hd:checkD (f s.l[k]).doc=0) (hu:0≤(f s.l[k]).til∧(f s.l[k]).til≤571230650358):StOK ⟨s.c,s.last,s.l.modify k f⟩:=by
 have hmem:∀ q ∈ s.l.modify k f,q=f s.l[k]∨q ∈ s.l:=fun q hq=>by
  obtain ⟨i,hi,rfl⟩:=List.mem_iff_getElem.1 hq;rw [List.length_modify] at hi;rw [List.getElem_modify]
  split
  ·next e=>subst e; exact .inl rfl
  ·exact .inr (List.getElem_mem _)
 refine ⟨by simp only [List.length_modify]; exact h.len,fun i j hi hj e=>?_,fun q hq=>?_,?_,fun q hq=>?_,fun q hq=>?_,fun q hq=>?_,h.last⟩
 ·simp only [List.length_modify] at hi hj;simp only [List.getElem_modify] at e
  split at e
  ·next e1 =>
   split at e
   ·next e2=>omega
   ·subst e1; exact absurd e.symm (hf _ (List.getElem_mem _))
  ·split at e
   ·next e2=>subst e2; exact absurd e (hf _ (List.getElem_mem _))
   ·exact h.tags i j hi hj e
 ·rcases hmem q hq with rfl | hq
  ·exact ht
  ·exact h.tok q hq
 ·have hp:=h.nums;rw [List.pairwise_iff_getElem] at hp ⊢;intro i j hi hj hij;simp only [List.length_modify] at hi hj;have hb:=hp i j hi hj hij;simp only [List.getElem_modify]
  split
  ·next e1 =>
   subst e1;rw [if_neg (by omega),hn]; exact hb
  ·split
   ·next e2=>subst e2; rw [hn]; exact hb
   ·exact hb
 ·rcases hmem q hq with rfl | hq
  ·rw [hn]; exact h.num1 _ (List.getElem_mem _)
  ·exact h.num1 q hq
 ·rcases hmem q hq with rfl | hq
  ·exact hd
  ·exact h.doc q hq
 ·rcases hmem q hq with rfl | hq
  ·exact hu
  ·exact h.til q hq
theorem doS_ok {s:Sto} (hr:rightC s.c=true) (h:StOK s) (now:Int) (a:Pa):StOK (doS s now a).1:=by
 unfold doS
 split
 ·exact h
 ·next hb =>
  obtain ⟨n1,n2,n3,n4,n5⟩:=badA_no (Bool.eq_false_iff.2 hb);have hfr:=place_no n4;have hs:=secC_rng hr a.exp
  split
  ·exact h
  ·next hno =>
   split
   ·exact h
   ·split
    ·split
     ·exact h
     ·next h400 =>
      split
      ·exact h
      ·next h503 =>
       simp only [not_or] at h400;refine h.add (p:=newP s now _ a) (by omega) rfl n3 hfr (n5 (by simpa using h400.1)) ?_
       simp only [newP]; omega
    ·next hmt =>
     split
     ·exact h
     ·split
      ·exact h.sub (List.eraseIdx_sublist _ _)
      ·next hn0 =>
       have hi:pidxP s.l a.mt < s.l.length:=by
        simp only [noneP,Bool.not_eq_true,Bool.and_eq_false_iff,Bool.or_eq_false_iff,Bool.not_eq_false',decide_eq_false_iff_not] at hno
        rcases hno with hno | hno
        ·exact absurd (by simpa using hno) hmt
        ·rcases idx_two s.l a.mt with ⟨_,h2,_⟩ | ⟨k,hk,h2,_⟩
         ·have:=hno.1; omega
         ·omega
       refine h.put (f:=fun p=>goP p now (secC s.c a.exp).1 a) hi rfl n3 hfr ?_ ?_
       ·simp only [goP]
        split
        ·next hh=>exact n5 hh
        ·exact h.doc _ (List.getElem_mem _)
       ·simp only [goP]; omega
theorem token_list (l:List UInt8) (w:World) (h:l.length≤140737488355328) :
  Calls Tryz.prog 83 #[.string ⟨l.toArray⟩] w fun e w'=>e=.returned (.bool (tokenB l))∧w'=w:=token_any ⟨l.toArray⟩ w (by rw [size_list]; unfold maxLen; omega)
theorem lower_list (l:List UInt8) (w:World) (hs:l.length≤281474976710656) :
  Calls Tryz.prog 137 #[.string ⟨l.toArray⟩] w fun e w'=>e=.returned (.string ⟨(lowL l).toArray⟩)∧Below w.heap.size w w' :=
 lower_txt ⟨l.toArray⟩ w (by rw [size_list]; exact hs)
end Go.Proofs.YteicmbhilambpaaGreatDoor
namespace Go.Proofs.YteicmbhilambpaaGreatDoor
open Go.RowKit
theorem sv_mono {w:World} {B C e s n:Nat} {v:Value} {xs:List Value} (h:w.ownsRow B e s v n xs) (hc:C≤B):w.ownsRow C e s v n xs:=by
 obtain ⟨h1,h2⟩:=h;refine ⟨h1,?_⟩
 rcases h2 with h2 | ⟨g,cap,cur,hv,hg,r⟩
 ·exact Or.inl h2
 ·exact Or.inr ⟨g,cap,cur,hv,Nat.le_trans hc hg,r⟩
end Go.Proofs.YteicmbhilambpaaGreatDoor
namespace Go.Proofs.YteicmbhilambpaaGreatDoor
open Go.RowKit Sc
def tusCells (ts:List Tu):List Value:=ts.flatMap tuCells
def OwnU (w:World) (B:Nat) (v:Value) (ts:List Tu):Prop:=w.ownsRow B 109 5 v ts.length (tusCells ts)
theorem OwnU.nil (w:World) (B:Nat):OwnU w B (.slice none 0 0) []:=World.ownsRow_nil _ _ _ _
theorem OwnU.below {w w':World} {B:Nat} {v:Value} {ts:List Tu} (h:OwnU w B v ts) (hb:Below w.heap.size w w'):OwnU w' B v ts:=by
 obtain ⟨h1,h2⟩:=h;refine ⟨h1,?_⟩
 rcases h2 with h2 | ⟨g,cap,cur,hv,hg,hh,r⟩
 ·exact Or.inl h2
 ·exact Or.inr ⟨g,cap,cur,hv,hg,by rw [hb.block g (Array.getElem?_eq_some_iff.1 hh).1]; exact hh,r⟩
theorem OwnU.alloc {w:World} {B:Nat} {v:Value} {ts:List Tu} (h:OwnU w B v ts) (o:Obj):OwnU (w.alloc o) B v ts:=World.ownsRow.alloc h o
theorem OwnU.form {w:World} {B:Nat} {v:Value} {ts:List Tu} (h:OwnU w B v ts):∃ a cap,v=.slice a ts.length cap:=by
 rcases h.2 with ⟨rfl,hn⟩ | ⟨g,cap,cur,rfl,_⟩
 ·exact ⟨none,0,by rw [hn]⟩
 ·exact ⟨_,cap,rfl⟩
end Go.Proofs.YteicmbhilambpaaGreatDoor
namespace Go.Proofs.YteicmbhilambpaaGreatDoor
open Go.RowKit Go.Maps Go.WideMaps Sc
theorem own_set3P {w:World} {B e s m b:Nat} {v:Value} {xs:List Value} (h:w.ownsRow B e s v m xs) (hb:b < B) (v4 v5 v6:Value):(((w.setCell ⟨b,4,none⟩ v4).setCell ⟨b,5,none⟩ v5).setCell ⟨b,6,none⟩ v6).ownsRow B e s v m xs:=ownsRow_setCell_below (a:=⟨b,6,none⟩) (ownsRow_setCell_below (a:=⟨b,5,none⟩) (ownsRow_setCell_below (a:=⟨b,4,none⟩) h hb _) hb _) hb _
end Go.Proofs.YteicmbhilambpaaGreatDoor
