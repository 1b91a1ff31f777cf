/-
  NdFr, PidfL, XmlPadL, PidfBackL, PidfRoundL, StrLib, AnySet, RXL.
-/
import Derived.Test.YtdnekampnkhmfaaGreatDoorPM07
import Derived.Lib.Bytealg
import Derived.Lib.CountLaws
import Derived.Laws.Entries
import Derived.Lib.AsciiSet
import Derived.Laws.RangeAny
import Derived.Laws.Runes
import Derived.Laws.ResultCell
import Derived.Deep.WholeRow
import Derived.Deep.LoopGhost
set_option linter.unusedVariables false
set_option linter.unusedSimpArgs false
set_option maxRecDepth 20000
namespace Go.Proofs.YtdnekampnkhmfaaGreatDoor
open Go.RowKit Sc
theorem FrN.to {v v':Value} {w w':World} (h:FrN v w v' w') {B:Nat} (hB:B≤w.heap.size) (hv:∀ g,v.ownBlock=some g → B≤g):Below B w w' :=
 ⟨h.os,h.tape,h.output,h.size,fun b hb=>h.block b (Nat.lt_of_lt_of_le hb hB) (fun e=>by have:=hv b e; omega)⟩
theorem FrN.row {v v':Value} {w w':World} (h:FrN v w v' w') {b:Nat} {e:TypeId} {l:List Value} (hr:RowIs w b e l) (hb:b < w.heap.size) (hn:v.ownBlock ≠ some b):RowIs w' b e l:=by
 unfold RowIs at hr ⊢;rw [h.block b hb hn]; exact hr
theorem grown_fr {v v':Value} {w w':World} (h:w.grownBy w' v.ownBlock) (ho:v'.ownBlock=v.ownBlock∨v'.ownBlock=some w.heap.size):FrN v w v' w' :=
 ⟨h.os,h.tape,h.output,h.size,fun b hb hn=>h.block b hb (fun e=>hn e.symm),fun g hg=>by
  rcases ho with ho | ho
  ·exact .inl (by rw [← ho]; exact hg)
  ·rw [ho] at hg; injection hg with hg; exact .inr (by omega)⟩
theorem wp_appN2 {P:Program} (w:World) {ops:Array Oper} {rest:List Oper} {o:Oper} {a:Act} {Q:Exit → Act → World → Prop} (hgd:o.guard=none)
  (s x:Operand) (t:TypeId) (ho:o.op=Op.call { callee:=Callee.builtin Builtin.append,args:=#[s,x],argTypes:=#[t,t] }) (B:Nat) (i:TypeInfo)
  (z:Value) (ht:P.underlying t=some (TypeDesc.slice 52)) (hi:P.info? 52=some i) (hz:i.zero=some z) (hsize:i.size=4) (hby:i.bytes=64) (hzs:z.cells.size=4)
  (v:Value) (cs:List NdC) (hs:a.eval s=v) (hown:OwnN w B v cs) (ad:Addr) (k:Nat) (c:NdC) (hc:OwnP w B c.a c.nd.attrs) (hx:a.eval x=Value.slice (some ad) 1 k)
  (hnews:∀ (j:Nat) (u:Value),(ndCells c)[j]? = some u → w.cell? (ad.add j)=some u)
  (hlen:cs.length≤2000000) (hB:B≤w.heap.size)
  (h:∀ (v':Value) (w':World),OwnN w' B v' (cs++[c]) → FrN v w v' w' → wpList P ops Q rest (a.put o.dst v') w'):wpList P ops Q (o :: rest) a w:=by
 have one:∀ (ps:List Par) (B:Nat) (v:Value),OwnP w B v ps → v.oneCell'=true:=fun ps B v h=>by
  rcases h.2 with ⟨rfl,_⟩ | ⟨g,cap,cur,rfl,_⟩ <;> rfl
 refine wpList_append_own_at w hgd s x t ho B 52 i z 4 64 ht hi hz hsize hby hzs (by decide) v cs.length (ndsCells cs) hs hown.1 ad 1 k (ndCells c) hx rfl hnews
  (by intro u hu; simp [ndCells] at hu; rcases hu with rfl | rfl | rfl | rfl <;> first | rfl | exact one _ _ _ hc) (by unfold maxLen; omega) (by omega) hB ?_
 intro v' w' hown' hgr _ hat;have keep:∀ (ps:List Par) (u:Value),OwnP w B u ps → OwnP w' B u ps:=fun ps u hu=>World.ownsRow.kept hu hgr (rows_neN hown.1 hu (by decide));refine h v' w' ⟨?_,?_⟩ (grown_fr hgr hat)
 ·have e:ndsCells (cs++[c])=ndsCells cs++ndCells c:=by simp [ndsCells]
  rw [e,List.length_append];exact hown'
 ·intro c' hc'
  rcases List.mem_append.1 hc' with hc' | hc'
  ·exact keep _ _ (hown.2 c' hc')
  ·simp at hc'; subst hc'
   exact keep _ _ hc
structure Tu where
 id:List UInt8
 opn:Bool
 contact:List UInt8
 prio:Int
 note:List UInt8
deriving DecidableEq
structure Dc where
 entity:List UInt8
 tuples:List Tu
 notes:List (List UInt8)
deriving DecidableEq
def noD:Dc:=⟨[],[],[]⟩
def textP (s:List UInt8):Bool:=decide (s.length≤128) && (signsX s && xtrim s==s)
def idc (b:UInt8):Bool:=decide (33≤b.toNat) && decide (b.toNat≤126)
def identP (s:List UInt8):Bool:=s.all idc && (decide (1≤s.length) && decide (s.length≤64))
def prioP (t:Tu):Bool:=decide (-1≤t.prio) && (decide (t.prio≤1000) && (!t.contact.isEmpty || t.prio==-1))
def tupP (t:Tu):Bool:=identP t.id && (textP t.contact && (textP t.note && prioP t))
def distinctT:List Tu → Bool
 | []=>true
 | t :: r=>r.all (fun q=>!(q.id==t.id)) && distinctT r
def noteP (s:List UInt8):Bool:=!s.isEmpty && textP s
def checkD (d:Dc):Int:=if (hostV d.entity).2 ≠ 0∨16 < d.tuples.length∨16 < d.notes.length then 140 else if (d.tuples.all tupP && (distinctT d.tuples && d.notes.all noteP))=true then 0 else 140
def d3 (n:Nat):List UInt8:=[UInt8.ofNat (48+n / 100 % 10),UInt8.ofNat (48+n / 10 % 10),UInt8.ofNat (48+n % 10)]
def stripZ (l:List UInt8):List UInt8:=(l.reverse.dropWhile (·==48)).reverse
def decL (n:Int):List UInt8:=if n < 0∨1000 < n then [] else if n=0 then [48] else if n=1000 then [49] else [48,46]++stripZ (d3 n.toNat)
def thouV (s:List UInt8):Int :=
 if ¬ ((cutL 46 s).1=[48]∨(cutL 46 s).1=[49])∨3 < (cutL 46 s).2.1.length∨allB 1 (cutL 46 s).2.1=false then -1
 else if 1000 < (numV 10000 ((cutL 46 s).1++((cutL 46 s).2.1++List.replicate (3 - (cutL 46 s).2.1.length) 48))).1 then -1
 else (numV 10000 ((cutL 46 s).1++((cutL 46 s).2.1++List.replicate (3 - (cutL 46 s).2.1.length) 48))).1
def localX (s:List UInt8):List UInt8:=if (cutL 58 s).2.2=true then (cutL 58 s).2.1 else (cutL 58 s).1
def presenceK:List UInt8:=[112,114,101,115,101,110,99,101]
def xmlnsK:List UInt8:=[120,109,108,110,115]
def spaceK:List UInt8:=[117,114,110,58,105,101,116,102,58,112,97,114,97,109,115,58,120,109,108,58,110,115,58,112,105,100,102]
def entityK:List UInt8:=[101,110,116,105,116,121]
def presK:List UInt8:=[112,114,101,115]
def tupleK:List UInt8:=[116,117,112,108,101]
def pidK:List UInt8:=[105,100]
def pstatK:List UInt8:=[115,116,97,116,117,115]
def basicK:List UInt8:=[98,97,115,105,99]
def openK:List UInt8:=[111,112,101,110]
def closedK:List UInt8:=[99,108,111,115,101,100]
def pcontK:List UInt8:=[99,111,110,116,97,99,116]
def priorityK:List UInt8:=[112,114,105,111,114,105,116,121]
def noteK:List UInt8:=[110,111,116,101]
def atr (n v:List UInt8):Par:=⟨n,v,true⟩
def nameT:XT → List UInt8 | .mk n _ _ _=>n
def attrsOf:XT → List Par | .mk _ a _ _=>a
def textOf:XT → List UInt8 | .mk _ _ t _=>t
def kidsOf:XT → List XT | .mk _ _ _ k=>k
def statT (o:Bool):XT:=.mk pstatK [] [] [.mk basicK [] (if o then openK else closedK) []]
def contT (t:Tu):List XT:=if t.contact=[] then [] else [.mk pcontK (if t.prio=-1 then [] else [atr priorityK (decL t.prio)]) t.contact []]
def noteT (s:List UInt8):XT:=.mk noteK [] s []
def tnoteT (t:Tu):List XT:=if t.note=[] then [] else [noteT t.note]
def tupT (t:Tu):XT:=.mk tupleK [atr pidK t.id] [] (statT t.opn :: (contT t++tnoteT t))
def treeD (d:Dc):XT:=.mk presenceK [atr xmlnsK spaceK,atr entityK (presK++[58]++d.entity)] [] (d.tuples.map tupT++d.notes.map noteT)
def attG (nm:List UInt8):List Par → Option (List UInt8)
 | []=>none
 | p :: ps=>if p.name=nm then some p.value else attG nm ps
def namedX (nm:List UInt8) (ks:List XT):List XT:=ks.filter fun k=>localX (nameT k)==nm
def contP (ks:List XT):Option (List UInt8 × Int):=match namedX pcontK ks with
 | []=>some ([],-1)
 | c :: _=>match attG priorityK (attrsOf c) with
  | none=>some (textOf c,-1)
  | some p=>if thouV p < 0 then none else some (textOf c,thouV p)
def tupleT (t:XT):Option Tu:=match namedX pstatK (kidsOf t) with
 | [st]=>match namedX basicK (kidsOf st) with
  | [b] =>
   if textOf b ≠ openK∧textOf b ≠ closedK then none
   else if 1 < (namedX pcontK (kidsOf t)).length∨1 < (namedX noteK (kidsOf t)).length then none
   else (contP (kidsOf t)).map fun c=>⟨(attG pidK (attrsOf t)).getD [],textOf b==openK,c.1,c.2,(((namedX noteK (kidsOf t)).head?).map textOf).getD []⟩
  | _=>none
 | _=>none
def tuplesT:List XT → Option (List Tu)
 | []=>some []
 | t :: r=>match tupleT t with
  | none=>none
  | some x=>(tuplesT r).map (x :: ·)
def notesT (ks:List XT):List (List UInt8):=((namedX noteK ks).map textOf).filter fun s=>!s.isEmpty
def entU (t:XT):Uri × Int:=parseV ((attG entityK (attrsOf t)).getD [])
def docT (t:XT):Dc × Int :=
 if (entU t).2 ≠ 0∨localX (nameT t) ≠ presenceK then (noD,140)
 else match tuplesT (namedX tupleK (kidsOf t)) with
  | none=>(noD,140)
  | some ts=>if checkD ⟨(whoV (entU t).1).1,ts,notesT (kidsOf t)⟩ ≠ 0 then (noD,checkD ⟨(whoV (entU t).1).1,ts,notesT (kidsOf t)⟩) else (⟨(whoV (entU t).1).1,ts,notesT (kidsOf t)⟩,0)
theorem dec_back_all:∀ n:Fin 1001,thouV (decL (n.val:Int))=(n.val:Int):=by decide +kernel
theorem dec_back {n:Int} (h0:0≤n) (h1:n≤1000):thouV (decL n)=n:=by
 obtain ⟨k,rfl⟩:=Int.eq_ofNat_of_zero_le h0;exact dec_back_all ⟨k,by omega⟩
theorem dec_signs_all:∀ n:Fin 1001,signsX (decL (n.val:Int))=true∧(decL (n.val:Int)).length≤5:=by decide +kernel
theorem dec_signs {n:Int} (h0:0≤n) (h1:n≤1000):signsX (decL n)=true∧(decL n).length≤5:=by
 obtain ⟨k,rfl⟩:=Int.eq_ofNat_of_zero_le h0;exact dec_signs_all ⟨k,by omega⟩
def blanksX (l:List UInt8):Prop:=∀ b ∈ l,xblk b=true
theorem drop_blanks {l:List UInt8} (h:blanksX l):l.dropWhile xblk=[]:=by
 induction l with
 | nil=>rfl
 | cons x l ih=>rw [List.dropWhile_cons,h x (by simp),if_pos rfl]; exact ih (fun b hb=>h b (by simp [hb]))
mutual
def goodX:Nat → XT → Prop
 | d,.mk n a t k=>nodeOk ⟨d,n,a,t⟩=true∧(k=[]∨t=[])∧goodXs (d+1) k
def goodXs:Nat → List XT → Prop
 | _,[]=>True
 | d,k :: ks=>goodX d k∧goodXs d ks
end
theorem goodXs_app (d:Nat):∀ a b:List XT,goodXs d (a++b) ↔ goodXs d a∧goodXs d b
 | [],b=>by simp [goodXs]
 | k :: a,b=>by rw [List.cons_append,goodXs,goodXs,goodXs_app d a b,and_assoc]
theorem goodXs_all (d:Nat):∀ a:List XT,goodXs d a ↔ ∀ k ∈ a,goodX d k
 | []=>by simp [goodXs]
 | k :: a=>by rw [goodXs,goodXs_all d a]; simp
theorem steps_cons {x:Nd} {r:List Nd} (h:nodeOk x=true) (hr:stepsX r=true) (hn:∀ y,r.head? = some y → nextOk x y=true):stepsX (x :: r)=true:=by
 cases r with
 | nil=>simpa [stepsX] using h
 | cons y r=>simp [stepsX,h,hr,hn y rfl]
mutual
theorem steps_good:∀ (t:XT) (d:Nat) (post:List Nd),goodX d t → stepsX post=true → (∀ y,post.head? = some y → 1≤y.deep∧y.deep≤(d:Int)) → stepsX (flatX d t++post)=true
 | .mk n a tx ks,d,post,hg,hp,hh=>by
  rw [goodX] at hg;obtain ⟨h1,h2,h3⟩:=hg;obtain ⟨k1,k2⟩:=steps_goods ks (d+1) post (by omega) h3 hp (fun y hy=>⟨(hh y hy).1,by have:=(hh y hy).2; omega⟩);rw [flatX,List.cons_append];refine steps_cons h1 k1 fun y hy=>?_
  have h4:=k2 y hy;simp only [nextOk,Bool.and_eq_true,decide_eq_true_eq,Bool.or_eq_true,Bool.not_eq_true',decide_eq_false_iff_not];refine ⟨⟨h4.1,by have:=h4.2; omega⟩,?_⟩
  rcases h2 with rfl | rfl
  ·left
   rw [flatXs,List.nil_append] at hy
   have:=(hh y hy).2
   omega
  ·right; rfl
theorem steps_goods:∀ (ks:List XT) (d:Nat) (post:List Nd),1≤d → goodXs d ks → stepsX post=true → (∀ y,post.head? = some y → 1≤y.deep∧y.deep≤(d:Int)) → stepsX (flatXs d ks++post)=true∧∀ y,(flatXs d ks++post).head? = some y → 1≤y.deep∧y.deep≤(d:Int)
 | [],d,post,hd,_,hp,hh=>by rw [flatXs,List.nil_append]; exact ⟨hp,hh⟩
 | k :: ks,d,post,hd,hg,hp,hh=>by
  rw [goodXs] at hg;obtain ⟨k1,k2⟩:=steps_goods ks d post hd hg.2 hp hh;rw [flatXs,List.append_assoc];refine ⟨steps_good k d _ hg.1 k1 k2,fun y hy=>?_⟩
  obtain ⟨n,a,t,q⟩:=k;rw [flatX,List.cons_append,List.head?_cons] at hy
  injection hy with hy
  subst hy;exact ⟨by simp only; omega,by simp⟩
end
theorem check_good {t:XT} (h:goodX 0 t) (hl:(flatX 0 t).length≤200):checkX (flatX 0 t)=0:=by
 have hs:=steps_good t 0 [] h rfl (fun y hy=>by simp at hy);rw [List.append_nil] at hs;obtain ⟨n,a,tx,k⟩:=t;unfold checkX;rw [if_neg];rw [hs];rw [flatX] at hl ⊢
 simp at hl ⊢
 omega
mutual
theorem ok_good:∀ (t:XT) (d:Nat),goodX d t → okX d t=true
 | .mk n a tx ks,d,hg=>by
  rw [goodX] at hg;obtain ⟨h1,h2,h3⟩:=hg;obtain ⟨f1,f2,f3,f4⟩:=node_facts h1;have hk:=ok_goods ks (d+1) h3;simp only at f1 f2 f3 f4;rw [okX];have f1':d < 8:=by omega
  rcases h2 with rfl | rfl
  ·simp [f1',f2,f3,f4,hk]
  ·simp [f1',f2,f3,f4,hk]
theorem ok_goods:∀ (ks:List XT) (d:Nat),goodXs d ks → okXs d ks=true
 | [],d,_=>by simp [okXs]
 | k :: ks,d,hg=>by
  rw [goodXs] at hg;rw [okXs,ok_good k d hg.1,ok_goods ks d hg.2]; rfl
end
theorem host_is {s:List UInt8} (h:(hostV s).2=0):∃ u,checkV u=0∧u.user ≠ []∧s=whoT u:=by
 unfold hostV at h
 split at h
 ·next h1=>exact absurd h h1
 ·split at h
  ·next h2 =>
   generalize (parseV ([115,105,112,58]++s)).1=u at h2;unfold whoV at h2
   split at h2
   ·next h3=>simp only [Prod.mk.injEq] at h2; exact absurd h2.2 h3
   ·next h3 =>
    split at h2
    ·simp at h2
    ·next h4 =>
     simp only [Prod.mk.injEq,and_true] at h2;exact ⟨u,Classical.not_not.1 h3,h4,h2.symm⟩
  ·simp at h
theorem text_pres {u:Uri} (hu:u.user ≠ []):textT (nameU presK u)=presK++[58]++whoT u:=by
 simp [textT,frontT,nameU,hu,parsT,hdrT,whoT,presK]
theorem parse_pres {u:Uri} (h:checkV u=0) (hu:u.user ≠ []):parseV (presK++[58]++whoT u)=(nameU presK u,0):=by
 rw [← text_pres hu]; exact parse_text (check_name (by decide +kernel) h)
theorem sign_users (b:UInt8) (h:okw usersK b=true):signX b=true:=byte_all (P:=fun b=>okw usersK b=true → signX b=true) (by decide +kernel) b h
theorem sign_host (b:UInt8) (h:hob b=true):signX b=true:=byte_all (P:=fun b=>hob b=true → signX b=true) (by decide +kernel) b h
theorem sign_id (b:UInt8) (h:idc b=true):signX b=true:=byte_all (P:=fun b=>idc b=true → signX b=true) (by decide +kernel) b h
theorem who_signs {u:Uri} (h:checkV u=0):signsX (presK++[58]++whoT u)=true:=by
 obtain ⟨c1,c2,c3,_⟩:=check_ok h;unfold signsX;rw [List.all_eq_true];intro b hb;unfold whoT at hb;simp only [List.mem_append,List.mem_singleton] at hb
 rcases hb with (hb | hb) | ((hb | hb) | hb)
 ·revert b; decide +kernel
 ·subst hb; decide +kernel
 ·exact sign_users b (escL_ok _ _ b hb)
 ·subst hb; decide +kernel
 ·exact sign_host b ((host_facts c3).1 b hb)
theorem checkD_ok {d:Dc} (h:checkD d=0):(hostV d.entity).2=0∧d.tuples.length≤16∧d.notes.length≤16∧(∀ t ∈ d.tuples,tupP t=true)∧distinctT d.tuples=true∧∀ s ∈ d.notes,noteP s=true:=by
 unfold checkD at h
 split at h
 ·simp at h
 ·next h1 =>
  split at h
  ·next h2 =>
   simp only [Bool.and_eq_true,List.all_eq_true] at h2;simp only [not_or,Nat.not_lt] at h1;exact ⟨Classical.not_not.1 h1.1,h1.2.1,h1.2.2,h2.1,h2.2.1,h2.2.2⟩
  ·simp at h
theorem textP_facts {s:List UInt8} (h:textP s=true):s.length≤128∧signsX s=true∧xtrim s=s:=by
 simp only [textP,Bool.and_eq_true,decide_eq_true_eq,beq_iff_eq] at h;exact h
theorem ident_signs {s:List UInt8} (h:identP s=true):signsX s=true:=by
 simp only [identP,Bool.and_eq_true,List.all_eq_true] at h;unfold signsX;rw [List.all_eq_true];exact fun b hb=>sign_id b (h.1 b hb)
theorem tupP_facts {t:Tu} (h:tupP t=true):identP t.id=true∧textP t.contact=true∧textP t.note=true∧-1≤t.prio∧t.prio≤1000∧(t.contact=[] → t.prio=-1):=by
 simp only [tupP,prioP,Bool.and_eq_true,decide_eq_true_eq,Bool.or_eq_true,Bool.not_eq_true',beq_iff_eq] at h;obtain ⟨h1,h2,h3,h4,h5,h6⟩:=h;refine ⟨h1,h2,h3,h4,h5,fun e=>?_⟩
 rcases h6 with h6 | h6
 ·rw [e] at h6; simp at h6
 ·exact h6
theorem node_of {d:Nat} {n tx:List UInt8} {a:List Par} (hd:d < 8) (hn:nameX n=true) (ha:attrsOk a=true) (hs:signsX tx=true) (ht:xtrim tx=tx):nodeOk ⟨d,n,a,tx⟩=true:=by
 have hd':(d:Int) < 8:=by omega
 simp [nodeOk,hd',hn,ha,hs,ht]
theorem attrs_none:attrsOk []=true:=rfl
theorem attrs_one {n v:List UInt8} (hn:nameX n=true) (hv:signsX v=true):attrsOk [atr n v]=true:=by
 simp [attrsOk,distinctX,atr,hn,hv]
theorem trim_nil:xtrim []=[]:=rfl
theorem good_note {d:Nat} {s:List UInt8} (hd:d < 8) (h:textP s=true):goodX d (noteT s):=by
 obtain ⟨h1,h2,h3⟩:=textP_facts h;rw [noteT,goodX];exact ⟨node_of hd (by decide +kernel) attrs_none h2 h3,.inl rfl,trivial⟩
theorem good_stat (o:Bool):goodX 2 (statT o):=by
 rw [statT,goodX];refine ⟨node_of (by decide) (by decide +kernel) attrs_none rfl trim_nil,.inr rfl,?_,trivial⟩
 rw [goodX];refine ⟨node_of (by decide) (by decide +kernel) attrs_none ?_ ?_,.inl rfl,trivial⟩
 ·cases o <;> decide +kernel
 ·cases o <;> decide +kernel
theorem good_tup {t:Tu} (h:tupP t=true):goodX 1 (tupT t):=by
 obtain ⟨h1,h2,h3,h4,h5,h6⟩:=tupP_facts h;obtain ⟨c1,c2,c3⟩:=textP_facts h2;rw [tupT,goodX];refine ⟨node_of (by decide) (by decide +kernel) (attrs_one (by decide +kernel) (ident_signs h1)) rfl trim_nil,.inr rfl,good_stat _,?_⟩
 rw [goodXs_app]
 constructor
 ·unfold contT
  split
  ·trivial
  ·refine ⟨?_,trivial⟩
   rw [goodX];refine ⟨node_of (by decide) (by decide +kernel) ?_ c2 c3,.inl rfl,trivial⟩
   split
   ·rfl
   ·exact attrs_one (by decide +kernel) (dec_signs (by omega) h5).1
 ·unfold tnoteT
  split
  ·trivial
  ·exact ⟨good_note (by decide) h3,trivial⟩
theorem good_tree {d:Dc} (h:checkD d=0):goodX 0 (treeD d):=by
 obtain ⟨h1,h2,h3,h4,h5,h6⟩:=checkD_ok h;obtain ⟨u,k1,k2,k3⟩:=host_is h1;rw [treeD,goodX];refine ⟨node_of (by decide) (by decide +kernel) ?_ rfl trim_nil,.inr rfl,?_⟩
 ·have e1:nameX xmlnsK=true:=by decide +kernel
  have e2:nameX entityK=true:=by decide +kernel
  have e3:signsX spaceK=true:=by decide +kernel
  have e4:=who_signs k1;rw [← k3] at e4;have e5:(entityK==xmlnsK)=false:=by decide
  unfold attrsOk;simp only [List.all_cons,List.all_nil,atr,e1,e2,e3,e4,distinctX,e5,List.length_cons,List.length_nil]
  rfl
 ·rw [goodXs_app,goodXs_all,goodXs_all]
  constructor
  ·intro k hk;obtain ⟨t,ht,rfl⟩:=List.mem_map.1 hk;exact good_tup (h4 t ht)
  ·intro k hk;obtain ⟨s,hs,rfl⟩:=List.mem_map.1 hk
   have:=h6 s hs
   simp only [noteP,Bool.and_eq_true] at this;exact good_note (by decide) this.2
theorem flatXs_le (d m:Nat):∀ ks:List XT,(∀ k ∈ ks,(flatX d k).length≤m) → (flatXs d ks).length≤ks.length * m
 | [],_=>by simp [flatXs]
 | k :: ks,h=>by
  have h1:=h k (by simp);have h2:=flatXs_le d m ks fun q hq=>h q (by simp [hq]);rw [flatXs,List.length_append,List.length_cons,Nat.succ_mul]; omega
theorem tup_count (t:Tu):(flatX 1 (tupT t)).length≤5:=by
 have e:flatX 1 (tupT t)=⟨1,tupleK,[atr pidK t.id],[]⟩ :: (flatX 2 (statT t.opn)++flatXs 2 (contT t++tnoteT t)):=by rw [tupT,flatX,flatXs]; rfl
 have h1:(flatX 2 (statT t.opn)).length=2:=by rw [statT]; simp [flatX,flatXs]
 have h2:(flatXs 2 (contT t++tnoteT t)).length≤2:=by
  unfold contT tnoteT noteT;by_cases hc:t.contact=[] <;> by_cases hn:t.note=[] <;> simp [hc,hn,flatX,flatXs]
 rw [e,List.length_cons,List.length_append]; omega
theorem tree_count {d:Dc} (h:checkD d=0):(flatX 0 (treeD d)).length≤97:=by
 obtain ⟨h1,h2,h3,_⟩:=checkD_ok h;have k1:=flatXs_le 1 5 (d.tuples.map tupT) fun k hk=>by obtain ⟨t,_,rfl⟩:=List.mem_map.1 hk; exact tup_count t
 have k2:=flatXs_le 1 1 (d.notes.map noteT) fun k hk=>by obtain ⟨s,_,rfl⟩:=List.mem_map.1 hk; simp [noteT,flatX,flatXs]
 have e:∀ a b:List XT,flatXs 1 (a++b)=flatXs 1 a++flatXs 1 b:=by
  intro a b
  induction a with
  | nil=>simp [flatXs]
  | cons k a ih=>rw [List.cons_append,flatXs,flatXs,ih,List.append_assoc]
 rw [treeD,flatX,e];simp only [List.length_cons,List.length_append,List.length_map] at k1 k2 ⊢;omega
theorem tree_check {d:Dc} (h:checkD d=0):checkX (flatX 0 (treeD d))=0:=check_good (good_tree h) (by have:=tree_count h; omega)
theorem named_map {α:Type} (nm:List UInt8) (f:α → XT) (b:Bool) (l:List α) (h:∀ x ∈ l,(localX (nameT (f x))==nm)=b):namedX nm (l.map f)=if b=true then l.map f else []:=by
 unfold namedX
 induction l with
 | nil=>simp
 | cons x l ih =>
  have h1:=h x (by simp);have h2:=ih fun y hy=>h y (by simp [hy]);rw [List.map_cons,List.filter_cons,h1,h2]
  cases b <;> simp
theorem named_app (nm:List UInt8) (a b:List XT):namedX nm (a++b)=namedX nm a++namedX nm b:=by simp [namedX]
theorem open_is:∀ b:Bool,((if b=true then openK else closedK)==openK)=b
 | true=>rfl
 | false=>rfl
theorem named_kids (nm:List UInt8) (t:Tu):namedX nm (kidsOf (tupT t))=namedX nm [statT t.opn]++(namedX nm (contT t)++namedX nm (tnoteT t)):=by
 rw [← named_app,← named_app]; rfl
theorem named_stat (nm:List UInt8) (o:Bool):namedX nm [statT o]=if (localX pstatK==nm)=true then [statT o] else []:=by
 unfold namedX;rw [List.filter_cons]
 rfl
theorem named_cont (nm:List UInt8) (t:Tu):namedX nm (contT t)=if (localX pcontK==nm)=true then contT t else []:=by
 unfold contT
 split
 ·simp [namedX]
 ·unfold namedX;rw [List.filter_cons]
  rfl
theorem named_tnote (nm:List UInt8) (t:Tu):namedX nm (tnoteT t)=if (localX noteK==nm)=true then tnoteT t else []:=by
 unfold tnoteT
 split
 ·simp [namedX]
 ·unfold namedX noteT;rw [List.filter_cons]
  rfl
theorem tupleT_tup {t:Tu} (h:tupP t=true):tupleT (tupT t)=some t:=by
 obtain ⟨h1,h2,h3,h4,h5,h6⟩:=tupP_facts h;have l1:(localX pstatK==pstatK)=true:=by decide +kernel
 have l2:(localX pcontK==pstatK)=false:=by decide +kernel
 have l3:(localX noteK==pstatK)=false:=by decide +kernel
 have l4:(localX pstatK==pcontK)=false:=by decide +kernel
 have l5:(localX pcontK==pcontK)=true:=by decide +kernel
 have l6:(localX noteK==pcontK)=false:=by decide +kernel
 have l7:(localX pstatK==noteK)=false:=by decide +kernel
 have l8:(localX pcontK==noteK)=false:=by decide +kernel
 have l9:(localX noteK==noteK)=true:=by decide +kernel
 have lb:(localX basicK==basicK)=true:=by decide +kernel
 have ns:namedX pstatK (kidsOf (tupT t))=[statT t.opn]:=by
  rw [named_kids,named_stat,named_cont,named_tnote,l1,l2,l3]; rfl
 have nb:namedX basicK (kidsOf (statT t.opn))=[.mk basicK [] (if t.opn then openK else closedK) []]:=by
  show namedX basicK [.mk basicK [] (if t.opn then openK else closedK) []]=_
  simp [namedX,nameT,lb]
 have nc:namedX pcontK (kidsOf (tupT t))=contT t:=by
  rw [named_kids,named_stat,named_cont,named_tnote,l4,l5,l6]; simp
 have nn:namedX noteK (kidsOf (tupT t))=tnoteT t:=by
  rw [named_kids,named_stat,named_cont,named_tnote,l7,l8,l9]; simp
 have hc:contP (kidsOf (tupT t))=some (t.contact,t.prio):=by
  unfold contP;rw [nc];unfold contT;by_cases hcn:t.contact=[]
  ·rw [if_pos hcn]
   simp only
   rw [hcn,h6 hcn]
  ·rw [if_neg hcn];simp only [attrsOf,textOf];by_cases hp:t.prio=-1
   ·rw [if_pos hp,attG]
    simp only
    rw [hp]
   ·rw [if_neg hp,atr,attG,if_pos rfl]
    simp only
    rw [dec_back (by omega) h5,if_neg (by omega)]
 have hcl:(contT t).length≤1:=by unfold contT; split <;> simp
 have hnl:(tnoteT t).length≤1:=by unfold tnoteT; split <;> simp
 have hno:(((tnoteT t).head?).map textOf).getD []=t.note:=by
  unfold tnoteT
  split
  ·next e=>rw [e]; rfl
  ·rfl
 have hid:(attG pidK (attrsOf (tupT t))).getD []=t.id:=by
  unfold tupT attrsOf;rw [attG,atr,if_pos rfl]; rfl
 unfold tupleT;rw [ns]
 simp only
 rw [nb]
 simp only
 rw [nc,nn,hc,hid,hno];have ht:textOf (.mk basicK [] (if t.opn then openK else closedK) [])=if t.opn then openK else closedK:=rfl
 rw [ht];rw [if_neg (by cases t.opn <;> simp),if_neg (by omega)];obtain ⟨a,b,c,e,f⟩:=t;simp only [Option.map_some,Option.some.injEq,Tu.mk.injEq,true_and,and_true];exact open_is b
theorem tuplesT_map:∀ l:List Tu,(∀ t ∈ l,tupP t=true) → tuplesT (l.map tupT)=some l
 | [],_=>rfl
 | t :: l,h=>by
  rw [List.map_cons,tuplesT,tupleT_tup (h t (by simp)),tuplesT_map l fun q hq=>h q (by simp [hq])]; rfl
theorem doc_said {d:Dc} (h:checkD d=0):docT (treeD d)=(d,0):=by
 obtain ⟨h1,h2,h3,h4,h5,h6⟩:=checkD_ok h;obtain ⟨u,k1,k2,k3⟩:=host_is h1;have l1:(localX tupleK==tupleK)=true:=by decide +kernel
 have l2:(localX noteK==tupleK)=false:=by decide +kernel
 have l3:(localX tupleK==noteK)=false:=by decide +kernel
 have l4:(localX noteK==noteK)=true:=by decide +kernel
 have l5:localX presenceK=presenceK:=by decide +kernel
 have l6:¬ xmlnsK=entityK:=by decide
 have hen:entU (treeD d)=(nameU presK u,0):=by
  unfold entU treeD attrsOf;rw [attG,atr,if_neg l6,attG,atr,if_pos rfl,Option.getD_some,k3];exact parse_pres k1 k2
 have hwh:(whoV (nameU presK u)).1=d.entity:=by rw [who_name (by decide +kernel) k1 k2,k3]
 have hkt:namedX tupleK (kidsOf (treeD d))=d.tuples.map tupT:=by
  show namedX tupleK (d.tuples.map tupT++d.notes.map noteT)=_
  rw [named_app,named_map tupleK tupT true _ (fun t _=>l1),named_map tupleK noteT false _ (fun s _=>l2)]; simp
 have hkn:notesT (kidsOf (treeD d))=d.notes:=by
  unfold notesT
  show ((namedX noteK (d.tuples.map tupT++d.notes.map noteT)).map textOf).filter (fun s=>!s.isEmpty)=_
  rw [named_app,named_map noteK tupT false _ (fun t _=>l3),named_map noteK noteT true _ (fun s _=>l4)];simp only [if_true,Bool.false_eq_true,if_false,List.nil_append,List.map_map];have e:d.notes.map (textOf ∘ noteT)=d.notes:=by
   have:(textOf ∘ noteT)=id:=rfl
   rw [this,List.map_id]
  rw [e,List.filter_eq_self];intro s hs
  have:=h6 s hs
  simp only [noteP,Bool.and_eq_true] at this;exact this.1
 unfold docT;rw [hen,hkt,tuplesT_map _ h4,hkn,hwh];have hnm:localX (nameT (treeD d))=presenceK:=l5;rw [hnm];simp only [ne_eq,not_true_eq_false,or_self,if_false];have e:(⟨d.entity,d.tuples,d.notes⟩:Dc)=d:=rfl;rw [e,h]
 simp
theorem pidf_back {d:Dc} (h:checkD d=0) (hl:(prologK++printX (treeD d)).length≤4096):parseX (prologK++printX (treeD d))=(flatX 0 (treeD d),0):=by
 have:=doc_back (tree_check h) rfl (ok_good _ _ (good_tree h)) (bl:=[]) (fun b hb=>by simp at hb) (by rw [List.append_nil]; exact hl)
 rw [List.append_nil] at this;exact this
theorem idx_cases (l:List UInt8) (c:UInt8):(c ∉ l∧Lib.indexByte l c=-1)∨∃ a b,l=a++c :: b∧c ∉ a∧Lib.indexByte l c=(a.length:Int):=by
 induction l with
 | nil=>exact .inl ⟨by simp,rfl⟩
 | cons x l ih =>
  by_cases h:x=c
  ·subst h; exact .inr ⟨[],l,rfl,by simp,by simp [Lib.indexByte]⟩
  ·have hb:(x==c)=false:=by simpa using h
   rcases ih with ⟨h1,h2⟩ | ⟨a,b,h1,h2,h3⟩
   ·exact .inl ⟨by rw [List.mem_cons,not_or]; exact ⟨fun e=>h e.symm,h1⟩,by simp [Lib.indexByte,hb,h2]⟩
   ·refine .inr ⟨x :: a,b,by rw [h1]; rfl,by rw [List.mem_cons,not_or]; exact ⟨fun e=>h e.symm,h2⟩,?_⟩
    rw [Lib.indexByte,hb,h3]
    have:((a.length:Int)==-1)=false:=by rw [beq_eq_false_iff_ne]; omega
    simp [this]
set_option maxHeartbeats 400000 in
theorem slIndexByte_any (s:ByteArray) (c:UInt8) (w:World) :
  Calls Tryz.prog 171 #[.string s,.int .u8 c.toNat] w fun e w'=>e=.returned (.int .i64 (Lib.indexByte s.data.toList c))∧w'=w:=by
 have hc:(c.toNat:Int).toNat.toUInt8=c:=by simp
 go_enter Tryz.func171,Tryz.ntmps171
 go_wp2;rw [run_callFunc_extern Tryz.func194 (by kernel_rfl) (by kernel_rfl) (by kernel_rfl) (e:=Extern.BytealgIndexByte.indexByte) (by kernel_rfl),Lib.run_indexByteString,hc];simp only [Result.andThen];rw [Oper.upon_value];go_wp2;go_ret;exact ⟨rfl,rfl⟩
set_option maxHeartbeats 400000 in
theorem strIndexByte_any (s:ByteArray) (c:UInt8) (w:World) :
  Calls Tryz.prog 187 #[.string s,.int .u8 c.toNat] w fun e w'=>e=.returned (.int .i64 (Lib.indexByte s.data.toList c))∧w'=w:=by
 go_enter Tryz.func187,Tryz.ntmps187
 go_wp2_with (go_at_call 171; refine (slIndexByte_any _ _ _).mono ?_; rintro e w' ⟨rfl,rfl⟩)
 go_ret;exact ⟨rfl,rfl⟩
set_option maxHeartbeats 1000000 in
theorem slIndex_any (s:ByteArray) (c:UInt8) (w:World) :
  Calls Tryz.prog 137 #[.string s,.string ⟨#[c]⟩] w fun e w'=>e=.returned (.int .i64 (Lib.indexByte s.data.toList c))∧w'=w:=by
 have h0:(ByteArray.mk #[c]).size=1:=rfl;by_cases hs:s=⟨#[c]⟩
 ·subst hs;have hv:Hid (Lib.indexByte (ByteArray.mk #[c]).data.toList c=0):=show _=_ by simp [Lib.indexByte]
  go_enter Tryz.func137,Tryz.ntmps137
  go_wp2;go_ret;exact ⟨ret_int hv.out.symm,rfl⟩
 ·have hne:([c]==s.toList)=false:=by
   rw [beq_eq_false_iff_ne];intro e
   apply hs
   rw [ByteArray.toList_eq] at e
   apply ByteArray.ext
   exact (Array.toList_inj.1 (show s.data.toList=(#[c]:Array UInt8).toList from e.symm))
  go_enter Tryz.func137,Tryz.ntmps137
  go_wp2_with (go_at_call 171; refine (slIndexByte_any _ c _).mono ?_; rintro e w' ⟨rfl,rfl⟩)
  go_ret;exact ⟨rfl,rfl⟩
set_option maxHeartbeats 400000 in
theorem strIndex_any (s:ByteArray) (c:UInt8) (w:World) :
  Calls Tryz.prog 203 #[.string s,.string ⟨#[c]⟩] w fun e w'=>e=.returned (.int .i64 (Lib.indexByte s.data.toList c))∧w'=w:=by
 go_enter Tryz.func203,Tryz.ntmps203
 go_wp2_with (go_at_call 137; refine (slIndex_any _ c _).mono ?_; rintro e w' ⟨rfl,rfl⟩)
 go_ret;exact ⟨rfl,rfl⟩
theorem cut_data (s:ByteArray) {a b:List UInt8} {c:UInt8} (h:s.data.toList=a++c :: b):s.extract 0 a.length=⟨a.toArray⟩∧s.extract (a.length+1) s.size=⟨b.toArray⟩∧s.size=a.length+1+b.length:=by
 have hl:=len_data s;rw [h] at hl
 simp at hl
 refine ⟨?_,?_,by omega⟩
 ·rw [ext_list,h]; simp
 ·rw [ext_list,h,List.drop_append,List.drop_eq_nil_of_le (by omega),← hl];have e:a.length+1 - a.length=1:=by omega
  have e2:a.length+(b.length+1) - (a.length+1)=b.length:=by omega
  rw [e,e2]; simp
set_option maxHeartbeats 1000000 in
theorem slCut_any (s:ByteArray) (c:UInt8) (w:World) (hs:s.size≤9223372036854775807) :
  Calls Tryz.prog 89 #[.string s,.string ⟨#[c]⟩] w fun e w'=>e=.returned (.tuple #[.string ⟨(cutL c s.data.toList).1.toArray⟩,.string ⟨(cutL c s.data.toList).2.1.toArray⟩,.bool (cutL c s.data.toList).2.2])∧∃ q,w'=w.drewN q:=by
 have h0:(ByteArray.mk #[c]).size=1:=rfl
 rcases idx_cases s.data.toList c with ⟨h1,h2⟩ | ⟨a,b,h1,h2,h3⟩
 ·have hv:Hid (cutL c s.data.toList=(s.data.toList,[],false)):=cutL_miss h1;clear h1
  go_enter Tryz.func89,Tryz.ntmps89
  go_wp2_with (go_at_call 137; refine (slIndex_any _ c _).mono ?_; rintro e w' ⟨rfl,rfl⟩; rw [h2])
  go_ret3
  exact ⟨ret_cut hv.out,0,rfl⟩
 ·obtain ⟨e1,e2,e3⟩:=cut_data s h1;have hv:Hid (cutL c s.data.toList=(a,b,true)):=show _=_ by rw [h1]; exact cutL_hit h2
  have E1:Hid _:=e1;rw [e3] at e2;have E2:Hid _:=e2;clear e1 e2 h1 h2;have hk:a.length < s.size:=by omega
  have hwr:IntKind.i64.wrap ((a.length:Int)+1)=((a.length+1:Nat):Int):=by
   simp [IntKind.wrap,IntKind.bits,IntKind.signed]; omega
  go_enter Tryz.func89,Tryz.ntmps89
  go_wp2_with (go_at_call 137; refine (slIndex_any _ c _).mono ?_; rintro e w' ⟨rfl,rfl⟩; rw [h3])
  go_quiet (fail)
  go_wp2;go_ret3
  exact ⟨ret_cut (by rw [hv.out,E1.out,E2.out]),nq,rfl⟩
set_option maxHeartbeats 400000 in
theorem strCut_any (s:ByteArray) (c:UInt8) (w:World) (hs:s.size≤9223372036854775807) :
  Calls Tryz.prog 43 #[.string s,.string ⟨#[c]⟩] w fun e w'=>e=.returned (.tuple #[.string ⟨(cutL c s.data.toList).1.toArray⟩,.string ⟨(cutL c s.data.toList).2.1.toArray⟩,.bool (cutL c s.data.toList).2.2])∧∃ q,w'=w.drewN q:=by
 go_enter Tryz.func43,Tryz.ntmps43
 go_wp2_with (go_at_call 89; refine (slCut_any _ c _ hs).mono ?_; rintro e w' ⟨rfl,q,rfl⟩)
 go_ret3
 exact ⟨rfl,q,rfl⟩
set_option maxHeartbeats 400000 in
theorem strCount_any (s:ByteArray) (c:UInt8) (w:World) :
  Calls Tryz.prog 202 #[.string s,.string ⟨#[c]⟩] w fun e w'=>e=.returned (.int .i64 (Lib.countByte s.data.toList c))∧w'=w:=by
 have h0:(ByteArray.mk #[c]).size=1:=rfl
 go_enter Tryz.func202,Tryz.ntmps202
 go_wp2;rw [run_callFunc_extern Tryz.func207 (by kernel_rfl) (by kernel_rfl) (by kernel_rfl) (e:=Extern.BytealgCount.count) (by kernel_rfl),Lib.run_countString];simp only [Result.andThen];rw [Oper.upon_value];go_wp2;go_ret;exact ⟨rfl,rfl⟩
def startsB (c:UInt8) (l:List UInt8):Bool:=l.getD 0 0==c
def endsB (c:UInt8) (l:List UInt8):Bool:=l.getD (l.length - 1) 0==c
set_option maxHeartbeats 400000 in
theorem slPrefix_any (s:ByteArray) (c:UInt8) (w:World) (h0c:(0==c)=false) :
  Calls Tryz.prog 140 #[.string s,.string ⟨#[c]⟩] w fun e w'=>e=.returned (.bool (startsB c s.data.toList))∧w'=w:=by
 have h0:(ByteArray.mk #[c]).size=1:=rfl;by_cases hs:1≤s.size
 ·have e1:Hid ((s.extract 0 1).toList=[s.data.toList.getD 0 0]):=show _=_ by
   rw [ByteArray.toList_eq,ext_list];have hl:=len_data s
   cases hd:s.data.toList with
   | nil=>rw [hd] at hl; simp at hl; omega
   | cons x l=>simp
  go_enter Tryz.func140,Tryz.ntmps140
  go_wp2;go_ret;refine ⟨ret_bool ?_,rfl⟩
  rw [e1.out,startsB]
  simp
 ·have hl:Hid (startsB c s.data.toList=false):=show _=_ by
   rw [List.eq_nil_of_length_eq_zero (l:=s.data.toList) (by rw [len_data]; omega)]; exact h0c
  go_enter Tryz.func140,Tryz.ntmps140
  go_wp2;go_ret;exact ⟨ret_bool hl.out.symm,rfl⟩
set_option maxHeartbeats 400000 in
theorem strPrefix_any (s:ByteArray) (c:UInt8) (w:World) (h0c:(0==c)=false) :
  Calls Tryz.prog 91 #[.string s,.string ⟨#[c]⟩] w fun e w'=>e=.returned (.bool (startsB c s.data.toList))∧w'=w:=by
 go_enter Tryz.func91,Tryz.ntmps91
 go_wp2_with (go_at_call 140; refine (slPrefix_any _ c _ h0c).mono ?_; rintro e w' ⟨rfl,rfl⟩)
 go_ret;exact ⟨rfl,rfl⟩
set_option maxHeartbeats 400000 in
theorem slSuffix_any (s:ByteArray) (c:UInt8) (w:World) (h0c:(0==c)=false) (hs:s.size≤9223372036854775807) :
  Calls Tryz.prog 208 #[.string s,.string ⟨#[c]⟩] w fun e w'=>e=.returned (.bool (endsB c s.data.toList))∧w'=w:=by
 have h0:(ByteArray.mk #[c]).size=1:=rfl;by_cases hs:1≤s.size
 ·have e1:Hid ((s.extract (s.size - 1) s.size).toList=[s.data.toList.getD (s.size - 1) 0]):=show _=_ by
   rw [ByteArray.toList_eq,ext_list];have hl:=len_data s;have e:s.size - (s.size - 1)=1:=by omega
   rw [e,List.drop_eq_getElem_cons (by omega),List.getD_eq_getElem?_getD,List.getElem?_eq_getElem (by omega)]
   simp
  have hwr:IntKind.i64.wrap ((s.size:Int) - 1)=((s.size - 1:Nat):Int):=by
   simp [IntKind.wrap,IntKind.bits,IntKind.signed]; omega
  go_enter Tryz.func208,Tryz.ntmps208
  go_wp2;go_ret;refine ⟨ret_bool ?_,rfl⟩
  rw [e1.out,endsB,len_data]
  simp
 ·have hl:Hid (endsB c s.data.toList=false):=show _=_ by
   rw [List.eq_nil_of_length_eq_zero (l:=s.data.toList) (by rw [len_data]; omega)]; exact h0c
  go_enter Tryz.func208,Tryz.ntmps208
  go_wp2;go_ret;exact ⟨ret_bool hl.out.symm,rfl⟩
set_option maxHeartbeats 400000 in
theorem strSuffix_any (s:ByteArray) (c:UInt8) (w:World) (h0c:(0==c)=false) (hs:s.size≤9223372036854775807) :
  Calls Tryz.prog 204 #[.string s,.string ⟨#[c]⟩] w fun e w'=>e=.returned (.bool (endsB c s.data.toList))∧w'=w:=by
 go_enter Tryz.func204,Tryz.ntmps204
 go_wp2_with (go_at_call 208; refine (slSuffix_any _ c _ h0c hs).mono ?_; rintro e w' ⟨rfl,rfl⟩)
 go_ret;exact ⟨rfl,rfl⟩
theorem infoSet:(Tryz.prog.info? 139).map (fun i=>(i.zero,i.size))=some (some (.agg (Array.replicate 256 (.bool false))),256):=by kernel_rfl
theorem underSet:Tryz.prog.underlying 139=some (.array 256 4):=by kernel_rfl
theorem decode_wide (s:ByteArray) (pos:Nat) (h:pos < s.size):1≤(Utf8.decode s pos).2∧pos+(Utf8.decode s pos).2≤s.size∧∀ k,1≤k → k < (Utf8.decode s pos).2 → ∃ hk:pos+k < s.size,128≤(s[pos+k]'hk).toNat:=by
 have hg:∀ k (hk:pos+k < s.size),s.get! (pos+k)=s[pos+k]'hk:=fun k hk=>by simp [ByteArray.get!,getElem!_pos,hk]; rfl
 have hc:∀ k,(decide (pos+k < s.size) && ((s.get! (pos+k)).toNat / 64==2))=true → ∃ hk:pos+k < s.size,128≤(s[pos+k]'hk).toNat:=fun k hk=>by
  simp only [Bool.and_eq_true,decide_eq_true_eq,beq_iff_eq] at hk;refine ⟨hk.1,?_⟩
  have:=hk.2
  rw [hg k hk.1] at this;omega
 have hlt:∀ k,(decide (pos+k < s.size) && ((s.get! (pos+k)).toNat / 64==2))=true → pos+k < s.size:=fun k hk=>(hc k hk).1;have fin:∀ (m:Nat),1≤m → (∀ k,1≤k → k < m → (decide (pos+k < s.size) && ((s.get! (pos+k)).toNat / 64==2))=true) → 1≤m∧pos+m≤s.size∧∀ k,1≤k → k < m → ∃ hk:pos+k < s.size,128≤(s[pos+k]'hk).toNat:=by
  intro m hm hall;refine ⟨hm,?_,fun k h1 h2=>hc k (hall k h1 h2)⟩
  by_cases h1:m=1
  ·omega
  ·have:=hlt (m - 1) (hall (m - 1) (by omega) (by omega)); omega
 have two:∀ {a:Bool},(a && (decide (pos+1 < s.size) && ((s.get! (pos+1)).toNat / 64==2)))=true → ∀ k,1≤k → k < 2 → (decide (pos+k < s.size) && ((s.get! (pos+k)).toNat / 64==2))=true:=by
  intro a ha k h1 h2;rw [Bool.and_eq_true] at ha;obtain rfl:k=1:=by omega
  exact ha.2
 simp only [Utf8.decode]
 split
 ·exact fin 1 (Nat.le_refl _) (fun k h1 h2=>by omega)
 split
 ·rename_i h2
  split
  ·exact fin 2 (by omega) (two h2)
  ·exact fin 1 (Nat.le_refl _) (fun k h1 h2=>by omega)
 split
 ·rename_i h3
  split
  ·refine fin 3 (by omega) (fun k h1 h2=>?_)
   rw [Bool.and_eq_true,Bool.and_eq_true] at h3;obtain ⟨⟨_,a1⟩,a2⟩:=h3
   rcases (show k=1∨k=2 by omega) with rfl | rfl
   ·exact a1
   ·exact a2
  ·exact fin 1 (Nat.le_refl _) (fun k h1 h2=>by omega)
 split
 ·rename_i h3
  split
  ·refine fin 4 (by omega) (fun k h1 h2=>?_)
   rw [Bool.and_eq_true,Bool.and_eq_true,Bool.and_eq_true] at h3;obtain ⟨⟨⟨_,a1⟩,a2⟩,a3⟩:=h3
   rcases (show k=1∨k=2∨k=3 by omega) with rfl | rfl | rfl
   ·exact a1
   ·exact a2
   ·exact a3
  ·exact fin 1 (Nat.le_refl _) (fun k h1 h2=>by omega)
 ·exact fin 1 (Nat.le_refl _) (fun k h1 h2=>by omega)
theorem encode_high {c:Nat} (h:128≤c):∃ (r:List UInt8) (b:UInt8),Utf8.encode (c:Int)=⟨(r++[b]).toArray⟩∧1≤r.length∧r.length≤3∧128≤b.toNat:=by
 have hb:∀ n:Nat,n < 64 → 128≤(UInt8.ofNat (128+n)).toNat:=fun n hn=>by simp [UInt8.toNat_ofNat']; omega
 unfold Utf8.encode;generalize hd:(if Utf8.valid (c:Int)=true then (c:Int).toNat else Utf8.runeError)=d;have hd2:128≤d:=by
  rw [← hd]
  split
  ·simpa using h
  ·decide
 have h3:=hb (d % 64) (by omega)
 simp only
 rw [if_neg (by omega)]
 split
 ·exact ⟨[UInt8.ofNat (192+d / 64)],UInt8.ofNat (128+d % 64),rfl,by simp,by simp,h3⟩
 split
 ·exact ⟨[UInt8.ofNat (224+d / 4096),UInt8.ofNat (128+d / 64 % 64)],UInt8.ofNat (128+d % 64),rfl,by simp,by simp,h3⟩
 ·exact ⟨[UInt8.ofNat (240+d / 262144),UInt8.ofNat (128+d / 4096 % 64),UInt8.ofNat (128+d / 64 % 64)],UInt8.ofNat (128+d % 64),rfl,by simp,by simp,h3⟩
theorem wp_load_new {P:Program} {w:World} {ops:Array Oper} {rest:List Oper} {o:Oper} {a:Act} {Q:Exit → Act → World → Prop} (hgd:o.guard=none) (p:Operand) (t:TypeId) (ho:o.op=Op.load t p)
  (c:Array Value) (n:Nat) (e:TypeId) (hu:P.underlying t=some (.array n e)) (hi:(P.info? t).map (·.size)=some c.size) (hp:a.eval p=.pointer (some ⟨w.heap.size,0,none⟩))
  (h:wpList P ops Q rest (a.put o.dst (.agg c)) (w.alloc (.cells c t))):wpList P ops Q (o :: rest) a (w.alloc (.cells c t)):=by
 refine wpList_plain hgd fun K hK=>?_
 have hr:=run_loadAt_new (P:=P) w t c n e hu hi;unfold Oper.wp execOp;simp only [ho,hp,Sem.run_bind,Sem.run_pure,Result.andThen_ok,hr];exact hK _ _ h
theorem wp_store_new {P:Program} {w:World} {ops:Array Oper} {rest:List Oper} {o:Oper} {a:Act} {Q:Exit → Act → World → Prop} (hgd:o.guard=none) (p x:Operand) (t:TypeId) (ho:o.op=Op.store t p x) (hd:o.dst=none)
  (c c':Array Value) (hi:(P.info? t).map (·.size)=some c'.size) (hcc:c.size=c'.size) (h1:c'.all (·.oneCell')=true) (g:Nat) (hg:w.heap.size=g) (hp:a.eval p=.pointer (some ⟨g,0,none⟩)) (hx:a.eval x=.agg c')
  (h:wpList P ops Q rest a (w.alloc (.cells c' t))):wpList P ops Q (o :: rest) a (w.alloc (.cells c t)):=by
 refine wpList_plain hgd fun K hK=>?_
 have hr:=run_storeAt_new (P:=P) w t c c' hi hcc h1;rw [hg] at hr;unfold Oper.wp execOp;simp only [ho,hp,hx,Sem.run_bind,Sem.run_pure,Result.andThen_ok,hr];exact hK _ _ (by rw [hd]; exact h)
set_option maxHeartbeats 1000000 in
set_option maxRecDepth 100000 in
theorem makeSet_any (chars:ByteArray) (w:World) (hs:chars.size < 4294967281) (hascii:∀ (j:Nat) b,chars.data.toList[j]? = some b → b.toNat < 128) :
  Calls Tryz.prog 97 #[.string chars] w fun e w'=>e=.returned (.tuple #[.agg (Lib.setCells chars.data.toList),.bool true])∧w'=w.alloc (.cells (Lib.setCells chars.data.toList) 139):=by
 have HA:=hid hascii;clear hascii;have hzv:=(zero_of_info infoSet).1
 go_enter Tryz.func97,Tryz.ntmps97
 go_wp2;rw [← Lib.setCells_nil]
 go_loopg [4] chars.size (fun g s4 wx=>∃ i:Nat,i+g=chars.size∧s4=.int .i64 i∧wx=w.alloc (.cells (Lib.setCells (chars.data.toList.take i)) 139))
 case atStart=>exact ⟨0,by omega,rfl,rfl⟩
 case round =>
  obtain ⟨i,hig,rfl,rfl⟩:=hrel
  cases gk with
  | zero =>
   obtain rfl:i=chars.size:=by omega
   have hiz:¬ ((chars.size:Int) < (chars.size:Int)):=by omega
   rw [show chars.data.toList.take chars.size=chars.data.toList from take_all chars chars.size (Nat.le_refl _)];have hi138:=(zero_of_info infoSet).2;have hsz:=Lib.setCells_size chars.data.toList;have hi2:=hid (show (Tryz.prog.info? 139).map (·.size)=some (Lib.setCells chars.data.toList).size by rw [hsz]; exact hi138);have hld:=run_loadVar_new (P:=Tryz.prog) w 139 (Lib.setCells chars.data.toList) 256 4 underSet (by rw [hsz]; exact hi138);clear hig;have HLD:=hid hld;clear hld hi138;go_wp2_with (first | (refine wp_load_new rfl (.tmp 2) 139 rfl (Lib.setCells chars.data.toList) 256 4 underSet hi2.out rfl ?_) | (refine wp_store_new rfl (.tmp 2) (.tmp 20) 139 rfl rfl (Lib.setCells chars.data.toList) (Lib.setCells chars.data.toList) hi2.out rfl (Lib.setCells_one _) _ rfl rfl rfl ?_))
   (try simp only [Exit.inBlock,Exit.then])
   refine bodyPost_ret (v:=.tuple #[.agg (Lib.setCells chars.data.toList),.bool true]) ?_ rfl ⟨rfl,rfl⟩
   rw [results_cell_tmp rfl]
   simp [asAddr,Result.andThen,HLD.out]
  | succ g =>
   have hi:i < chars.size:=by omega
   have hiz:(i:Int) < (chars.size:Int):=by omega
   obtain ⟨x,hx⟩:∃ x:UInt8,chars[i]'hi=x:=⟨_,rfl⟩
   have hxl:chars.data.toList[i]? = some x:=by rw [← hx]; exact getL chars i hi
   have hx128:¬ ((128:Int)≤(x.toNat:Int)):=by have:=HA.out i x hxl; omega
   have hx256:(x.toNat:Int) < 256:=by have:=HA.out i x hxl; omega
   have hcell:=Lib.setCells_at (chars.data.toList.take i) x;have Hx:=hid hxl;clear hxl;go_wp2
   go_roundg g
   case measure=>omega
   case rel=>exact ⟨i+1,by omega,by first | rfl | simp,by rw [List.take_add_one,Hx.out]; simp only [Option.toList]; rw [Lib.setCells_snoc]⟩
set_option maxHeartbeats 400000 in
theorem setHas_any (b:Nat) (x:UInt8) (v:Bool) (w:World) (hc:w.cell? ⟨b,x.toNat,none⟩=some (.bool v)) :
  Calls Tryz.prog 143 #[.pointer (some ⟨b,0,none⟩),.int .u8 x.toNat] w fun e w'=>e=.returned (.bool v)∧w'=w:=by
 have hx256:(x.toNat:Int) < 256:=by have:=UInt8.toNat_lt x; omega
 go_enter Tryz.func143,Tryz.ntmps143
 go_wp2;go_ret;exact ⟨rfl,rfl⟩
set_option maxHeartbeats 400000 in
theorem useSet_any (n:Int) (w:World):Calls Tryz.prog 180 #[.int .i64 n] w fun e w'=>e=.returned (.bool (decide (8 < n)))∧w'=w:=by
 go_enter Tryz.func180,Tryz.ntmps180
 go_wp2;go_ret;exact ⟨rfl,rfl⟩
set_option maxHeartbeats 400000 in
theorem validRune_any (c:Nat) (w:World):Calls Tryz.prog 197 #[.int .i32 c] w fun e w'=>(∃ b,e=.returned (.bool b))∧w'=w:=by
 have h0:(0:Int)≤(c:Int):=by omega
 by_cases h1:(c:Int) < 55296
 ·go_enter Tryz.func197,Tryz.ntmps197
  go_wp2;go_ret;exact ⟨by first | exact Or.inl rfl | exact Or.inr rfl | exact ⟨_,rfl⟩,rfl⟩
 ·by_cases h2:(57343:Int) < (c:Int)
  ·by_cases h3:(c:Int)≤1114111
   ·go_enter Tryz.func197,Tryz.ntmps197
    go_wp2;go_ret;exact ⟨by first | exact Or.inl rfl | exact Or.inr rfl | exact ⟨_,rfl⟩,rfl⟩
   ·go_enter Tryz.func197,Tryz.ntmps197
    go_wp2;go_ret;exact ⟨by first | exact Or.inl rfl | exact Or.inr rfl | exact ⟨_,rfl⟩,rfl⟩
  ·go_enter Tryz.func197,Tryz.ntmps197
   go_wp2;go_ret;exact ⟨by first | exact Or.inl rfl | exact Or.inr rfl | exact ⟨_,rfl⟩,rfl⟩
def runL (p:UInt8 → Bool) (l:List UInt8) (at':Nat):Nat:=at'+((l.drop at').takeWhile p).length
end Go.Proofs.YtdnekampnkhmfaaGreatDoor
