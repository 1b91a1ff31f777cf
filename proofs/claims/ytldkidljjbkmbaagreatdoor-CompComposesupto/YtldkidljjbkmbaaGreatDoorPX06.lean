/-
  UBackL, SameL, XmlL, XmlBackL, XmlDocL, OpenNode, RefCut, RefWritten, ParOwn, RefParams, OpenAddr, PidfL, OpenDoc, PubL, RowN, PubO, CompL.
-/
import Derived.Test.YtldkidljjbkmbaaGreatDoorPX05
import Derived.OpenShut
import Derived.Maps.AppendAt
import Derived.Laws.OwnMore
set_option linter.unusedVariables false
set_option linter.unusedSimpArgs false
set_option maxRecDepth 20000
namespace Go.Proofs.YtldkidljjbkmbaaGreatDoor
open Go.RowKit Sc
theorem byte_all {P:UInt8 → Prop} (h:∀ n:Fin 256,P (UInt8.ofNat n.val)) (b:UInt8):P b:=by
 have:=h ⟨b.toNat,b.toNat_lt⟩
 simpa using this
theorem parse_checked {s:List UInt8} {u:Uri} (h:parseV s=(u,0)):checkV u=0:=by
 unfold parseV at h
 split at h
 ·have:=congrArg Prod.snd h; simp at this
 split at h
 ·rename_i h2; exact absurd (congrArg Prod.snd h) h2
 unfold bothV at h
 split at h
 ·rename_i h2; exact absurd (congrArg Prod.snd h) h2
 unfold endV at h
 split at h
 ·rename_i h2; exact absurd (congrArg Prod.snd h) h2
 ·rename_i h2
  have:=congrArg Prod.fst h
  simp only at this;rw [← this];exact Classical.not_not.1 h2
def sipK:List UInt8:=[115,105,112]
def whoT (u:Uri):List UInt8:=escL usersK u.user++[64]++u.host
def whoV (u:Uri):List UInt8 × Int:=if checkV u ≠ 0 then ([],checkV u) else if u.user=[] then ([],31) else (whoT u,0)
def nameU (sch:List UInt8) (u:Uri):Uri:=⟨sch,u.user,u.host,0,[],[]⟩
theorem check_name {sch:List UInt8} {u:Uri} (hs:schemeB sch=true) (h:checkV u=0):checkV (nameU sch u)=0:=by
 obtain ⟨_,h2,h3,_⟩:=check_ok h;have h2':¬ 64 < u.user.length:=by omega
 simp [checkV,nameU,hs,h2',h3,listB,listGo]
theorem text_name {u:Uri} (hu:u.user ≠ []):textT (nameU sipK u)=[115,105,112,58]++whoT u:=by
 simp [textT,frontT,nameU,hu,parsT,hdrT,whoT,sipK]
theorem print_name {u:Uri} (h:checkV u=0) (hu:u.user ≠ []):printV (nameU sipK u)=([115,105,112,58]++whoT u,0):=by
 rw [printV,if_pos (check_name (by decide +kernel) h),text_name hu]
def hostV (s:List UInt8):List UInt8 × Int :=
 if (parseV ([115,105,112,58]++s)).2 ≠ 0 then ([],(parseV ([115,105,112,58]++s)).2)
 else if whoV (parseV ([115,105,112,58]++s)).1=(s,0) then ((parseV ([115,105,112,58]++s)).1.host,0) else ([],31)
theorem escL_len (keep l:List UInt8):(escL keep l).length≤3 * l.length:=by
 unfold escL
 induction l with
 | nil=>simp [esc]
 | cons b l ih =>
  rw [esc]
  split <;> simp <;> omega
theorem whoT_len {u:Uri} (h:checkV u=0):(whoT u).length≤257:=by
 obtain ⟨_,h2,h3,_⟩:=check_ok h
 have:=hostB_ok h3
 have:=escL_len usersK u.user
 simp [whoT]; omega
structure Nd where
 deep:Int
 name:List UInt8
 attrs:List Par
 text:List UInt8
deriving DecidableEq
def xblk (b:UInt8):Bool:=b==32 || (b==9 || (b==13 || b==10))
def xtrim (l:List UInt8):List UInt8:=((l.dropWhile xblk).reverse.dropWhile xblk).reverse
def letX (b:UInt8):Bool:=isB b.toNat 2 || b==95
def namc (b:UInt8):Bool:=letX b || (isB b.toNat 1 || (b==45 || (b==46 || b==58)))
def nameX (l:List UInt8):Bool:=l.all namc && (l.head?.any letX && decide (l.length≤64))
def signX (b:UInt8):Bool:=xblk b || !(decide (b.toNat < 32) || b==127)
def signsX (l:List UInt8):Bool:=l.all signX
def xbehind (l:List UInt8):List UInt8:=(l.reverse.dropWhile xblk).reverse
theorem takeW_app {p:UInt8 → Bool} {a:List UInt8} {c:UInt8} {r:List UInt8} (h:∀ b ∈ a,p b=true) (hc:p c=false):(a++c :: r).takeWhile p=a∧(a++c :: r).dropWhile p=c :: r:=by
 induction a with
 | nil=>simp [List.takeWhile_cons,List.dropWhile_cons,hc]
 | cons x a ih =>
  have hx:=h x (by simp);obtain ⟨i1,i2⟩:=ih (fun b hb=>h b (by simp [hb]));rw [List.cons_append,List.takeWhile_cons,List.dropWhile_cons,hx]
  simp [i1,i2]
def distinctX:List Par → Bool
 | []=>true
 | p :: ps=>ps.all (fun q=>!(q.name==p.name)) && distinctX ps
def attrsOk (l:List Par):Bool:=decide (l.length≤16) && (l.all (fun p=>nameX p.name && (p.has && signsX p.value)) && distinctX l)
def nodeOk (x:Nd):Bool:=decide (x.deep < 8) && (nameX x.name && (attrsOk x.attrs && (signsX x.text && xtrim x.text==x.text)))
def nextOk (x y:Nd):Bool:=decide (1≤y.deep∧y.deep≤x.deep+1) && (!decide (x.deep < y.deep) || x.text.isEmpty)
def stepsX:List Nd → Bool
 | []=>true
 | [x]=>nodeOk x
 | x :: y :: r=>nodeOk x && (nextOk x y && stepsX (y :: r))
def checkX (l:List Nd):Int:=if l.length < 1∨200 < l.length∨(l.head?.map (·.deep)) ≠ some 0∨stepsX l=false then 130 else 0
theorem node_facts {x:Nd} (h:nodeOk x=true):x.deep < 8∧nameX x.name=true∧(x.attrs.all fun p=>nameX p.name && p.has)=true∧xtrim x.text=x.text:=by
 simp only [nodeOk,attrsOk,Bool.and_eq_true,decide_eq_true_eq,beq_iff_eq] at h;obtain ⟨h1,h2,⟨_,h3,_⟩,_,h5⟩:=h;refine ⟨h1,h2,?_,h5⟩
 rw [List.all_eq_true] at h3 ⊢;intro p hp
 have:=h3 p hp
 simp only [Bool.and_eq_true] at this ⊢;exact ⟨this.1,this.2.1⟩
end Go.Proofs.YtldkidljjbkmbaaGreatDoor
namespace Go.Proofs.YtldkidljjbkmbaaGreatDoor
open Go.RowKit Go.ChangeShapes Go.WideShapes Go.Deep
structure NdC where
 nd:Nd
 a:Value
def ndCells (c:NdC):List Value:=[.int .i64 c.nd.deep,.string ⟨c.nd.name.toArray⟩,c.a,.string ⟨c.nd.text.toArray⟩]
structure NdAt (w:World) (ad:Addr) (k:Nat) (c:NdC):Prop where
 c0:w.cell? (ad.add (k * 4))=some (.int .i64 c.nd.deep)
 c1:w.cell? ⟨(ad.add (k * 4)).block,(ad.add (k * 4)).off+1,none⟩=some (.string ⟨c.nd.name.toArray⟩)
 c2:w.cell? ⟨(ad.add (k * 4)).block,(ad.add (k * 4)).off+2,none⟩=some c.a
 c3:w.cell? ⟨(ad.add (k * 4)).block,(ad.add (k * 4)).off+3,none⟩=some (.string ⟨c.nd.text.toArray⟩)
theorem NdAt.below {B:Nat} {w w':World} {ad:Addr} {k:Nat} {c:NdC} (h:NdAt w ad k c) (hb:Below B w w') (ha:ad.block < B):NdAt w' ad k c :=
 ⟨cell_below hb (by rw [add_block]; exact ha) h.c0,cell_below hb (by simp only [add_block]; exact ha) h.c1,cell_below hb (by simp only [add_block]; exact ha) h.c2,cell_below hb (by simp only [add_block]; exact ha) h.c3⟩
def NdsAt (w:World) (v:Value) (cs:List NdC):Prop :=
 ∃ (ao:Option Addr) (cap:Nat),v=.slice ao cs.length cap∧∀ k (hk:k < cs.length),∃ ad,ao=some ad∧ad.block < w.heap.size∧NdAt w ad k cs[k]∧ParsAt w cs[k].a cs[k].nd.attrs
def ndsL (cs:List NdC):List Nd:=cs.map NdC.nd
theorem ndsL_len (cs:List NdC):(ndsL cs).length=cs.length:=by simp [ndsL]
def SmallN (B:Nat) (x:Nd):Prop:=x.name.length≤B∧x.text.length≤B∧SmallP B x.attrs∧(Lit.int .i64 x.deep).wf=true
section
variable {H : Type} {enc : TypeId × Value → H} {W : World} {sp : Nat → Bool}
theorem bulk_all:∀ (ds:List (DataW H)),ds.length≤Rows.uptoBulkAll ds∧∀ k (hk:k < ds.length),Rows.uptoBulk ds[k]≤Rows.uptoBulkAll ds
 | []=>⟨by simp,fun k hk=>by simp at hk⟩
 | d :: ds=>by
  obtain ⟨i1,i2⟩:=bulk_all ds;have h2:1≤Rows.uptoBulk d:=by unfold Rows.uptoBulk; split <;> omega
  simp only [Rows.uptoBulkAll,List.length_cons];refine ⟨by omega,fun k hk=>?_⟩
  cases k with
  | zero=>simp only [List.getElem_cons_zero]; omega
  | succ k=>have:=i2 k (by simpa using hk); simp only [List.getElem_cons_succ]; omega
end
end Go.Proofs.YtldkidljjbkmbaaGreatDoor
namespace Go.Proofs.YtldkidljjbkmbaaGreatDoor
open Go.RowKit Sc
theorem u8_eq {a b:UInt8} (h:a=b):((a.toNat:Int)==(b.toNat:Int))=true:=by simp [h]
theorem u8_ne {a b:UInt8} (h:¬ a=b):((a.toNat:Int)==(b.toNat:Int))=false:=by
 simp only [beq_eq_false_iff_ne,ne_eq];intro e; exact h (UInt8.toNat_inj.1 (by omega))
theorem ret_cut {p:List UInt8 × List UInt8 × Bool} {x y:ByteArray} {b:Bool} (h:p=(x.data.toList,y.data.toList,b)):Ending.returned (.tuple #[.string x,.string y,.bool b])=.returned (.tuple #[.string ⟨p.1.toArray⟩,.string ⟨p.2.1.toArray⟩,.bool p.2.2]):=by
 have hx:(⟨x.data.toList.toArray⟩:ByteArray)=x:=by apply ByteArray.ext; simp
 have hy:(⟨y.data.toList.toArray⟩:ByteArray)=y:=by apply ByteArray.ext; simp
 rw [h,hx,hy]
theorem size_list (l:List UInt8):(⟨l.toArray⟩:ByteArray).size=l.length:=by simp [ByteArray.size]
theorem splitL_next {c:UInt8} {l0 r:List UInt8} {ps:List (List UInt8)} (h:splitL c l0=ps++splitL c r) (hb:(cutL c r).2.2=true):splitL c l0=(ps++[(cutL c r).1])++splitL c (cutL c r).2.1:=by
 rw [h,splitL_cut c r,if_pos hb]; simp
theorem ret_wr {p:List UInt8 × Bool} {x:List UInt8} {b:Bool} (h:p=(x,b)):Ending.returned (.tuple #[.string ⟨x.toArray⟩,.bool b])=.returned (.tuple #[.string ⟨p.1.toArray⟩,.bool p.2]):=by rw [h]
def parsCells (ps:List Par):List Value:=ps.flatMap parCells
theorem parsCells_get (ps:List Par) (k:Nat) (hk:k < ps.length):(parsCells ps)[k * 3]? = some (.string ⟨ps[k].name.toArray⟩)∧(parsCells ps)[k * 3+1]? = some (.string ⟨ps[k].value.toArray⟩)∧(parsCells ps)[k * 3+2]? = some (.bool ps[k].has):=by
 induction ps generalizing k with
 | nil=>simp at hk
 | cons p ps ih =>
  have e:parsCells (p :: ps)=parCells p++parsCells ps:=rfl
  cases k with
  | zero=>rw [e]; simp [parCells]
  | succ k =>
   have:=ih k (by simpa using hk)
   rw [e,show (k+1) * 3=k * 3+3 by omega]
   simpa [parCells] using this
def OwnP (w:World) (B:Nat) (v:Value) (ps:List Par):Prop:=w.ownsRow B 78 3 v ps.length (parsCells ps)
theorem OwnP.nil (w:World) (B:Nat):OwnP w B (.slice none 0 0) []:=World.ownsRow_nil _ _ _ _
theorem OwnP.alloc {w:World} {B:Nat} {v:Value} {ps:List Par} (h:OwnP w B v ps) (o:Obj):OwnP (w.alloc o) B v ps:=World.ownsRow.alloc h o
theorem OwnP.below {w w':World} {B:Nat} {v:Value} {ps:List Par} (h:OwnP w B v ps) (hb:Below w.heap.size w w'):OwnP w' B v ps:=by
 obtain ⟨h1,h2⟩:=h;refine ⟨h1,?_⟩
 rcases h2 with h2 | ⟨g,cap,cur,hv,hg,hh,r⟩
 ·exact Or.inl h2
 ·exact Or.inr ⟨g,cap,cur,hv,hg,by rw [hb.block g (Array.getElem?_eq_some_iff.1 hh).1]; exact hh,r⟩
theorem OwnP.parsAt {w:World} {B:Nat} {v:Value} {ps:List Par} (h:OwnP w B v ps):ParsAt w v ps:=by
 have h0:=h
 rcases h.2 with ⟨rfl,hn⟩ | ⟨g,cap,cur,rfl,hb,hg,r⟩
 ·exact Or.inl ⟨rfl,List.eq_nil_of_length_eq_zero hn⟩
 ·refine Or.inr ⟨⟨g,0,none⟩,cap,rfl,fun k hk=>⟨(Array.getElem?_eq_some_iff.1 hg).1,?_⟩⟩
  obtain ⟨c0,c1,c2⟩:=parsCells_get ps k hk;have a0:=World.ownsRow.cells h0 (g:=g) rfl (k * 3) _ c0;have a1:=World.ownsRow.cells h0 (g:=g) rfl (k * 3+1) _ c1;have a2:=World.ownsRow.cells h0 (g:=g) rfl (k * 3+2) _ c2;have e:∀ j,(⟨g,0,none⟩:Addr).add j=⟨g,j,none⟩:=fun j=>by unfold Addr.add; split <;> simp_all
  rw [e] at a0 a1 a2;unfold ParAt;rw [e];exact ⟨a0,a1,a2⟩
theorem infoPar:(Tryz.prog.info? 78).map (fun i=>(i.zero,i.size,i.bytes))=some (some (.agg #[.string .empty,.string .empty,.bool false]),3,40):=by kernel_rfl
theorem wp_appP {P:Program} (w:World) {ops:Array Oper} {rest:List Oper} {o:Oper} {a:Act} {Q:Exit → Act → World → Prop} (hgd:o.guard=none)
  (s x:Operand) (t:TypeId) (ho:o.op=Op.call { callee:=Callee.builtin Builtin.append,args:=#[s,x],argTypes:=#[t,t] }) (B:Nat) (i:TypeInfo)
  (z:Value) (ht:P.underlying t=some (TypeDesc.slice 78)) (hi:P.info? 78=some i) (hz:i.zero=some z) (hsize:i.size=3) (hby:i.bytes=40) (hzs:z.cells.size=3)
  (v:Value) (ps:List Par) (hs:a.eval s=v) (hown:OwnP w B v ps) (ad:Addr) (c:Nat) (p:Par) (hx:a.eval x=Value.slice (some ad) 1 c)
  (hnews:∀ (j:Nat) (u:Value),(parCells p)[j]? = some u → w.cell? (ad.add j)=some u)
  (hlen:ps.length≤2000000) (w0:World) (hb:Below B w0 w) (hB:B≤w.heap.size)
  (h:∀ (v':Value) (w':World),OwnP w' B v' (ps++[p]) → Below B w0 w' → B≤w'.heap.size → wpList P ops Q rest (a.put o.dst v') w'):wpList P ops Q (o :: rest) a w:=by
 refine wpList_append_own w hgd s x t ho B 78 i z 3 40 ht hi hz hsize hby hzs (by decide) v ps.length (parsCells ps) hs hown ad 1 c (parCells p) hx rfl hnews (by intro u hu; simp [parCells] at hu; rcases hu with rfl | rfl | rfl <;> rfl) (by unfold maxLen; omega) (by omega) hB ?_
 intro v' w' hown' hgr _;refine h v' w' ?_ (hb.grown hgr hB (fun k hk=>(World.ownsRow.lt hown k hk).1)) (Nat.le_trans hB hgr.size)
 unfold OwnP;have e:parsCells (ps++[p])=parsCells ps++parCells p:=by simp [parsCells]
 rw [e,List.length_append];exact hown'
def StrsAt (w:World) (v:Value) (ls:List (List UInt8)):Prop :=
 ∃ (ao:Option Addr) (cap:Nat),v=.slice ao ls.length cap∧∀ k (hk:k < ls.length),∃ a,ao=some a∧a.block < w.heap.size∧w.cell? (a.add k)=some (.string ⟨ls[k].toArray⟩)
theorem StrsAt.below {w w':World} {v:Value} {ls:List (List UInt8)} (h:StrsAt w v ls) (hb:Below w.heap.size w w'):StrsAt w' v ls:=by
 obtain ⟨ao,cap,hv,hc⟩:=h;refine ⟨ao,cap,hv,fun k hk=>?_⟩
 obtain ⟨a,e,ha,hcell⟩:=hc k hk;exact ⟨a,e,Nat.lt_of_lt_of_le ha hb.size,cell_below hb (by rw [add_block]; exact ha) hcell⟩
theorem parsOf_snoc (keep:List UInt8) (ls:List (List UInt8)) (l:List UInt8):parsOf keep (ls++[l])=match parsOf keep ls,parOf keep l with | some ps,some p=>some (ps++[p]) | _,_=>none:=by
 induction ls with
 | nil =>
  rw [List.nil_append,parsOf,parsOf]
  cases parOf keep l <;> rfl
 | cons x ls ih =>
  rw [List.cons_append,parsOf,parsOf,ih]
  cases parOf keep x <;> cases parsOf keep ls <;> cases parOf keep l <;> rfl
theorem parsOf_bad {keep:List UInt8} {ls:List (List UInt8)} {k:Nat} (hk:k < ls.length) (h:parOf keep ls[k]=none):parsOf keep ls=none:=by
 induction ls generalizing k with
 | nil=>simp at hk
 | cons x ls ih =>
  rw [parsOf]
  cases k with
  | zero=>simp at h; rw [h]
  | succ k =>
   rw [ih (by simpa using hk) (by simpa using h)]
   cases parOf keep x <;> rfl
theorem parsOf_len {keep:List UInt8} {ls:List (List UInt8)} {ps:List Par} (h:parsOf keep ls=some ps):ps.length=ls.length:=by
 induction ls generalizing ps with
 | nil=>simp [parsOf] at h; subst h; rfl
 | cons x ls ih =>
  rw [parsOf] at h
  cases hx:parOf keep x with
  | none=>rw [hx] at h; simp at h
  | some p =>
   cases hl:parsOf keep ls with
   | none=>rw [hx,hl] at h; simp at h
   | some qs=>rw [hx,hl] at h; simp at h; subst h; simp [ih hl]
theorem parOf_some {keep l:List UInt8} (h1:(writtenV keep (cutL 61 l).1).2=true) (h2:(writtenV keep (cutL 61 l).2.1).2=true):parOf keep l=some ⟨(writtenV keep (cutL 61 l).1).1,(writtenV keep (cutL 61 l).2.1).1,(cutL 61 l).2.2⟩:=by
 rw [parOf,if_pos ⟨h1,h2⟩]
theorem parOf_none {keep l:List UInt8} (h:¬ ((writtenV keep (cutL 61 l).1).2=true∧(writtenV keep (cutL 61 l).2.1).2=true)):parOf keep l=none:=by
 rw [parOf,if_neg h]
def ParsRes (keep:List UInt8) (ls:List (List UInt8)) (w w':World) (v:Value) (b:Bool):Prop :=
 (∃ ps,parsOf keep ls=some ps∧b=true∧OwnP w' w.heap.size v ps)∨(parsOf keep ls=none∧b=false∧v=.slice none 0 0)
end Go.Proofs.YtldkidljjbkmbaaGreatDoor
namespace Go.Proofs.YtldkidljjbkmbaaGreatDoor
open Go.RowKit Go.ChangeShapes Go.WideShapes Go.Deep
variable {H : Type} {enc : TypeId × Value → H} {W : World} {sp : Nat → Bool}
theorem open_strs {fuel:Nat} {cs:List Value} {x:DataW H × List MemPlace} (h:DataW.trod enc Tryz.prog W 0 sp true fuel 26 cs=some x) :
  ∃ (v:Value) (ls:List (List UInt8)),cs=[v]∧StrsAt W v ls∧((x.1=.nil∧ls=[])∨∃ sp,x.1=.slice (ls.map fun l=>.lit (.string l)) sp):=by
 rcases open_slice Tryz.underlying26 h with ⟨rfl,rfl⟩ | ⟨a,len,cap,m,n,D,Pl,rfl,_,hlc,hcm,hm,rfl,hall⟩
 ·exact ⟨_,[],rfl,⟨none,0,rfl,fun k hk=>by simp at hk⟩,Or.inl ⟨rfl,rfl⟩⟩
 ·have hlm:len≤m:=by rw [hm]; split <;> omega
  have each:∀ i,i < len → ∃ l:List UInt8,D i=.lit (.string l)∧(a.block < W.heap.size∧W.cell? (a.add i)=some (.string ⟨l.toArray⟩)):=by
   intro i hi;obtain ⟨cs',h1,h2⟩:=hall i (by omega);obtain ⟨s,rfl,hd,_⟩:=DataW.trod_string Tryz.underlying9 h2;rw [cellsStr] at h1;obtain ⟨_,_,hc⟩:=World.cells?_some h1;have c0:=hc 0 (by omega);have hc0:W.cell? (a.add i)=some (.string ⟨s.data.toList.toArray⟩):=by rw [back]; simpa [Addr.add] using c0
   refine ⟨s.data.toList,congrArg Prod.fst hd,?_,hc0⟩
   have:(a.add i).block < W.heap.size:=by
    unfold World.cell? at hc0
    cases hh:W.heap[(a.add i).block]? with
    | none=>simp [hh] at hc0
    | some o=>exact (Array.getElem?_eq_some_iff.1 hh).1
   rwa [add_block] at this
  obtain ⟨f,hf⟩:=@choose_lt (List UInt8) ⟨[]⟩ len _ each;refine ⟨_,(List.range len).map f,rfl,⟨some a,cap,by simp,fun k hk=>?_⟩,Or.inr ⟨(List.range (m - len)).map fun j=>D (len+j),?_⟩⟩
  ·simp at hk
   refine ⟨a,rfl,?_⟩
   simpa using (hf k hk).2
  ·simp only [List.map_map]
   congr 1
   apply List.map_congr_left
   intro i hi;exact (hf i (by simpa using hi)).1
theorem bulk_strs (ls:List (List UInt8)):(∀ l ∈ ls,l.length≤Rows.uptoBulkAll (ls.map fun l=>DataW.lit (H:=H) (.string l)))∧ls.length≤Rows.uptoBulkAll (ls.map fun l=>DataW.lit (H:=H) (.string l)):=by
 induction ls with
 | nil=>simp
 | cons q ls ih =>
  simp only [List.map_cons,Rows.uptoBulkAll,Rows.uptoBulk] at ih ⊢;refine ⟨fun p hp=>?_,by simp; omega⟩
  rcases List.mem_cons.1 hp with rfl | hp
  ·omega
  ·have:=ih.1 p hp; omega
end Go.Proofs.YtldkidljjbkmbaaGreatDoor
namespace Go.Proofs.YtldkidljjbkmbaaGreatDoor
open Go.RowKit Sc
structure Tu where
 id:List UInt8
 opn:Bool
 contact:List UInt8
 prio:Int
 note:List UInt8
deriving DecidableEq
structure Dc where
 entity:List UInt8
 tuples:List Tu
 notes:List (List UInt8)
deriving DecidableEq
def noD:Dc:=⟨[],[],[]⟩
def textP (s:List UInt8):Bool:=decide (s.length≤128) && (signsX s && xtrim s==s)
def idc (b:UInt8):Bool:=decide (33≤b.toNat) && decide (b.toNat≤126)
def identP (s:List UInt8):Bool:=s.all idc && (decide (1≤s.length) && decide (s.length≤64))
def prioP (t:Tu):Bool:=decide (-1≤t.prio) && (decide (t.prio≤1000) && (!t.contact.isEmpty || t.prio==-1))
def tupP (t:Tu):Bool:=identP t.id && (textP t.contact && (textP t.note && prioP t))
def distinctT:List Tu → Bool
 | []=>true
 | t :: r=>r.all (fun q=>!(q.id==t.id)) && distinctT r
def noteP (s:List UInt8):Bool:=!s.isEmpty && textP s
def checkD (d:Dc):Int:=if (hostV d.entity).2 ≠ 0∨16 < d.tuples.length∨16 < d.notes.length then 140 else if (d.tuples.all tupP && (distinctT d.tuples && d.notes.all noteP))=true then 0 else 140
def d3 (n:Nat):List UInt8:=[UInt8.ofNat (48+n / 100 % 10),UInt8.ofNat (48+n / 10 % 10),UInt8.ofNat (48+n % 10)]
def noteK:List UInt8:=[110,111,116,101]
end Go.Proofs.YtldkidljjbkmbaaGreatDoor
namespace Go.Proofs.YtldkidljjbkmbaaGreatDoor
open Go.RowKit Go.ChangeShapes Go.WideShapes Go.Deep
def tuCells (t:Tu):List Value:=[.string ⟨t.id.toArray⟩,.bool t.opn,.string ⟨t.contact.toArray⟩,.int .i64 t.prio,.string ⟨t.note.toArray⟩]
def tuV (t:Tu):Value:=.agg #[.string ⟨t.id.toArray⟩,.bool t.opn,.string ⟨t.contact.toArray⟩,.int .i64 t.prio,.string ⟨t.note.toArray⟩]
def docV (d:Dc) (ts ns:Value):Value:=.agg #[.string ⟨d.entity.toArray⟩,ts,ns]
structure TuAt (w:World) (ad:Addr) (k:Nat) (t:Tu):Prop where
 c0:w.cell? (ad.add (k * 5))=some (.string ⟨t.id.toArray⟩)
 c1:w.cell? ⟨(ad.add (k * 5)).block,(ad.add (k * 5)).off+1,none⟩=some (.bool t.opn)
 c2:w.cell? ⟨(ad.add (k * 5)).block,(ad.add (k * 5)).off+2,none⟩=some (.string ⟨t.contact.toArray⟩)
 c3:w.cell? ⟨(ad.add (k * 5)).block,(ad.add (k * 5)).off+3,none⟩=some (.int .i64 t.prio)
 c4:w.cell? ⟨(ad.add (k * 5)).block,(ad.add (k * 5)).off+4,none⟩=some (.string ⟨t.note.toArray⟩)
theorem TuAt.below {B:Nat} {w w':World} {ad:Addr} {k:Nat} {t:Tu} (h:TuAt w ad k t) (hb:Below B w w') (ha:ad.block < B):TuAt w' ad k t :=
 ⟨cell_below hb (by rw [add_block]; exact ha) h.c0,cell_below hb (by simp only [add_block]; exact ha) h.c1,cell_below hb (by simp only [add_block]; exact ha) h.c2,cell_below hb (by simp only [add_block]; exact ha) h.c3,cell_below hb (by simp only [add_block]; exact ha) h.c4⟩
def TusAt (w:World) (v:Value) (ts:List Tu):Prop :=
 ∃ (ao:Option Addr) (cap:Nat),v=.slice ao ts.length cap∧∀ k (hk:k < ts.length),∃ ad,ao=some ad∧ad.block < w.heap.size∧TuAt w ad k ts[k]
theorem TusAt.below {w w':World} {v:Value} {ts:List Tu} (h:TusAt w v ts) (hb:Below w.heap.size w w'):TusAt w' v ts:=by
 obtain ⟨ao,cap,hv,hc⟩:=h;refine ⟨ao,cap,hv,fun k hk=>?_⟩
 obtain ⟨ad,e,hlt,hcell⟩:=hc k hk;exact ⟨ad,e,Nat.lt_of_lt_of_le hlt hb.size,hcell.below hb hlt⟩
def SmallT (B:Nat) (t:Tu):Prop:=t.id.length≤B∧t.contact.length≤B∧t.note.length≤B∧(Lit.int .i64 t.prio).wf=true
structure SmallD (B:Nat) (d:Dc):Prop where
 ent:d.entity.length≤B
 tl:d.tuples.length≤B
 nl:d.notes.length≤B
 ts:∀ t ∈ d.tuples,SmallT B t
 ns:∀ s ∈ d.notes,s.length≤B
theorem cellsTup:Tryz.prog.cellsOf 48=5:=by kernel_rfl
theorem cellsTups:Tryz.prog.cellsOf 25=1:=by kernel_rfl
theorem cellsBoolD:Tryz.prog.cellsOf 4=1:=by kernel_rfl
theorem cellsStrsD:Tryz.prog.cellsOf 26=1:=by kernel_rfl
section
variable {H : Type} {enc : TypeId × Value → H} {W : World} {sp : Nat → Bool}
def TuD (d:DataW H) (t:Tu):Prop:=d=.agg [.lit (.string t.id),.lit (.bool t.opn),.lit (.string t.contact),.lit (.int .i64 t.prio),.lit (.string t.note)]
theorem open_tup {fuel:Nat} {cs:List Value} {x:DataW H × List MemPlace} (h:DataW.trod enc Tryz.prog W 0 sp true fuel 48 cs=some x) :
  ∃ t:Tu,cs=tuCells t∧TuD x.1 t∧(Lit.int .i64 t.prio).wf=true:=by
 obtain ⟨xs,n,_,hx,hl,hlen,hf⟩:=DataW.trod_struct Tryz.underlying48 h;rw [cellsTup] at hl
 match cs,hl,xs,hlen with
 | [c0,c1,c2,c3,c4],_,[y0,y1,y2,y3,y4],_ =>
  have f0:=hf 0 _ rfl;have f1:=hf 1 _ rfl;have f2:=hf 2 _ rfl;have f3:=hf 3 _ rfl;have f4:=hf 4 _ rfl
  simp [cellsStr,cellsInt,cellsBoolD] at f0 f1 f2 f3 f4
  obtain ⟨s0,e0,rfl,_⟩:=DataW.trod_string Tryz.underlying9 f0;obtain ⟨b1,e1,rfl⟩:=DataW.trod_bool Tryz.underlying4 f1;obtain ⟨s2,e2,rfl,_⟩:=DataW.trod_string Tryz.underlying9 f2;obtain ⟨i3,e3,rfl,w3⟩:=DataW.trod_int Tryz.underlying3 f3;obtain ⟨s4,e4,rfl,_⟩:=DataW.trod_string Tryz.underlying9 f4;simp only [List.cons.injEq,and_true] at e0 e1 e2 e3 e4;subst e0 e1 e2 e3 e4;subst hx;exact ⟨⟨s0.data.toList,b1,s2.data.toList,i3,s4.data.toList⟩,by simp [tuCells],by simp [TuD],w3⟩
theorem open_tups {fuel:Nat} {cs:List Value} {x:DataW H × List MemPlace} (h:DataW.trod enc Tryz.prog W 0 sp true fuel 25 cs=some x) :
  ∃ (v:Value) (ts:List Tu),cs=[v]∧TusAt W v ts∧(∀ t ∈ ts,(Lit.int .i64 t.prio).wf=true)∧((x.1=.nil∧ts=[])∨∃ ds sp,x.1=.slice ds sp∧ds.length=ts.length∧∀ k (hk:k < ts.length) (hd:k < ds.length),TuD ds[k] ts[k]):=by
 rcases open_slice Tryz.underlying25 h with ⟨rfl,rfl⟩ | ⟨a,len,cap,m,n,D,Pl,rfl,_,hlc,hcm,hm,rfl,hall⟩
 ·exact ⟨_,[],rfl,⟨none,0,rfl,fun k hk=>by simp at hk⟩,fun c hc=>by simp at hc,Or.inl ⟨rfl,rfl⟩⟩
 ·have hlm:len≤m:=by rw [hm]; split <;> omega
  have each:∀ i,i < len → ∃ t:Tu,TuD (D i) t∧((Lit.int .i64 t.prio).wf=true∧a.block < W.heap.size∧TuAt W a i t):=by
   intro i hi;obtain ⟨cs',h1,h2⟩:=hall i (by omega);obtain ⟨t,rfl,hd,hw⟩:=open_tup h2;rw [cellsTup] at h1;obtain ⟨_,_,hc⟩:=World.cells?_some h1;have c0:=hc 0 (by omega);have c1:=hc 1 (by omega);have c2:=hc 2 (by omega);have c3:=hc 3 (by omega);have c4:=hc 4 (by omega);have hc0:W.cell? (a.add (i * 5))=some (.string ⟨t.id.toArray⟩):=by simpa [Addr.add,tuCells] using c0
   refine ⟨t,hd,hw,?_,⟨hc0,?_,?_,?_,?_⟩⟩
   ·have:(a.add (i * 5)).block < W.heap.size:=by
     unfold World.cell? at hc0
     cases hh:W.heap[(a.add (i * 5)).block]? with
     | none=>simp [hh] at hc0
     | some o=>exact (Array.getElem?_eq_some_iff.1 hh).1
    rwa [add_block] at this
   ·simpa [Addr.add,tuCells] using c1
   ·simpa [Addr.add,tuCells] using c2
   ·simpa [Addr.add,tuCells] using c3
   ·simpa [Addr.add,tuCells] using c4
  obtain ⟨f,hf⟩:=@choose_lt Tu ⟨⟨[],false,[],0,[]⟩⟩ len _ each;refine ⟨_,(List.range len).map f,rfl,⟨some a,cap,by simp,fun k hk=>?_⟩,fun c hc=>?_,Or.inr ⟨_,_,rfl,by simp,fun k hk hd=>?_⟩⟩
  ·simp at hk
   obtain ⟨_,_,h2,h3⟩:=hf k hk;exact ⟨a,rfl,h2,by simpa using h3⟩
  ·obtain ⟨i,hi,rfl⟩:=List.mem_map.1 hc;exact (hf i (by simpa using hi)).2.1
  ·simp at hk
   simpa using (hf k hk).1
theorem tuD_upto {B:Nat} {d:DataW H} {t:Tu} (hd:TuD d t) (hw:(Lit.int .i64 t.prio).wf=true) (hz:Rows.uptoBulk d≤B):SmallT B t:=by
 unfold TuD at hd;subst hd;simp only [Rows.uptoBulkAll,Rows.uptoBulk] at hz;exact ⟨by omega,by omega,by omega,hw⟩
end
end Go.Proofs.YtldkidljjbkmbaaGreatDoor
namespace Go.Proofs.YtldkidljjbkmbaaGreatDoor
open Go.RowKit Sc
structure Pb where
 num:Int
 who:List UInt8
 tag:List UInt8
 til:Int
 doc:Dc
end Go.Proofs.YtldkidljjbkmbaaGreatDoor
namespace Go.Proofs.YtldkidljjbkmbaaGreatDoor
open Go.RowKit
theorem rc_row3 (w:World) (v0 v1 v2:Value) (t:TypeId):RowIs (w.alloc (.cells #[v0,v1,v2] t)) w.heap.size t [v0,v1,v2]:=by
 unfold RowIs; rw [heap_alloc_new]
structure RowC3 (w:World) (b:Nat) (v0 v1 v2:Value):Prop where
 c0:w.cell? ⟨b,0,none⟩=some v0
 c1:w.cell? ⟨b,1,none⟩=some v1
 c2:w.cell? ⟨b,2,none⟩=some v2
 f0:w.frozen? ⟨b,0,none⟩=false
 f1:w.frozen? ⟨b,1,none⟩=false
 f2:w.frozen? ⟨b,2,none⟩=false
theorem RowIs.rc3 {w:World} {b:Nat} {e:TypeId} {v0 v1 v2:Value} (h:RowIs w b e [v0,v1,v2]):RowC3 w b v0 v1 v2:=⟨h.cell 0 (by simp),h.cell 1 (by simp),h.cell 2 (by simp),h.frozen 0,h.frozen 1,h.frozen 2⟩
theorem rc_row4 (w:World) (v0 v1 v2 v3:Value) (t:TypeId):RowIs (w.alloc (.cells #[v0,v1,v2,v3] t)) w.heap.size t [v0,v1,v2,v3]:=by
 unfold RowIs; rw [heap_alloc_new]
structure RowC4 (w:World) (b:Nat) (v0 v1 v2 v3:Value):Prop where
 c0:w.cell? ⟨b,0,none⟩=some v0
 c1:w.cell? ⟨b,1,none⟩=some v1
 c2:w.cell? ⟨b,2,none⟩=some v2
 c3:w.cell? ⟨b,3,none⟩=some v3
 f0:w.frozen? ⟨b,0,none⟩=false
 f1:w.frozen? ⟨b,1,none⟩=false
 f2:w.frozen? ⟨b,2,none⟩=false
 f3:w.frozen? ⟨b,3,none⟩=false
theorem RowIs.rc4 {w:World} {b:Nat} {e:TypeId} {v0 v1 v2 v3:Value} (h:RowIs w b e [v0,v1,v2,v3]):RowC4 w b v0 v1 v2 v3:=⟨h.cell 0 (by simp),h.cell 1 (by simp),h.cell 2 (by simp),h.cell 3 (by simp),h.frozen 0,h.frozen 1,h.frozen 2,h.frozen 3⟩
theorem rc_row5 (w:World) (v0 v1 v2 v3 v4:Value) (t:TypeId):RowIs (w.alloc (.cells #[v0,v1,v2,v3,v4] t)) w.heap.size t [v0,v1,v2,v3,v4]:=by
 unfold RowIs; rw [heap_alloc_new]
structure RowC5 (w:World) (b:Nat) (v0 v1 v2 v3 v4:Value):Prop where
 c0:w.cell? ⟨b,0,none⟩=some v0
 c1:w.cell? ⟨b,1,none⟩=some v1
 c2:w.cell? ⟨b,2,none⟩=some v2
 c3:w.cell? ⟨b,3,none⟩=some v3
 c4:w.cell? ⟨b,4,none⟩=some v4
 f0:w.frozen? ⟨b,0,none⟩=false
 f1:w.frozen? ⟨b,1,none⟩=false
 f2:w.frozen? ⟨b,2,none⟩=false
 f3:w.frozen? ⟨b,3,none⟩=false
 f4:w.frozen? ⟨b,4,none⟩=false
theorem RowIs.rc5 {w:World} {b:Nat} {e:TypeId} {v0 v1 v2 v3 v4:Value} (h:RowIs w b e [v0,v1,v2,v3,v4]):RowC5 w b v0 v1 v2 v3 v4:=⟨h.cell 0 (by simp),h.cell 1 (by simp),h.cell 2 (by simp),h.cell 3 (by simp),h.cell 4 (by simp),h.frozen 0,h.frozen 1,h.frozen 2,h.frozen 3,h.frozen 4⟩
theorem RowIs.bl {w:World} {b:Nat} {e:TypeId} {l:List Value} (h:RowIs w b e l):b < w.heap.size:=(Array.getElem?_eq_some_iff.1 h).1
end Go.Proofs.YtldkidljjbkmbaaGreatDoor
namespace Go.Proofs.YtldkidljjbkmbaaGreatDoor
open Go.RowKit Sc
structure PbC where
 p:Pb
 ts:Value
 ns:Value
def pbCells (c:PbC):List Value:=[.int .i64 c.p.num,.string ⟨c.p.who.toArray⟩,.string ⟨c.p.tag.toArray⟩,.int .i64 c.p.til,.string ⟨c.p.doc.entity.toArray⟩,c.ts,c.ns]
def pbsCells (cs:List PbC):List Value:=cs.flatMap pbCells
def pbsL (cs:List PbC):List Pb:=cs.map PbC.p
theorem pbCells_len (c:PbC):(pbCells c).length=7:=rfl
theorem pbsCells_get (cs:List PbC) (k:Nat) (hk:k < cs.length) (j:Nat) (u:Value) (h:(pbCells cs[k])[j]? = some u):(pbsCells cs)[k * 7+j]? = some u:=by
 induction cs generalizing k with
 | nil=>simp at hk
 | cons c cs ih =>
  have e:pbsCells (c :: cs)=pbCells c++pbsCells cs:=rfl
  cases k with
  | zero =>
   have hj:j < 7:=by have:=(List.getElem?_eq_some_iff.1 h).1; simpa [pbCells] using this
   rw [e,List.getElem?_append_left (by rw [pbCells_len]; omega),Nat.zero_mul,Nat.zero_add];exact h
  | succ k =>
   have:=ih k (by simpa using hk) (by simpa using h)
   rw [e,List.getElem?_append_right (by rw [pbCells_len]; omega),pbCells_len,show (k+1) * 7+j - 7=k * 7+j by omega];exact this
def PbAt (w:World) (ad:Addr) (k:Nat) (c:PbC):Prop:=∀ (j:Nat) (u:Value),(pbCells c)[j]? = some u → w.cell? (ad.add (k * 7+j))=some u
structure Pb7 (w:World) (ad:Addr) (k:Nat) (c:PbC):Prop where
 c0:w.cell? (ad.add (k * 7))=some (.int .i64 c.p.num)
 c1:w.cell? ⟨(ad.add (k * 7)).block,(ad.add (k * 7)).off+1,none⟩=some (.string ⟨c.p.who.toArray⟩)
 c2:w.cell? ⟨(ad.add (k * 7)).block,(ad.add (k * 7)).off+2,none⟩=some (.string ⟨c.p.tag.toArray⟩)
 c3:w.cell? ⟨(ad.add (k * 7)).block,(ad.add (k * 7)).off+3,none⟩=some (.int .i64 c.p.til)
 c4:w.cell? ⟨(ad.add (k * 7)).block,(ad.add (k * 7)).off+4,none⟩=some (.string ⟨c.p.doc.entity.toArray⟩)
 c5:w.cell? ⟨(ad.add (k * 7)).block,(ad.add (k * 7)).off+5,none⟩=some c.ts
 c6:w.cell? ⟨(ad.add (k * 7)).block,(ad.add (k * 7)).off+6,none⟩=some c.ns
theorem add_two (ad:Addr) (a b:Nat) (hb:b ≠ 0):ad.add (a+b)=⟨(ad.add a).block,(ad.add a).off+b,none⟩:=by
 unfold Addr.add
 split <;> (split <;> simp_all <;> omega)
theorem PbAt.seven {w:World} {ad:Addr} {k:Nat} {c:PbC} (h:PbAt w ad k c):Pb7 w ad k c:=by
 have e:∀ j u,j ≠ 0 → (pbCells c)[j]? = some u → w.cell? ⟨(ad.add (k * 7)).block,(ad.add (k * 7)).off+j,none⟩=some u:=fun j u hj hu=>by
  have:=h j u hu
  rwa [add_two _ _ _ hj] at this
 exact ⟨by have:=h 0 _ rfl; simpa using this,e 1 _ (by decide) rfl,e 2 _ (by decide) rfl,e 3 _ (by decide) rfl,e 4 _ (by decide) rfl,e 5 _ (by decide) rfl,e 6 _ (by decide) rfl⟩
theorem PbAt.below {B:Nat} {w w':World} {ad:Addr} {k:Nat} {c:PbC} (h:PbAt w ad k c) (hb:Below B w w') (ha:ad.block < B):PbAt w' ad k c:=fun j u hu=>cell_below hb (by rw [add_block]; exact ha) (h j u hu)
def PbsAt (w:World) (v:Value) (cs:List PbC):Prop :=
 ∃ (ao:Option Addr) (cap:Nat),v=.slice ao cs.length cap∧cs.length≤cap∧∀ k (hk:k < cs.length),∃ ad,ao=some ad∧ad.block < w.heap.size∧PbAt w ad k cs[k]
theorem PbsAt.below {w w':World} {v:Value} {cs:List PbC} (h:PbsAt w v cs) (hb:Below w.heap.size w w'):PbsAt w' v cs:=by
 obtain ⟨ao,cap,hv,hcp,hc⟩:=h;refine ⟨ao,cap,hv,hcp,fun k hk=>?_⟩
 obtain ⟨ad,e,hlt,hcell⟩:=hc k hk;exact ⟨ad,e,Nat.lt_of_lt_of_le hlt hb.size,hcell.below hb hlt⟩
def OwnPb (w:World) (B:Nat) (v:Value) (cs:List PbC):Prop:=w.ownsRow B 43 7 v cs.length (pbsCells cs)
theorem OwnPb.pbsAt {w:World} {B:Nat} {v:Value} {cs:List PbC} (h:OwnPb w B v cs):PbsAt w v cs:=by
 have h0:=h
 rcases h.2 with ⟨rfl,hn⟩ | ⟨g,cap,cur,rfl,hb,hg,r⟩
 ·exact ⟨none,0,by rw [hn],by omega,fun k hk=>by omega⟩
 ·refine ⟨some ⟨g,0,none⟩,cap,rfl,r.1,fun k hk=>⟨_,rfl,(Array.getElem?_eq_some_iff.1 hg).1,fun j u hj=>?_⟩⟩
  exact World.ownsRow.cells h0 (g:=g) rfl (k * 7+j) _ (pbsCells_get cs k hk j u hj)
def namedC (l:List Tu) (id:List UInt8):Bool:=l.any fun t=>t.id==id
def candC (num k:Nat):List UInt8:=[112]++digL num++[45]++digL k
def giveC (l:List Tu) (num:Nat):Nat → Nat → List UInt8 → List UInt8
 | 0,_,id=>id
 | f+1,k,id=>if namedC l id=true then giveC l num f (k+1) (candC num k) else id
def tupC (l:List Tu) (num:Int) (t:Tu):List Tu:=if 16≤l.length then l else l++[⟨giveC l num.toNat 17 1 t.id,t.opn,t.contact,t.prio,t.note⟩]
def stepT (num:Int) (st:List Tu × List Tu) (t:Tu):List Tu × List Tu:=if t ∈ st.2 then st else (tupC st.1 num t,st.2++[t])
def stepN (l:List (List UInt8)) (s:List UInt8):List (List UInt8):=if s ∈ l∨16≤l.length then l else l++[s]
def pubC (st:(List Tu × List Tu) × List (List UInt8)) (p:Pb):(List Tu × List Tu) × List (List UInt8):=(p.doc.tuples.foldl (stepT p.num) st.1,p.doc.notes.foldl stepN st.2)
def foldC (l:List Pb):(List Tu × List Tu) × List (List UInt8):=l.foldl pubC (([],[]),[])
def chkC:Int → List Pb → Int
 | _,[]=>0
 | last,p :: r=>if p.num≤last then 1 else if checkD p.doc ≠ 0 then checkD p.doc else chkC p.num r
def compC (who:List UInt8) (l:List Pb):Dc × Int :=
 if checkD ⟨who,[],[]⟩ ≠ 0 then (noD,checkD ⟨who,[],[]⟩) else if chkC 0 l ≠ 0 then (noD,chkC 0 l) else (⟨who,(foldC l).1.1,(foldC l).2⟩,0)
theorem nodup_sub {α:Type} [DecidableEq α]:∀ {xs l:List α},xs.Nodup → (∀ x ∈ xs,x ∈ l) → xs.length≤l.length
 | [],_,_,_=>Nat.zero_le _
 | x :: xs,l,hn,hs=>by
  have h1:=List.nodup_cons.1 hn;have ih:=nodup_sub (xs:=xs) (l:=l.erase x) h1.2 fun y hy=>(List.mem_erase_of_ne (by rintro rfl; exact h1.1 hy)).2 (hs y (.tail _ hy));have hx:x ∈ l:=hs x (.head _);have h2:=List.length_erase_of_mem hx;have h3:0 < l.length:=List.length_pos_of_mem hx;simp only [List.length_cons];omega
theorem dig17_inj:∀ a b:Nat,a < 18 → b < 18 → digL a=digL b → a=b:=by
 have h:∀ a:Fin 18,∀ b:Fin 18,digL a.val=digL b.val → a=b:=by decide +kernel
 intro a b ha hb e
 have:=h ⟨a,ha⟩ ⟨b,hb⟩ e
 simpa using this
theorem cand_inj {num a b:Nat} (ha:a < 18) (hb:b < 18) (h:candC num a=candC num b):a=b:=by
 unfold candC at h;exact dig17_inj a b ha hb (List.append_cancel_left h)
theorem named_mem {l:List Tu} {id:List UInt8}:namedC l id=true ↔ id ∈ l.map Tu.id:=by
 unfold namedC;rw [List.any_eq_true,List.mem_map]
 constructor
 ·rintro ⟨t,ht,e⟩; exact ⟨t,ht,by simpa using e⟩
 ·rintro ⟨t,ht,e⟩; exact ⟨t,ht,by simpa using e⟩
theorem give_free {l:List Tu} {num:Nat}:∀ (f k:Nat) (id:List UInt8),(∃ j,k≤j∧j < k+f∧namedC l (candC num j)=false)∨namedC l id=false → namedC l (giveC l num f k id)=false
 | 0,k,id,h=>by
  rcases h with ⟨j,h1,h2,_⟩ | h
  ·omega
  ·exact h
 | f+1,k,id,h=>by
  unfold giveC;by_cases hn:namedC l id=true
  ·rw [if_pos hn]
   rcases h with ⟨j,h1,h2,h3⟩ | h
   ·by_cases hj:j=k
    ·subst hj;exact give_free f (j+1) _ (.inr h3)
    ·exact give_free f (k+1) _ (.inl ⟨j,by omega,by omega,h3⟩)
   ·rw [h] at hn; cases hn
  ·rw [if_neg hn]
   simpa using hn
theorem free_is {l:List Tu} (hl:l.length < 16) (num:Nat):∃ j,1≤j∧j < 1+17∧namedC l (candC num j)=false:=by
 apply Classical.byContradiction
 intro hno
 have hall:∀ j,1≤j → j < 18 → candC num j ∈ l.map Tu.id:=fun j h1 h2=>by
  rw [← named_mem]
  cases h:namedC l (candC num j) with
  | true=>rfl
  | false=>exact absurd ⟨j,h1,by omega,h⟩ hno
 have hnd:((List.range 17).map fun j=>candC num (j+1)).Nodup:=by
  unfold List.Nodup;rw [List.pairwise_iff_getElem];intro i j hi hj hij e;simp only [List.length_map,List.length_range] at hi hj;simp only [List.getElem_map,List.getElem_range] at e
  have:=cand_inj (by omega) (by omega) e
  omega
 have:=nodup_sub hnd (l:=l.map Tu.id) fun x hx=>by
  obtain ⟨j,hj,rfl⟩:=List.mem_map.1 hx;rw [List.mem_range] at hj;exact hall (j+1) (by omega) (by omega)
 simp at this
 omega
theorem given_free {l:List Tu} (hl:l.length < 16) (num:Nat) (id:List UInt8):namedC l (giveC l num 17 1 id)=false:=give_free 17 1 id (.inl (free_is hl num))
end Go.Proofs.YtldkidljjbkmbaaGreatDoor
