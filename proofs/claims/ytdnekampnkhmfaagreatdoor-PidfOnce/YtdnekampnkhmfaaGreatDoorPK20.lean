/-
  RX10, XLawL, RefParams, OpenDoc, OwnT, PNd, NumL, PdL, PR2, StrSplit, RefHost.
-/
import Derived.Test.YtdnekampnkhmfaaGreatDoorPK19
set_option linter.unusedVariables false
set_option linter.unusedSimpArgs false
set_option maxRecDepth 20000
namespace Go.Proofs.YtdnekampnkhmfaaGreatDoor
open Go.RowKit Sc
theorem drop_nd {cs:List NdC} {k:Nat} {x:Nd} {r:List Nd} (h:(ndsL cs).drop k=x :: r):∃ h:k < cs.length,cs[k].nd=x∧(ndsL cs).drop (k+1)=r:=by
 have hk:k < (ndsL cs).length:=by
  apply Classical.byContradiction
  intro hk;rw [List.drop_eq_nil_of_le (by omega)] at h; cases h
 have e:=List.drop_eq_getElem_cons hk;rw [h] at e;simp only [List.cons.injEq] at e;refine ⟨by rw [ndsL_len] at hk; exact hk,?_,e.2.symm⟩
 rw [e.1]; simp [ndsL]
theorem drop_more {cs:List NdC} {k:Nat} {a r:List Nd} (h:(ndsL cs).drop k=a++r):(ndsL cs).drop (k+a.length)=r:=by
 rw [← List.drop_drop,h,List.drop_left]
theorem attrsT_snoc {ps:List Par} {k:Nat} (h:k < ps.length):attrsT (ps.take (k+1))=attrsT (ps.take k)++attrT ps[k]:=by
 rw [List.take_succ_eq_append_getElem h];unfold attrsT;rw [List.flatMap_append,List.flatMap_singleton]
theorem printXs_app (a b:List XT):printXs (a++b)=printXs a++printXs b:=by
 induction a with
 | nil=>rfl
 | cons x a ih=>rw [List.cons_append,printXs,printXs,ih,List.append_assoc]
theorem flatXs_app (d:Nat) (a b:List XT):flatXs d (a++b)=flatXs d a++flatXs d b:=by
 induction a with
 | nil=>rfl
 | cons x a ih=>rw [List.cons_append,flatXs,flatXs,ih,List.append_assoc]
theorem flat_head (d:Nat) (t:XT):∃ x r,flatX d t=x :: r∧x.deep=d:=by
 obtain ⟨n,a,tx,k⟩:=t;exact ⟨_,_,by rw [flatX],rfl⟩
theorem post_head {d:Nat} {ks:List XT} {post:List Nd} (h:∀ x,post.head? = some x → x.deep≤(d:Int)):∀ x,(flatXs (d+1) ks++post).head? = some x → x.deep≤((d+1:Nat):Int):=by
 intro x hx
 cases ks with
 | nil=>rw [flatXs,List.nil_append] at hx; have:=h x hx; omega
 | cons k ks =>
  obtain ⟨y,r,e,hy⟩:=flat_head (d+1) k;rw [flatXs,e] at hx
  simp at hx
  subst hx; omega
theorem sz_in {n:List UInt8} {a:List Par} {t:List UInt8} {ks done rest:List XT} {k:XT} {N:Nat} (h:szX (.mk n a t ks)≤N+1) (e:ks=done++k :: rest):szX k≤N:=by
 have key:∀ l:List XT,szX k≤szXs (l++k :: rest):=fun l=>by
  induction l with
  | nil=>rw [List.nil_append,szXs]; omega
  | cons x l ih=>rw [List.cons_append,szXs]; omega
 have:=key done
 rw [szX,e] at h;omega
theorem attrT_len (p:Par):(attrT p).length=4+p.name.length+(escX p.value).length:=by unfold attrT; simp; omega
theorem attrsT_len {ps:List Par} {j:Nat} (h:j < ps.length):(attrsT (ps.take j)).length+(attrT ps[j]).length≤(attrsT ps).length:=by
 have e:=List.take_append_drop (j+1) ps;have h1:attrsT ps=attrsT (ps.take (j+1))++attrsT (ps.drop (j+1)):=by
  conv=>lhs; rw [← e]
  unfold attrsT; rw [List.flatMap_append]
 rw [h1,attrsT_snoc h,List.length_append,List.length_append]; omega
theorem print_nil {nm:List UInt8} {ps:List Par} {tx:List UInt8} {ks:List XT} (h:escX tx++printXs ks=[]):printX (.mk nm ps tx ks)=[60]++nm++attrsT ps++[47,62]:=by
 rw [printX,if_pos h]
theorem print_in {nm:List UInt8} {ps:List Par} {tx:List UInt8} {ks:List XT} (h:escX tx++printXs ks ≠ []):printX (.mk nm ps tx ks)=[60]++nm++attrsT ps++([62]++(escX tx++printXs ks)++([60,47]++nm++[62])):=by
 rw [printX,if_neg h]
theorem print_len (nm:List UInt8) (ps:List Par) (tx:List UInt8) (ks:List XT):3+nm.length+(attrsT ps).length+(escX tx).length+(printXs ks).length≤(printX (.mk nm ps tx ks)).length:=by
 by_cases h:escX tx++printXs ks=[]
 ·rw [print_nil h]
  have:=congrArg List.length h
  simp at this ⊢
  simp [this]; omega
 ·rw [print_in h]
  simp; omega
def attW (p:Par):Nat:=5+p.name.length+p.value.length
def attsW (l:List Par):Nat:=(l.map attW).sum
def ndW (x:Nd):Nat:=5+x.name.length+x.text.length+attsW x.attrs
def ndsW (l:List Nd):Nat:=(l.map ndW).sum
theorem ndsW_app (a b:List Nd):ndsW (a++b)=ndsW a+ndsW b:=by simp [ndsW]
theorem attsW_le {l:List Par} {K:Nat} (h:∀ p ∈ l,attW p≤K):attsW l≤l.length * K:=by
 induction l with
 | nil=>simp [attsW]
 | cons a l ih =>
  have e:attsW (a :: l)=attW a+attsW l:=by simp [attsW]
  have h1:=h a (by simp);have h2:=ih fun p hp=>h p (by simp [hp]);rw [e,List.length_cons,Nat.succ_mul]; omega
theorem ndsW_le {l:List Nd} {K:Nat} (h:∀ x ∈ l,ndW x≤K):ndsW l≤l.length * K:=by
 induction l with
 | nil=>simp [ndsW]
 | cons a l ih =>
  have e:ndsW (a :: l)=ndW a+ndsW l:=by simp [ndsW]
  have h1:=h a (by simp);have h2:=ih fun p hp=>h p (by simp [hp]);rw [e,List.length_cons,Nat.succ_mul]; omega
theorem attrsT_W (l:List Par):(attrsT l).length≤6 * attsW l:=by
 induction l with
 | nil=>simp [attrsT]
 | cons a l ih =>
  have e:attsW (a :: l)=attW a+attsW l:=by simp [attsW]
  have e2:attrsT (a :: l)=attrT a++attrsT l:=rfl;have h1:=escX_len a.value;rw [e,e2,List.length_append,attrT_len];unfold attW;omega
mutual
theorem printX_W (d:Nat):∀ t:XT,(printX t).length≤6 * ndsW (flatX d t)
 | .mk n a tx ks=>by
  have h1:=printXs_W (d+1) ks;have h2:=attrsT_W a;have h3:=escX_len tx;have e:ndsW (flatX d (.mk n a tx ks))=(5+n.length+tx.length+attsW a)+ndsW (flatXs (d+1) ks):=by rw [flatX]; simp [ndsW,ndW]
  rw [e,printX]
  split
  ·simp only [List.length_append,List.length_cons,List.length_nil]; omega
  ·simp only [List.length_append,List.length_cons,List.length_nil]; omega
theorem printXs_W (d:Nat):∀ ks:List XT,(printXs ks).length≤6 * ndsW (flatXs d ks)
 | []=>by simp [printXs]
 | k :: ks=>by
  have h1:=printX_W d k;have h2:=printXs_W d ks;rw [printXs,flatXs,List.length_append,ndsW_app]; omega
end
theorem ok_W {l:List Nd} {K:Nat} (h:checkX l=0) (hk:∀ x ∈ l,x.name.length≤K∧x.text.length≤K∧∀ p ∈ x.attrs,p.name.length≤K∧p.value.length≤K):ndsW l≤200 * (17 * (5+2 * K)):=by
 obtain ⟨h1,h2,h3,h4⟩:=checkX_ok h;have hn:∀ x ∈ l,nodeOk x=true:=by
  intro x hx;obtain ⟨a,b,rfl⟩:=List.append_of_mem hx;exact (steps_tail (steps_drop a (x :: b) h4)).1
 have hw:∀ x ∈ l,ndW x≤17 * (5+2 * K):=by
  intro x hx;obtain ⟨k1,k2,k3⟩:=hk x hx;have ha:x.attrs.length≤16:=by
   have:=hn x hx
   simp only [nodeOk,attrsOk,Bool.and_eq_true,decide_eq_true_eq] at this;exact this.2.2.1.1
  have hp:=attsW_le (l:=x.attrs) (K:=5+2 * K) fun p hp=>by have:=k3 p hp; unfold attW; omega
  have hm:x.attrs.length * (5+2 * K)≤16 * (5+2 * K):=Nat.mul_le_mul_right _ ha;unfold ndW; omega
 have:=ndsW_le hw
 have hm:l.length * (17 * (5+2 * K))≤200 * (17 * (5+2 * K)):=Nat.mul_le_mul_right _ h2;omega
theorem parseX_ok {s:List UInt8} {l:List Nd} (h:parseX s=(l,0)):checkX l=0:=by
 unfold parseX at h
 split at h
 ·simp at h
 ·split at h
  ·simp at h
  ·split at h
   ·simp at h
   ·split at h
    ·next hc=>simp only [Prod.mk.injEq,and_true] at h; rw [← h]; exact hc.2
    ·simp at h
theorem parseX_sm {s:List UInt8} {l:List Nd} (h:parseX s=(l,0)):∀ x ∈ l,SmNd 4096 x:=by
 rw [parseC_is] at h
 split at h
 ·simp at h
 ·next h4 =>
  cases ho:docC s with
  | none=>rw [ho] at h; simp [parseD] at h
  | some q =>
   rw [ho] at h;simp only [parseD,Prod.mk.injEq,and_true] at h;subst h;unfold docC at ho
   split at ho
   ·cases ho
   ·next r hr =>
    have hl:=headC_len hr;unfold bodyC at ho
    split at ho
    ·cases ho
    ·next l2 r2 he =>
     have hd:=(suf_dw xblk r).length_le
     have:=elemC_small 4096 _ 0 _ _ _ (by omega) he
     repeat' split at ho
     all_goals first
      | (simp only [Option.some.injEq] at ho; subst ho; exact this)
      | (exfalso; simp at ho)
def StrsAt (w:World) (v:Value) (ls:List (List UInt8)):Prop :=
 ∃ (ao:Option Addr) (cap:Nat),v=.slice ao ls.length cap∧∀ k (hk:k < ls.length),∃ a,ao=some a∧a.block < w.heap.size∧w.cell? (a.add k)=some (.string ⟨ls[k].toArray⟩)
theorem StrsAt.below {w w':World} {v:Value} {ls:List (List UInt8)} (h:StrsAt w v ls) (hb:Below w.heap.size w w'):StrsAt w' v ls:=by
 obtain ⟨ao,cap,hv,hc⟩:=h;refine ⟨ao,cap,hv,fun k hk=>?_⟩
 obtain ⟨a,e,ha,hcell⟩:=hc k hk;exact ⟨a,e,Nat.lt_of_lt_of_le ha hb.size,cell_below hb (by rw [add_block]; exact ha) hcell⟩
theorem parsOf_snoc (keep:List UInt8) (ls:List (List UInt8)) (l:List UInt8):parsOf keep (ls++[l])=match parsOf keep ls,parOf keep l with | some ps,some p=>some (ps++[p]) | _,_=>none:=by
 induction ls with
 | nil =>
  rw [List.nil_append,parsOf,parsOf]
  cases parOf keep l <;> rfl
 | cons x ls ih =>
  rw [List.cons_append,parsOf,parsOf,ih]
  cases parOf keep x <;> cases parsOf keep ls <;> cases parOf keep l <;> rfl
theorem parsOf_bad {keep:List UInt8} {ls:List (List UInt8)} {k:Nat} (hk:k < ls.length) (h:parOf keep ls[k]=none):parsOf keep ls=none:=by
 induction ls generalizing k with
 | nil=>simp at hk
 | cons x ls ih =>
  rw [parsOf]
  cases k with
  | zero=>simp at h; rw [h]
  | succ k =>
   rw [ih (by simpa using hk) (by simpa using h)]
   cases parOf keep x <;> rfl
theorem parsOf_len {keep:List UInt8} {ls:List (List UInt8)} {ps:List Par} (h:parsOf keep ls=some ps):ps.length=ls.length:=by
 induction ls generalizing ps with
 | nil=>simp [parsOf] at h; subst h; rfl
 | cons x ls ih =>
  rw [parsOf] at h
  cases hx:parOf keep x with
  | none=>rw [hx] at h; simp at h
  | some p =>
   cases hl:parsOf keep ls with
   | none=>rw [hx,hl] at h; simp at h
   | some qs=>rw [hx,hl] at h; simp at h; subst h; simp [ih hl]
theorem parOf_some {keep l:List UInt8} (h1:(writtenV keep (cutL 61 l).1).2=true) (h2:(writtenV keep (cutL 61 l).2.1).2=true):parOf keep l=some ⟨(writtenV keep (cutL 61 l).1).1,(writtenV keep (cutL 61 l).2.1).1,(cutL 61 l).2.2⟩:=by
 rw [parOf,if_pos ⟨h1,h2⟩]
theorem parOf_none {keep l:List UInt8} (h:¬ ((writtenV keep (cutL 61 l).1).2=true∧(writtenV keep (cutL 61 l).2.1).2=true)):parOf keep l=none:=by
 rw [parOf,if_neg h]
def ParsRes (keep:List UInt8) (ls:List (List UInt8)) (w w':World) (v:Value) (b:Bool):Prop :=
 (∃ ps,parsOf keep ls=some ps∧b=true∧OwnP w' w.heap.size v ps)∨(parsOf keep ls=none∧b=false∧v=.slice none 0 0)
end Go.Proofs.YtdnekampnkhmfaaGreatDoor
namespace Go.Proofs.YtdnekampnkhmfaaGreatDoor
open Go.RowKit Go.ChangeShapes Go.WideShapes Go.Deep
def tuCells (t:Tu):List Value:=[.string ⟨t.id.toArray⟩,.bool t.opn,.string ⟨t.contact.toArray⟩,.int .i64 t.prio,.string ⟨t.note.toArray⟩]
def tuV (t:Tu):Value:=.agg #[.string ⟨t.id.toArray⟩,.bool t.opn,.string ⟨t.contact.toArray⟩,.int .i64 t.prio,.string ⟨t.note.toArray⟩]
def docV (d:Dc) (ts ns:Value):Value:=.agg #[.string ⟨d.entity.toArray⟩,ts,ns]
structure TuAt (w:World) (ad:Addr) (k:Nat) (t:Tu):Prop where
 c0:w.cell? (ad.add (k * 5))=some (.string ⟨t.id.toArray⟩)
 c1:w.cell? ⟨(ad.add (k * 5)).block,(ad.add (k * 5)).off+1,none⟩=some (.bool t.opn)
 c2:w.cell? ⟨(ad.add (k * 5)).block,(ad.add (k * 5)).off+2,none⟩=some (.string ⟨t.contact.toArray⟩)
 c3:w.cell? ⟨(ad.add (k * 5)).block,(ad.add (k * 5)).off+3,none⟩=some (.int .i64 t.prio)
 c4:w.cell? ⟨(ad.add (k * 5)).block,(ad.add (k * 5)).off+4,none⟩=some (.string ⟨t.note.toArray⟩)
theorem TuAt.below {B:Nat} {w w':World} {ad:Addr} {k:Nat} {t:Tu} (h:TuAt w ad k t) (hb:Below B w w') (ha:ad.block < B):TuAt w' ad k t :=
 ⟨cell_below hb (by rw [add_block]; exact ha) h.c0,cell_below hb (by simp only [add_block]; exact ha) h.c1,cell_below hb (by simp only [add_block]; exact ha) h.c2,cell_below hb (by simp only [add_block]; exact ha) h.c3,cell_below hb (by simp only [add_block]; exact ha) h.c4⟩
def TusAt (w:World) (v:Value) (ts:List Tu):Prop :=
 ∃ (ao:Option Addr) (cap:Nat),v=.slice ao ts.length cap∧∀ k (hk:k < ts.length),∃ ad,ao=some ad∧ad.block < w.heap.size∧TuAt w ad k ts[k]
theorem TusAt.below {w w':World} {v:Value} {ts:List Tu} (h:TusAt w v ts) (hb:Below w.heap.size w w'):TusAt w' v ts:=by
 obtain ⟨ao,cap,hv,hc⟩:=h;refine ⟨ao,cap,hv,fun k hk=>?_⟩
 obtain ⟨ad,e,hlt,hcell⟩:=hc k hk;exact ⟨ad,e,Nat.lt_of_lt_of_le hlt hb.size,hcell.below hb hlt⟩
def SmallT (B:Nat) (t:Tu):Prop:=t.id.length≤B∧t.contact.length≤B∧t.note.length≤B∧(Lit.int .i64 t.prio).wf=true
structure SmallD (B:Nat) (d:Dc):Prop where
 ent:d.entity.length≤B
 tl:d.tuples.length≤B
 nl:d.notes.length≤B
 ts:∀ t ∈ d.tuples,SmallT B t
 ns:∀ s ∈ d.notes,s.length≤B
end Go.Proofs.YtdnekampnkhmfaaGreatDoor
namespace Go.Proofs.YtdnekampnkhmfaaGreatDoor
open Go.RowKit Sc
def tusCells (ts:List Tu):List Value:=ts.flatMap tuCells
theorem tusCells_get (ts:List Tu) (k:Nat) (hk:k < ts.length) (j:Nat) (u:Value) (h:(tuCells ts[k])[j]? = some u):(tusCells ts)[k * 5+j]? = some u:=by
 induction ts generalizing k with
 | nil=>simp at hk
 | cons t ts ih =>
  have e:tusCells (t :: ts)=tuCells t++tusCells ts:=rfl;have el:(tuCells t).length=5:=rfl
  cases k with
  | zero =>
   have hj:j < 5:=by have:=(List.getElem?_eq_some_iff.1 h).1; simpa [tuCells] using this
   rw [e,List.getElem?_append_left (by rw [el]; omega),Nat.zero_mul,Nat.zero_add];exact h
  | succ k =>
   have:=ih k (by simpa using hk) (by simpa using h)
   rw [e,List.getElem?_append_right (by rw [el]; omega),el,show (k+1) * 5+j - 5=k * 5+j by omega];exact this
def OwnT (w:World) (B:Nat) (v:Value) (ts:List Tu):Prop:=w.ownsRow B 56 5 v ts.length (tusCells ts)
theorem OwnT.nil (w:World) (B:Nat):OwnT w B (.slice none 0 0) []:=World.ownsRow_nil _ _ _ _
theorem OwnT.below {w w':World} {B:Nat} {v:Value} {ts:List Tu} (h:OwnT w B v ts) (hb:Below w.heap.size w w'):OwnT w' B v ts:=by
 obtain ⟨h1,h2⟩:=h;refine ⟨h1,?_⟩
 rcases h2 with h2 | ⟨g,cap,cur,hv,hg,hh,r⟩
 ·exact Or.inl h2
 ·exact Or.inr ⟨g,cap,cur,hv,hg,by rw [hb.block g (Array.getElem?_eq_some_iff.1 hh).1]; exact hh,r⟩
theorem OwnT.alloc {w:World} {B:Nat} {v:Value} {ts:List Tu} (h:OwnT w B v ts) (o:Obj):OwnT (w.alloc o) B v ts:=World.ownsRow.alloc h o
theorem OwnT.form {w:World} {B:Nat} {v:Value} {ts:List Tu} (h:OwnT w B v ts):∃ a cap,v=.slice a ts.length cap:=by
 rcases h.2 with ⟨rfl,hn⟩ | ⟨g,cap,cur,rfl,_⟩
 ·exact ⟨none,0,by rw [hn]⟩
 ·exact ⟨_,cap,rfl⟩
theorem OwnT.tusAt {w:World} {B:Nat} {v:Value} {ts:List Tu} (h:OwnT w B v ts):TusAt w v ts:=by
 have h0:=h
 rcases h.2 with ⟨rfl,hn⟩ | ⟨g,cap,cur,rfl,hb,hg,r⟩
 ·exact ⟨none,0,by rw [hn],fun k hk=>by omega⟩
 ·refine ⟨some ⟨g,0,none⟩,cap,rfl,fun k hk=>⟨_,rfl,(Array.getElem?_eq_some_iff.1 hg).1,?_⟩⟩
  have e:∀ j,(⟨g,0,none⟩:Addr).add j=⟨g,j,none⟩:=fun j=>by unfold Addr.add; split <;> simp_all
  have c:∀ j u,(tuCells ts[k])[j]? = some u → w.cell? ⟨g,k * 5+j,none⟩=some u:=fun j u hj=>by
   have:=World.ownsRow.cells h0 (g:=g) rfl (k * 5+j) _ (tusCells_get ts k hk j u hj)
   rw [e] at this; exact this
  refine ⟨?_,?_,?_,?_,?_⟩
  ·rw [e]; exact c 0 _ rfl
  ·rw [e]; exact c 1 _ rfl
  ·rw [e]; exact c 2 _ rfl
  ·rw [e]; exact c 3 _ rfl
  ·rw [e]; exact c 4 _ rfl
theorem infoTup:(Tryz.prog.info? 56).map (fun i=>(i.zero,i.size,i.bytes))=some (some (.agg #[.string .empty,.bool false,.string .empty,.int .i64 0,.string .empty]),5,64):=by kernel_rfl
theorem wp_appTu {P:Program} (w:World) {ops:Array Oper} {rest:List Oper} {o:Oper} {a:Act} {Q:Exit → Act → World → Prop} (hgd:o.guard=none)
  (s x:Operand) (t:TypeId) (ho:o.op=Op.call { callee:=Callee.builtin Builtin.append,args:=#[s,x],argTypes:=#[t,t] }) (B:Nat) (i:TypeInfo)
  (z:Value) (ht:P.underlying t=some (TypeDesc.slice 56)) (hi:P.info? 56=some i) (hz:i.zero=some z) (hsize:i.size=5) (hby:i.bytes=64) (hzs:z.cells.size=5)
  (v:Value) (ts:List Tu) (hs:a.eval s=v) (hown:OwnT w B v ts) (ad:Addr) (c:Nat) (p:Tu) (hx:a.eval x=Value.slice (some ad) 1 c)
  (hnews:∀ (j:Nat) (u:Value),(tuCells p)[j]? = some u → w.cell? (ad.add j)=some u)
  (hlen:ts.length≤2000000) (w0:World) (hb:Below B w0 w) (hB:B≤w.heap.size)
  (h:∀ (v':Value) (w':World),OwnT w' B v' (ts++[p]) → Below B w0 w' → B≤w'.heap.size → w.grownBy w' v.ownBlock → wpList P ops Q rest (a.put o.dst v') w'):wpList P ops Q (o :: rest) a w:=by
 refine wpList_append_own w hgd s x t ho B 56 i z 5 64 ht hi hz hsize hby hzs (by decide) v ts.length (tusCells ts) hs hown ad 1 c (tuCells p) hx rfl hnews
  (by intro u hu; simp [tuCells] at hu; rcases hu with rfl | rfl | rfl | rfl | rfl <;> rfl) (by unfold maxLen; omega) (by omega) hB ?_
 intro v' w' hown' hgr _;refine h v' w' ?_ (hb.grown hgr hB (fun k hk=>(World.ownsRow.lt hown k hk).1)) (Nat.le_trans hB hgr.size) hgr
 have e:tusCells (ts++[p])=tusCells ts++tuCells p:=by simp [tusCells]
 unfold OwnT;rw [e,List.length_append];exact hown'
theorem bstep14 {S:Nat} {w1 u wa:World} (h:Below S w1 u) (hS:S≤w1.heap.size) (hw:Below u.heap.size u wa):Below S w1 wa:=h.trans (hw.mono (Nat.le_trans hS h.size))
theorem al14 {S:Nat} {w1 wa:World} (h:Below S w1 wa) (hS:S≤w1.heap.size) (o1 o2:Obj):Below S w1 ((wa.alloc o1).alloc o2):=(h.alloc (Nat.le_trans hS h.size) o1).alloc (by simp; have:=h.size; omega) o2
theorem ownP_newX (W:World) (B:Nat) (hB:B≤W.heap.size) (ps:List Par) (n:Nat) (hn:ps.length=n) (hm:n≤1000):OwnP (W.alloc (.cells (parsCells ps).toArray 59)) B (.slice (some ⟨W.heap.size,0,none⟩) n n) ps:=by
 subst hn;refine ⟨parsCells_len ps,.inr ⟨_,_,(parsCells ps).toArray,rfl,hB,heap_alloc_new _ _,Nat.le_refl _,by unfold maxLen; omega,by simp [parsCells_len],?_⟩⟩
 rw [List.take_of_length_le (by simp [parsCells_len])]
theorem ownN_newX (W:World) (B:Nat) (hB:B≤W.heap.size) (c:NdC) (hc:OwnP W B c.a c.nd.attrs):OwnN (W.alloc (.cells (ndCells c).toArray 52)) B (.slice (some ⟨W.heap.size,0,none⟩) 1 1) [c]:=by
 refine ⟨⟨rfl,.inr ⟨_,_,(ndCells c).toArray,rfl,hB,heap_alloc_new _ _,Nat.le_refl _,by unfold maxLen; omega,rfl,by simp [ndsCells,ndCells]⟩⟩,fun c' h'=>?_⟩
 simp only [List.mem_singleton] at h'; subst h'; exact hc.alloc _
theorem root_own (W:World) (B:Nat) (hB:B≤W.heap.size) (g:Nat) (hg:g=W.heap.size+1) (en:List UInt8):OwnN ((W.alloc (.cells #[.string ⟨#[120,109,108,110,115]⟩,.string ⟨#[117,114,110,58,105,101,116,102,58,112,97,114,97,109,115,58,120,109,108,58,110,115,58,112,105,100,102]⟩,.bool true,.string ⟨#[101,110,116,105,116,121]⟩,.string ((⟨#[112,114,101,115,58]⟩:ByteArray)++⟨en.toArray⟩),.bool true] 59)).alloc (.cells #[.int .i64 0,.string ⟨#[112,114,101,115,101,110,99,101]⟩,.slice (some ⟨W.heap.size,0,none⟩) 2 2,.string ⟨#[]⟩] 52)) B (.slice (some ⟨g,0,none⟩) 1 1)
  [⟨⟨0,presenceK,[atr xmlnsK spaceK,atr entityK (presK++[58]++en)],[]⟩,.slice (some ⟨W.heap.size,0,none⟩) 2 2⟩]:=by
 have hE:(⟨#[112,114,101,115,58]⟩:ByteArray)++⟨en.toArray⟩=⟨(presK++[58]++en).toArray⟩:=by rw [ByteArray.mk_append_mk]; simp [presK]
 rw [hE];have h1:=ownP_newX W B hB [atr xmlnsK spaceK,atr entityK (presK++[58]++en)] 2 rfl (by decide);have hs:(W.alloc (.cells (parsCells [atr xmlnsK spaceK,atr entityK (presK++[58]++en)]).toArray 59)).heap.size=W.heap.size+1:=by simp
 have h2:=ownN_newX _ B (by rw [hs]; omega) ⟨⟨0,presenceK,[atr xmlnsK spaceK,atr entityK (presK++[58]++en)],[]⟩,.slice (some ⟨W.heap.size,0,none⟩) 2 2⟩ h1;rw [hs,← hg] at h2;exact h2
structure PSt (w1:World) (b:Nat) (x:Tu) (W:World) (v:Value) (cs:List NdC):Prop where
 own:OwnN W w1.heap.size v cs
 row:RowIs W b 56 (tuCells x)
 lt:b < W.heap.size
 ne:v.ownBlock ≠ some b
 bel:Below w1.heap.size w1 W
theorem PSt.below {w1:World} {b:Nat} {x:Tu} {W W':World} {v:Value} {cs:List NdC} (h:PSt w1 b x W v cs) (hb:Below W.heap.size W W'):PSt w1 b x W' v cs :=
 ⟨h.own.below hb,h.row.below hb h.lt,Nat.lt_of_lt_of_le h.lt hb.size,h.ne,h.bel.trans (hb.mono h.bel.size)⟩
theorem PSt.alloc {w1:World} {b:Nat} {x:Tu} {W:World} {v:Value} {cs:List NdC} (h:PSt w1 b x W v cs) (o:Obj):PSt w1 b x (W.alloc o) v cs:=h.below ((Below.refl _ W).alloc (Nat.le_refl _) o)
theorem PSt.app {w1:World} {b:Nat} {x:Tu} {W w5:World} {v v5:Value} {cs:List NdC} {c:NdC} (h:PSt w1 b x W v cs) (hf:FrN v W v5 w5) (ho:OwnN w5 w1.heap.size v5 (cs++[c])):PSt w1 b x w5 v5 (cs++[c]) :=
 ⟨ho,hf.row h.row h.lt h.ne,Nat.lt_of_lt_of_le h.lt hf.size,fun e=>by
  rcases hf.own b e with q | q
  ·exact h.ne q
  ·have:=h.lt; omega,h.bel.trans (hf.to h.bel.size fun g hg=>(World.ownsRow.lt h.own.1 g hg).1)⟩
theorem PSt.c5 {w1:World} {b:Nat} {x:Tu} {W:World} {v:Value} {cs:List NdC} (h:PSt w1 b x W v cs):RowC5 W b (.string ⟨x.id.toArray⟩) (.bool x.opn) (.string ⟨x.contact.toArray⟩) (.int .i64 x.prio) (.string ⟨x.note.toArray⟩):=RowIs.rc5 h.row
theorem PSt.size {w1:World} {b:Nat} {x:Tu} {W:World} {v:Value} {cs:List NdC} (h:PSt w1 b x W v cs):w1.heap.size≤W.heap.size:=h.bel.size
theorem nds_snoc (cs:List NdC) (c:NdC):ndsL (cs++[c])=ndsL cs++[c.nd]:=by simp [ndsL]
theorem flat_next {tl:List Tu} {j:Nat} (h:j < tl.length):flatXs 1 ((tl.take (j+1)).map tupT)=flatXs 1 ((tl.take j).map tupT)++flatX 1 (tupT tl[j]):=by
 rw [List.take_succ_eq_append_getElem h,List.map_append,flatXs_app]; simp [flatXs]
theorem flat_tup (x:Tu):flatX 1 (tupT x)=[⟨1,tupleK,[atr pidK x.id],[]⟩,⟨2,pstatK,[],[]⟩,⟨3,basicK,[],if x.opn then openK else closedK⟩]++(flatXs 2 (contT x)++flatXs 2 (tnoteT x)):=by
 rw [tupT,flatX,flatXs,statT,flatX,flatXs,flatXs,flatX,flatXs,flatXs_app]; simp
theorem wp_appNs {P:Program} (w:World) {ops:Array Oper} {rest:List Oper} {o:Oper} {a:Act} {Q:Exit → Act → World → Prop} (hgd:o.guard=none)
  (s x:Operand) (t:TypeId) (ho:o.op=Op.call { callee:=Callee.builtin Builtin.append,args:=#[s,x],argTypes:=#[t,t] }) (B:Nat) (i:TypeInfo)
  (z:Value) (ht:P.underlying t=some (TypeDesc.slice 52)) (hi:P.info? 52=some i) (hz:i.zero=some z) (hsize:i.size=4) (hby:i.bytes=64) (hzs:z.cells.size=4)
  (v:Value) (cs:List NdC) (hs:a.eval s=v) (hown:OwnN w B v cs) (ad:Addr) (k:Nat) (c:List NdC) (n:Nat) (hn:n=c.length) (hn0:0 < n) (hc:∀ d ∈ c,OwnP w B d.a d.nd.attrs) (hx:a.eval x=Value.slice (some ad) n k)
  (hnews:∀ (j:Nat) (u:Value),(ndsCells c)[j]? = some u → w.cell? (ad.add j)=some u)
  (hlen:cs.length≤1000000) (hlen2:c.length≤1000000) (hB:B≤w.heap.size)
  (h:∀ (v':Value) (w':World),OwnN w' B v' (cs++c) → FrN v w v' w' → wpList P ops Q rest (a.put o.dst v') w'):wpList P ops Q (o :: rest) a w:=by
 have one:∀ (ps:List Par) (B:Nat) (v:Value),OwnP w B v ps → v.oneCell'=true:=fun ps B v h=>by
  rcases h.2 with ⟨rfl,_⟩ | ⟨g,cap,cur,rfl,_⟩ <;> rfl
 subst hn;refine wpList_append_own_at w hgd s x t ho B 52 i z 4 64 ht hi hz hsize hby hzs (by decide) v cs.length (ndsCells cs) hs hown.1 ad c.length k (ndsCells c) hx (ndsCells_len c) hnews
  (by
   intro u hu;unfold ndsCells at hu;obtain ⟨d,hd,hu⟩:=List.mem_flatMap.1 hu
   simp [ndCells] at hu
   rcases hu with rfl | rfl | rfl | rfl <;> first | rfl | exact one _ _ _ (hc d hd)) (by unfold maxLen; omega) (by omega) hB ?_
 intro v' w' hown' hgr _ hat;have keep:∀ (ps:List Par) (u:Value),OwnP w B u ps → OwnP w' B u ps:=fun ps u hu=>World.ownsRow.kept hu hgr (rows_neN hown.1 hu (by decide));refine h v' w' ⟨?_,?_⟩ (grown_fr hgr hat)
 ·have e:ndsCells (cs++c)=ndsCells cs++ndsCells c:=by simp [ndsCells]
  rw [e,List.length_append];exact hown'
 ·intro c' hc'
  rcases List.mem_append.1 hc' with hc' | hc'
  ·exact keep _ _ (hown.2 c' hc')
  ·exact keep _ _ (hc c' hc')
theorem ownN_cells {w:World} {B:Nat} {a:Option Addr} {n k:Nat} {cs:List NdC} (h:OwnN w B (.slice a n k) cs) (h0:0 < cs.length):∃ g,a=some ⟨g,0,none⟩∧n=cs.length∧g < w.heap.size∧B≤g∧∀ (j:Nat) (u:Value),(ndsCells cs)[j]? = some u → w.cell? ((⟨g,0,none⟩:Addr).add j)=some u:=by
 have h1:=h.1
 rcases h.1.2 with ⟨e,hn⟩ | ⟨g,cap,cur,e,hb,hg,_⟩
 ·omega
 ·injection e with ea en ek
  subst ea en ek;exact ⟨g,rfl,rfl,(Array.getElem?_eq_some_iff.1 hg).1,hb,fun j u hj=>World.ownsRow.cells h1 (g:=g) rfl j u hj⟩
def valG:Int → List UInt8 → Int
 | n,[]=>n
 | n,b :: r=>valG (10 * n+((b.toNat:Int) - 48)) r
theorem valG_ge:∀ (l:List UInt8) (n:Int),0≤n → allB 1 l=true → n≤valG n l
 | [],n,_,_=>Int.le_refl _
 | b :: r,n,h0,h=>by
  have hb:=u8_bd b;have h1:isB b.toNat 1=true∧allB 1 r=true:=by unfold allB at h ⊢; simpa using h
  rw [isB_digit _ hb.1 hb.2] at h1;have h2:=of_decide_eq_true h1.1
  have:=valG_ge r (10 * n+((b.toNat:Int) - 48)) (by omega) h1.2
  unfold valG; omega
theorem numL_is (most:Int) (hm:9≤most):∀ (l:List UInt8) (n:Int),0≤n → n≤most → allB 1 l=true → numL most n l=if valG n l≤most then some (valG n l) else none
 | [],n,_,hn,_=>by rw [numL,valG,if_pos hn]
 | b :: r,n,h0,hn,h=>by
  have hb:=u8_bd b;have h1:isB b.toNat 1=true∧allB 1 r=true:=by unfold allB at h ⊢; simpa using h
  rw [isB_digit _ hb.1 hb.2] at h1;have h2:=of_decide_eq_true h1.1;have hg:=valG_ge r (10 * n+((b.toNat:Int) - 48)) (by omega) h1.2;rw [numL,valG];by_cases hc:(b.toNat:Int) - 48 > most∨n > (most - ((b.toNat:Int) - 48)) / 10
  ·rw [if_pos hc,if_neg (by omega)]
  ·rw [if_neg hc,numL_is most hm r _ (by omega) (by omega) h1.2]
theorem numV_is {most:Int} (hm:9≤most) (l:List UInt8):numV most l=if l=[]∨allB 1 l=false then (0,10) else if valG 0 l≤most then (valG 0 l,0) else (0,9):=by
 unfold numV;by_cases h:l=[]∨allB 1 l=false
 ·rw [if_pos h,if_pos h]
 ·rw [if_neg h,if_neg h,numL_is most hm l 0 (by omega) (by omega) (by simp only [not_or] at h; simpa using h.2)];by_cases h2:valG 0 l≤most
  ·rw [if_pos h2,if_pos h2]
  ·rw [if_neg h2,if_neg h2]
theorem dig_thou {k:Nat} (h:k < 1000):digL (1000+k)=49 :: d3 k:=by
 have hz:∀ m:Nat,digb m=UInt8.ofNat (48+m % 10):=fun m=>rfl;rw [digL_big (by omega),digL_big (by omega),digL_big (by omega),digL_small (by omega)];have e1:(1000+k) / 10 / 10 / 10 % 10=1:=by omega
 have e2:(1000+k) / 10 / 10 % 10=k / 100 % 10:=by omega
 have e3:(1000+k) / 10 % 10=k / 10 % 10:=by omega
 have e4:(1000+k) % 10=k % 10:=by omega
 simp only [d3,hz,e1,e2,e3,e4]
 rfl
theorem d3_len (k:Nat):(d3 k).length=3:=rfl
def thouC (s:List UInt8):Int × Bool:=if thouV s < 0 then (0,false) else (thouV s,true)
def thouCC (a b:List UInt8):Int × Bool :=
 if ¬ (a=[48]∨a=[49])∨3 < b.length then (0,false)
 else ((numV 1000 (a++(b++List.replicate (3 - b.length) 48))).1,(numV 1000 (a++(b++List.replicate (3 - b.length) 48))).2==0)
theorem allB_app (c:Int) (a b:List UInt8):allB c (a++b)=(allB c a && allB c b):=by simp [allB]
theorem allB_zeros (n:Nat):allB 1 (List.replicate n 48)=true:=by
 unfold allB;rw [List.all_eq_true];intro x hx;rw [List.eq_of_mem_replicate hx]
 decide +kernel
theorem valG_four {a:UInt8} (ha:a=48∨a=49) {l:List UInt8} (hl:l.length=3) (hd:allB 1 l=true):0≤valG 0 (a :: l)∧valG 0 (a :: l)≤1999:=by
 match l,hl with
 | [x,y,z],_ =>
  have h1:isB x.toNat 1=true∧isB y.toNat 1=true∧isB z.toNat 1=true:=by unfold allB at hd; simpa using hd
  have bx:=u8_bd x;have b_y:=u8_bd y;have bz:=u8_bd z;rw [isB_digit _ bx.1 bx.2,isB_digit _ b_y.1 b_y.2,isB_digit _ bz.1 bz.2] at h1;obtain ⟨p,q,r⟩:=h1;have p:=of_decide_eq_true p;have q:=of_decide_eq_true q;have r:=of_decide_eq_true r;simp only [valG]
  rcases ha with rfl | rfl
  ·have:((48:UInt8).toNat:Int)=48:=rfl
   omega
  ·have:((49:UInt8).toNat:Int)=49:=rfl
   omega
theorem thou_code (s:List UInt8):thouC s=thouCC (cutL 46 s).1 (cutL 46 s).2.1:=by
 unfold thouC thouV thouCC;generalize (cutL 46 s).1=a;generalize (cutL 46 s).2.1=b;by_cases ha:a=[48]∨a=[49]
 case neg=>rw [if_pos (c:=¬ (a=[48]∨a=[49])∨3 < b.length∨allB 1 b=false) (.inl ha),if_pos (c:=¬ (a=[48]∨a=[49])∨3 < b.length) (.inl ha)]; rfl
 by_cases hb:3 < b.length
 ·rw [if_pos (c:=¬ (a=[48]∨a=[49])∨3 < b.length∨allB 1 b=false) (.inr (.inl hb)),if_pos (c:=¬ (a=[48]∨a=[49])∨3 < b.length) (.inr hb)]; rfl
 rw [if_neg (c:=¬ (a=[48]∨a=[49])∨3 < b.length) (fun h=>h.elim (fun h1=>h1 ha) hb)];obtain ⟨c,hc,rfl⟩:∃ c:UInt8,(c=48∨c=49)∧a=[c]:=by
  rcases ha with rfl | rfl
  ·exact ⟨48,.inl rfl,rfl⟩
  ·exact ⟨49,.inr rfl,rfl⟩
 have hca:allB 1 [c]=true:=by rcases hc with rfl | rfl <;> decide +kernel
 have hall:allB 1 ([c]++(b++List.replicate (3 - b.length) 48))=allB 1 b:=by rw [allB_app,allB_app,allB_zeros,hca,Bool.true_and,Bool.and_true]
 have hne:([c]++(b++List.replicate (3 - b.length) 48)) ≠ []:=by simp
 cases hd:allB 1 b with
 | false =>
  rw [if_pos (c:=¬ ([c]=[48]∨[c]=[49])∨3 < b.length∨false=false) (.inr (.inr rfl)),numV_is (by decide),if_pos (c:=_∨allB 1 ([c]++(b++List.replicate (3 - b.length) 48))=false) (.inr (by rw [hall,hd]))]
  rfl
 | true =>
  have hv:=valG_four hc (l:=b++List.replicate (3 - b.length) 48) (by simp; omega) (by rw [allB_app,allB_zeros,hd]; rfl);rw [if_neg (c:=¬ ([c]=[48]∨[c]=[49])∨3 < b.length∨true=false) (fun h=>h.elim (fun h1=>h1 ha) (fun h2=>h2.elim hb (by simp)))];rw [numV_is (most:=10000) (by decide),numV_is (most:=1000) (by decide)];have hno:¬ ([c]++(b++List.replicate (3 - b.length) 48)=[]∨allB 1 ([c]++(b++List.replicate (3 - b.length) 48))=false):=by rw [hall,hd]; simp
  rw [if_neg hno,if_neg hno];rw [show [c]++(b++List.replicate (3 - b.length) 48)=c :: (b++List.replicate (3 - b.length) 48) from rfl];generalize valG 0 (c :: (b++List.replicate (3 - b.length) 48))=v at hv;rw [if_pos (c:=v≤10000) (by omega)];by_cases h1:v≤1000
  ·rw [if_pos h1,if_neg (c:=1000 < v) (by omega),if_neg (by simp only; omega)]; rfl
  ·rw [if_neg h1,if_pos (c:=1000 < v) (by omega)]; rfl
theorem glueLL (a b:List UInt8):(⟨a.toArray⟩:ByteArray)++⟨b.toArray⟩=⟨(a++b).toArray⟩:=by
 rw [ByteArray.mk_append_mk]; first | done | simp
theorem splitL_count (c:UInt8) (l:List UInt8):(splitL c l).length=Lib.countByte l c+1:=by
 unfold Lib.countByte
 induction l with
 | nil=>rfl
 | cons x l ih =>
  obtain ⟨p,ps,hp⟩:=splitL_cons c l;rw [splitL];rw [hp] at ih ⊢;by_cases h:x=c
  ·rw [if_pos h,h,List.count_cons_self]; simp at ih ⊢; omega
  ·rw [if_neg h,List.count_cons_of_ne h]; simpa using ih
def filledS (ps:List (List UInt8)) (n:Nat):List Value:=strs ps++List.replicate (n - ps.length) (.string .empty)
theorem filledS_len (ps:List (List UInt8)) (n:Nat) (h:ps.length≤n):(filledS ps n).length=n:=by simp [filledS,strs]; omega
theorem filledS_full (ps:List (List UInt8)) (n:Nat) (h:ps.length=n):filledS ps n=strs ps:=by simp [filledS,h]
theorem filledS_set (ps:List (List UInt8)) (n:Nat) (p:List UInt8) (h:ps.length < n):(filledS ps n).set ps.length (.string ⟨p.toArray⟩)=filledS (ps++[p]) n:=by
 have e:n - ps.length=(n - (ps.length+1))+1:=by omega
 have hl:(strs ps).length=ps.length:=strs_length ps;unfold filledS;rw [List.set_append_right _ _ (by omega),hl,Nat.sub_self,e,List.replicate_succ,List.set_cons_zero,strs_append,List.append_assoc,List.length_append]
 rfl
theorem made_rowS (w:World) (e:TypeId) (n:Nat):RowIs (w.alloc (.cells (madeCells #[.string .empty] n) e)) w.heap.size e (filledS [] n):=by
 unfold RowIs;rw [heap_alloc_new]
 have:madeCells #[.string .empty] n=(filledS [] n).toArray:=by
  apply Array.ext
  ·simp [size_madeCells,filledS,strs]
  ·intro i h1 h2
   simp [madeCells,filledS,strs,Nat.mod_one]
 rw [this]
set_option maxHeartbeats 1000000 in
theorem genSplit_any (l0:List UInt8) (c:UInt8) (w:World) (hs:l0.length≤1048576) :
  Calls Tryz.prog 189 #[.string ⟨l0.toArray⟩,.string ⟨#[c]⟩,.int .i64 0,.int .i64 (-1)] w fun e w'=>∃ v,e=.returned v∧Own w' w.heap.size 9 v (strs (splitL c l0))∧Below w.heap.size w w':=by
 obtain ⟨i0,hi,hz0,hz1,hz2⟩:=info_parts info9;have h0:(ByteArray.mk #[c]).size=1:=rfl;have hz:(⟨l0.toArray⟩:ByteArray).size=l0.length:=size_list l0;obtain ⟨N,hN⟩:∃ N,N=(splitL c l0).length:=⟨_,rfl⟩
 have hN1:N≤l0.length+1:=by rw [hN]; exact splitL_len c l0
 have hcn:(Lib.countByte l0 c:Int)=(N:Int) - 1:=by rw [hN,splitL_count]; omega
 have hN0:1≤N:=by rw [hN,splitL_count]; omega
 have hmk:∀ u:World,(Instr.makeSlice 23 (.int .i64 (N:Int)) (.int .i64 (N:Int))).run Tryz.prog u =
   .ok (.slice (some ⟨u.heap.size,0,none⟩) N N) (u.alloc (.cells (madeCells #[.string .empty] N) 9)):=fun u=>by
  have h:=run_make (P:=Tryz.prog) u 23 9 i0 (.string .empty) Tryz.underlying23 hi hz0 .i64 .i64 (N:Int) (N:Int) (by omega) (Int.le_refl _) (by rw [hz2]; omega) (by omega)
  simpa [hz1,Value.cells] using h
 have hr0:Hid (RowIs (w.alloc (.cells (madeCells #[.string .empty] N) 9)) w.heap.size 9 (filledS [] N)):=made_rowS w _ _;have hw1:IntKind.i64.wrap ((N:Int) - 1+1)=(N:Int):=by
  simp [IntKind.wrap,IntKind.bits,IntKind.signed]; omega
 have hNs:Hid _:=hN;clear hN
 go_enter Tryz.func189,Tryz.ntmps189
 go_wp2_with (go_at_call 202; refine (strCount_any _ c _).mono ?_; rintro e w' ⟨rfl,rfl⟩; rw [hcn])
 clear hmk
 go_loopw [0,10] (fun x i wr=>∃ (r:List UInt8) (ps:List (List UInt8)),x=.string ⟨r.toArray⟩∧i=.int .i64 ps.length∧Hid (splitL c l0=ps++splitL c r)∧r.length≤l0.length∧Hid (RowIs wr w'.heap.size 9 (filledS ps N))∧Below w'.heap.size w' wr) (fun _ i _=>N - (intOf i).toNat)
 case atStart=>exact ⟨l0,[],rfl,rfl,show _=_ from rfl,Nat.le_refl _,hr0,(Below.refl _ _).alloc (Nat.le_refl _) _⟩
 case round =>
  clear hr0 hcn hw1 hz;obtain ⟨r,ps,rfl,rfl,hsp,hrl,hr,hb⟩:=hrel;have hz:(⟨r.toArray⟩:ByteArray).size=r.length:=size_list r;have hln:N=ps.length+(splitL c r).length:=by rw [hNs.out,hsp.out,List.length_append]
  have hln1:1≤(splitL c r).length:=by rw [splitL_count]; omega
  have hf:=hr.out.frozen ps.length;obtain ⟨x,hc⟩:∃ x,wr.cell? ⟨w'.heap.size,ps.length,none⟩=some x:=⟨_,hr.out.cell ps.length (by rw [filledS_len _ _ (by omega)]; omega)⟩
  by_cases hlt:ps.length < N - 1
  ·have hin:c ∈ r:=by
    apply Classical.byContradiction
    intro hno;rw [splitL_cut,cutL_miss hno] at hln
    simp at hln; omega
   rcases idx_cases r c with ⟨h1,_⟩ | ⟨a,b,h1,h2,h3⟩
   ·exact absurd hin h1
   ·have hd:(⟨r.toArray⟩:ByteArray).data.toList=a++c :: b:=h1;obtain ⟨e1,e2,e3⟩:=cut_data ⟨r.toArray⟩ hd;rw [hz] at e3;have hcut:cutL c r=(a,b,true):=by rw [h1]; exact cutL_hit h2
    have hsp2:Hid (splitL c l0=(ps++[a])++splitL c b):=show _=_ by
     have:=splitL_next hsp.out (by rw [hcut]); rw [hcut] at this; exact this
    have hr':Hid (RowIs (wr.setCell ⟨w'.heap.size,ps.length,none⟩ (.string ⟨a.toArray⟩)) w'.heap.size 9 (filledS (ps++[a]) N)):=by
     have h:=hr.out.set ps.length (.string ⟨a.toArray⟩);rw [filledS_set ps N a (by omega)] at h;exact h
    have hwr:IntKind.i64.wrap ((a.length:Int)+1)=((a.length+1:Nat):Int):=by
     simp [IntKind.wrap,IntKind.bits,IntKind.signed]; omega
    have h3':Lib.indexByte (⟨r.toArray⟩:ByteArray).data.toList c=(a.length:Int):=h3;rw [hz,e3] at e2;clear hd hcut hin h1 h2 hsp hr hln hln1;go_wp2_with (go_at_call 203; refine (strIndex_any _ c _).mono ?_; rintro e w2 ⟨rfl,rfl⟩; rw [h3'])
    go_roundw
    case rel=>exact ⟨b,ps++[a],by first | rfl | rw [e2],by simp,hsp2,by omega,hr',hb.setCell (Nat.le_refl _) _⟩
    case measure=>simp [intOf]; omega
  ·have hone:splitL c r=[r]:=by
    have:(splitL c r).length=1:=by omega
    rw [splitL_count,Lib.countByte] at this;exact splitL_cut c r ▸ (by
     have hno:c ∉ r:=List.count_eq_zero.1 (by omega);rw [cutL_miss hno]; rfl)
   have hr':Hid (Own (wr.setCell ⟨w'.heap.size,ps.length,none⟩ (.string ⟨r.toArray⟩)) w'.heap.size 9 (.slice (some ⟨w'.heap.size,0,none⟩) N N) (strs (splitL c l0))):=by
    have h:=hr.out.set ps.length (.string ⟨r.toArray⟩);rw [filledS_set ps N r (by omega),filledS_full _ _ (by rw [List.length_append,hln,hone])] at h;rw [hsp.out,hone];exact h.own _ N (Nat.le_refl _) (by rw [strs_length,List.length_append,hln,hone]) (by unfold maxLen; omega)
   have hN2:ps.length+1=N:=by rw [hone] at hln; simp at hln; omega
   clear hone hr hsp hln hln1;go_wp2;go_ret;exact ⟨_,rfl,by first | exact hr'.out | (have:=hr'.out; simpa [hN2] using this),hb.setCell (Nat.le_refl _) _⟩
set_option maxHeartbeats 400000 in
theorem strSplit_any (s:ByteArray) (c:UInt8) (w:World) (hs:s.size≤1048576) :
  Calls Tryz.prog 158 #[.string s,.string ⟨#[c]⟩] w fun e w'=>∃ v,e=.returned v∧Own w' w.heap.size 9 v (strs (splitL c s.data.toList))∧Below w.heap.size w w':=by
 have hs0:s=⟨s.data.toList.toArray⟩:=by apply ByteArray.ext; simp
 have hl:=len_data s;generalize s.data.toList=l0 at hs0 hl ⊢;subst hs0;rw [← hl] at hs
 go_enter Tryz.func158,Tryz.ntmps158
 go_wp2_with (go_at_call 189; refine (genSplit_any _ c _ hs).mono ?_; rintro e w' ⟨v,rfl,hown,hb⟩)
 go_ret;exact ⟨_,rfl,hown,hb⟩
def labAll (ps:List (List UInt8)):Bool:=ps.all labB
theorem labAll_snoc {ps:List (List UInt8)} {k:Nat} (hk:k < ps.length) (h:labAll (ps.take k)=true) (hb:labB ps[k]=true):labAll (ps.take (k+1))=true:=by
 unfold labAll at *;rw [List.take_succ_eq_append_getElem hk,List.all_append,h]
 simp [hb]
theorem labAll_bad {ps:List (List UInt8)} {k:Nat} (hk:k < ps.length) (hb:labB ps[k]=false):labAll ps=false:=by
 unfold labAll;rw [List.all_eq_false];exact ⟨ps[k],List.getElem_mem hk,by simp [hb]⟩
end Go.Proofs.YtdnekampnkhmfaaGreatDoor
