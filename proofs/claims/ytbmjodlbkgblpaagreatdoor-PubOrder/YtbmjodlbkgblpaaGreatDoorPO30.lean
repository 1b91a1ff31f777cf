/-
  OpenPa, PtP, PtQ, PtR, PtM, PtN.
-/
import Derived.Test.YtbmjodlbkgblpaaGreatDoorPO29
import Derived.Shelf.SlSortCmp.NoneTotal
import Derived.Maps.RangeWalk
set_option linter.unusedVariables false
set_option linter.unusedSimpArgs false
set_option maxRecDepth 20000
namespace Go.Proofs.YtbmjodlbkgblpaaGreatDoor
open Go.RowKit Go.ChangeShapes Go.WideShapes Go.Deep
section
variable {H : Type} {enc : TypeId × Value → H} {W : World} {sp : Nat → Bool}
def AcsAt (w:World) (v:Value) (cs:List AcP):Prop :=
 ∃ (ao:Option Addr) (cap:Nat),v=.slice ao cs.length cap∧∀ k (hk:k < cs.length),∃ ad,ao=some ad∧ad.block < w.heap.size∧∀ (j:Nat) (u:Value),(acpCells cs[k])[j]? = some u → w.cell? (if j=0 then ad.add (k * 10) else ⟨(ad.add (k * 10)).block,(ad.add (k * 10)).off+j,none⟩)=some u
theorem open_acps {fuel:Nat} {cs:List Value} {x:DataW H × List MemPlace} (h:DataW.trod enc Tryz.prog W 0 sp true fuel 22 cs=some x) :
  ∃ (v:Value) (al:List AcP),cs=[v]∧AcsAt W v al∧(∀ c ∈ al,DocPa W c.a.doc c.ts c.ns∧(∀ t ∈ c.a.doc.tuples,(Lit.int .i64 t.prio).wf=true)∧(Lit.int .i64 c.a.exp).wf=true∧(Lit.int .i64 c.now).wf=true)∧((x.1=.nil∧al=[])∨∃ ds sp,x.1=.slice ds sp∧ds.length=al.length∧∀ k (hk:k < al.length) (hd:k < ds.length),AcD ds[k] al[k]):=by
 rcases open_slice Tryz.underlying22 h with ⟨rfl,rfl⟩ | ⟨a,len,cap,m,n,D,Pl,rfl,_,hlc,hcm,hm,rfl,hall⟩
 ·exact ⟨_,[],rfl,⟨none,0,rfl,fun k hk=>by simp at hk⟩,fun c hc=>by simp at hc,Or.inl ⟨rfl,rfl⟩⟩
 ·have hlm:len≤m:=by rw [hm]; split <;> omega
  have each:∀ i,i < len → ∃ c:AcP,AcD (D i) c∧(DocPa W c.a.doc c.ts c.ns∧(∀ t ∈ c.a.doc.tuples,(Lit.int .i64 t.prio).wf=true)∧(Lit.int .i64 c.a.exp).wf=true∧(Lit.int .i64 c.now).wf=true)∧(a.block < W.heap.size∧∀ (j:Nat) (u:Value),(acpCells c)[j]? = some u → W.cell? (if j=0 then a.add (i * 10) else ⟨(a.add (i * 10)).block,(a.add (i * 10)).off+j,none⟩)=some u):=by
   intro i hi;obtain ⟨cs',h1,h2⟩:=hall i (by omega);obtain ⟨c,rfl,hat,hd,hw1,hw2,hw3⟩:=open_acp h2;rw [cellsActP] at h1;obtain ⟨_,_,hc⟩:=World.cells?_some h1;have c0:=hc 0 (by omega);have hc0:W.cell? (a.add (i * 10))=some (.bool c.expire):=by simpa [Addr.add,acpCells] using c0
   refine ⟨c,hd,⟨hat,hw1,hw2,hw3⟩,?_,?_⟩
   ·have:(a.add (i * 10)).block < W.heap.size:=by
     unfold World.cell? at hc0
     cases hh:W.heap[(a.add (i * 10)).block]? with
     | none=>simp [hh] at hc0
     | some o=>exact (Array.getElem?_eq_some_iff.1 hh).1
    rwa [add_block] at this
   ·intro j u hj;have hj8:j < 10:=by have:=(List.getElem?_eq_some_iff.1 hj).1; simpa [acpCells,askL] using this
    by_cases j0:j=0
    ·subst j0;rw [if_pos rfl,hc0,← hj]; rfl
    ·rw [if_neg j0];have cj:=hc j hj8;rw [hj] at cj;rw [← cj]
     simp [Addr.add,j0]
  obtain ⟨f,hf⟩:=@choose_lt AcP ⟨⟨false,0,⟨[],[],0,false,⟨[],[],[]⟩,[]⟩,.nilIface,.nilIface⟩⟩ len _ each;refine ⟨_,(List.range len).map f,rfl,⟨some a,cap,by simp,fun k hk=>?_⟩,fun c hc=>?_,Or.inr ⟨(List.range len).map D,_,rfl,by simp,fun k hk hd=>?_⟩⟩
  ·simp at hk
   refine ⟨a,rfl,?_⟩
   simpa using (hf k hk).2.2
  ·simp only [List.mem_map,List.mem_range] at hc;obtain ⟨k,hk,rfl⟩:=hc;exact (hf k hk).2.1
  ·simp at hk
   simpa using (hf k hk).1
theorem bytesTupP:1≤Tryz.prog.bytesOf 89:=of_decide_eq_true (by kernel_rfl)
theorem bytesStrP:1≤Tryz.prog.bytesOf 9:=of_decide_eq_true (by kernel_rfl)
theorem bytesActP:1≤Tryz.prog.bytesOf 46:=of_decide_eq_true (by kernel_rfl)
theorem len_said {B:Nat} {ds sp:List (DataW H)} {b:Nat} (hb:1≤b) (h:(ds.length+sp.length) * b≤B):ds.length≤B:=by
 refine Nat.le_trans ?_ h
 exact Nat.le_trans (Nat.le_add_right ds.length sp.length) (Nat.le_mul_of_pos_right _ hb)
theorem tusD_said {B:Nat} {d:DataW H} {ts:List Tu} (hd:TusD d ts) (hw:∀ t ∈ ts,(Lit.int .i64 t.prio).wf=true) (hz:∀ n ∈ d.weights Tryz.prog 32,n≤B):ts.length≤B∧∀ t ∈ ts,SmallT B t:=by
 rcases hd with ⟨_,rfl⟩ | ⟨ds,sp,rfl,hl,hk⟩
 ·simp
 ·simp only [DataW.weights,Tryz.underlying32] at hz;refine ⟨?_,fun t ht=>?_⟩
  ·rw [← hl]; exact len_said (sp:=sp) bytesTupP (hz _ (List.mem_cons_self ..))
  ·obtain ⟨k,hk',rfl⟩:=List.getElem_of_mem ht;have hd:=hk k hk' (by omega);have hz2:∀ n ∈ (ds[k]'(by omega)).weights Tryz.prog 89,n≤B:=fun n hn=>hz n (List.mem_cons_of_mem _ (List.mem_append.2 (Or.inl (weights_all ds k (by omega) n hn))));unfold TuD at hd;rw [hd] at hz2;simp only [DataW.weights,Tryz.underlying89,List.map_cons,List.map_nil,DataW.weightsEach] at hz2;exact ⟨hz2 _ (by simp),hz2 _ (by simp),hz2 _ (by simp),hw _ ht⟩
theorem strsD_said {B:Nat} {d:DataW H} {ls:List (List UInt8)} (hd:StrsD d ls) (hz:∀ n ∈ d.weights Tryz.prog 33,n≤B):ls.length≤B∧∀ l ∈ ls,l.length≤B:=by
 rcases hd with ⟨_,rfl⟩ | ⟨sp,rfl⟩
 ·simp
 ·simp only [DataW.weights,Tryz.underlying33] at hz;refine ⟨?_,fun l hl=>?_⟩
  ·have:=len_said (ds:=ls.map fun l=>(DataW.lit (.string l):DataW H)) (sp:=sp) bytesStrP (hz _ (List.mem_cons_self ..))
   simpa using this
  ·obtain ⟨k,hk',rfl⟩:=List.getElem_of_mem hl;refine hz _ (List.mem_cons_of_mem _ (List.mem_append.2 (Or.inl (weights_all (ls.map fun l=>(DataW.lit (.string l):DataW H)) k (by simpa using hk') _ ?_))))
   simp [DataW.weights]
theorem docD_said {B:Nat} {d:DataW H} {dc:Dc} (hd:DocD d dc) (hw:∀ t ∈ dc.tuples,(Lit.int .i64 t.prio).wf=true) (hz:∀ n ∈ d.weights Tryz.prog 35,n≤B):SmallD B dc:=by
 obtain ⟨d1,d2,rfl,h1,h2⟩:=hd;simp only [DataW.weights,Tryz.underlying35,List.map_cons,List.map_nil,DataW.weightsEach] at hz;obtain ⟨a1,a2⟩:=tusD_said h1 hw fun n hn=>hz n (by simp [hn]);obtain ⟨b1,b2⟩:=strsD_said h2 fun n hn=>hz n (by simp [hn]);exact ⟨hz _ (by simp),a1,b1,a2,b2⟩
theorem paD_said {B:Nat} {d:DataW H} {a:Pa} (hd:PaD d a) (hw:∀ t ∈ a.doc.tuples,(Lit.int .i64 t.prio).wf=true) (he:(Lit.int .i64 a.exp).wf=true) (hz:∀ n ∈ d.weights Tryz.prog 44,n≤B):SmallPa B a:=by
 obtain ⟨dd,rfl,h1⟩:=hd;simp only [DataW.weights,Tryz.underlying44,List.map_cons,List.map_nil,DataW.weightsEach] at hz;exact ⟨hz _ (by simp),hz _ (by simp),hz _ (by simp),docD_said h1 hw fun n hn=>hz n (by simp [hn]),he⟩
theorem acD_said {B:Nat} {d:DataW H} {x:AcP} (hd:AcD d x) (hw:∀ t ∈ x.a.doc.tuples,(Lit.int .i64 t.prio).wf=true) (he:(Lit.int .i64 x.a.exp).wf=true) (hz:∀ n ∈ d.weights Tryz.prog 46,n≤B):SmallPa B x.a:=by
 obtain ⟨dd,rfl,h1⟩:=hd;simp only [DataW.weights,Tryz.underlying46,List.map_cons,List.map_nil,DataW.weightsEach] at hz;exact paD_said h1 hw he fun n hn=>hz n (by simp [hn])
def AcpsIn (B:Nat) (W:World) (v:Value):Prop:=∃ cs:List AcP,AcsAt W v cs∧cs.length≤B∧∀ x ∈ cs,DocPa W x.a.doc x.ts x.ns∧SmallPa B x.a∧(Lit.int .i64 x.now).wf=true
theorem pacts_said {B:Nat} {r:Reach} {b0:Nat} {v:Value} {d:DataW H} {p:List MemPlace} (hv:Value.okWide Tryz.prog W r b0 22 v) (h:DataW.Trod enc Tryz.prog W 0 sp true 22 v d p)
  (hz:∀ n ∈ d.weights Tryz.prog 22,n≤B):AcpsIn B W v:=by
 obtain ⟨a,len,cap,rfl⟩:=okWide_slice Tryz.underlying22 hv;obtain ⟨fuel,hf0⟩:=h;obtain ⟨v',al,hc,hat,hwf,hd⟩:=open_acps hf0
 simp [Value.cells] at hc
 subst hc;refine ⟨al,hat,?_⟩
 rcases hd with ⟨_,rfl⟩ | ⟨ds,sp,hd,hl,hk⟩
 ·simp
 ·simp only at hd;subst hd;simp only [DataW.weights,Tryz.underlying22] at hz;refine ⟨?_,fun c hc=>?_⟩
  ·rw [← hl]; exact len_said (sp:=sp) bytesActP (hz _ (List.mem_cons_self ..))
  ·obtain ⟨k,hk',rfl⟩:=List.getElem_of_mem hc;obtain ⟨w1,w2,w3,w4⟩:=hwf _ hc;exact ⟨w1,acD_said (hk k hk' (by omega)) w2 w3 fun n hn=>hz n (List.mem_cons_of_mem _ (List.mem_append.2 (Or.inl (weights_all ds k (by omega) n hn)))),w4⟩
end
end Go.Proofs.YtbmjodlbkgblpaaGreatDoor
namespace Go.Proofs.YtbmjodlbkgblpaaGreatDoor
open Go.RowKit Go.Maps Go.WideMaps Sc
theorem TabP.lower {B C bt:Nat} {w:World} {s:Sto} (h:TabP C bt w s) (hB:B≤C):TabP B bt w s:=by
 obtain ⟨mn,ma,be,mw,cs,r,e1,h2,h3,h4,h5⟩:=h.has;refine ⟨h.right,h.ok,mn,ma,be,mw,cs,r,e1,h2,fun x hx=>⟨own_lower (h3 x hx).1 hB,own_lower (h3 x hx).2 hB⟩,?_,h5⟩
 exact ⟨h4.row,h4.num,h4.all,h4.wheel.lowerp hB,h4.n1,h4.n2,h4.n3,Nat.le_trans hB h4.lb,Nat.le_trans hB h4.ln,Nat.le_trans hB h4.lm⟩
theorem TabP.putS {B bt:Nat} {u u':World} {s:Sto} {b:Nat} {us:List Value} (h:TabP B bt u s) (hr:RowIs u b 28 us) (hc:Chg (fun k=>k=b) u u'):TabP B bt u' s:=by
 obtain ⟨mn,ma,be,mw,cs,r,h1,h2,h3,h4,h5⟩:=h.has;exact ⟨h.right,h.ok,mn,ma,be,mw,cs,r,h1,h2,fun x hx=>⟨own_chgP (h3 x hx).1 hc hr (by decide),own_chgP (h3 x hx).2 hc hr (by decide)⟩,h4.put hr (by decide) (by decide) (by decide) (by decide) hc,h5⟩
theorem chg9 (w:World) (b:Nat) (v0 v1 v2 v3 v4 v5 v6 v7 v8:Value):Chg (fun k=>k=b) w (((((((((w.setCell ⟨b,0,none⟩ v0).setCell ⟨b,1,none⟩ v1).setCell ⟨b,2,none⟩ v2).setCell ⟨b,3,none⟩ v3).setCell ⟨b,4,none⟩ v4).setCell ⟨b,5,none⟩ v5).setCell ⟨b,6,none⟩ v6).setCell ⟨b,7,none⟩ v7).setCell ⟨b,8,none⟩ v8) :=
 (((((((((Chg.refl (fun k=>k=b) w).setCell (p:=⟨b,0,none⟩) (fun _=>rfl) _).setCell (p:=⟨b,1,none⟩) (fun _=>rfl) _).setCell (p:=⟨b,2,none⟩) (fun _=>rfl) _).setCell (p:=⟨b,3,none⟩) (fun _=>rfl) _).setCell (p:=⟨b,4,none⟩) (fun _=>rfl) _).setCell (p:=⟨b,5,none⟩) (fun _=>rfl) _).setCell (p:=⟨b,6,none⟩) (fun _=>rfl) _).setCell (p:=⟨b,7,none⟩) (fun _=>rfl) _).setCell (p:=⟨b,8,none⟩) (fun _=>rfl) _
structure AcB (u:World) (p:Addr) (x:AcP):Prop where
 c0:u.cell? p=some (.bool x.expire)
 c1:u.cell? ⟨p.block,p.off+1,none⟩=some (.int .i64 x.now)
 c2:u.cell? ⟨p.block,p.off+2,none⟩=some (.string ⟨x.a.who.toArray⟩)
 c3:u.cell? ⟨p.block,p.off+3,none⟩=some (.string ⟨x.a.mt.toArray⟩)
 c4:u.cell? ⟨p.block,p.off+4,none⟩=some (.int .i64 x.a.exp)
 c5:u.cell? ⟨p.block,p.off+5,none⟩=some (.bool x.a.has)
 c6:u.cell? ⟨p.block,p.off+6,none⟩=some (.string ⟨x.a.doc.entity.toArray⟩)
 c7:u.cell? ⟨p.block,p.off+7,none⟩=some x.ts
 c8:u.cell? ⟨p.block,p.off+8,none⟩=some x.ns
 c9:u.cell? ⟨p.block,p.off+9,none⟩=some (.string ⟨x.a.tag.toArray⟩)
theorem AcsAt.one {w u:World} {ao:Option Addr} {n cap:Nat} {cs:List AcP} (h:AcsAt w (.slice ao n cap) cs) (hb:Below w.heap.size w u) {k:Nat} (hk:k < cs.length):∃ ad,ao=some ad∧ad.block < w.heap.size∧AcB u (ad.add (k * 10)) cs[k]:=by
 obtain ⟨ao',cap',hv,hc⟩:=h
 injection hv with e1 e2 e3
 subst e1;obtain ⟨ad,ha,hlt,c⟩:=hc k hk;have g:∀ (j:Nat) (v:Value),(acpCells cs[k])[j]? = some v → u.cell? (if j=0 then ad.add (k * 10) else ⟨(ad.add (k * 10)).block,(ad.add (k * 10)).off+j,none⟩)=some v:=fun j v hj=>cell_below hb (by split <;> simp only [add_block] <;> exact hlt) (c j v hj);exact ⟨ad,ha,hlt,by simpa using g 0 _ rfl,by simpa using g 1 _ rfl,by simpa using g 2 _ rfl,by simpa using g 3 _ rfl,by simpa using g 4 _ rfl,by simpa using g 5 _ rfl,by simpa using g 6 _ rfl,by simpa using g 7 _ rfl,by simpa using g 8 _ rfl,by simpa using g 9 _ rfl⟩
theorem AcB.below {w u:World} {p:Addr} {x:AcP} (h:AcB w p x) (hb:Below w.heap.size w u) (hlt:p.block < w.heap.size):AcB u p x:=by
 have g:∀ (q:Addr) (v:Value),q.block=p.block → w.cell? q=some v → u.cell? q=some v:=fun q v e hq=>cell_below hb (by rw [e]; exact hlt) hq;exact ⟨g _ _ rfl h.c0,g _ _ rfl h.c1,g _ _ rfl h.c2,g _ _ rfl h.c3,g _ _ rfl h.c4,g _ _ rfl h.c5,g _ _ rfl h.c6,g _ _ rfl h.c7,g _ _ rfl h.c8,g _ _ rfl h.c9⟩
structure FilI (w wr:World) (bt br b3:Nat) (S:Sto) (v:Value) (cs:List PbC):Prop where
 tab:TabP w.heap.size bt wr S
 row:RowIs wr br 28 (stoL S v)
 row3:RowIs wr b3 28 stoZ
 own:OwnPb wr w.heap.size v cs
 docs:∀ u,Below w.heap.size w u → DocsAt u cs
 is:S.l=pbsL cs
 cf:S.c=plainC 3
 bel:Below w.heap.size w wr
 lr:w.heap.size≤br
 l3:w.heap.size≤b3
 ne:b3 ≠ br
section
variable {w wr w' : World} {bt br b3 : Nat} {S : Sto} {v : Value} {cs : List PbC}
theorem FilI.below (h:FilI w wr bt br b3 S v cs) (hb:Below wr.heap.size wr w'):FilI w w' bt br b3 S v cs :=
 ⟨h.tab.below hb,h.row.below hb h.row.bl,h.row3.below hb h.row3.bl,h.own.below hb,h.docs,h.is,h.cf,h.bel.trans (hb.mono h.bel.size),h.lr,h.l3,h.ne⟩
theorem FilI.few (h:FilI w wr bt br b3 S v cs):cs.length≤100000:=by
 have:=few_pubs h.tab.right h.tab.ok
 rw [h.is,pbsL_len] at this;omega
structure FilM (w wr:World) (bt br b3:Nat) (S S':Sto) (v:Value) (cs:List PbC):Prop where
 tab:TabP w.heap.size bt wr S'
 row:RowIs wr br 28 (stoL S v)
 row3:RowIs wr b3 28 stoZ
 own:OwnPb wr w.heap.size v cs
 bel:Below w.heap.size w wr
theorem FilI.mid (h:FilI w wr bt br b3 S v cs) {S':Sto} (ht:TabP w.heap.size bt w' S') (hf:FrP w.heap.size wr w'):FilM w w' bt br b3 S S' v cs :=
 ⟨ht,hf.row h.row (by decide) (by decide) (by decide) (by decide),hf.row h.row3 (by decide) (by decide) (by decide) (by decide),hf.own h.own (by decide) (by decide) (by decide) (by decide),h.bel.trans hf.below⟩
theorem FilM.below {S':Sto} (h:FilM w wr bt br b3 S S' v cs) (hb:Below wr.heap.size wr w'):FilM w w' bt br b3 S S' v cs :=
 ⟨h.tab.below hb,h.row.below hb h.row.bl,h.row3.below hb h.row3.bl,h.own.below hb,h.bel.trans (hb.mono h.bel.size)⟩
theorem FilM.done {wr':World} {S':Sto} {v':Value} {cs':List PbC} (h:FilM w wr bt br b3 S S' v cs) (hi:FilI w wr' bt br b3 S v cs) (ho:(v'=v∧cs'=cs)∨OwnPb wr w.heap.size v' cs') (hd:∀ u,Below w.heap.size w u → DocsAt u cs') (hs:S'.l=pbsL cs') (hc:S'.c=plainC 3) (hch:Chg (fun k=>k=br) wr w') (hr:RowIs w' br 28 (stoL S' v')):FilI w w' bt br b3 S' v' cs':=by
 refine ⟨h.tab.putS h.row hch,hr,?_,?_,hd,hs,hc,h.bel.trans (hch.below h.bel.size fun k e=>by subst e; exact hi.lr),hi.lr,hi.l3,hi.ne⟩
 ·exact h.row3.chg hch hi.ne
 ·rcases ho with ⟨rfl,rfl⟩ | ho
  ·exact own_chgP h.own hch h.row (by decide)
  ·exact own_chgP ho hch h.row (by decide)
end
def FilRes (w:World) (e:Ending) (w':World):Prop:=∃ (bt:Nat) (S:Sto) (v:Value) (cs:List PbC),e=.returned (.tuple #[.pointer (some ⟨bt,0,none⟩),stoV S v])∧TabP w.heap.size bt w' S∧OwnPb w' w.heap.size v cs∧(∀ u,Below w.heap.size w u → DocsAt u cs)∧S.l=pbsL cs∧S.c=plainC 3∧S.last≤20∧Below w.heap.size w w'
theorem smallD_up {B C:Nat} {d:Dc} (h:SmallD B d) (hB:B≤C):SmallD C d:=by
 obtain ⟨h1,h2,h3,h4,h5⟩:=h;refine ⟨Nat.le_trans h1 hB,Nat.le_trans h2 hB,Nat.le_trans h3 hB,fun t ht=>?_,fun l hl=>Nat.le_trans (h5 l hl) hB⟩
 obtain ⟨a,b,c,e⟩:=h4 t ht;exact ⟨Nat.le_trans a hB,Nat.le_trans b hB,Nat.le_trans c hB,e⟩
theorem acts_sma {B:Nat} {a:Pa} (h:SmallPa B a) (hB:B≤140737488355328) (hs:smallA a=true):SmA a∧a.tag.length≤140737488355328∧a.doc.entity.length+4≤1048576:=by
 unfold smallA at hs;simp only [Bool.and_eq_true,decide_eq_true_eq] at hs;obtain ⟨⟨h1,h2⟩,h3⟩:=hs;have d1:=h.doc;refine ⟨⟨by have:=h.who; omega,by have:=h.mt; omega,by have:=h.tag; omega,?_,by omega,by omega⟩,by have:=h.tag; omega,by omega⟩
 exact smallD_up d1 hB
theorem fil_start {w w1 w4:World} {bt:Nat} (hr3:RowIs w1 w.heap.size 28 stoZ) (hb1:Below w.heap.size w w1) (hT:TabP w.heap.size bt w4 ⟨plainC 3,0,[]⟩) (hb4:Below w1.heap.size w1 w4) :
  FilI w (w4.alloc (.cells #[.string ⟨#[]⟩,.int .i64 1,.int .i64 3,.int .i64 1,.int .i64 60,.int .i64 3600,.int .i64 600,.int .i64 0,.slice none 0 0] 28)) bt w4.heap.size w.heap.size ⟨plainC 3,0,[]⟩ (.slice none 0 0) []:=by
 have b5:Below w4.heap.size w4 (w4.alloc (.cells #[.string ⟨#[]⟩,.int .i64 1,.int .i64 3,.int .i64 1,.int .i64 60,.int .i64 3600,.int .i64 600,.int .i64 0,.slice none 0 0] 28)):=(Below.refl _ w4).alloc (Nat.le_refl _) _;have r5:=rc_row9 w4 (.string ⟨#[]⟩) (.int .i64 1) (.int .i64 3) (.int .i64 1) (.int .i64 60) (.int .i64 3600) (.int .i64 600) (.int .i64 0) (.slice none 0 0) 28;have hl:=hr3.bl;have hs4:=hb4.size;have r3:=hr3.below hb4 hl;exact ⟨hT.below b5,r5,r3.below b5 r3.bl,OwnPb.nil _ _,fun u _ c hc=>by simp at hc,rfl,rfl,hb1.trans ((hb4.trans (b5.mono hs4)).mono hb1.size),by have:=hb1.size; omega,Nat.le_refl _,by omega⟩
theorem fil_out {w wr:World} {bt br:Nat} {S:Sto} {v:Value} {cs:List PbC} (h:FilI w wr bt br w.heap.size S v cs) :
  let W':=(((((((((wr.setCell ⟨w.heap.size,0,none⟩ (.string ⟨S.c.host.toArray⟩)).setCell ⟨w.heap.size,1,none⟩ (.int .i64 S.c.calls)).setCell ⟨w.heap.size,2,none⟩ (.int .i64 S.c.pubs)).setCell ⟨w.heap.size,3,none⟩ (.int .i64 S.c.subs)).setCell ⟨w.heap.size,4,none⟩ (.int .i64 S.c.least)).setCell ⟨w.heap.size,5,none⟩ (.int .i64 S.c.most)).setCell ⟨w.heap.size,6,none⟩ (.int .i64 S.c.usual)).setCell ⟨w.heap.size,7,none⟩ (.int .i64 S.last)).setCell ⟨w.heap.size,8,none⟩ v)
  RowIs W' w.heap.size 28 (stoL S v)∧TabP w.heap.size bt W' S∧OwnPb W' w.heap.size v cs∧Below w.heap.size w W':=by
 have hch:=chg9 wr w.heap.size (.string ⟨S.c.host.toArray⟩) (.int .i64 S.c.calls) (.int .i64 S.c.pubs) (.int .i64 S.c.subs) (.int .i64 S.c.least) (.int .i64 S.c.most) (.int .i64 S.c.usual) (.int .i64 S.last) v;exact ⟨rc_store9 h.row3 _ _ _ _ _ _ _ _ _,h.tab.putS h.row3 hch,own_chgP h.own hch h.row3 (by decide),rc_below9 h.bel w.heap.size (Nat.le_refl _) _ _ _ _ _ _ _ _ _⟩
set_option maxHeartbeats 4000000 in
set_option maxRecDepth 100000 in
theorem filled_any {w:World} {acts:List AcP} {v0:Value} (ha:AcsAt w v0 acts) (hin:∀ x ∈ acts,DocPa w x.a.doc x.ts x.ns∧SmallPa 140737488351232 x.a∧(Lit.int .i64 x.now).wf=true) (hl:acts.length≤140737488351232) :
  Calls Tryz.prog 4 #[v0] w (FilRes w):=by
 have HI:=hid ha;have HO:=hid hin;obtain ⟨ao,cap,rfl,_⟩:=ha;obtain ⟨n,hnn⟩:∃ n,n=acts.length:=⟨_,rfl⟩
 rw [← hnn] at HI hl ⊢;have HN:=hid hnn;have KP:=hid (fun (u:World)=>plain16_any u 3);have KB:=hid (fun (u:World)=>begun16_ok u (plainC 3) (plain_right (by decide) (by decide)));unfold cfV plainC at KP KB;have R3:=hid (rc_row9 w (.string ⟨#[]⟩) (.int .i64 0) (.int .i64 0) (.int .i64 0) (.int .i64 0) (.int .i64 0) (.int .i64 0) (.int .i64 0) (.slice none 0 0) 28);have B1:=hid (show Below w.heap.size w (w.alloc (.cells #[.string ⟨#[]⟩,.int .i64 0,.int .i64 0,.int .i64 0,.int .i64 0,.int .i64 0,.int .i64 0,.int .i64 0,.slice none 0 0] 28)) from (Below.refl _ w).alloc (Nat.le_refl _) _);clear hin hnn
 go_enter Tryz.func4,Tryz.ntmps4
 go_upto_region 1 with fail
 generalize World.alloc _ _=w1 at R3 B1 ⊢;go_wp2_with fail
 refine (KP.out _).mono ?_
 rintro e w2 ⟨rfl,hb2⟩;have hb2:=hid hb2;go_wp2_with fail
 refine (KB.out _).mono ?_
 rintro e w3 ⟨bt,rfl,hT3,hb3⟩;have hT3:=hid hT3;have hb3:=hid hb3;go_wp2_with fail
 refine (KP.out _).mono ?_
 rintro e w4 ⟨rfl,hb4⟩;have X:=hid (fil_start R3.out B1.out ((hT3.out.below hb4).lower (Nat.le_trans B1.out.size hb2.out.size)) ((hb2.out.trans (hb3.out.mono hb2.out.size)).trans (hb4.mono (Nat.le_trans hb2.out.size hb3.out.size))));clear hT3 hb4 hb3 hb2 R3 B1 KB KP
 go_upto_region 2 with fail
 generalize w4.heap.size=br at X ⊢;generalize World.alloc _ _=W at X ⊢;go_wp2
 go_loopw [6] (fun i wr=>∃ k:Nat,k≤n∧k≤20∧i=.int .i64 k∧Hid (∃ S v cs,FilI w wr bt br w.heap.size S v cs∧S.last≤k)) (fun i _=>n - (intOf i).toNat)
 case atStart=>exact ⟨0,by omega,by omega,rfl,⟨_,_,_,X.out,by decide⟩⟩
 case round =>
  clear X;obtain ⟨k,hk,hk2,rfl,HF⟩:=hrel;by_cases hlt:k < n
  case neg =>
   have hlt':decide ((k:Int) < (n:Int))=false:=decide_eq_false (by omega);obtain ⟨S,v,cs,hF,hSl⟩:=HF.out;obtain ⟨oa,oc,hv⟩:=hF.own.form;subst hv;have hF':=hF.below (Below.refl _ wr).drew;have KEEP:=hid (fil_out hF);have INF:=hid (And.intro hF.docs (And.intro hF.is (And.intro hF.cf (show S.last≤20 by omega))));obtain ⟨x0,x1,x2,x3,x4,x5,x6,x7,x8,_⟩:=hF'.row.rc9;obtain ⟨z0,z1,z2,z3,z4,z5,z6,z7,z8,f0,f1,f2,f3,f4,f5,f6,f7,f8⟩:=hF'.row3.rc9;obtain ⟨k0,k1,k2,k3,k4,k5,k6,k7,k8,j0,j1,j2,j3,j4,j5,j6,j7,j8⟩:=hF.row3.rc9;obtain ⟨i0,i1,i2,i3,i4,i5,i6,i7,i8,_⟩:=hF.row.rc9;have hne:w.heap.size ≠ br:=hF.ne;clear HF hF hF';go_wp2
   go_region
   all_goals (
    generalize World.setCell _ _ _=wA at KEEP ⊢;clear x0 x1 x2 x3 x4 x5 x6 x7 x8 z0 z1 z2 z3 z4 z5 z6 z7 z8 f0 f1 f2 f3 f4 f5 f6 f7 f8 k0 k1 k2 k3 k4 k5 k6 k7 k8 j0 j1 j2 j3 j4 j5 j6 j7 j8 i0 i1 i2 i3 i4 i5 i6 i7 i8;obtain ⟨hrA,hTA,hOA,hbA⟩:=KEEP.out;have hdd:=(Below.refl wA.heap.size wA).drew;have hTD:=hTA.below hdd;have hOD:=hOA.below hdd;obtain ⟨d0,d1,d2,d3,d4,d5,d6,d7,d8,_⟩:=(hrA.below hdd hrA.bl).rc9;go_wp2
    try simp only [Exit.inBlock,Exit.then]
    refine bodyPost_ret (v:=.tuple #[.pointer (some ⟨bt,0,none⟩),.agg #[.string ⟨S.c.host.toArray⟩,.int .i64 S.c.calls,.int .i64 S.c.pubs,.int .i64 S.c.subs,.int .i64 S.c.least,.int .i64 S.c.most,.int .i64 S.c.usual,.int .i64 S.last,.slice oa cs.length oc]]) (by simp [results,Tryz.results4,go_sem,d0,d1,d2,d3,d4,d5,d6,d7,d8]; try rfl) rfl ?_
    exact ⟨bt,S,_,cs,rfl,hTD,hOD,INF.out.1,INF.out.2.1,INF.out.2.2.1,INF.out.2.2.2,hbA.drew⟩)
  have hlt':(k:Int) < (n:Int):=by omega
  by_cases h5:k < 20
  case neg =>
   have h5':decide ((k:Int) < 20)=false:=decide_eq_false (by omega);obtain ⟨S,v,cs,hF,hSl⟩:=HF.out;obtain ⟨oa,oc,hv⟩:=hF.own.form;subst hv;have hF':=hF.below (Below.refl _ wr).drew;have KEEP:=hid (fil_out hF);have INF:=hid (And.intro hF.docs (And.intro hF.is (And.intro hF.cf (show S.last≤20 by omega))));obtain ⟨x0,x1,x2,x3,x4,x5,x6,x7,x8,_⟩:=hF'.row.rc9;obtain ⟨z0,z1,z2,z3,z4,z5,z6,z7,z8,f0,f1,f2,f3,f4,f5,f6,f7,f8⟩:=hF'.row3.rc9;obtain ⟨k0,k1,k2,k3,k4,k5,k6,k7,k8,j0,j1,j2,j3,j4,j5,j6,j7,j8⟩:=hF.row3.rc9;obtain ⟨i0,i1,i2,i3,i4,i5,i6,i7,i8,_⟩:=hF.row.rc9;have hne:w.heap.size ≠ br:=hF.ne;clear HF hF hF';go_wp2
   go_region
   all_goals (
    generalize World.setCell _ _ _=wA at KEEP ⊢;clear x0 x1 x2 x3 x4 x5 x6 x7 x8 z0 z1 z2 z3 z4 z5 z6 z7 z8 f0 f1 f2 f3 f4 f5 f6 f7 f8 k0 k1 k2 k3 k4 k5 k6 k7 k8 j0 j1 j2 j3 j4 j5 j6 j7 j8 i0 i1 i2 i3 i4 i5 i6 i7 i8;obtain ⟨hrA,hTA,hOA,hbA⟩:=KEEP.out;have hdd:=(Below.refl wA.heap.size wA).drew;have hTD:=hTA.below hdd;have hOD:=hOA.below hdd;obtain ⟨d0,d1,d2,d3,d4,d5,d6,d7,d8,_⟩:=(hrA.below hdd hrA.bl).rc9;go_wp2
    try simp only [Exit.inBlock,Exit.then]
    refine bodyPost_ret (v:=.tuple #[.pointer (some ⟨bt,0,none⟩),.agg #[.string ⟨S.c.host.toArray⟩,.int .i64 S.c.calls,.int .i64 S.c.pubs,.int .i64 S.c.subs,.int .i64 S.c.least,.int .i64 S.c.most,.int .i64 S.c.usual,.int .i64 S.last,.slice oa cs.length oc]]) (by simp [results,Tryz.results4,go_sem,d0,d1,d2,d3,d4,d5,d6,d7,d8]; try rfl) rfl ?_
    exact ⟨bt,S,_,cs,rfl,hTD,hOD,INF.out.1,INF.out.2.1,INF.out.2.2.1,INF.out.2.2.2,hbA.drew⟩)
  have h5':(k:Int) < 20:=by omega
  have hkl:k < acts.length:=by rw [← HN.out]; exact hlt
  obtain ⟨S,v,cs,hF,hSl⟩:=HF.out;obtain ⟨ad,rfl,hab,hc⟩:=HI.out.one (Below.refl _ w) hkl;obtain ⟨hdoc,hsm,hwf⟩:=HO.out _ (List.getElem_mem hkl);generalize acts[k]=x at hc hdoc hsm hwf;obtain ⟨ex,now,a,ts,ns⟩:=x;simp only at hc hdoc hsm hwf;have HDC:=hid hdoc;have HSM:=hid hsm;obtain ⟨ta,tc,rfl,_⟩:=hdoc.t;obtain ⟨na,nc,rfl,_⟩:=hdoc.n;have KS:=hid (fun (u:World)=>small16_any u a (ta:=ta) (tc:=tc) (na:=na) (nc:=nc) (by have:=hsm.doc.ent; omega));unfold askV at KS;have hbk:(ad.add (k * 10)).block < w.heap.size:=by rw [add_block]; exact hab
  have HC:=hid (fun (u:World) (hb:Below w.heap.size w u)=>hc.below hb hbk);obtain ⟨c0,c1,c2,c3,c4,c5,c6,c7,c8,c9⟩:=HC.out _ hF.bel;have HFF:=hid hF;clear HF hF hc hdoc hsm hbk
  cases hsa:smallA a
  ·rw [hsa] at KS;go_wp2_with fail
   refine (KS.out _).mono ?_
   rintro e u1 ⟨rfl,hu1⟩;have hF1:=hid (HFF.out.below hu1);go_wp2;go_roundw
   case rel=>exact ⟨k+1,by omega,by omega,by go_num,⟨S,v,cs,hF1.out,by omega⟩⟩
   case measure=>simp [intOf]; omega
  rw [hsa] at KS
  cases ex
  case true =>
   go_wp2_with fail
   refine (KS.out _).mono ?_
   rintro e u1 ⟨rfl,hu1⟩;have hF1:=hid (HFF.out.below hu1);clear c0 c1 c2 c3 c4 c5 c6 c7 c8 c9;obtain ⟨c0,_⟩:=HC.out _ hF1.out.bel;go_wp2;go_roundw
   case rel=>exact ⟨k+1,by omega,by omega,by go_num,⟨S,v,cs,hF1.out,by omega⟩⟩
   case measure=>simp [intOf]; omega
  obtain ⟨q1,q2,q3⟩:=acts_sma HSM.out (by decide) hsa;go_wp2_with fail
  refine (KS.out _).mono ?_
  rintro e u1 ⟨rfl,hu1⟩;have hF1:=hid (HFF.out.below hu1);have hF2:=hid (hF1.out.below (Below.refl _ u1).drew);clear HFF hu1 KS c0 c1 c2 c3 c4 c5 c6 c7 c8 c9;obtain ⟨c0,_⟩:=HC.out _ hF1.out.bel
  go_upto_region 6 with fail
  obtain ⟨R,hR⟩:∃ R,R=doS S now a:=⟨_,rfl⟩
  have KD:=hid (does16_any hF2.out.tab q1 q2 (by omega) (now:=now) (ts:=.slice ta a.doc.tuples.length tc) (ns:=.slice na a.doc.notes.length nc) (fun _=>⟨q3,HDC.out.c,fun u hu=>by
   have:=HDC.out.below (hF2.out.bel.trans hu)
   exact ⟨this.t,this.n⟩⟩))
  have KO:=hid (fun (u:World) (hm:FilM w u bt br w.heap.size S R.1 v cs)=>rdo16_any hm.own (hF1.out.docs _ hm.bel) hF1.out.is hF1.out.few hF1.out.tab.right hF1.out.tab.ok.last (by omega) now a (.slice ta a.doc.tuples.length tc) (.slice na a.doc.notes.length nc) q2 (fun _=>by
   have:=HDC.out.below hm.bel
   exact ⟨this.t,this.n⟩) (fun _=>smallD_up HSM.out.doc (by decide)) (fun _=>q3))
  unfold DoRes at KO;rw [← hR] at KD KO;have HR:=hid (show R.1.c=plainC 3∧R.1.last≤(k:Int)+1 from ⟨by rw [hR,doS_c]; exact hF1.out.cf,by rcases doS_last S now a with h | h <;> (rw [hR,h]; omega)⟩);clear hR;obtain ⟨S',⟨st,exx,tg,ch⟩,er⟩:=R;unfold askV tdV at KD;unfold askV tdV stoV at KO;simp only at KD KO HR;have bel2:=hid hF2.out.bel;obtain ⟨_,c1,c2,c3,c4,c5,c6,c7,c8,c9⟩:=HC.out _ bel2.out
  go_region_law (go_simp; go_at_call 10; refine KD.out.mono ?_; rintro e w2 ⟨rfl,hT2,hF2'⟩; have HM:=hid (hF2.out.mid hT2 hF2'); clear hT2 hF2')
  all_goals (
   have HM2:=hid (HM.out.below (Below.refl _ w2).drew);clear c0 c1 c2 c3 c4 c5 c6 c7 c8 c9 KD;obtain ⟨_,c1,c2,c3,c4,c5,c6,c7,c8,c9⟩:=HC.out _ HM2.out.bel;obtain ⟨x0,x1,x2,x3,x4,x5,x6,x7,x8,_⟩:=HM2.out.row.rc9
   go_upto_region 7 with fail
   go_region_law (go_simp; go_at_call 11; refine (KO.out _ HM2.out).mono ?_; rintro e w3 ⟨v',cs',rfl,hO3,hD3,hS3,hB3⟩; obtain ⟨oa3,oc3,rfl⟩:∃ a c,v'=.slice a cs'.length c:=(by rcases hO3 with ⟨rfl,rfl⟩ | ho3; exact HM2.out.own.form; exact ho3.form); have HM3:=hid (HM2.out.below hB3); have HN3:=hid (And.intro hO3 (And.intro hD3 hS3)); clear hO3 hD3 hS3 hB3; clear x0 x1 x2 x3 x4 x5 x6 x7 x8; obtain ⟨x0,x1,x2,x3,x4,x5,x6,x7,x8,f0,f1,f2,f3,f4,f5,f6,f7,f8⟩:=HM3.out.row.rc9))
  all_goals (
   have hsz:=HM2.out.bel.size;have FIN:=hid (HM3.out.done hF2.out (HN3.out.1.imp id fun h=>ownPb_mono h hsz) (fun u hu=>HN3.out.2.1 u (hF2.out.docs u hu) (fun _=>⟨(HDC.out.below hu).t,(HDC.out.below hu).n⟩)) HN3.out.2.2 HR.out.1 (chg9 w3 br (.string ⟨S'.c.host.toArray⟩) (.int .i64 S'.c.calls) (.int .i64 S'.c.pubs) (.int .i64 S'.c.subs) (.int .i64 S'.c.least) (.int .i64 S'.c.most) (.int .i64 S'.c.usual) (.int .i64 S'.last) (.slice oa3 cs'.length oc3)) (rc_store9 HM3.out.row _ _ _ _ _ _ _ _ _));clear x0 x1 x2 x3 x4 x5 x6 x7 x8 f0 f1 f2 f3 f4 f5 f6 f7 f8 c1 c2 c3 c4 c5 c6 c7 c8 c9;go_wp2;go_roundw
   case rel=>exact ⟨k+1,by omega,by omega,by go_num,⟨S',_,cs',FIN.out,by have:=HR.out.2; omega⟩⟩
   case measure=>simp [intOf]; omega)
def TyOk (e:TypeId):Prop:=e ≠ 106∧e ≠ 170∧e ≠ 162∧e ≠ 57
structure Bag (w wr:World) (bt:Nat) (S:Sto) (v:Value) (cs:List PbC) (l:List (Nat × TypeId × List Value)):Prop where
 tab:TabP w.heap.size bt wr S
 rows:∀ x ∈ l,RowIs wr x.1 x.2.1 x.2.2∧TyOk x.2.1
 bel:Below w.heap.size w wr
 own:OwnPb wr w.heap.size v cs
section
variable {w wr w' : World} {bt : Nat} {S S' : Sto} {v : Value} {cs : List PbC} {l : List (Nat × TypeId × List Value)}
theorem Bag.below (h:Bag w wr bt S v cs l) (hb:Below wr.heap.size wr w'):Bag w w' bt S v cs l :=
 ⟨h.tab.below hb,fun x hx=>⟨(h.rows x hx).1.below hb (h.rows x hx).1.bl,(h.rows x hx).2⟩,h.bel.trans (hb.mono h.bel.size),h.own.below hb⟩
theorem Bag.add (h:Bag w wr bt S v cs l) {b:Nat} {e:TypeId} {us:List Value} (hr:RowIs wr b e us) (he:TyOk e):Bag w wr bt S v cs ((b,e,us) :: l) :=
 ⟨h.tab,fun x hx=>by
  rcases List.mem_cons.1 hx with rfl | hx
  ·exact ⟨hr,he⟩
  ·exact h.rows x hx,h.bel,h.own⟩
theorem Bag.new (h:Bag w wr bt S v cs l) (vs:List Value) (e:TypeId) (he:TyOk e):Bag w (wr.alloc (.cells vs.toArray e)) bt S v cs ((wr.heap.size,e,vs) :: l) :=
 (h.below ((Below.refl _ wr).alloc (Nat.le_refl _) _)).add (by unfold RowIs; rw [heap_alloc_new]) he
theorem Bag.r0 {x:Nat × TypeId × List Value} (h:Bag w wr bt S v cs (x :: l)):RowIs wr x.1 x.2.1 x.2.2:=(h.rows x (List.mem_cons_self ..)).1
theorem tySto:TyOk 28:=⟨by decide,by decide,by decide,by decide⟩
end
end Go.Proofs.YtbmjodlbkgblpaaGreatDoor
namespace Go.Proofs.YtbmjodlbkgblpaaGreatDoor
open Go.RowKit Go.Maps Go.WideMaps Go.Sort
def cmpPb (x y:PbC):Int:=Lib.compareInt x.p.num y.p.num
theorem lt_cmpPb (x y:PbC):ltOf cmpPb x y=decide (x.p.num < y.p.num):=by
 unfold ltOf cmpPb Lib.compareInt;by_cases h:x.p.num < y.p.num
 ·rw [if_pos h]
  simp [h]
 ·rw [if_neg h];by_cases h2:x.p.num > y.p.num
  ·rw [if_pos h2]; simp [h]
  ·rw [if_neg h2]; simp [h]
theorem swo_cmpPb:SWO (ltOf cmpPb):=by
 refine ⟨fun x=>?_,fun x y z h1 h2=>?_,fun x y z h1 h2=>?_⟩
 ·rw [lt_cmpPb]; simp
 ·rw [lt_cmpPb] at h1 h2 ⊢;simp only [decide_eq_true_eq] at h1 h2 ⊢;omega
 ·rw [lt_cmpPb] at h1 h2 ⊢;simp only [decide_eq_false_iff_not] at h1 h2 ⊢;omega
def slOf:Value → Option Addr × Nat × Nat
 | .slice a n c=>(a,n,c)
 | _=>(none,0,0)
def IsSl (v:Value):Prop:=∃ a n c,v=.slice a n c
def slV (v:Value):Value:=.slice (slOf v).1 (slOf v).2.1 (slOf v).2.2
theorem slV_id {v:Value} (h:IsSl v):slV v=v:=by
 obtain ⟨a,n,c,rfl⟩:=h
 rfl
def encP (c:PbC):List Value:=[.int .i64 c.p.num,.string ⟨c.p.who.toArray⟩,.string ⟨c.p.tag.toArray⟩,.int .i64 c.p.til,.string ⟨c.p.doc.entity.toArray⟩,slV c.ts,slV c.ns]
theorem enc_id {c:PbC} (h:IsSl c.ts∧IsSl c.ns):encP c=pbCells c:=by
 unfold encP pbCells;rw [slV_id h.1,slV_id h.2]
theorem enc_one (x:PbC):∀ v ∈ encP x,v.oneCell'=true:=by
 intro v hv;simp only [encP,List.mem_cons,List.not_mem_nil,or_false] at hv
 rcases hv with rfl | rfl | rfl | rfl | rfl | rfl | rfl <;> rfl
theorem flat_pbs [Inhabited PbC] (d:Array PbC) (h:∀ c ∈ d.toList,IsSl c.ts∧IsSl c.ns):flatK encP 7 d=(pbsCells d.toList).toArray:=by
 refine ext_get! (by simp [pbsCells_len]) fun t ht=>?_
 have ht':t < d.size * 7:=by simpa using ht
 rw [get_flatK _ _ _ _ ht'];have hk:t / 7 < d.toList.length:=by simp; omega
 have hj:t % 7 < 7:=Nat.mod_lt _ (by decide);have e1:d[t / 7]! = d.toList[t / 7]:=by rw [getElem!_pos d _ (by simpa using hk)]; simp
 rw [e1,enc_id (h _ (List.getElem_mem hk))];have hjl:t % 7 < (pbCells d.toList[t / 7]).length:=by rw [pbCells_len]; exact hj
 have htl:t < (pbsCells d.toList).length:=by rw [pbsCells_len]; simpa using ht'
 have h2:=pbsCells_get d.toList (t / 7) hk (t % 7) _ (List.getElem?_eq_getElem hjl);rw [show t / 7 * 7+t % 7=t by omega,List.getElem?_eq_getElem htl] at h2
 injection h2 with h2
 have e2:(pbCells d.toList[t / 7])[t % 7]! = (pbCells d.toList[t / 7])[t % 7]:=getElem!_pos (pbCells d.toList[t / 7]) (t % 7) hjl;have e3:(pbsCells d.toList).toArray[t]! = (pbsCells d.toList).toArray[t]'(by simpa using htl):=getElem!_pos (pbsCells d.toList).toArray t (by simpa using htl);rw [e2,e3]
 simpa using h2.symm
theorem holds_pbs [Inhabited PbC] {w:World} {g:Nat} {cur:Array Value} {e:TypeId} {cs:List PbC} (hb:w.heap[g]? = some (.cells cur e (0,0))) (ht:cur.toList.take (cs.length * 7)=pbsCells cs) (hc:∀ c ∈ cs,IsSl c.ts∧IsSl c.ns):HoldsK encP 7 w g 0 cs.toArray:=by
 unfold HoldsK;rw [flat_pbs _ (by simpa using hc)];intro j hj;have hj':j < cs.length * 7:=by simpa [pbsCells_len] using hj
 refine ⟨?_,by simp [World.frozen?,hb]⟩
 have h1:(cur.toList.take (cs.length * 7))[j]? = (pbsCells cs)[j]? := by rw [ht]
 rw [List.getElem?_take_of_lt hj'] at h1;simp only [World.cell?,hb,Nat.zero_add];simp only [Option.isSome_none,Bool.false_eq_true,if_false];rw [← Array.getElem?_toList,h1];have hl:j < (pbsCells cs).length:=by rw [pbsCells_len]; exact hj'
 rw [List.getElem?_eq_getElem hl];rw [getElem!_pos (pbsCells cs.toArray.toList).toArray j (by simpa using hl)]
 simp
theorem heap_sortP {w:World} {g n:Nat} {os:Array Obj} {cur:Array Value} {e:TypeId} {fr:Nat × Nat} (F:Array Value) (hb:w.heap[g]? = some (.cells cur e fr)) :
  (grow (putRow id (Sort.ahead w n) g 0 F) os).heap[g]? = some (.cells (putCells id 0 F cur) e fr):=by
 have hg:g < w.heap.size:=(Array.getElem?_eq_some_iff.1 hb).1;rw [heap_grow_old _ _ (by simpa using hg)]
 simp [putRow,mapBlock,Sort.ahead,Array.getElem?_modify,hb,onCells]
theorem grown_sortP {w:World} {g n:Nat} {os:Array Obj} (F:Array Value):w.grownBy (grow (putRow id (Sort.ahead w n) g 0 F) os) (some g):=by
 refine ⟨rfl,rfl,rfl,by simp,fun k hk hne=>?_⟩
 rw [heap_grow_old _ _ (by simpa using hk)]
 have:g ≠ k:=fun e=>hne (by rw [e])
 simp [putRow,mapBlock,Sort.ahead,Array.getElem?_modify,this]
theorem take_putP (cur:Array Value) (l:List Value) (h:l.length≤cur.size):(putCells id 0 l.toArray cur).toList.take l.length=l:=by
 apply List.ext_getElem?
 intro j;by_cases hj:j < l.length
 ·rw [List.getElem?_take_of_lt hj,Array.getElem?_toList]
  simp [putCells,hj,show j < cur.size by omega]
 ·rw [List.getElem?_take_eq_none (by omega),List.getElem?_eq_none (by omega)]
set_option maxHeartbeats 1000000 in
set_option maxRecDepth 100000 in
theorem live1_any (W:World) (p q:Pb) (xa ya za ua:Option Addr) (xn xc yn yc zn zc un uc:Nat) :
  Calls Tryz.prog 15 #[.agg #[.int .i64 p.num,.string ⟨p.who.toArray⟩,.string ⟨p.tag.toArray⟩,.int .i64 p.til,.string ⟨p.doc.entity.toArray⟩,.slice xa xn xc,.slice ya yn yc],.agg #[.int .i64 q.num,.string ⟨q.who.toArray⟩,.string ⟨q.tag.toArray⟩,.int .i64 q.til,.string ⟨q.doc.entity.toArray⟩,.slice za zn zc,.slice ua un uc]] W fun e w'=>e=.returned (.int .i64 (Lib.compareInt p.num q.num))∧∃ n os',w'=grow (W.drewN n) os':=by
 have K:=fun (u:World)=>cmp_Compare_int p.num q.num u;generalize Lib.compareInt p.num q.num=r at K ⊢
 go_enter Tryz.func15,Tryz.ntmps15
 go_wp2_with (go_at_call 16; refine (K _).mono ?_; rintro e w2 ⟨rfl,rfl⟩)
 go_ret;exact ⟨rfl,0,_,by rw [alloc_eq_grow,alloc_eq_grow,grow_grow]; rfl⟩
theorem live1_enters:∀ args w,(callFunc 15 args).run Tryz.prog w=.ok (.enter 15 args) w:=enters_of Tryz.func15 (by kernel_rfl) rfl
theorem sort_pubs {u:World} {B:Nat} {v:Value} {cs:List PbC} (ho:OwnPb u B v cs) (hf:∀ c ∈ cs,IsSl c.ts∧IsSl c.ns) (hn:cs.length≤1000000) :
  Calls Tryz.prog 14 #[v,.func (.func 15) #[] #[]] u fun e u'=>e=.returned (.tuple #[])∧∃ ds,OwnPb u' B v ds∧ds.Perm cs∧(ds.Pairwise fun a b=>a.p.num≤b.p.num)∧u.grownBy u' v.ownBlock:=by
 have ho0:=ho;obtain ⟨h1,h2⟩:=ho
 rcases h2 with ⟨rfl,h0⟩ | ⟨g,cap,cur,rfl,hg,hh,hnc,hcm,hcs,ht⟩
 ·have hx:cs=[]:=List.eq_nil_of_length_eq_zero h0;subst hx;refine (AnyF.slices_SortFunc_none sortFn none 0 _ u).mono ?_
  rintro e u' ⟨rfl,rfl⟩;exact ⟨rfl,[],ho0,.refl _,.nil,⟨rfl,rfl,rfl,Nat.le_refl _,fun _ _ _=>rfl⟩⟩
 ·haveI:Inhabited PbC:=⟨zeroP⟩
  have hH:HoldsK encP 7 u g 0 cs.toArray:=holds_pbs hh ht hf;have K:=AnyQ.slices_SortFunc sortFn 7 Tryz.isAgg37 Tryz.sizeOf37 encP (fun _=>rfl) enc_one cmpPb swo_cmpPb 15 #[] g 0 cap cs.toArray u live1_enters (fun m os dk _ x y=>live1_any _ x.p y.p _ _ _ _ _ _ _ _ _ _ _ _) hH (Array.getElem?_eq_some_iff.1 hh).1 (by simp; omega);have K2:Calls Tryz.prog 14 #[.slice (some ⟨g,0,none⟩) cs.length cap,.func (.func 15) #[] #[]] u fun e w'=>e=.returned (.tuple #[])∧∃ d' n os,PermIn 0 cs.toArray.size cs.toArray d'∧SortedIn (ltOf cmpPb) 0 cs.toArray.size d'∧w'=sortWorldK encP 7 u g 0 n d' os:=K;refine K2.mono ?_
  rintro e u' ⟨rfl,d',n,os,hp,hs,rfl⟩;obtain ⟨p1,p2,p3⟩:=hp;have e1:(d'.extract 0 cs.toArray.size)=d':=by rw [← p1]; simp
  have e2:(cs.toArray.extract 0 cs.toArray.size)=cs.toArray:=by simp
  rw [e1,e2] at p3;have hperm:d'.toList.Perm cs:=by simpa using p3
  have hf':∀ c ∈ d'.toList,IsSl c.ts∧IsSl c.ns:=fun c hc=>hf c (hperm.mem_iff.1 hc);have hl:d'.toList.length=cs.length:=hperm.length_eq;refine ⟨rfl,d'.toList,?_,hperm,?_,?_⟩
  ·unfold sortWorldK putRowK;rw [flat_pbs _ hf'];unfold OwnPb;rw [hl];refine ⟨by rw [pbsCells_len,hl],.inr ⟨g,cap,_,rfl,hg,heap_sortP _ hh,hnc,hcm,by simpa [putCells] using hcs,?_⟩⟩
   have:=take_putP cur (pbsCells d'.toList) (by rw [pbsCells_len,hl]; omega)
   rw [pbsCells_len,hl] at this;exact this
  ·rw [List.pairwise_iff_getElem];intro i j hi hj hij
   have:=hs i j (Nat.zero_le _) hij (by rw [← p1]; simpa using hj)
   rw [lt_cmpPb,decide_eq_false_iff_not,getElem!_pos d' i (by simpa using hi),getElem!_pos d' j (by simpa using hj)] at this;simp only [Array.getElem_toList];omega
  ·unfold sortWorldK putRowK;exact grown_sortP _
end Go.Proofs.YtbmjodlbkgblpaaGreatDoor
namespace Go.Proofs.YtbmjodlbkgblpaaGreatDoor
open Go.RowKit Go.Maps Go.WideMaps Sc
theorem pbE_pbV {v:Value} {y:DataW Unit × List MemPlace} (h:pbE v=some y):∃ c:PbC,v=pbV c:=by
 obtain ⟨n,t,a,b,e,x,z,xn,xc,zn,zc,rfl⟩:=pbE_some h;refine ⟨⟨⟨n,a.data.toList,b.data.toList,t,⟨e.data.toList,[],[]⟩⟩,.slice x xn xc,.slice z zn zc⟩,?_⟩
 simp [pbV]
structure ComeP (la done todo:List PbC) (left:Lit → Bool):Prop where
 perm:la.Perm (done++todo)
 is:∀ x ∈ la,left (kAp x)=true ↔ x ∈ todo
 sub:∀ k,left k=true → ∃ x ∈ la,kAp x=k
theorem nodup_num {la:List PbC} (hr:la.Pairwise fun a b=>a.p.num < b.p.num):∀ {x y:PbC},x ∈ la → y ∈ la → x.p.num=y.p.num → x=y:=by
 intro x y hx hy e;obtain ⟨i,hi,rfl⟩:=List.mem_iff_getElem.1 hx;obtain ⟨j,hj,rfl⟩:=List.mem_iff_getElem.1 hy;have hP:=List.pairwise_iff_getElem.1 hr
 rcases Nat.lt_trichotomy i j with h | h | h
 ·have:=hP i j hi hj h; omega
 ·subst h; rfl
 ·have:=hP j i hj hi h; omega
theorem ComeP.start {la:List PbC} {D:DataW Unit} (hM:MpG kAp pbD la D):ComeP la [] la (Maps.has D) :=
 ⟨.refl _,fun x hx=>⟨fun _=>hx,fun _=>(hM.has _).2 ⟨x,hx,rfl⟩⟩,fun k hk=>(hM.has k).1 hk⟩
theorem ComeP.none {la done todo:List PbC} {left:Lit → Bool} (h:ComeP la done todo left) (hn:∀ k,left k=false):la.Perm done:=by
 have:todo=[]:=by
  rcases todo with _ | ⟨x,t⟩
  ·rfl
  ·have hx:x ∈ la:=h.perm.mem_iff.2 (by simp)
   have:=(h.is x hx).2 (by simp)
   rw [hn] at this
   cases this
 have hp:=h.perm;rw [this,List.append_nil] at hp;exact hp
theorem ComeP.one {la done todo:List PbC} {left:Lit → Bool} (h:ComeP la done todo left) (hr:la.Pairwise fun a b=>a.p.num < b.p.num) {x:PbC} (hx:x ∈ la) (hl:left (kAp x)=true) :
  ∃ todo',ComeP la (done++[x]) todo' fun z=>left z && !z.sameKey (kAp x):=by
 have hnd:la.Nodup:=hr.imp fun h e=>by rw [e] at h; omega
 have hin:=(h.is x hx).1 hl;obtain ⟨a,b,rfl⟩:=List.append_of_mem hin;have hp:=h.perm;have hnd2:(done++(a++x :: b)).Nodup:=hp.nodup_iff.1 hnd
 have hxa:x ∉ a++b:=by
  have h3:(a++x :: b).Nodup:=(List.nodup_append.1 hnd2).2.1;have h4:(x :: (a++b)).Nodup:=List.perm_middle.nodup_iff.1 h3;exact (List.nodup_cons.1 h4).1
 refine ⟨a++b,?_,fun y hy=>?_,fun k hk=>?_⟩
 ·refine hp.trans ?_
  rw [List.append_assoc];exact List.Perm.append_left _ List.perm_middle
 ·simp only [Bool.and_eq_true,Bool.not_eq_true']
  have hsk:(kAp y).sameKey (kAp x)=false ↔ y ≠ x:=by
   constructor
   ·rintro h1 rfl;rw [WideAt.sameKey_self (by unfold kAp; trivial)] at h1
    cases h1
   ·intro hne
    cases hs:(kAp y).sameKey (kAp x) with
    | false=>rfl
    | true=>exact absurd (nodup_num hr hy hx (kAp_inj.1 (WideAt.sameKey_eq hs))) hne
  rw [hsk,h.is y hy]
  constructor
  ·rintro ⟨h1,h2⟩;simp only [List.mem_append,List.mem_cons] at h1 ⊢
   rcases h1 with h1 | h1 | h1
   ·exact .inl h1
   ·exact absurd h1 h2
   ·exact .inr h1
  ·intro h1;refine ⟨?_,fun e=>hxa (by rw [← e]; exact h1)⟩
   simp only [List.mem_append,List.mem_cons] at h1 ⊢
   rcases h1 with h1 | h1
   ·exact .inl h1
   ·exact .inr (.inr h1)
 ·simp only [Bool.and_eq_true] at hk;exact h.sub k hk.1
end Go.Proofs.YtbmjodlbkgblpaaGreatDoor
