/-
  OpenDoc, RowN, PubO, PubP, PubM, ScanKit, InvAny, OpKit, PubQ, PsT.
-/
import Derived.Test.YtbmjodlbkgblpaaGreatDoorPO04
import Derived.Maps.AppendAt
import Derived.Laws.OwnMore
import Derived.Sort.Walk0
import Derived.Orders
import Derived.OwnWalk
import Derived.Laws.AppendOwnNone
set_option linter.unusedVariables false
set_option linter.unusedSimpArgs false
set_option maxRecDepth 20000
namespace Go.Proofs.YtbmjodlbkgblpaaGreatDoor
open Go.RowKit Go.ChangeShapes Go.WideShapes Go.Deep
def TusAt (w:World) (v:Value) (ts:List Tu):Prop :=
 ∃ (ao:Option Addr) (cap:Nat),v=.slice ao ts.length cap∧∀ k (hk:k < ts.length),∃ ad,ao=some ad∧ad.block < w.heap.size∧TuAt w ad k ts[k]
theorem TusAt.below {w w':World} {v:Value} {ts:List Tu} (h:TusAt w v ts) (hb:Below w.heap.size w w'):TusAt w' v ts:=by
 obtain ⟨ao,cap,hv,hc⟩:=h;refine ⟨ao,cap,hv,fun k hk=>?_⟩
 obtain ⟨ad,e,hlt,hcell⟩:=hc k hk;exact ⟨ad,e,Nat.lt_of_lt_of_le hlt hb.size,hcell.below hb hlt⟩
def SmallT (B:Nat) (t:Tu):Prop:=t.id.length≤B∧t.contact.length≤B∧t.note.length≤B∧(Lit.int .i64 t.prio).wf=true
structure SmallD (B:Nat) (d:Dc):Prop where
 ent:d.entity.length≤B
 tl:d.tuples.length≤B
 nl:d.notes.length≤B
 ts:∀ t ∈ d.tuples,SmallT B t
 ns:∀ s ∈ d.notes,s.length≤B
theorem cellsTup:Tryz.prog.cellsOf 89=5:=by kernel_rfl
theorem cellsTups:Tryz.prog.cellsOf 32=1:=by kernel_rfl
theorem cellsBoolD:Tryz.prog.cellsOf 4=1:=by kernel_rfl
theorem cellsStrsD:Tryz.prog.cellsOf 33=1:=by kernel_rfl
section
variable {H : Type} {enc : TypeId × Value → H} {W : World} {sp : Nat → Bool}
def TuD (d:DataW H) (t:Tu):Prop:=d=.agg [.lit (.string t.id),.lit (.bool t.opn),.lit (.string t.contact),.lit (.int .i64 t.prio),.lit (.string t.note)]
theorem open_tup {fuel:Nat} {cs:List Value} {x:DataW H × List MemPlace} (h:DataW.trod enc Tryz.prog W 0 sp true fuel 89 cs=some x) :
  ∃ t:Tu,cs=tuCells t∧TuD x.1 t∧(Lit.int .i64 t.prio).wf=true:=by
 obtain ⟨xs,n,_,hx,hl,hlen,hf⟩:=DataW.trod_struct Tryz.underlying89 h;rw [cellsTup] at hl
 match cs,hl,xs,hlen with
 | [c0,c1,c2,c3,c4],_,[y0,y1,y2,y3,y4],_ =>
  have f0:=hf 0 _ rfl;have f1:=hf 1 _ rfl;have f2:=hf 2 _ rfl;have f3:=hf 3 _ rfl;have f4:=hf 4 _ rfl
  simp [cellsStr,cellsInt,cellsBoolD] at f0 f1 f2 f3 f4
  obtain ⟨s0,e0,rfl,_⟩:=DataW.trod_string Tryz.underlying9 f0;obtain ⟨b1,e1,rfl⟩:=DataW.trod_bool Tryz.underlying4 f1;obtain ⟨s2,e2,rfl,_⟩:=DataW.trod_string Tryz.underlying9 f2;obtain ⟨i3,e3,rfl,w3⟩:=DataW.trod_int Tryz.underlying3 f3;obtain ⟨s4,e4,rfl,_⟩:=DataW.trod_string Tryz.underlying9 f4;simp only [List.cons.injEq,and_true] at e0 e1 e2 e3 e4;subst e0 e1 e2 e3 e4;subst hx;exact ⟨⟨s0.data.toList,b1,s2.data.toList,i3,s4.data.toList⟩,by simp [tuCells],by simp [TuD],w3⟩
theorem open_tups {fuel:Nat} {cs:List Value} {x:DataW H × List MemPlace} (h:DataW.trod enc Tryz.prog W 0 sp true fuel 32 cs=some x) :
  ∃ (v:Value) (ts:List Tu),cs=[v]∧TusAt W v ts∧(∀ t ∈ ts,(Lit.int .i64 t.prio).wf=true)∧((x.1=.nil∧ts=[])∨∃ ds sp,x.1=.slice ds sp∧ds.length=ts.length∧∀ k (hk:k < ts.length) (hd:k < ds.length),TuD ds[k] ts[k]):=by
 rcases open_slice Tryz.underlying32 h with ⟨rfl,rfl⟩ | ⟨a,len,cap,m,n,D,Pl,rfl,_,hlc,hcm,hm,rfl,hall⟩
 ·exact ⟨_,[],rfl,⟨none,0,rfl,fun k hk=>by simp at hk⟩,fun c hc=>by simp at hc,Or.inl ⟨rfl,rfl⟩⟩
 ·have hlm:len≤m:=by rw [hm]; split <;> omega
  have each:∀ i,i < len → ∃ t:Tu,TuD (D i) t∧((Lit.int .i64 t.prio).wf=true∧a.block < W.heap.size∧TuAt W a i t):=by
   intro i hi;obtain ⟨cs',h1,h2⟩:=hall i (by omega);obtain ⟨t,rfl,hd,hw⟩:=open_tup h2;rw [cellsTup] at h1;obtain ⟨_,_,hc⟩:=World.cells?_some h1;have c0:=hc 0 (by omega);have c1:=hc 1 (by omega);have c2:=hc 2 (by omega);have c3:=hc 3 (by omega);have c4:=hc 4 (by omega);have hc0:W.cell? (a.add (i * 5))=some (.string ⟨t.id.toArray⟩):=by simpa [Addr.add,tuCells] using c0
   refine ⟨t,hd,hw,?_,⟨hc0,?_,?_,?_,?_⟩⟩
   ·have:(a.add (i * 5)).block < W.heap.size:=by
     unfold World.cell? at hc0
     cases hh:W.heap[(a.add (i * 5)).block]? with
     | none=>simp [hh] at hc0
     | some o=>exact (Array.getElem?_eq_some_iff.1 hh).1
    rwa [add_block] at this
   ·simpa [Addr.add,tuCells] using c1
   ·simpa [Addr.add,tuCells] using c2
   ·simpa [Addr.add,tuCells] using c3
   ·simpa [Addr.add,tuCells] using c4
  obtain ⟨f,hf⟩:=@choose_lt Tu ⟨⟨[],false,[],0,[]⟩⟩ len _ each;refine ⟨_,(List.range len).map f,rfl,⟨some a,cap,by simp,fun k hk=>?_⟩,fun c hc=>?_,Or.inr ⟨_,_,rfl,by simp,fun k hk hd=>?_⟩⟩
  ·simp at hk
   obtain ⟨_,_,h2,h3⟩:=hf k hk;exact ⟨a,rfl,h2,by simpa using h3⟩
  ·obtain ⟨i,hi,rfl⟩:=List.mem_map.1 hc;exact (hf i (by simpa using hi)).2.1
  ·simp at hk
   simpa using (hf k hk).1
end
end Go.Proofs.YtbmjodlbkgblpaaGreatDoor
namespace Go.Proofs.YtbmjodlbkgblpaaGreatDoor
open Go.RowKit
theorem rc_row3 (w:World) (v0 v1 v2:Value) (t:TypeId):RowIs (w.alloc (.cells #[v0,v1,v2] t)) w.heap.size t [v0,v1,v2]:=by
 unfold RowIs; rw [heap_alloc_new]
theorem rc_store3 {w:World} {b:Nat} {e:TypeId} {u0 u1 u2:Value} (h:RowIs w b e [u0,u1,u2]) (v0 v1 v2:Value):RowIs (((w.setCell ⟨b,0,none⟩ v0).setCell ⟨b,1,none⟩ v1).setCell ⟨b,2,none⟩ v2) b e [v0,v1,v2]:=by
 have:=(((h.set 0 v0).set 1 v1).set 2 v2)
 simpa using this
theorem rc_below3 {B:Nat} {a w:World} (h:Below B a w) (b:Nat) (hb:B≤b) (v0 v1 v2:Value):Below B a (((w.setCell ⟨b,0,none⟩ v0).setCell ⟨b,1,none⟩ v1).setCell ⟨b,2,none⟩ v2):=(((h.setCell hb _).setCell hb _).setCell hb _)
structure RowC3 (w:World) (b:Nat) (v0 v1 v2:Value):Prop where
 c0:w.cell? ⟨b,0,none⟩=some v0
 c1:w.cell? ⟨b,1,none⟩=some v1
 c2:w.cell? ⟨b,2,none⟩=some v2
 f0:w.frozen? ⟨b,0,none⟩=false
 f1:w.frozen? ⟨b,1,none⟩=false
 f2:w.frozen? ⟨b,2,none⟩=false
theorem RowIs.rc3 {w:World} {b:Nat} {e:TypeId} {v0 v1 v2:Value} (h:RowIs w b e [v0,v1,v2]):RowC3 w b v0 v1 v2:=⟨h.cell 0 (by simp),h.cell 1 (by simp),h.cell 2 (by simp),h.frozen 0,h.frozen 1,h.frozen 2⟩
theorem rc_row4 (w:World) (v0 v1 v2 v3:Value) (t:TypeId):RowIs (w.alloc (.cells #[v0,v1,v2,v3] t)) w.heap.size t [v0,v1,v2,v3]:=by
 unfold RowIs; rw [heap_alloc_new]
theorem rc_store4 {w:World} {b:Nat} {e:TypeId} {u0 u1 u2 u3:Value} (h:RowIs w b e [u0,u1,u2,u3]) (v0 v1 v2 v3:Value):RowIs ((((w.setCell ⟨b,0,none⟩ v0).setCell ⟨b,1,none⟩ v1).setCell ⟨b,2,none⟩ v2).setCell ⟨b,3,none⟩ v3) b e [v0,v1,v2,v3]:=by
 have:=((((h.set 0 v0).set 1 v1).set 2 v2).set 3 v3)
 simpa using this
theorem rc_below4 {B:Nat} {a w:World} (h:Below B a w) (b:Nat) (hb:B≤b) (v0 v1 v2 v3:Value):Below B a ((((w.setCell ⟨b,0,none⟩ v0).setCell ⟨b,1,none⟩ v1).setCell ⟨b,2,none⟩ v2).setCell ⟨b,3,none⟩ v3):=((((h.setCell hb _).setCell hb _).setCell hb _).setCell hb _)
structure RowC4 (w:World) (b:Nat) (v0 v1 v2 v3:Value):Prop where
 c0:w.cell? ⟨b,0,none⟩=some v0
 c1:w.cell? ⟨b,1,none⟩=some v1
 c2:w.cell? ⟨b,2,none⟩=some v2
 c3:w.cell? ⟨b,3,none⟩=some v3
 f0:w.frozen? ⟨b,0,none⟩=false
 f1:w.frozen? ⟨b,1,none⟩=false
 f2:w.frozen? ⟨b,2,none⟩=false
 f3:w.frozen? ⟨b,3,none⟩=false
theorem RowIs.rc4 {w:World} {b:Nat} {e:TypeId} {v0 v1 v2 v3:Value} (h:RowIs w b e [v0,v1,v2,v3]):RowC4 w b v0 v1 v2 v3:=⟨h.cell 0 (by simp),h.cell 1 (by simp),h.cell 2 (by simp),h.cell 3 (by simp),h.frozen 0,h.frozen 1,h.frozen 2,h.frozen 3⟩
theorem rc_row5 (w:World) (v0 v1 v2 v3 v4:Value) (t:TypeId):RowIs (w.alloc (.cells #[v0,v1,v2,v3,v4] t)) w.heap.size t [v0,v1,v2,v3,v4]:=by
 unfold RowIs; rw [heap_alloc_new]
theorem rc_store5 {w:World} {b:Nat} {e:TypeId} {u0 u1 u2 u3 u4:Value} (h:RowIs w b e [u0,u1,u2,u3,u4]) (v0 v1 v2 v3 v4:Value):RowIs (((((w.setCell ⟨b,0,none⟩ v0).setCell ⟨b,1,none⟩ v1).setCell ⟨b,2,none⟩ v2).setCell ⟨b,3,none⟩ v3).setCell ⟨b,4,none⟩ v4) b e [v0,v1,v2,v3,v4]:=by
 have:=(((((h.set 0 v0).set 1 v1).set 2 v2).set 3 v3).set 4 v4)
 simpa using this
theorem rc_below5 {B:Nat} {a w:World} (h:Below B a w) (b:Nat) (hb:B≤b) (v0 v1 v2 v3 v4:Value):Below B a (((((w.setCell ⟨b,0,none⟩ v0).setCell ⟨b,1,none⟩ v1).setCell ⟨b,2,none⟩ v2).setCell ⟨b,3,none⟩ v3).setCell ⟨b,4,none⟩ v4):=(((((h.setCell hb _).setCell hb _).setCell hb _).setCell hb _).setCell hb _)
structure RowC5 (w:World) (b:Nat) (v0 v1 v2 v3 v4:Value):Prop where
 c0:w.cell? ⟨b,0,none⟩=some v0
 c1:w.cell? ⟨b,1,none⟩=some v1
 c2:w.cell? ⟨b,2,none⟩=some v2
 c3:w.cell? ⟨b,3,none⟩=some v3
 c4:w.cell? ⟨b,4,none⟩=some v4
 f0:w.frozen? ⟨b,0,none⟩=false
 f1:w.frozen? ⟨b,1,none⟩=false
 f2:w.frozen? ⟨b,2,none⟩=false
 f3:w.frozen? ⟨b,3,none⟩=false
 f4:w.frozen? ⟨b,4,none⟩=false
theorem RowIs.rc5 {w:World} {b:Nat} {e:TypeId} {v0 v1 v2 v3 v4:Value} (h:RowIs w b e [v0,v1,v2,v3,v4]):RowC5 w b v0 v1 v2 v3 v4:=⟨h.cell 0 (by simp),h.cell 1 (by simp),h.cell 2 (by simp),h.cell 3 (by simp),h.cell 4 (by simp),h.frozen 0,h.frozen 1,h.frozen 2,h.frozen 3,h.frozen 4⟩
theorem RowIs.bl {w:World} {b:Nat} {e:TypeId} {l:List Value} (h:RowIs w b e l):b < w.heap.size:=(Array.getElem?_eq_some_iff.1 h).1
end Go.Proofs.YtbmjodlbkgblpaaGreatDoor
namespace Go.Proofs.YtbmjodlbkgblpaaGreatDoor
open Go.RowKit Sc
structure PbC where
 p:Pb
 ts:Value
 ns:Value
def pbCells (c:PbC):List Value:=[.int .i64 c.p.num,.string ⟨c.p.who.toArray⟩,.string ⟨c.p.tag.toArray⟩,.int .i64 c.p.til,.string ⟨c.p.doc.entity.toArray⟩,c.ts,c.ns]
def pbV (c:PbC):Value:=.agg #[.int .i64 c.p.num,.string ⟨c.p.who.toArray⟩,.string ⟨c.p.tag.toArray⟩,.int .i64 c.p.til,.string ⟨c.p.doc.entity.toArray⟩,c.ts,c.ns]
def pbsCells (cs:List PbC):List Value:=cs.flatMap pbCells
def pbsL (cs:List PbC):List Pb:=cs.map PbC.p
theorem pbsL_len (cs:List PbC):(pbsL cs).length=cs.length:=by simp [pbsL]
theorem pbCells_len (c:PbC):(pbCells c).length=7:=rfl
theorem pbsCells_len (cs:List PbC):(pbsCells cs).length=cs.length * 7:=by
 induction cs with
 | nil=>rfl
 | cons c cs ih =>
  have e:pbsCells (c :: cs)=pbCells c++pbsCells cs:=rfl;rw [e,List.length_append,ih,pbCells_len,List.length_cons]; omega
theorem pbsCells_app (a b:List PbC):pbsCells (a++b)=pbsCells a++pbsCells b:=by simp [pbsCells]
theorem pbsCells_get (cs:List PbC) (k:Nat) (hk:k < cs.length) (j:Nat) (u:Value) (h:(pbCells cs[k])[j]? = some u):(pbsCells cs)[k * 7+j]? = some u:=by
 induction cs generalizing k with
 | nil=>simp at hk
 | cons c cs ih =>
  have e:pbsCells (c :: cs)=pbCells c++pbsCells cs:=rfl
  cases k with
  | zero =>
   have hj:j < 7:=by have:=(List.getElem?_eq_some_iff.1 h).1; simpa [pbCells] using this
   rw [e,List.getElem?_append_left (by rw [pbCells_len]; omega),Nat.zero_mul,Nat.zero_add];exact h
  | succ k =>
   have:=ih k (by simpa using hk) (by simpa using h)
   rw [e,List.getElem?_append_right (by rw [pbCells_len]; omega),pbCells_len,show (k+1) * 7+j - 7=k * 7+j by omega];exact this
theorem pbsCells_at (cs:List PbC) (i:Nat) (u:Value) (h:(pbsCells cs)[i]? = some u):∃ (k:Nat) (hk:k < cs.length) (j:Nat),j < 7∧i=k * 7+j∧(pbCells cs[k])[j]? = some u:=by
 have hi:i < cs.length * 7:=by rw [← pbsCells_len]; exact (List.getElem?_eq_some_iff.1 h).1
 have hk:i / 7 < cs.length:=by omega
 have hj:i % 7 < 7:=by omega
 obtain ⟨v,hv⟩:∃ v,(pbCells cs[i / 7])[i % 7]? = some v:=⟨_,List.getElem?_eq_getElem (l:=pbCells cs[i / 7]) (i:=i % 7) (by rw [pbCells_len]; exact hj)⟩
 have:=pbsCells_get cs (i / 7) hk (i % 7) v hv
 rw [show i / 7 * 7+i % 7=i by omega,h] at this
 injection this with this
 exact ⟨i / 7,hk,i % 7,hj,by omega,by rw [hv,this]⟩
def PbAt (w:World) (ad:Addr) (k:Nat) (c:PbC):Prop:=∀ (j:Nat) (u:Value),(pbCells c)[j]? = some u → w.cell? (ad.add (k * 7+j))=some u
structure Pb7 (w:World) (ad:Addr) (k:Nat) (c:PbC):Prop where
 c0:w.cell? (ad.add (k * 7))=some (.int .i64 c.p.num)
 c1:w.cell? ⟨(ad.add (k * 7)).block,(ad.add (k * 7)).off+1,none⟩=some (.string ⟨c.p.who.toArray⟩)
 c2:w.cell? ⟨(ad.add (k * 7)).block,(ad.add (k * 7)).off+2,none⟩=some (.string ⟨c.p.tag.toArray⟩)
 c3:w.cell? ⟨(ad.add (k * 7)).block,(ad.add (k * 7)).off+3,none⟩=some (.int .i64 c.p.til)
 c4:w.cell? ⟨(ad.add (k * 7)).block,(ad.add (k * 7)).off+4,none⟩=some (.string ⟨c.p.doc.entity.toArray⟩)
 c5:w.cell? ⟨(ad.add (k * 7)).block,(ad.add (k * 7)).off+5,none⟩=some c.ts
 c6:w.cell? ⟨(ad.add (k * 7)).block,(ad.add (k * 7)).off+6,none⟩=some c.ns
theorem add_two (ad:Addr) (a b:Nat) (hb:b ≠ 0):ad.add (a+b)=⟨(ad.add a).block,(ad.add a).off+b,none⟩:=by
 unfold Addr.add
 split <;> (split <;> simp_all <;> omega)
theorem PbAt.seven {w:World} {ad:Addr} {k:Nat} {c:PbC} (h:PbAt w ad k c):Pb7 w ad k c:=by
 have e:∀ j u,j ≠ 0 → (pbCells c)[j]? = some u → w.cell? ⟨(ad.add (k * 7)).block,(ad.add (k * 7)).off+j,none⟩=some u:=fun j u hj hu=>by
  have:=h j u hu
  rwa [add_two _ _ _ hj] at this
 exact ⟨by have:=h 0 _ rfl; simpa using this,e 1 _ (by decide) rfl,e 2 _ (by decide) rfl,e 3 _ (by decide) rfl,e 4 _ (by decide) rfl,e 5 _ (by decide) rfl,e 6 _ (by decide) rfl⟩
theorem PbAt.below {B:Nat} {w w':World} {ad:Addr} {k:Nat} {c:PbC} (h:PbAt w ad k c) (hb:Below B w w') (ha:ad.block < B):PbAt w' ad k c:=fun j u hu=>cell_below hb (by rw [add_block]; exact ha) (h j u hu)
def PbsAt (w:World) (v:Value) (cs:List PbC):Prop :=
 ∃ (ao:Option Addr) (cap:Nat),v=.slice ao cs.length cap∧cs.length≤cap∧∀ k (hk:k < cs.length),∃ ad,ao=some ad∧ad.block < w.heap.size∧PbAt w ad k cs[k]
theorem PbsAt.below {w w':World} {v:Value} {cs:List PbC} (h:PbsAt w v cs) (hb:Below w.heap.size w w'):PbsAt w' v cs:=by
 obtain ⟨ao,cap,hv,hcp,hc⟩:=h;refine ⟨ao,cap,hv,hcp,fun k hk=>?_⟩
 obtain ⟨ad,e,hlt,hcell⟩:=hc k hk;exact ⟨ad,e,Nat.lt_of_lt_of_le hlt hb.size,hcell.below hb hlt⟩
theorem PbsAt.form {w:World} {v:Value} {cs:List PbC} (h:PbsAt w v cs):∃ a cap,v=.slice a cs.length cap:=by
 obtain ⟨ao,cap,hv,_⟩:=h;exact ⟨ao,cap,hv⟩
theorem pbs_news {w:World} {ad:Addr} {cs:List PbC} (h:∀ k (hk:k < cs.length),PbAt w ad k cs[k]) (i:Nat) (j:Nat) (u:Value) (hu:(pbsCells (cs.drop i))[j]? = some u):w.cell? ((ad.add (i * 7)).add j)=some u:=by
 obtain ⟨k,hk,j',hj',rfl,hcu⟩:=pbsCells_at _ _ _ hu;rw [List.length_drop] at hk;rw [List.getElem_drop] at hcu
 have:=h (i+k) (by omega) j' u hcu
 have e:(ad.add (i * 7)).add (k * 7+j')=ad.add ((i+k) * 7+j'):=by
  rw [show (i+k) * 7+j'=i * 7+(k * 7+j') by omega];by_cases h0:k * 7+j'=0
  ·rw [h0]; simp [Addr.add]
  ·rw [add_two _ _ _ h0]; unfold Addr.add; split <;> simp_all
 rw [e]; exact this
theorem pbs_front {w:World} {ad:Addr} {cs:List PbC} (h:∀ k (hk:k < cs.length),PbAt w ad k cs[k]) (i:Nat) (j:Nat) (u:Value) (hu:(pbsCells (cs.take i))[j]? = some u):w.cell? (ad.add j)=some u:=by
 obtain ⟨k,hk,j',hj',rfl,hcu⟩:=pbsCells_at _ _ _ hu;have hk2:k < cs.length:=by rw [List.length_take] at hk; omega
 rw [List.getElem_take] at hcu;exact h k hk2 j' u hcu
def OwnPb (w:World) (B:Nat) (v:Value) (cs:List PbC):Prop:=w.ownsRow B 37 7 v cs.length (pbsCells cs)
theorem OwnPb.nil (w:World) (B:Nat):OwnPb w B (.slice none 0 0) []:=World.ownsRow_nil _ _ _ _
theorem OwnPb.below {w w':World} {B:Nat} {v:Value} {cs:List PbC} (h:OwnPb w B v cs) (hb:Below w.heap.size w w'):OwnPb w' B v cs:=by
 obtain ⟨h1,h2⟩:=h;refine ⟨h1,?_⟩
 rcases h2 with h2 | ⟨g,cap,cur,hv,hg,hh,r⟩
 ·exact Or.inl h2
 ·exact Or.inr ⟨g,cap,cur,hv,hg,by rw [hb.block g (Array.getElem?_eq_some_iff.1 hh).1]; exact hh,r⟩
theorem OwnPb.alloc {w:World} {B:Nat} {v:Value} {cs:List PbC} (h:OwnPb w B v cs) (o:Obj):OwnPb (w.alloc o) B v cs:=World.ownsRow.alloc h o
theorem OwnPb.form {w:World} {B:Nat} {v:Value} {cs:List PbC} (h:OwnPb w B v cs):∃ a cap,v=.slice a cs.length cap:=by
 rcases h.2 with ⟨rfl,hn⟩ | ⟨g,cap,cur,rfl,_⟩
 ·exact ⟨none,0,by rw [hn]⟩
 ·exact ⟨_,cap,rfl⟩
theorem OwnPb.pbsAt {w:World} {B:Nat} {v:Value} {cs:List PbC} (h:OwnPb w B v cs):PbsAt w v cs:=by
 have h0:=h
 rcases h.2 with ⟨rfl,hn⟩ | ⟨g,cap,cur,rfl,hb,hg,r⟩
 ·exact ⟨none,0,by rw [hn],by omega,fun k hk=>by omega⟩
 ·refine ⟨some ⟨g,0,none⟩,cap,rfl,r.1,fun k hk=>⟨_,rfl,(Array.getElem?_eq_some_iff.1 hg).1,fun j u hj=>?_⟩⟩
  exact World.ownsRow.cells h0 (g:=g) rfl (k * 7+j) _ (pbsCells_get cs k hk j u hj)
theorem ownPb_mono {w:World} {B C:Nat} {v:Value} {cs:List PbC} (h:OwnPb w B v cs) (hc:C≤B):OwnPb w C v cs:=by
 obtain ⟨h1,h2⟩:=h;refine ⟨h1,?_⟩
 rcases h2 with h2 | ⟨g,cap,cur,hv,hg,r⟩
 ·exact Or.inl h2
 ·exact Or.inr ⟨g,cap,cur,hv,Nat.le_trans hc hg,r⟩
theorem infoPub:(Tryz.prog.info? 37).map (fun i=>(i.zero,i.size,i.bytes))=some (some (.agg #[.int .i64 0,.string .empty,.string .empty,.int .i64 0,.string .empty,.slice none 0 0,.slice none 0 0]),7,112):=by kernel_rfl
theorem wp_appPb {P:Program} (w:World) {ops:Array Oper} {rest:List Oper} {o:Oper} {a:Act} {Q:Exit → Act → World → Prop} (hgd:o.guard=none)
  (s x:Operand) (t:TypeId) (ho:o.op=Op.call { callee:=Callee.builtin Builtin.append,args:=#[s,x],argTypes:=#[t,t] }) (B:Nat) (i:TypeInfo)
  (z:Value) (ht:P.underlying t=some (TypeDesc.slice 37)) (hi:P.info? 37=some i) (hz:i.zero=some z) (hsize:i.size=7) (hby:i.bytes=112) (hzs:z.cells.size=7)
  (v:Value) (cs:List PbC) (hs:a.eval s=v) (hown:OwnPb w B v cs) (ad:Addr) (k:Nat) (c:List PbC) (n:Nat) (hn:n=c.length) (hc:∀ d ∈ c,d.ts.oneCell'=true∧d.ns.oneCell'=true) (hx:a.eval x=Value.slice (some ad) n k)
  (hnews:∀ (j:Nat) (u:Value),(pbsCells c)[j]? = some u → w.cell? (ad.add j)=some u)
  (hlen:cs.length≤100000) (hlen2:c.length≤100000) (hB:B≤w.heap.size)
  (h:∀ (v':Value) (w':World),OwnPb w' B v' (cs++c) → Below B w w' → wpList P ops Q rest (a.put o.dst v') w'):wpList P ops Q (o :: rest) a w:=by
 subst hn
 refine wpList_append_own_at w hgd s x t ho B 37 i z 7 112 ht hi hz hsize hby hzs (by decide) v cs.length (pbsCells cs) hs hown ad c.length k (pbsCells c) hx (pbsCells_len c) hnews
  (by
   intro u hu;unfold pbsCells at hu;obtain ⟨d,hd,hu⟩:=List.mem_flatMap.1 hu
   simp [pbCells] at hu
   rcases hu with rfl | rfl | rfl | rfl | rfl | rfl | rfl <;> first | rfl | exact (hc d hd).1 | exact (hc d hd).2) (by unfold maxLen; omega) (by omega) hB ?_
 intro v' w' hown' hgr _ hat;refine h v' w' ?_ ((Below.refl B w).grown hgr hB (fun k hk=>(World.ownsRow.lt hown k hk).1))
 unfold OwnPb;rw [pbsCells_app,List.length_append];exact hown'
theorem pb_new (W:World) (c:PbC) (g:Nat) (hg:g=W.heap.size):∀ (j:Nat) (u:Value),(pbsCells [c])[j]? = some u → (W.alloc (.cells (pbCells c).toArray 37)).cell? ((⟨g,0,none⟩:Addr).add j)=some u:=by
 intro j u hj;subst hg;have e:(⟨W.heap.size,0,none⟩:Addr).add j=⟨W.heap.size,j,none⟩:=by unfold Addr.add; split <;> simp_all
 rw [e];unfold World.cell?;rw [heap_alloc_new]
 simpa [pbsCells] using hj
def cfV (c:Cf):Value:=.agg #[.string ⟨c.host.toArray⟩,.int .i64 c.calls,.int .i64 c.pubs,.int .i64 c.subs,.int .i64 c.least,.int .i64 c.most,.int .i64 c.usual]
def stoV (s:Sto) (v:Value):Value:=.agg #[.string ⟨s.c.host.toArray⟩,.int .i64 s.c.calls,.int .i64 s.c.pubs,.int .i64 s.c.subs,.int .i64 s.c.least,.int .i64 s.c.most,.int .i64 s.c.usual,.int .i64 s.last,v]
structure BoxF (w:World) (b:Nat) (c:Cf):Prop where
 c0:w.cell? ⟨b,0,none⟩=some (.string ⟨c.host.toArray⟩)
 c1:w.cell? ⟨b,1,none⟩=some (.int .i64 c.calls)
 c2:w.cell? ⟨b,2,none⟩=some (.int .i64 c.pubs)
 c3:w.cell? ⟨b,3,none⟩=some (.int .i64 c.subs)
 c4:w.cell? ⟨b,4,none⟩=some (.int .i64 c.least)
 c5:w.cell? ⟨b,5,none⟩=some (.int .i64 c.most)
 c6:w.cell? ⟨b,6,none⟩=some (.int .i64 c.usual)
structure BoxS (w:World) (b:Nat) (s:Sto) (v:Value):Prop where
 f:BoxF w b s.c
 c7:w.cell? ⟨b,7,none⟩=some (.int .i64 s.last)
 c8:w.cell? ⟨b,8,none⟩=some v
def objF (c:Cf):Obj:=.cells #[.string ⟨c.host.toArray⟩,.int .i64 c.calls,.int .i64 c.pubs,.int .i64 c.subs,.int .i64 c.least,.int .i64 c.most,.int .i64 c.usual] 25
def objS (s:Sto) (v:Value):Obj:=.cells #[.string ⟨s.c.host.toArray⟩,.int .i64 s.c.calls,.int .i64 s.c.pubs,.int .i64 s.c.subs,.int .i64 s.c.least,.int .i64 s.c.most,.int .i64 s.c.usual,.int .i64 s.last,v] 28
theorem boxF_new (w:World) (c:Cf):BoxF (w.alloc (objF c)) w.heap.size c:=by
 unfold objF
 constructor <;> rw [World.cell?_alloc_new] <;> rfl
theorem boxS_new (w:World) (s:Sto) (v:Value):BoxS (w.alloc (objS s v)) w.heap.size s v:=by
 unfold objS;refine ⟨?_,?_,?_⟩
 ·constructor <;> rw [World.cell?_alloc_new] <;> rfl
 ·rw [World.cell?_alloc_new]; rfl
 ·rw [World.cell?_alloc_new]; rfl
theorem BoxF.below {w w':World} {b B:Nat} {c:Cf} (h:BoxF w b c) (hb:Below B w w') (hl:b < B):BoxF w' b c :=
 ⟨cell_below hb hl h.c0,cell_below hb hl h.c1,cell_below hb hl h.c2,cell_below hb hl h.c3,cell_below hb hl h.c4,cell_below hb hl h.c5,cell_below hb hl h.c6⟩
theorem BoxS.below {w w':World} {b B:Nat} {s:Sto} {v:Value} (h:BoxS w b s v) (hb:Below B w w') (hl:b < B):BoxS w' b s v :=
 ⟨h.f.below hb hl,cell_below hb hl h.c7,cell_below hb hl h.c8⟩
theorem ret_sec {R:Int × Bool} {n:Int} {b:Bool} (h:(n,b)=R):Ending.returned (.tuple #[.int .i64 n,.bool b])=.returned (.tuple #[.int .i64 R.1,.bool R.2]):=by rw [← h]
set_option maxHeartbeats 4000000 in
set_option maxRecDepth 100000 in
theorem rsec16_any (c:Cf) (a:Int) (w:World):Calls Tryz.prog 23 #[cfV c,.int .i64 a] w fun e w'=>e=.returned (.tuple #[.int .i64 (secC c a).1,.bool (secC c a).2])∧Below w.heap.size w w':=by
 have HB:=hid ((Below.refl _ w).alloc (Nat.le_refl _) (objF c));have hbx:=boxF_new w c;have h0:a < 0 → (c.usual,true)=secC c a:=fun h=>by unfold secC; rw [if_pos h]
 have h1:¬ a < 0 → c.most < a → (c.most,true)=secC c a:=fun h h'=>by unfold secC; rw [if_neg h,if_pos h']
 have h2:¬ a < 0 → ¬ c.most < a → (a,(decide (a=0) || decide (c.least≤a)))=secC c a:=fun h h'=>by unfold secC; rw [if_neg h,if_neg h']
 generalize secC c a=R at h0 h1 h2 ⊢;obtain ⟨ho,ca,pu,su,le,mo,us⟩:=c;unfold cfV;unfold objF at HB hbx;simp only at HB hbx h0 h1 h2 ⊢;obtain ⟨x0,x1,x2,x3,x4,x5,x6⟩:=hbx;simp only at x0 x1 x2 x3 x4 x5 x6;by_cases q0:a < 0
 ·have HV:=hid (h0 q0);have d0:decide (a < 0)=true:=decide_eq_true q0;clear h0 h1 h2 q0
  go_enter Tryz.func23,Tryz.ntmps23
  go_wp2;go_ret2;exact ⟨ret_sec HV.out,HB.out⟩
 by_cases q1:mo < a
 ·have HV:=hid (h1 q0 q1);have d0:decide (a < 0)=false:=decide_eq_false q0;have d1:decide (mo < a)=true:=decide_eq_true q1;clear h0 h1 h2 q0 q1
  go_enter Tryz.func23,Tryz.ntmps23
  go_wp2;go_ret2;exact ⟨ret_sec HV.out,HB.out⟩
 have HV:=hid (h2 q0 q1);have d0:decide (a < 0)=false:=decide_eq_false q0;have d1:decide (mo < a)=false:=decide_eq_false q1;clear h0 h1 h2 q0 q1;by_cases q2:a=0
 ·have d2:(a==0)=true:=by simpa using q2
  have HV:=hid (show (a,true)=R by rw [← HV.out,decide_eq_true q2]; rfl);clear q2
  go_enter Tryz.func23,Tryz.ntmps23
  go_wp2
  go_quiet (fail)
  go_wp2;go_ret2;exact ⟨ret_sec HV.out,HB.out.trans ((below_drewN _ _).mono (by simp))⟩
 ·have d2:(a==0)=false:=by simpa using q2
  by_cases q3:le≤a
  ·have d3:decide (le≤a)=true:=decide_eq_true q3;have HV:=hid (show (a,true)=R by rw [← HV.out,decide_eq_true q3]; simp);clear q2 q3
   go_enter Tryz.func23,Tryz.ntmps23
   go_wp2
   go_quiet (fail)
   go_wp2;go_ret2;exact ⟨ret_sec HV.out,HB.out.trans ((below_drewN _ _).mono (by simp))⟩
  ·have d3:decide (le≤a)=false:=decide_eq_false q3;have HV:=hid (show (a,false)=R by rw [← HV.out,decide_eq_false q3,decide_eq_false q2]; rfl);clear q2 q3
   go_enter Tryz.func23,Tryz.ntmps23
   go_wp2
   go_quiet (fail)
   go_wp2;go_ret2;exact ⟨ret_sec HV.out,HB.out.trans ((below_drewN _ _).mono (by simp))⟩
theorem pl_step {l:List PbC} {p:PbC → Bool} {k:Nat} (hk:k < l.length) (hp:∀ c ∈ l.take k,p c=false) (he:p l[k]=false):∀ c ∈ l.take (k+1),p c=false:=by
 intro c hc;rw [List.take_succ_eq_append_getElem hk] at hc
 rcases List.mem_append.1 hc with h | h
 ·exact hp c h
 ·simp at h; subst h; exact he
theorem pl_hit {l:List PbC} {tag:List UInt8} {k:Nat} (hk:k < l.length) (hp:∀ c ∈ l.take k,(c.p.tag==tag)=false) (he:(l[k].p.tag==tag)=true):placeP (pbsL l) tag=k:=by
 have hl:=pbsL_len l
 have:pidxP (pbsL l) tag=k:=by
  unfold pidxP;rw [List.findIdx_eq (by rw [hl]; exact hk)];refine ⟨by simpa [pbsL,isP] using he,fun j hj=>?_⟩
  have:=hp l[j] (by rw [List.mem_take_iff_getElem]; exact ⟨j,by omega,rfl⟩)
  simpa [pbsL,isP] using this
 unfold placeP;rw [this,hl,if_pos hk]
theorem pl_end {l:List PbC} {tag:List UInt8} (hp:∀ c ∈ l.take l.length,(c.p.tag==tag)=false):placeP (pbsL l) tag=-1:=by
 rw [List.take_length] at hp
 rcases idx_two (pbsL l) tag with ⟨_,h,_⟩ | ⟨k,hk,_,_,h,_⟩
 ·exact h
 ·exfalso
  rw [pbsL_len] at hk
  have:=hp l[k] (List.getElem_mem hk)
  simp [pbsL] at h
  simp [h] at this
set_option maxHeartbeats 4000000 in
set_option maxRecDepth 100000 in
theorem rplace16_any {w:World} {v:Value} {s:Sto} {cs:List PbC} (h:PbsAt w v cs) (tag:List UInt8) (hn:cs.length≤1000000) :
  Calls Tryz.prog 21 #[stoV s v,.string ⟨tag.toArray⟩] w fun e w'=>e=.returned (.int .i64 (placeP (pbsL cs) tag))∧Below w.heap.size w w':=by
 obtain ⟨oa,cap,rfl,hcp,hat⟩:=h;have HO:=hid hat;obtain ⟨n,hnn⟩:∃ n,n=cs.length:=⟨_,rfl⟩
 have hbw:Below w.heap.size w (w.alloc (objS s (.slice oa cs.length cap))):=(Below.refl _ w).alloc (Nat.le_refl _) _;have b8:=(boxS_new w s (.slice oa cs.length cap)).c8;rw [← hnn] at hn hbw b8 ⊢;have HN:=hid hnn;clear hat hnn hcp
 go_enter Tryz.func21,Tryz.ntmps21
 unfold stoV;unfold objS at hbw b8;go_wp2;generalize World.alloc w _=W at hbw b8 ⊢
 go_loopw [5] (fun i wr=>∃ k:Nat,k≤n∧i=.int .i64 k∧wr=W∧Hid (∀ c ∈ cs.take k,(c.p.tag==tag)=false)) (fun i _=>n - (intOf i).toNat)
 case atStart=>exact ⟨0,by omega,rfl,by first | rfl | trivial,fun c hc=>by simp at hc⟩
 case round =>
  obtain ⟨k,hk,rfl,rfl,hinv⟩:=hrel;have HB:=hid hbw;by_cases hlt:k < n
  ·have hlt':(k:Int) < n:=by omega
   have hkl:k < cs.length:=by rw [← HN.out]; exact hlt
   obtain ⟨ad,rfl,hab,cel⟩:=HO.out k hkl;have cel:=cel.below hbw hab;have c2:=cel.seven.c2;clear cel hbw;have ST:=hid (fun x=>pl_step (l:=cs) (p:=fun c=>c.p.tag==tag) hkl hinv.out x);have HT:=hid (fun x=>pl_hit (l:=cs) (tag:=tag) hkl hinv.out x);generalize cs[k]=c at c2 ST HT
   cases heb:c.p.tag==tag
   ·have hinv2:=hid (ST.out heb);clear ST HT hinv HO;go_wp2;go_roundw
    case rel=>exact ⟨k+1,by omega,by go_num,(by first | rfl | trivial),hinv2.out⟩
    case measure=>simp [intOf]; omega
   ·have HV:=hid (HT.out heb);clear ST HT hinv HO;go_wp2;go_ret;exact ⟨by rw [HV.out]; rfl,HB.out⟩
  ·have hlt':¬ ((k:Int) < n):=by omega
   obtain rfl:k=n:=by omega
   have HV:=hid (pl_end (l:=cs) (tag:=tag) (by rw [← HN.out]; exact hinv.out));clear hinv HO hbw;go_wp2;go_ret;exact ⟨by rw [HV.out]; rfl,HB.out⟩
theorem StOK.put {s:Sto} (h:StOK s) {k:Nat} (hk:k < s.l.length) {f:Pb → Pb} (hn:(f s.l[k]).num=s.l[k].num) (ht:tokenB (f s.l[k]).tag=true) (hf:∀ q ∈ s.l,q.tag ≠ (f s.l[k]).tag) (hd:checkD (f s.l[k]).doc=0) (hu:0≤(f s.l[k]).til∧(f s.l[k]).til≤571230650358):StOK ⟨s.c,s.last,s.l.modify k f⟩:=by
 have hmem:∀ q ∈ s.l.modify k f,q=f s.l[k]∨q ∈ s.l:=fun q hq=>by
  obtain ⟨i,hi,rfl⟩:=List.mem_iff_getElem.1 hq;rw [List.length_modify] at hi;rw [List.getElem_modify]
  split
  ·next e=>subst e; exact .inl rfl
  ·exact .inr (List.getElem_mem _)
 refine ⟨by simp only [List.length_modify]; exact h.len,fun i j hi hj e=>?_,fun q hq=>?_,?_,fun q hq=>?_,fun q hq=>?_,fun q hq=>?_,h.last⟩
 ·simp only [List.length_modify] at hi hj;simp only [List.getElem_modify] at e
  split at e
  ·next e1 =>
   split at e
   ·next e2=>omega
   ·subst e1; exact absurd e.symm (hf _ (List.getElem_mem _))
  ·split at e
   ·next e2=>subst e2; exact absurd e (hf _ (List.getElem_mem _))
   ·exact h.tags i j hi hj e
 ·rcases hmem q hq with rfl | hq
  ·exact ht
  ·exact h.tok q hq
 ·have hp:=h.nums;rw [List.pairwise_iff_getElem] at hp ⊢;intro i j hi hj hij;simp only [List.length_modify] at hi hj;have hb:=hp i j hi hj hij;simp only [List.getElem_modify]
  split
  ·next e1 =>
   subst e1;rw [if_neg (by omega),hn]; exact hb
  ·split
   ·next e2=>subst e2; rw [hn]; exact hb
   ·exact hb
 ·rcases hmem q hq with rfl | hq
  ·rw [hn]; exact h.num1 _ (List.getElem_mem _)
  ·exact h.num1 q hq
 ·rcases hmem q hq with rfl | hq
  ·exact hd
  ·exact h.doc q hq
 ·rcases hmem q hq with rfl | hq
  ·exact hu
  ·exact h.til q hq
theorem doS_ok {s:Sto} (hr:rightC s.c=true) (h:StOK s) (now:Int) (a:Pa):StOK (doS s now a).1:=by
 unfold doS
 split
 ·exact h
 ·next hb =>
  obtain ⟨n1,n2,n3,n4,n5⟩:=badA_no (Bool.eq_false_iff.2 hb);have hfr:=place_no n4;have hs:=secC_rng hr a.exp
  split
  ·exact h
  ·next hno =>
   split
   ·exact h
   ·split
    ·split
     ·exact h
     ·next h400 =>
      split
      ·exact h
      ·next h503 =>
       simp only [not_or] at h400;refine h.add (p:=newP s now _ a) (by omega) rfl n3 hfr (n5 (by simpa using h400.1)) ?_
       simp only [newP]; omega
    ·next hmt =>
     split
     ·exact h
     ·split
      ·exact h.sub (List.eraseIdx_sublist _ _)
      ·next hn0 =>
       have hi:pidxP s.l a.mt < s.l.length:=by
        simp only [noneP,Bool.not_eq_true,Bool.and_eq_false_iff,Bool.or_eq_false_iff,Bool.not_eq_false',decide_eq_false_iff_not] at hno
        rcases hno with hno | hno
        ·exact absurd (by simpa using hno) hmt
        ·rcases idx_two s.l a.mt with ⟨_,h2,_⟩ | ⟨k,hk,h2,_⟩
         ·have:=hno.1; omega
         ·omega
       refine h.put (f:=fun p=>goP p now (secC s.c a.exp).1 a) hi rfl n3 hfr ?_ ?_
       ·simp only [goP]
        split
        ·next hh=>exact n5 hh
        ·exact h.doc _ (List.getElem_mem _)
       ·simp only [goP]; omega
theorem doS_c (s:Sto) (now:Int) (a:Pa):(doS s now a).1.c=s.c:=by
 unfold doS
 repeat (first | rfl | split)
theorem doS_last (s:Sto) (now:Int) (a:Pa):(doS s now a).1.last=s.last∨(doS s now a).1.last=s.last+1:=by
 unfold doS
 repeat (first | exact .inl rfl | exact .inr rfl | split)
theorem token_list (l:List UInt8) (w:World) (h:l.length≤140737488355328) :
  Calls Tryz.prog 53 #[.string ⟨l.toArray⟩] w fun e w'=>e=.returned (.bool (tokenB l))∧w'=w:=token_any ⟨l.toArray⟩ w (by rw [size_list]; unfold maxLen; omega)
theorem reftoken_list (l:List UInt8) (w:World) (h:l.length≤140737488355328) :
  Calls Tryz.prog 20 #[.string ⟨l.toArray⟩] w fun e w'=>e=.returned (.bool (tokenB l))∧w'=w:=reftoken_any ⟨l.toArray⟩ w (by rw [size_list]; unfold maxLen; omega)
theorem refsame_list (a b:List UInt8) (w:World) (ha:a.length≤140737488355328) (hb:b.length≤140737488355328) :
  Calls Tryz.prog 135 #[.string ⟨a.toArray⟩,.string ⟨b.toArray⟩] w fun e w'=>e=.returned (.bool (sameB a b))∧Below w.heap.size w w' :=
 refsame_any ⟨a.toArray⟩ ⟨b.toArray⟩ w (by simp [ByteArray.size]; omega) (by simp [ByteArray.size]; omega)
theorem lower_list (l:List UInt8) (w:World) (hs:l.length≤281474976710656) :
  Calls Tryz.prog 95 #[.string ⟨l.toArray⟩] w fun e w'=>e=.returned (.string ⟨(lowL l).toArray⟩)∧Below w.heap.size w w' :=
 lower_txt ⟨l.toArray⟩ w (by rw [size_list]; exact hs)
end Go.Proofs.YtbmjodlbkgblpaaGreatDoor
namespace Go.Proofs.YtbmjodlbkgblpaaGreatDoor
section
variable {P : Program} {md : Region.Mode} {ops : Array Oper} {Q : Exit → Act → World → Prop}
theorem count_set {L:Array Bool} {i:Nat} (h:L.getD i true=false):(L.setIfInBounds i true).toList.count false+1=L.toList.count false:=by
 have hi:i < L.size:=by
  rcases Nat.lt_or_ge i L.size with h1 | h1
  ·exact h1
  ·rw [Array.getD_eq_getD_getElem?,Array.getElem?_eq_none h1] at h; simp at h
 have hv:L.toList[i]'(by simpa using hi)=false:=by
  rw [Array.getD_eq_getD_getElem?,Array.getElem?_eq_getElem hi] at h
  simpa using h
 have hm:false ∈ L.toList:=by rw [← hv]; exact List.getElem_mem _
 have hc:0 < L.toList.count false:=List.count_pos_iff.2 hm;rw [Array.toList_setIfInBounds,List.count_set (by simpa using hi),hv];have a1:(if (false==false)=true then (1:Nat) else 0)=1:=by decide
 have a2:(if (true==false)=true then (1:Nat) else 0)=0:=by decide
 rw [a1,a2];omega
theorem wpAny_inv (Inv:Array Bool → Act → World → Prop)
  (hend:∀ L a w,L.size=ops.size → Region.ready md ops L=[] → Inv L a w → Q .normal a w)
  (hstep:∀ L a w i,L.size=ops.size → i ∈ Region.ready md ops L → Inv L a w → wpOp P ops Q i (Inv (L.setIfInBounds i true)) a w) :
  ∀ (f:Nat) (L:Array Bool) (a:Act) (w:World),L.size=ops.size → L.toList.count false≤f → Inv L a w → wpAny P md ops Q f L a w:=by
 intro f
 induction f with
 | zero =>
  intro L a w hs hc hI
  have hr:Region.ready md ops L=[]:=by
   apply List.eq_nil_iff_forall_not_mem.2
   intro i hi
   have:=count_set (mem_ready.1 hi).1
   omega
  exact ⟨hr,hend L a w hs hr hI⟩
 | succ f ih =>
  intro L a w hs hc hI;refine ⟨fun hr=>hend L a w hs hr hI,fun i hi=>?_⟩
  refine wpOp_mono (fun a' w' k=>ih _ a' w' (by simpa using hs) ?_ k) (hstep L a w i hs hi hI)
  have:=count_set (mem_ready.1 hi).1
  omega
def lowB (md:Region.Mode) (ops:Array Oper):Bool:=(List.range ops.size).all fun j=>match ops[j]? with
 | some o=>o.after.all fun e=>!Region.binds md e || decide (e.on < j)
 | none=>false
theorem all_listed (hl:lowB md ops=true) {L:Array Bool} (hs:L.size=ops.size) (hr:Region.ready md ops L=[]):∀ j,j < ops.size → L.getD j false=true:=by
 intro j
 induction j using Nat.strongRecOn with
 | _ j ih =>
  intro hj;have h1:=List.all_eq_true.1 hl j (List.mem_range.2 hj);have ho:ops[j]? = some ops[j]:=Array.getElem?_eq_getElem hj;rw [ho] at h1;simp only at h1
  cases e:L[j]? with
  | none=>rw [Array.getElem?_eq_none_iff] at e; omega
  | some b =>
   cases b with
   | true=>rw [Array.getD_eq_getD_getElem?,e]; rfl
   | false =>
    exfalso
    have:j ∈ Region.ready md ops L:=by
     rw [mem_ready];refine ⟨by rw [Array.getD_eq_getD_getElem?,e]; rfl,ops[j],ho,fun x hx hb=>?_⟩
     have h2:=Array.all_eq_true_iff_forall_mem.1 h1 x hx;simp only [hb,Bool.not_true,Bool.false_or,decide_eq_true_eq] at h2;exact ih x.on h2 (by omega)
    rw [hr] at this
    cases this
theorem wp_region_inv {id:Nat} {a:Act} {w:World} (hm:P.follows .mixedOrders=true) (Inv:Array Bool → Act → World → Prop) (h0:Inv (Array.replicate ops.size false) a { w with drawn:=w.drawn+1 })
  (hend:∀ L a w,L.size=ops.size → Region.ready .any ops L=[] → Inv L a w → Q .normal a w)
  (hstep:∀ L a w i,L.size=ops.size → i ∈ Region.ready .any ops L → Inv L a w → wpOp P ops Q i (Inv (L.setIfInBounds i true)) a w):(Code.region id ops true).wp P Q a w :=
 wp_region_any hm (wpAny_inv Inv hend hstep ops.size _ a _ (by simp) (by simp) h0)
theorem wpOp_val {i:Nat} {o:Oper} {K:Act → World → Prop} {a:Act} {w w':World} {v:Value} (ho:ops[i]? = some o) (hg:o.guard=none) (hr:(execOp a.eval o).run P w=.ok (.value v) w') (h:K (a.put o.dst v) w'):wpOp P ops Q i K a w:=by
 unfold wpOp;rw [ho]
 simp only
 have hw:Region.wanted o (yielded ops a.tmps)=true:=by simp [Region.wanted,hg]
 rw [if_pos hw];refine Or.inl ?_
 unfold Oper.wp;rw [hr];exact h
theorem wpOp_of {i:Nat} {o:Oper} {K:Act → World → Prop} {a:Act} {w:World} (ho:ops[i]? = some o) {E:Prop} (h:if Region.wanted o (yielded ops a.tmps)=true then Oper.wp P o a w K Q else E) (hg:o.guard=none):wpOp P ops Q i K a w:=by
 unfold wpOp;rw [ho]
 simp only
 have hw:Region.wanted o (yielded ops a.tmps)=true:=by simp [Region.wanted,hg]
 rw [if_pos hw] at h ⊢;exact Or.inl h
theorem eval_put_ne {a:Act} {d s:Nat} {v:Value} (h:s ≠ d):(a.put (some d) v).eval (.tmp s)=a.eval (.tmp s):=by
 simp [Act.put,Act.eval,Array.getD_eq_getD_getElem?,Array.getElem?_setIfInBounds,Ne.symm h]
theorem eval_put_same {a:Act} {d:Nat} {v:Value} (h:d < a.tmps.size):(a.put (some d) v).eval (.tmp d)=v:=by
 simp [Act.put,Act.eval,Array.getD_eq_getD_getElem?,Array.getElem?_setIfInBounds,h]
theorem put_size (a:Act) (d:Option Nat) (v:Value):(a.put d v).tmps.size=a.tmps.size:=by
 cases d <;> simp [Act.put]
theorem put_defers (a:Act) (d:Option Nat) (v:Value):(a.put d v).defers=a.defers:=by
 cases d <;> simp [Act.put]
theorem getD_set_ne {L:Array Bool} {i j:Nat} (h:j ≠ i):(L.setIfInBounds i true).getD j false=L.getD j false:=by
 simp [Array.getD_eq_getD_getElem?,Array.getElem?_setIfInBounds,Ne.symm h]
theorem getD_set_same {L:Array Bool} {i:Nat} (h:i < L.size):(L.setIfInBounds i true).getD i false=true:=by
 simp [Array.getD_eq_getD_getElem?,Array.getElem?_setIfInBounds,h]
def TabOk (T:List (Nat × Nat × Value)) (L:Array Bool) (a:Act):Prop:=∀ e ∈ T,L.getD e.1 false=true → a.eval (.tmp e.2.1)=e.2.2
theorem TabOk.put {T:List (Nat × Nat × Value)} {L:Array Bool} {a:Act} (h:TabOk T L a) {i d:Nat} {v:Value} (hd:d < a.tmps.size) (hT:∀ e ∈ T,(e.2.1=d∧e.2.2=v)∨(e.1 ≠ i∧e.2.1 ≠ d)):TabOk T (L.setIfInBounds i true) (a.put (some d) v):=by
 intro e he hl
 rcases hT e he with ⟨h1,h2⟩ | ⟨h1,h2⟩
 ·rw [h1,h2]; exact eval_put_same hd
 ·rw [eval_put_ne h2];exact h e he (by rwa [getD_set_ne h1] at hl)
theorem TabOk.skip {T:List (Nat × Nat × Value)} {L:Array Bool} {a:Act} (h:TabOk T L a) {i:Nat} (hT:∀ e ∈ T,e.1 ≠ i):TabOk T (L.setIfInBounds i true) a:=by
 intro e he hl;exact h e he (by rwa [getD_set_ne (hT e he)] at hl)
end
end Go.Proofs.YtbmjodlbkgblpaaGreatDoor
namespace Go.Proofs.YtbmjodlbkgblpaaGreatDoor
open Go.RowKit
theorem sv_mono {w:World} {B C e s n:Nat} {v:Value} {xs:List Value} (h:w.ownsRow B e s v n xs) (hc:C≤B):w.ownsRow C e s v n xs:=by
 obtain ⟨h1,h2⟩:=h;refine ⟨h1,?_⟩
 rcases h2 with h2 | ⟨g,cap,cur,hv,hg,r⟩
 ·exact Or.inl h2
 ·exact Or.inr ⟨g,cap,cur,hv,Nat.le_trans hc hg,r⟩
section
variable {w w' : World}
theorem alloc_grown (w:World) (o:Obj) (r:Option Nat):w.grownBy (w.alloc o) r:=⟨rfl,rfl,rfl,by simp,fun k hk _=>Below.heap_alloc _ _ _ hk⟩
end
def OpIs (ops:Array Oper) (i:Nat) (d:Option Nat) (op:Op):Prop:=∃ o,ops[i]? = some o∧o.guard=none∧o.dst=d∧o.op=op
def Waits (ops:Array Oper) (i j:Nat):Prop:=∃ o,ops[i]? = some o∧∃ e ∈ o.after,Region.binds .any e=true∧e.on=j
section
variable {P : Program} {ops : Array Oper} {Q : Exit → Act → World → Prop} {L : Array Bool} {a : Act} {w : World} {i j d : Nat} {K : Act → World → Prop}
theorem Waits.on (h:Waits ops i j) (hi:i ∈ Region.ready .any ops L):L.getD j false=true:=by
 obtain ⟨o,ho,e,he,hb,rfl⟩:=h;obtain ⟨_,o',ho',hall⟩:=mem_ready.1 hi;rw [ho] at ho'
 injection ho' with e'
 subst e';exact hall e he hb
theorem OpIs.val {op:Op} (h:OpIs ops i (some d) op) {v:Value} {w':World} (hr:∀ o:Oper,o.op=op → (execOp a.eval o).run P w=.ok (.value v) w') (hK:K (a.put (some d) v) w'):wpOp P ops Q i K a w:=by
 obtain ⟨o,ho,hg,hd,hop⟩:=h;refine wpOp_val ho hg (hr o hop) ?_
 rw [hd]; exact hK
theorem OpIs.skip {op:Op} (h:OpIs ops i none op) {w':World} (hr:∀ o:Oper,o.op=op → (execOp a.eval o).run P w=.ok .skip w') (hK:K a w'):wpOp P ops Q i K a w:=by
 obtain ⟨o,ho,hg,hd,hop⟩:=h;unfold wpOp;rw [ho]
 simp only
 have hw:Region.wanted o (yielded ops a.tmps)=true:=by simp [Region.wanted,hg]
 rw [if_pos hw];refine Or.inl ?_
 unfold Oper.wp;rw [hr o hop,Oper.upon_skip,hd];exact hK
end
end Go.Proofs.YtbmjodlbkgblpaaGreatDoor
namespace Go.Proofs.YtbmjodlbkgblpaaGreatDoor
open Go.RowKit Sc
def DocsAt (w:World) (cs:List PbC):Prop:=∀ c ∈ cs,TusAt w c.ts c.p.doc.tuples∧StrsAt w c.ns c.p.doc.notes
theorem DocsAt.one {w:World} {cs:List PbC} (h:DocsAt w cs):∀ c ∈ cs,c.ts.oneCell'=true∧c.ns.oneCell'=true:=fun c hc=>by
 obtain ⟨⟨ta,tc,h1,_⟩,⟨na,nc,h2,_⟩⟩:=h c hc;rw [h1,h2]; exact ⟨rfl,rfl⟩
theorem DocsAt.sub {w:World} {cs ds:List PbC} (h:DocsAt w cs) (hs:∀ c ∈ ds,c ∈ cs):DocsAt w ds:=fun c hc=>h c (hs c hc)
theorem pb_new1 (W:World) (c:PbC):∀ (j:Nat) (u:Value),(pbsCells [c])[j]? = some u → (W.alloc (.cells (pbCells c).toArray 37)).cell? ((⟨W.heap.size,0,none⟩:Addr).add j)=some u:=pb_new W c _ rfl
def tusCells (ts:List Tu):List Value:=ts.flatMap tuCells
theorem tusCells_get (ts:List Tu) (k:Nat) (hk:k < ts.length) (j:Nat) (u:Value) (h:(tuCells ts[k])[j]? = some u):(tusCells ts)[k * 5+j]? = some u:=by
 induction ts generalizing k with
 | nil=>simp at hk
 | cons t ts ih =>
  have e:tusCells (t :: ts)=tuCells t++tusCells ts:=rfl;have el:(tuCells t).length=5:=rfl
  cases k with
  | zero =>
   have hj:j < 5:=by have:=(List.getElem?_eq_some_iff.1 h).1; simpa [tuCells] using this
   rw [e,List.getElem?_append_left (by rw [el]; omega),Nat.zero_mul,Nat.zero_add];exact h
  | succ k =>
   have:=ih k (by simpa using hk) (by simpa using h)
   rw [e,List.getElem?_append_right (by rw [el]; omega),el,show (k+1) * 5+j - 5=k * 5+j by omega];exact this
def OwnU (w:World) (B:Nat) (v:Value) (ts:List Tu):Prop:=w.ownsRow B 89 5 v ts.length (tusCells ts)
theorem OwnU.nil (w:World) (B:Nat):OwnU w B (.slice none 0 0) []:=World.ownsRow_nil _ _ _ _
theorem OwnU.below {w w':World} {B:Nat} {v:Value} {ts:List Tu} (h:OwnU w B v ts) (hb:Below w.heap.size w w'):OwnU w' B v ts:=by
 obtain ⟨h1,h2⟩:=h;refine ⟨h1,?_⟩
 rcases h2 with h2 | ⟨g,cap,cur,hv,hg,hh,r⟩
 ·exact Or.inl h2
 ·exact Or.inr ⟨g,cap,cur,hv,hg,by rw [hb.block g (Array.getElem?_eq_some_iff.1 hh).1]; exact hh,r⟩
theorem OwnU.alloc {w:World} {B:Nat} {v:Value} {ts:List Tu} (h:OwnU w B v ts) (o:Obj):OwnU (w.alloc o) B v ts:=World.ownsRow.alloc h o
end Go.Proofs.YtbmjodlbkgblpaaGreatDoor
