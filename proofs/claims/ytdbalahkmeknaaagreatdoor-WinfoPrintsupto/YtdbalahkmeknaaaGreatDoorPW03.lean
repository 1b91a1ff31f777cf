/-
  Parts, OpenUri, OpenNode, OpenInfo.
-/
import Derived.Test.YtdbalahkmeknaaaGreatDoorPW17
set_option linter.unusedVariables false
set_option linter.unusedSimpArgs false
set_option maxRecDepth 20000
namespace Go.Proofs.YtdbalahkmeknaaaGreatDoor
open Go.RowKit Sc
structure Pl where
 q:Bool
 e:Bool
 a:Bool
end Go.Proofs.YtdbalahkmeknaaaGreatDoor
namespace Go.Proofs.YtdbalahkmeknaaaGreatDoor
open Go.RowKit Go.ChangeShapes Go.WideShapes Go.Deep
theorem cellsStr:Tryz.prog.cellsOf 9=1:=by kernel_rfl
theorem cellsInt:Tryz.prog.cellsOf 3=1:=by kernel_rfl
section
variable {H : Type} {enc : TypeId × Value → H} {W : World} {sp : Nat → Bool}
theorem bulk_all:∀ (ds:List (DataW H)),ds.length≤Rows.uptoBulkAll ds∧∀ k (hk:k < ds.length),Rows.uptoBulk ds[k]≤Rows.uptoBulkAll ds
 | []=>⟨by simp,fun k hk=>by simp at hk⟩
 | d :: ds=>by
  obtain ⟨i1,i2⟩:=bulk_all ds;have h2:1≤Rows.uptoBulk d:=by unfold Rows.uptoBulk; split <;> omega
  simp only [Rows.uptoBulkAll,List.length_cons];refine ⟨by omega,fun k hk=>?_⟩
  cases k with
  | zero=>simp only [List.getElem_cons_zero]; omega
  | succ k=>have:=i2 k (by simpa using hk); simp only [List.getElem_cons_succ]; omega
end
def InfIn (B:Nat) (W:World) (v:Value):Prop:=∃ d ws,v=infV d ws∧WtsAt W ws d.ws∧SmallI B d
theorem cellsWt:Tryz.prog.cellsOf 51=4:=by kernel_rfl
theorem cellsWts:Tryz.prog.cellsOf 22=1:=by kernel_rfl
section
variable {H : Type} {enc : TypeId × Value → H} {W : World} {sp : Nat → Bool}
def WtD (d:DataW H) (t:Wt):Prop:=d=.agg [.lit (.int .i64 t.id),.lit (.string t.uri),.lit (.string t.stat),.lit (.string t.ev)]
theorem open_wt {fuel:Nat} {cs:List Value} {x:DataW H × List MemPlace} (h:DataW.trod enc Tryz.prog W 0 sp true fuel 51 cs=some x) :
  ∃ t:Wt,cs=wtCells t∧WtD x.1 t∧(Lit.int .i64 t.id).wf=true:=by
 obtain ⟨xs,n,_,hx,hl,hlen,hf⟩:=DataW.trod_struct Tryz.underlying51 h;rw [cellsWt] at hl
 match cs,hl,xs,hlen with
 | [c0,c1,c2,c3],_,[y0,y1,y2,y3],_ =>
  have f0:=hf 0 _ rfl;have f1:=hf 1 _ rfl;have f2:=hf 2 _ rfl;have f3:=hf 3 _ rfl
  simp [cellsStr,cellsInt] at f0 f1 f2 f3
  obtain ⟨i0,e0,rfl,w0⟩:=DataW.trod_int Tryz.underlying3 f0;obtain ⟨s1,e1,rfl,_⟩:=DataW.trod_string Tryz.underlying9 f1;obtain ⟨s2,e2,rfl,_⟩:=DataW.trod_string Tryz.underlying9 f2;obtain ⟨s3,e3,rfl,_⟩:=DataW.trod_string Tryz.underlying9 f3;simp only [List.cons.injEq,and_true] at e0 e1 e2 e3;subst e0 e1 e2 e3;subst hx;exact ⟨⟨i0,s1.data.toList,s2.data.toList,s3.data.toList⟩,by simp [wtCells],by simp [WtD],w0⟩
theorem open_wts {fuel:Nat} {cs:List Value} {x:DataW H × List MemPlace} (h:DataW.trod enc Tryz.prog W 0 sp true fuel 22 cs=some x) :
  ∃ (v:Value) (ws:List Wt),cs=[v]∧WtsAt W v ws∧(∀ t ∈ ws,(Lit.int .i64 t.id).wf=true)∧((x.1=.nil∧ws=[])∨∃ ds sp,x.1=.slice ds sp∧ds.length=ws.length∧∀ k (hk:k < ws.length) (hd:k < ds.length),WtD ds[k] ws[k]):=by
 rcases open_slice Tryz.underlying22 h with ⟨rfl,rfl⟩ | ⟨a,len,cap,m,n,D,Pl,rfl,_,hlc,hcm,hm,rfl,hall⟩
 ·exact ⟨_,[],rfl,⟨none,0,rfl,Nat.le_refl _,fun k hk=>by simp at hk⟩,fun c hc=>by simp at hc,Or.inl ⟨rfl,rfl⟩⟩
 ·have hlm:len≤m:=by rw [hm]; split <;> omega
  have each:∀ i,i < len → ∃ t:Wt,WtD (D i) t∧((Lit.int .i64 t.id).wf=true∧a.block < W.heap.size∧WtAt W a i t):=by
   intro i hi;obtain ⟨cs',h1,h2⟩:=hall i (by omega);obtain ⟨t,rfl,hd,hw⟩:=open_wt h2;rw [cellsWt] at h1;obtain ⟨_,_,hc⟩:=World.cells?_some h1;have c0:=hc 0 (by omega);have c1:=hc 1 (by omega);have c2:=hc 2 (by omega);have c3:=hc 3 (by omega);have hc0:W.cell? (a.add (i * 4))=some (.int .i64 t.id):=by simpa [Addr.add,wtCells] using c0
   refine ⟨t,hd,hw,?_,⟨hc0,?_,?_,?_⟩⟩
   ·have:(a.add (i * 4)).block < W.heap.size:=by
     unfold World.cell? at hc0
     cases hh:W.heap[(a.add (i * 4)).block]? with
     | none=>simp [hh] at hc0
     | some o=>exact (Array.getElem?_eq_some_iff.1 hh).1
    rwa [add_block] at this
   ·simpa [Addr.add,wtCells] using c1
   ·simpa [Addr.add,wtCells] using c2
   ·simpa [Addr.add,wtCells] using c3
  obtain ⟨f,hf⟩:=@choose_lt Wt ⟨⟨0,[],[],[]⟩⟩ len _ each;refine ⟨_,(List.range len).map f,rfl,⟨some a,cap,by simp,by simp; omega,fun k hk=>?_⟩,fun c hc=>?_,Or.inr ⟨_,_,rfl,by simp,fun k hk hd=>?_⟩⟩
  ·simp at hk
   obtain ⟨_,_,h2,h3⟩:=hf k hk;exact ⟨a,rfl,h2,by simpa using h3⟩
  ·obtain ⟨i,hi,rfl⟩:=List.mem_map.1 hc;exact (hf i (by simpa using hi)).2.1
  ·simp at hk
   simpa using (hf k hk).1
theorem wtD_upto {B:Nat} {d:DataW H} {t:Wt} (hd:WtD d t) (hw:(Lit.int .i64 t.id).wf=true) (hz:Rows.uptoBulk d≤B):SmallW B t:=by
 unfold WtD at hd;subst hd;simp only [Rows.uptoBulkAll,Rows.uptoBulk] at hz;exact ⟨by omega,by omega,by omega,hw⟩
theorem bulk_posI (d:DataW H):1≤Rows.uptoBulk d:=by
 cases d with
 | lit l=>cases l <;> simp [Rows.uptoBulk]
 | _=>simp [Rows.uptoBulk]
theorem inf_upto {B:Nat} {r:Reach} {b0:Nat} {v:Value} {d:DataW H} {p:List MemPlace} (hv:Value.okWide Tryz.prog W r b0 24 v) (h:DataW.Trod enc Tryz.prog W 0 sp true 24 v d p)
  (hz:Rows.uptoBulk d≤B):InfIn B W v:=by
 obtain ⟨cs,rfl,hsz⟩:=okWide_struct Tryz.underlying24 hv;obtain ⟨fuel,hf0⟩:=h;obtain ⟨xs,n,_,hx,hl,hlen,hf⟩:=DataW.trod_struct Tryz.underlying24 hf0;obtain ⟨l⟩:=cs;simp only [Value.cells] at hl hf;rw [show Tryz.prog.cellsOf 24=3 from by kernel_rfl] at hl
 match l,hl,xs,hlen with
 | [c0,c1,c2],_,[y0,y1,y2],_ =>
  have f0:=hf 0 _ rfl;have f1:=hf 1 _ rfl;have f2:=hf 2 _ rfl
  simp [cellsStr,cellsInt,cellsWts] at f0 f1 f2
  obtain ⟨i0,e0,rfl,w0⟩:=DataW.trod_int Tryz.underlying3 f0;obtain ⟨s1,e1,rfl,_⟩:=DataW.trod_string Tryz.underlying9 f1;obtain ⟨v2,ws,e2,a2,w2,d2⟩:=open_wts f2;simp only [List.cons.injEq,and_true] at e0 e1 e2;subst e0 e1 e2;have hd:d=DataW.agg [.lit (.int .i64 i0),.lit (.string s1.data.toList),y2.1]:=congrArg Prod.fst hx;subst hd;simp only [Rows.uptoBulkAll,Rows.uptoBulk] at hz;have p2:=bulk_posI y2.1;refine ⟨⟨i0,s1.data.toList,ws⟩,c2,by simp [infV],a2,?_⟩
  have ht:ws.length≤B∧∀ t ∈ ws,SmallW B t:=by
   rcases d2 with ⟨_,rfl⟩ | ⟨ds,sp1,e,hl1,hk⟩
   ·exact ⟨by simp,fun t h=>by simp at h⟩
   ·rw [e] at hz;simp only [Rows.uptoBulk] at hz;obtain ⟨b1,b2⟩:=bulk_all ds;refine ⟨by omega,fun t h=>?_⟩
    obtain ⟨k,hkl,rfl⟩:=List.mem_iff_getElem.1 h;exact wtD_upto (hk k hkl (by omega)) (w2 _ (List.getElem_mem hkl)) (by have:=b2 k (by omega); omega)
  exact ⟨w0,by simp only; omega,ht.1,ht.2⟩
end
end Go.Proofs.YtdbalahkmeknaaaGreatDoor
