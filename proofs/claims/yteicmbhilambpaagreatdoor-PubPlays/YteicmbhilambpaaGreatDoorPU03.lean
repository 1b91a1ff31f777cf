/-
  Parts, OpenUri, OpenAddr, OpenDoc, PubV, OpenPa.
-/
import Derived.Test.YteicmbhilambpaaGreatDoorPU05
set_option linter.unusedVariables false
set_option linter.unusedSimpArgs false
set_option maxRecDepth 20000
namespace Go.Proofs.YteicmbhilambpaaGreatDoor
open Go.RowKit Sc
structure Pl where
 q:Bool
 e:Bool
 a:Bool
end Go.Proofs.YteicmbhilambpaaGreatDoor
namespace Go.Proofs.YteicmbhilambpaaGreatDoor
open Go.RowKit Go.ChangeShapes Go.WideShapes Go.Deep
theorem cellsStr:Tryz.prog.cellsOf 9=1:=by kernel_rfl
theorem cellsInt:Tryz.prog.cellsOf 3=1:=by kernel_rfl
theorem back (s:ByteArray):(⟨s.data.toList.toArray⟩:ByteArray)=s:=by apply ByteArray.ext; simp
end Go.Proofs.YteicmbhilambpaaGreatDoor
namespace Go.Proofs.YteicmbhilambpaaGreatDoor
open Go.RowKit Go.ChangeShapes Go.WideShapes Go.Deep
variable {H : Type} {enc : TypeId × Value → H} {W : World} {sp : Nat → Bool}
theorem open_strs {fuel:Nat} {cs:List Value} {x:DataW H × List MemPlace} (h:DataW.trod enc Tryz.prog W 0 sp true fuel 33 cs=some x) :
  ∃ (v:Value) (ls:List (List UInt8)),cs=[v]∧StrsAt W v ls∧((x.1=.nil∧ls=[])∨∃ sp,x.1=.slice (ls.map fun l=>.lit (.string l)) sp):=by
 rcases open_slice Tryz.underlying33 h with ⟨rfl,rfl⟩ | ⟨a,len,cap,m,n,D,Pl,rfl,_,hlc,hcm,hm,rfl,hall⟩
 ·exact ⟨_,[],rfl,⟨none,0,rfl,fun k hk=>by simp at hk⟩,Or.inl ⟨rfl,rfl⟩⟩
 ·have hlm:len≤m:=by rw [hm]; split <;> omega
  have each:∀ i,i < len → ∃ l:List UInt8,D i=.lit (.string l)∧(a.block < W.heap.size∧W.cell? (a.add i)=some (.string ⟨l.toArray⟩)):=by
   intro i hi;obtain ⟨cs',h1,h2⟩:=hall i (by omega);obtain ⟨s,rfl,hd,_⟩:=DataW.trod_string Tryz.underlying9 h2;rw [cellsStr] at h1;obtain ⟨_,_,hc⟩:=World.cells?_some h1;have c0:=hc 0 (by omega);have hc0:W.cell? (a.add i)=some (.string ⟨s.data.toList.toArray⟩):=by rw [back]; simpa [Addr.add] using c0
   refine ⟨s.data.toList,congrArg Prod.fst hd,?_,hc0⟩
   have:(a.add i).block < W.heap.size:=by
    unfold World.cell? at hc0
    cases hh:W.heap[(a.add i).block]? with
    | none=>simp [hh] at hc0
    | some o=>exact (Array.getElem?_eq_some_iff.1 hh).1
   rwa [add_block] at this
  obtain ⟨f,hf⟩:=@choose_lt (List UInt8) ⟨[]⟩ len _ each;refine ⟨_,(List.range len).map f,rfl,⟨some a,cap,by simp,fun k hk=>?_⟩,Or.inr ⟨(List.range (m - len)).map fun j=>D (len+j),?_⟩⟩
  ·simp at hk
   refine ⟨a,rfl,?_⟩
   simpa using (hf k hk).2
  ·simp only [List.map_map]
   congr 1
   apply List.map_congr_left
   intro i hi;exact (hf i (by simpa using hi)).1
theorem weights_all {t:TypeId}:∀ (ds:List (DataW H)) (k:Nat) (hk:k < ds.length) (n:Nat),n ∈ ds[k].weights Tryz.prog t → n ∈ DataW.weightsAll Tryz.prog t ds
 | [],k,hk,n,h=>by simp at hk
 | d :: ds,0,hk,n,h=>by simp only [DataW.weightsAll,List.mem_append]; exact Or.inl h
 | d :: ds,k+1,hk,n,h=>by simp only [DataW.weightsAll,List.mem_append]; exact Or.inr (weights_all ds k (by simpa using hk) n h)
end Go.Proofs.YteicmbhilambpaaGreatDoor
namespace Go.Proofs.YteicmbhilambpaaGreatDoor
open Go.RowKit Go.ChangeShapes Go.WideShapes Go.Deep
theorem cellsTup:Tryz.prog.cellsOf 109=5:=by kernel_rfl
theorem cellsTups:Tryz.prog.cellsOf 32=1:=by kernel_rfl
theorem cellsBoolD:Tryz.prog.cellsOf 4=1:=by kernel_rfl
theorem cellsStrsD:Tryz.prog.cellsOf 33=1:=by kernel_rfl
section
variable {H : Type} {enc : TypeId × Value → H} {W : World} {sp : Nat → Bool}
def TuD (d:DataW H) (t:Tu):Prop:=d=.agg [.lit (.string t.id),.lit (.bool t.opn),.lit (.string t.contact),.lit (.int .i64 t.prio),.lit (.string t.note)]
theorem open_tup {fuel:Nat} {cs:List Value} {x:DataW H × List MemPlace} (h:DataW.trod enc Tryz.prog W 0 sp true fuel 109 cs=some x) :
  ∃ t:Tu,cs=tuCells t∧TuD x.1 t∧(Lit.int .i64 t.prio).wf=true:=by
 obtain ⟨xs,n,_,hx,hl,hlen,hf⟩:=DataW.trod_struct Tryz.underlying109 h;rw [cellsTup] at hl
 match cs,hl,xs,hlen with
 | [c0,c1,c2,c3,c4],_,[y0,y1,y2,y3,y4],_ =>
  have f0:=hf 0 _ rfl;have f1:=hf 1 _ rfl;have f2:=hf 2 _ rfl;have f3:=hf 3 _ rfl;have f4:=hf 4 _ rfl
  simp [cellsStr,cellsInt,cellsBoolD] at f0 f1 f2 f3 f4
  obtain ⟨s0,e0,rfl,_⟩:=DataW.trod_string Tryz.underlying9 f0;obtain ⟨b1,e1,rfl⟩:=DataW.trod_bool Tryz.underlying4 f1;obtain ⟨s2,e2,rfl,_⟩:=DataW.trod_string Tryz.underlying9 f2;obtain ⟨i3,e3,rfl,w3⟩:=DataW.trod_int Tryz.underlying3 f3;obtain ⟨s4,e4,rfl,_⟩:=DataW.trod_string Tryz.underlying9 f4;simp only [List.cons.injEq,and_true] at e0 e1 e2 e3 e4;subst e0 e1 e2 e3 e4;subst hx;exact ⟨⟨s0.data.toList,b1,s2.data.toList,i3,s4.data.toList⟩,by simp [tuCells],by simp [TuD],w3⟩
theorem open_tups {fuel:Nat} {cs:List Value} {x:DataW H × List MemPlace} (h:DataW.trod enc Tryz.prog W 0 sp true fuel 32 cs=some x) :
  ∃ (v:Value) (ts:List Tu),cs=[v]∧TusAt W v ts∧(∀ t ∈ ts,(Lit.int .i64 t.prio).wf=true)∧((x.1=.nil∧ts=[])∨∃ ds sp,x.1=.slice ds sp∧ds.length=ts.length∧∀ k (hk:k < ts.length) (hd:k < ds.length),TuD ds[k] ts[k]):=by
 rcases open_slice Tryz.underlying32 h with ⟨rfl,rfl⟩ | ⟨a,len,cap,m,n,D,Pl,rfl,_,hlc,hcm,hm,rfl,hall⟩
 ·exact ⟨_,[],rfl,⟨none,0,rfl,fun k hk=>by simp at hk⟩,fun c hc=>by simp at hc,Or.inl ⟨rfl,rfl⟩⟩
 ·have hlm:len≤m:=by rw [hm]; split <;> omega
  have each:∀ i,i < len → ∃ t:Tu,TuD (D i) t∧((Lit.int .i64 t.prio).wf=true∧a.block < W.heap.size∧TuAt W a i t):=by
   intro i hi;obtain ⟨cs',h1,h2⟩:=hall i (by omega);obtain ⟨t,rfl,hd,hw⟩:=open_tup h2;rw [cellsTup] at h1;obtain ⟨_,_,hc⟩:=World.cells?_some h1;have c0:=hc 0 (by omega);have c1:=hc 1 (by omega);have c2:=hc 2 (by omega);have c3:=hc 3 (by omega);have c4:=hc 4 (by omega);have hc0:W.cell? (a.add (i * 5))=some (.string ⟨t.id.toArray⟩):=by simpa [Addr.add,tuCells] using c0
   refine ⟨t,hd,hw,?_,⟨hc0,?_,?_,?_,?_⟩⟩
   ·have:(a.add (i * 5)).block < W.heap.size:=by
     unfold World.cell? at hc0
     cases hh:W.heap[(a.add (i * 5)).block]? with
     | none=>simp [hh] at hc0
     | some o=>exact (Array.getElem?_eq_some_iff.1 hh).1
    rwa [add_block] at this
   ·simpa [Addr.add,tuCells] using c1
   ·simpa [Addr.add,tuCells] using c2
   ·simpa [Addr.add,tuCells] using c3
   ·simpa [Addr.add,tuCells] using c4
  obtain ⟨f,hf⟩:=@choose_lt Tu ⟨⟨[],false,[],0,[]⟩⟩ len _ each;refine ⟨_,(List.range len).map f,rfl,⟨some a,cap,by simp,fun k hk=>?_⟩,fun c hc=>?_,Or.inr ⟨_,_,rfl,by simp,fun k hk hd=>?_⟩⟩
  ·simp at hk
   obtain ⟨_,_,h2,h3⟩:=hf k hk;exact ⟨a,rfl,h2,by simpa using h3⟩
  ·obtain ⟨i,hi,rfl⟩:=List.mem_map.1 hc;exact (hf i (by simpa using hi)).2.1
  ·simp at hk
   simpa using (hf k hk).1
end
end Go.Proofs.YteicmbhilambpaaGreatDoor
namespace Go.Proofs.YteicmbhilambpaaGreatDoor
open Go.RowKit Sc
def askL (a:Pa) (ts ns:Value):List Value:=[.string ⟨a.who.toArray⟩,.string ⟨a.mt.toArray⟩,.int .i64 a.exp,.bool a.has,.string ⟨a.doc.entity.toArray⟩,ts,ns,.string ⟨a.tag.toArray⟩]
end Go.Proofs.YteicmbhilambpaaGreatDoor
namespace Go.Proofs.YteicmbhilambpaaGreatDoor
open Go.RowKit Go.ChangeShapes Go.WideShapes Go.Deep
structure AcP where
 expire:Bool
 now:Int
 a:Pa
 ts:Value
 ns:Value
def acpCells (x:AcP):List Value:=.bool x.expire :: .int .i64 x.now :: askL x.a x.ts x.ns
def CapP (v:Value):Prop:=∀ a n c,v=.slice a n c → n≤c
structure DocPa (w:World) (d:Dc) (ts ns:Value):Prop where
 t:TusAt w ts d.tuples
 n:StrsAt w ns d.notes
 c:CapP ts
structure SmallPa (B:Nat) (a:Pa):Prop where
 who:a.who.length≤B
 mt:a.mt.length≤B
 tag:a.tag.length≤B
 doc:SmallD B a.doc
 exp:(Lit.int .i64 a.exp).wf=true
theorem cellsDocP:Tryz.prog.cellsOf 35=3:=by kernel_rfl
theorem cellsAskP:Tryz.prog.cellsOf 37=8:=by kernel_rfl
theorem cellsActP:Tryz.prog.cellsOf 39=10:=by kernel_rfl
section
variable {H : Type} {enc : TypeId × Value → H} {W : World} {sp : Nat → Bool}
def TusD (d:DataW H) (ts:List Tu):Prop:=(d=.nil∧ts=[])∨∃ ds sp,d=.slice ds sp∧ds.length=ts.length∧∀ k (hk:k < ts.length) (hd:k < ds.length),TuD ds[k] ts[k]
def StrsD (d:DataW H) (ls:List (List UInt8)):Prop:=(d=.nil∧ls=[])∨∃ sp,d=.slice (ls.map fun l=>.lit (.string l)) sp
def DocD (d:DataW H) (dc:Dc):Prop:=∃ d1 d2,d=.agg [.lit (.string dc.entity),d1,d2]∧TusD d1 dc.tuples∧StrsD d2 dc.notes
def PaD (d:DataW H) (a:Pa):Prop:=∃ dd,d=.agg [.lit (.string a.who),.lit (.string a.mt),.lit (.int .i64 a.exp),.lit (.bool a.has),dd,.lit (.string a.tag)]∧DocD dd a.doc
def AcD (d:DataW H) (x:AcP):Prop:=∃ dd,d=.agg [.lit (.bool x.expire),.lit (.int .i64 x.now),dd]∧PaD dd x.a
theorem open_docP {fuel:Nat} {cs:List Value} {x:DataW H × List MemPlace} (h:DataW.trod enc Tryz.prog W 0 sp true fuel 35 cs=some x) :
  ∃ (d:Dc) (ts ns:Value),cs=[.string ⟨d.entity.toArray⟩,ts,ns]∧DocPa W d ts ns∧DocD x.1 d∧∀ t ∈ d.tuples,(Lit.int .i64 t.prio).wf=true:=by
 obtain ⟨xs,n,_,hx,hl,hlen,hf⟩:=DataW.trod_struct Tryz.underlying35 h;rw [cellsDocP] at hl
 match cs,hl,xs,hlen with
 | [c0,c1,c2],_,[y0,y1,y2],_ =>
  have f0:=hf 0 _ rfl;have f1:=hf 1 _ rfl;have f2:=hf 2 _ rfl
  simp [cellsStr,cellsTups,cellsStrsD] at f0 f1 f2
  obtain ⟨s0,e0,rfl,_⟩:=DataW.trod_string Tryz.underlying9 f0
  have hcap:CapP c1:=by
   rcases open_slice Tryz.underlying32 f1 with ⟨h1,_⟩ | ⟨a,len,cap,m,n,D,Pl,h1,_,hlc,_⟩
   ·simp only [List.cons.injEq,and_true] at h1;subst h1;intro b k c e
    injection e with _ q1 q2
    omega
   ·simp only [List.cons.injEq,and_true] at h1;subst h1;intro b k c e
    injection e with _ q1 q2
    omega
  obtain ⟨v1,ts,e1,a1,w1,d1⟩:=open_tups f1;obtain ⟨v2,ns,e2,a2,d2⟩:=open_strs f2;simp only [List.cons.injEq,and_true] at e0 e1 e2;subst e0 e1 e2;subst hx;exact ⟨⟨s0.data.toList,ts,ns⟩,c1,c2,by simp,⟨a1,a2,hcap⟩,⟨y1.1,y2.1,by simp,d1,d2⟩,w1⟩
theorem open_pa {fuel:Nat} {cs:List Value} {x:DataW H × List MemPlace} (h:DataW.trod enc Tryz.prog W 0 sp true fuel 37 cs=some x) :
  ∃ (a:Pa) (ts ns:Value),cs=askL a ts ns∧DocPa W a.doc ts ns∧PaD x.1 a∧(∀ t ∈ a.doc.tuples,(Lit.int .i64 t.prio).wf=true)∧(Lit.int .i64 a.exp).wf=true:=by
 obtain ⟨xs,n,_,hx,hl,hlen,hf⟩:=DataW.trod_struct Tryz.underlying37 h;rw [cellsAskP] at hl
 match cs,hl,xs,hlen with
 | [c0,c1,c2,c3,c4,c5,c6,c7],_,[y0,y1,y2,y3,y4,y5],_ =>
  have f0:=hf 0 _ rfl;have f1:=hf 1 _ rfl;have f2:=hf 2 _ rfl;have f3:=hf 3 _ rfl;have f4:=hf 4 _ rfl;have f5:=hf 5 _ rfl
  simp [cellsStr,cellsInt,cellsBoolD,cellsDocP] at f0 f1 f2 f3 f4 f5
  obtain ⟨s0,e0,rfl,_⟩:=DataW.trod_string Tryz.underlying9 f0;obtain ⟨s1,e1,rfl,_⟩:=DataW.trod_string Tryz.underlying9 f1;obtain ⟨i2,e2,rfl,w2⟩:=DataW.trod_int Tryz.underlying3 f2;obtain ⟨b3,e3,rfl⟩:=DataW.trod_bool Tryz.underlying4 f3;obtain ⟨d,ts,ns,e4,k4,d4,w4⟩:=open_docP f4;obtain ⟨s5,e5,rfl,_⟩:=DataW.trod_string Tryz.underlying9 f5;simp only [List.cons.injEq,and_true] at e0 e1 e2 e3 e4 e5;obtain ⟨e4a,e4b,e4c⟩:=e4;subst e0 e1 e2 e3 e4a e4b e4c e5;subst hx;exact ⟨⟨s0.data.toList,s1.data.toList,i2,b3,d,s5.data.toList⟩,c5,c6,by simp [askL],k4,⟨y4.1,by simp,d4⟩,w4,w2⟩
theorem open_acp {fuel:Nat} {cs:List Value} {x:DataW H × List MemPlace} (h:DataW.trod enc Tryz.prog W 0 sp true fuel 39 cs=some x) :
  ∃ c:AcP,cs=acpCells c∧DocPa W c.a.doc c.ts c.ns∧AcD x.1 c∧(∀ t ∈ c.a.doc.tuples,(Lit.int .i64 t.prio).wf=true)∧(Lit.int .i64 c.a.exp).wf=true∧(Lit.int .i64 c.now).wf=true:=by
 obtain ⟨xs,n,_,hx,hl,hlen,hf⟩:=DataW.trod_struct Tryz.underlying39 h;rw [cellsActP] at hl
 match cs,hl,xs,hlen with
 | [c0,c1,c2,c3,c4,c5,c6,c7,c8,c9],_,[y0,y1,y2],_ =>
  have f0:=hf 0 _ rfl;have f1:=hf 1 _ rfl;have f2:=hf 2 _ rfl
  simp [cellsInt,cellsBoolD,cellsAskP] at f0 f1 f2
  obtain ⟨b0,e0,rfl⟩:=DataW.trod_bool Tryz.underlying4 f0;obtain ⟨i1,e1,rfl,w1⟩:=DataW.trod_int Tryz.underlying3 f1;obtain ⟨a,ts,ns,e2,k2,d2,w2,w3⟩:=open_pa f2;simp only [List.cons.injEq,and_true] at e0 e1;subst e0 e1;subst hx;refine ⟨⟨b0,i1,a,ts,ns⟩,?_,k2,⟨y2.1,by simp,d2⟩,w2,w3,w1⟩
  simp only [acpCells];rw [← e2]
theorem bytesTupP:1≤Tryz.prog.bytesOf 109:=of_decide_eq_true (by kernel_rfl)
theorem bytesStrP:1≤Tryz.prog.bytesOf 9:=of_decide_eq_true (by kernel_rfl)
theorem len_said {B:Nat} {ds sp:List (DataW H)} {b:Nat} (hb:1≤b) (h:(ds.length+sp.length) * b≤B):ds.length≤B:=by
 refine Nat.le_trans ?_ h
 exact Nat.le_trans (Nat.le_add_right ds.length sp.length) (Nat.le_mul_of_pos_right _ hb)
theorem tusD_said {B:Nat} {d:DataW H} {ts:List Tu} (hd:TusD d ts) (hw:∀ t ∈ ts,(Lit.int .i64 t.prio).wf=true) (hz:∀ n ∈ d.weights Tryz.prog 32,n≤B):ts.length≤B∧∀ t ∈ ts,SmallT B t:=by
 rcases hd with ⟨_,rfl⟩ | ⟨ds,sp,rfl,hl,hk⟩
 ·simp
 ·simp only [DataW.weights,Tryz.underlying32] at hz;refine ⟨?_,fun t ht=>?_⟩
  ·rw [← hl]; exact len_said (sp:=sp) bytesTupP (hz _ (List.mem_cons_self ..))
  ·obtain ⟨k,hk',rfl⟩:=List.getElem_of_mem ht;have hd:=hk k hk' (by omega);have hz2:∀ n ∈ (ds[k]'(by omega)).weights Tryz.prog 109,n≤B:=fun n hn=>hz n (List.mem_cons_of_mem _ (List.mem_append.2 (Or.inl (weights_all ds k (by omega) n hn))));unfold TuD at hd;rw [hd] at hz2;simp only [DataW.weights,Tryz.underlying109,List.map_cons,List.map_nil,DataW.weightsEach] at hz2;exact ⟨hz2 _ (by simp),hz2 _ (by simp),hz2 _ (by simp),hw _ ht⟩
theorem strsD_said {B:Nat} {d:DataW H} {ls:List (List UInt8)} (hd:StrsD d ls) (hz:∀ n ∈ d.weights Tryz.prog 33,n≤B):ls.length≤B∧∀ l ∈ ls,l.length≤B:=by
 rcases hd with ⟨_,rfl⟩ | ⟨sp,rfl⟩
 ·simp
 ·simp only [DataW.weights,Tryz.underlying33] at hz;refine ⟨?_,fun l hl=>?_⟩
  ·have:=len_said (ds:=ls.map fun l=>(DataW.lit (.string l):DataW H)) (sp:=sp) bytesStrP (hz _ (List.mem_cons_self ..))
   simpa using this
  ·obtain ⟨k,hk',rfl⟩:=List.getElem_of_mem hl;refine hz _ (List.mem_cons_of_mem _ (List.mem_append.2 (Or.inl (weights_all (ls.map fun l=>(DataW.lit (.string l):DataW H)) k (by simpa using hk') _ ?_))))
   simp [DataW.weights]
theorem docD_said {B:Nat} {d:DataW H} {dc:Dc} (hd:DocD d dc) (hw:∀ t ∈ dc.tuples,(Lit.int .i64 t.prio).wf=true) (hz:∀ n ∈ d.weights Tryz.prog 35,n≤B):SmallD B dc:=by
 obtain ⟨d1,d2,rfl,h1,h2⟩:=hd;simp only [DataW.weights,Tryz.underlying35,List.map_cons,List.map_nil,DataW.weightsEach] at hz;obtain ⟨a1,a2⟩:=tusD_said h1 hw fun n hn=>hz n (by simp [hn]);obtain ⟨b1,b2⟩:=strsD_said h2 fun n hn=>hz n (by simp [hn]);exact ⟨hz _ (by simp),a1,b1,a2,b2⟩
theorem paD_said {B:Nat} {d:DataW H} {a:Pa} (hd:PaD d a) (hw:∀ t ∈ a.doc.tuples,(Lit.int .i64 t.prio).wf=true) (he:(Lit.int .i64 a.exp).wf=true) (hz:∀ n ∈ d.weights Tryz.prog 37,n≤B):SmallPa B a:=by
 obtain ⟨dd,rfl,h1⟩:=hd;simp only [DataW.weights,Tryz.underlying37,List.map_cons,List.map_nil,DataW.weightsEach] at hz;exact ⟨hz _ (by simp),hz _ (by simp),hz _ (by simp),docD_said h1 hw fun n hn=>hz n (by simp [hn]),he⟩
theorem acD_said {B:Nat} {d:DataW H} {x:AcP} (hd:AcD d x) (hw:∀ t ∈ x.a.doc.tuples,(Lit.int .i64 t.prio).wf=true) (he:(Lit.int .i64 x.a.exp).wf=true) (hz:∀ n ∈ d.weights Tryz.prog 39,n≤B):SmallPa B x.a:=by
 obtain ⟨dd,rfl,h1⟩:=hd;simp only [DataW.weights,Tryz.underlying39,List.map_cons,List.map_nil,DataW.weightsEach] at hz;exact paD_said h1 hw he fun n hn=>hz n (by simp [hn])
end
end Go.Proofs.YteicmbhilambpaaGreatDoor
