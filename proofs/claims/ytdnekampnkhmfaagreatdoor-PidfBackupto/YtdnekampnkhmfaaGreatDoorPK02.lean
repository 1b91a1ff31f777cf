/-
  Parts, OpenUri, OpenNode, OpenAddr, OpenDoc, PP4, OpenDoc2, WPidfBack.
-/
import Derived.Test.YtdnekampnkhmfaaGreatDoorPK31
import Derived.Test.YtdnekampnkhmfaaGreatDoorPK39
set_option linter.unusedVariables false
set_option linter.unusedSimpArgs false
set_option maxRecDepth 20000
namespace Go.Proofs.YtdnekampnkhmfaaGreatDoor
open Go.RowKit Sc
structure Pl where
 q:Bool
 e:Bool
 a:Bool
end Go.Proofs.YtdnekampnkhmfaaGreatDoor
namespace Go.Proofs.YtdnekampnkhmfaaGreatDoor
open Go.RowKit Go.ChangeShapes Go.WideShapes Go.Deep
theorem cellsStr:Tryz.prog.cellsOf 9=1:=by kernel_rfl
theorem cellsInt:Tryz.prog.cellsOf 3=1:=by kernel_rfl
theorem back (s:ByteArray):(⟨s.data.toList.toArray⟩:ByteArray)=s:=by apply ByteArray.ext; simp
section
variable {H : Type} {enc : TypeId × Value → H} {W : World} {sp : Nat → Bool}
theorem bulk_all:∀ (ds:List (DataW H)),ds.length≤Rows.uptoBulkAll ds∧∀ k (hk:k < ds.length),Rows.uptoBulk ds[k]≤Rows.uptoBulkAll ds
 | []=>⟨by simp,fun k hk=>by simp at hk⟩
 | d :: ds=>by
  obtain ⟨i1,i2⟩:=bulk_all ds;have h2:1≤Rows.uptoBulk d:=by unfold Rows.uptoBulk; split <;> omega
  simp only [Rows.uptoBulkAll,List.length_cons];refine ⟨by omega,fun k hk=>?_⟩
  cases k with
  | zero=>simp only [List.getElem_cons_zero]; omega
  | succ k=>have:=i2 k (by simpa using hk); simp only [List.getElem_cons_succ]; omega
end
end Go.Proofs.YtdnekampnkhmfaaGreatDoor
namespace Go.Proofs.YtdnekampnkhmfaaGreatDoor
open Go.RowKit Go.ChangeShapes Go.WideShapes Go.Deep
variable {H : Type} {enc : TypeId × Value → H} {W : World} {sp : Nat → Bool}
theorem open_strs {fuel:Nat} {cs:List Value} {x:DataW H × List MemPlace} (h:DataW.trod enc Tryz.prog W 0 sp true fuel 23 cs=some x) :
  ∃ (v:Value) (ls:List (List UInt8)),cs=[v]∧StrsAt W v ls∧((x.1=.nil∧ls=[])∨∃ sp,x.1=.slice (ls.map fun l=>.lit (.string l)) sp):=by
 rcases open_slice Tryz.underlying23 h with ⟨rfl,rfl⟩ | ⟨a,len,cap,m,n,D,Pl,rfl,_,hlc,hcm,hm,rfl,hall⟩
 ·exact ⟨_,[],rfl,⟨none,0,rfl,fun k hk=>by simp at hk⟩,Or.inl ⟨rfl,rfl⟩⟩
 ·have hlm:len≤m:=by rw [hm]; split <;> omega
  have each:∀ i,i < len → ∃ l:List UInt8,D i=.lit (.string l)∧(a.block < W.heap.size∧W.cell? (a.add i)=some (.string ⟨l.toArray⟩)):=by
   intro i hi;obtain ⟨cs',h1,h2⟩:=hall i (by omega);obtain ⟨s,rfl,hd,_⟩:=DataW.trod_string Tryz.underlying9 h2;rw [cellsStr] at h1;obtain ⟨_,_,hc⟩:=World.cells?_some h1;have c0:=hc 0 (by omega);have hc0:W.cell? (a.add i)=some (.string ⟨s.data.toList.toArray⟩):=by rw [back]; simpa [Addr.add] using c0
   refine ⟨s.data.toList,congrArg Prod.fst hd,?_,hc0⟩
   have:(a.add i).block < W.heap.size:=by
    unfold World.cell? at hc0
    cases hh:W.heap[(a.add i).block]? with
    | none=>simp [hh] at hc0
    | some o=>exact (Array.getElem?_eq_some_iff.1 hh).1
   rwa [add_block] at this
  obtain ⟨f,hf⟩:=@choose_lt (List UInt8) ⟨[]⟩ len _ each;refine ⟨_,(List.range len).map f,rfl,⟨some a,cap,by simp,fun k hk=>?_⟩,Or.inr ⟨(List.range (m - len)).map fun j=>D (len+j),?_⟩⟩
  ·simp at hk
   refine ⟨a,rfl,?_⟩
   simpa using (hf k hk).2
  ·simp only [List.map_map]
   congr 1
   apply List.map_congr_left
   intro i hi;exact (hf i (by simpa using hi)).1
theorem bulk_strs (ls:List (List UInt8)):(∀ l ∈ ls,l.length≤Rows.uptoBulkAll (ls.map fun l=>DataW.lit (H:=H) (.string l)))∧ls.length≤Rows.uptoBulkAll (ls.map fun l=>DataW.lit (H:=H) (.string l)):=by
 induction ls with
 | nil=>simp
 | cons q ls ih =>
  simp only [List.map_cons,Rows.uptoBulkAll,Rows.uptoBulk] at ih ⊢;refine ⟨fun p hp=>?_,by simp; omega⟩
  rcases List.mem_cons.1 hp with rfl | hp
  ·omega
  ·have:=ih.1 p hp; omega
end Go.Proofs.YtdnekampnkhmfaaGreatDoor
namespace Go.Proofs.YtdnekampnkhmfaaGreatDoor
open Go.RowKit Go.ChangeShapes Go.WideShapes Go.Deep
def DocIn (B:Nat) (W:World) (v:Value):Prop:=∃ d ts ns,v=docV d ts ns∧TusAt W ts d.tuples∧StrsAt W ns d.notes∧SmallD B d
theorem cellsTup:Tryz.prog.cellsOf 56=5:=by kernel_rfl
theorem cellsTups:Tryz.prog.cellsOf 22=1:=by kernel_rfl
theorem cellsBoolD:Tryz.prog.cellsOf 4=1:=by kernel_rfl
theorem cellsStrsD:Tryz.prog.cellsOf 23=1:=by kernel_rfl
section
variable {H : Type} {enc : TypeId × Value → H} {W : World} {sp : Nat → Bool}
def TuD (d:DataW H) (t:Tu):Prop:=d=.agg [.lit (.string t.id),.lit (.bool t.opn),.lit (.string t.contact),.lit (.int .i64 t.prio),.lit (.string t.note)]
theorem open_tup {fuel:Nat} {cs:List Value} {x:DataW H × List MemPlace} (h:DataW.trod enc Tryz.prog W 0 sp true fuel 56 cs=some x) :
  ∃ t:Tu,cs=tuCells t∧TuD x.1 t∧(Lit.int .i64 t.prio).wf=true:=by
 obtain ⟨xs,n,_,hx,hl,hlen,hf⟩:=DataW.trod_struct Tryz.underlying56 h;rw [cellsTup] at hl
 match cs,hl,xs,hlen with
 | [c0,c1,c2,c3,c4],_,[y0,y1,y2,y3,y4],_ =>
  have f0:=hf 0 _ rfl;have f1:=hf 1 _ rfl;have f2:=hf 2 _ rfl;have f3:=hf 3 _ rfl;have f4:=hf 4 _ rfl
  simp [cellsStr,cellsInt,cellsBoolD] at f0 f1 f2 f3 f4
  obtain ⟨s0,e0,rfl,_⟩:=DataW.trod_string Tryz.underlying9 f0;obtain ⟨b1,e1,rfl⟩:=DataW.trod_bool Tryz.underlying4 f1;obtain ⟨s2,e2,rfl,_⟩:=DataW.trod_string Tryz.underlying9 f2;obtain ⟨i3,e3,rfl,w3⟩:=DataW.trod_int Tryz.underlying3 f3;obtain ⟨s4,e4,rfl,_⟩:=DataW.trod_string Tryz.underlying9 f4;simp only [List.cons.injEq,and_true] at e0 e1 e2 e3 e4;subst e0 e1 e2 e3 e4;subst hx;exact ⟨⟨s0.data.toList,b1,s2.data.toList,i3,s4.data.toList⟩,by simp [tuCells],by simp [TuD],w3⟩
theorem open_tups {fuel:Nat} {cs:List Value} {x:DataW H × List MemPlace} (h:DataW.trod enc Tryz.prog W 0 sp true fuel 22 cs=some x) :
  ∃ (v:Value) (ts:List Tu),cs=[v]∧TusAt W v ts∧(∀ t ∈ ts,(Lit.int .i64 t.prio).wf=true)∧((x.1=.nil∧ts=[])∨∃ ds sp,x.1=.slice ds sp∧ds.length=ts.length∧∀ k (hk:k < ts.length) (hd:k < ds.length),TuD ds[k] ts[k]):=by
 rcases open_slice Tryz.underlying22 h with ⟨rfl,rfl⟩ | ⟨a,len,cap,m,n,D,Pl,rfl,_,hlc,hcm,hm,rfl,hall⟩
 ·exact ⟨_,[],rfl,⟨none,0,rfl,fun k hk=>by simp at hk⟩,fun c hc=>by simp at hc,Or.inl ⟨rfl,rfl⟩⟩
 ·have hlm:len≤m:=by rw [hm]; split <;> omega
  have each:∀ i,i < len → ∃ t:Tu,TuD (D i) t∧((Lit.int .i64 t.prio).wf=true∧a.block < W.heap.size∧TuAt W a i t):=by
   intro i hi;obtain ⟨cs',h1,h2⟩:=hall i (by omega);obtain ⟨t,rfl,hd,hw⟩:=open_tup h2;rw [cellsTup] at h1;obtain ⟨_,_,hc⟩:=World.cells?_some h1;have c0:=hc 0 (by omega);have c1:=hc 1 (by omega);have c2:=hc 2 (by omega);have c3:=hc 3 (by omega);have c4:=hc 4 (by omega);have hc0:W.cell? (a.add (i * 5))=some (.string ⟨t.id.toArray⟩):=by simpa [Addr.add,tuCells] using c0
   refine ⟨t,hd,hw,?_,⟨hc0,?_,?_,?_,?_⟩⟩
   ·have:(a.add (i * 5)).block < W.heap.size:=by
     unfold World.cell? at hc0
     cases hh:W.heap[(a.add (i * 5)).block]? with
     | none=>simp [hh] at hc0
     | some o=>exact (Array.getElem?_eq_some_iff.1 hh).1
    rwa [add_block] at this
   ·simpa [Addr.add,tuCells] using c1
   ·simpa [Addr.add,tuCells] using c2
   ·simpa [Addr.add,tuCells] using c3
   ·simpa [Addr.add,tuCells] using c4
  obtain ⟨f,hf⟩:=@choose_lt Tu ⟨⟨[],false,[],0,[]⟩⟩ len _ each;refine ⟨_,(List.range len).map f,rfl,⟨some a,cap,by simp,fun k hk=>?_⟩,fun c hc=>?_,Or.inr ⟨_,_,rfl,by simp,fun k hk hd=>?_⟩⟩
  ·simp at hk
   obtain ⟨_,_,h2,h3⟩:=hf k hk;exact ⟨a,rfl,h2,by simpa using h3⟩
  ·obtain ⟨i,hi,rfl⟩:=List.mem_map.1 hc;exact (hf i (by simpa using hi)).2.1
  ·simp at hk
   simpa using (hf k hk).1
theorem tuD_upto {B:Nat} {d:DataW H} {t:Tu} (hd:TuD d t) (hw:(Lit.int .i64 t.prio).wf=true) (hz:Rows.uptoBulk d≤B):SmallT B t:=by
 unfold TuD at hd;subst hd;simp only [Rows.uptoBulkAll,Rows.uptoBulk] at hz;exact ⟨by omega,by omega,by omega,hw⟩
theorem doc_upto {B:Nat} {r:Reach} {b0:Nat} {v:Value} {d:DataW H} {p:List MemPlace} (hv:Value.okWide Tryz.prog W r b0 25 v) (h:DataW.Trod enc Tryz.prog W 0 sp true 25 v d p)
  (hz:Rows.uptoBulk d≤B):DocIn B W v:=by
 obtain ⟨cs,rfl,hsz⟩:=okWide_struct Tryz.underlying25 hv;obtain ⟨fuel,hf0⟩:=h;obtain ⟨xs,n,_,hx,hl,hlen,hf⟩:=DataW.trod_struct Tryz.underlying25 hf0;obtain ⟨l⟩:=cs;simp only [Value.cells] at hl hf;rw [show Tryz.prog.cellsOf 25=3 from by kernel_rfl] at hl
 match l,hl,xs,hlen with
 | [c0,c1,c2],_,[y0,y1,y2],_ =>
  have f0:=hf 0 _ rfl;have f1:=hf 1 _ rfl;have f2:=hf 2 _ rfl
  simp [cellsStr,cellsTups,cellsStrsD] at f0 f1 f2
  obtain ⟨s0,e0,rfl,_⟩:=DataW.trod_string Tryz.underlying9 f0;obtain ⟨v1,ts,e1,a1,w1,d1⟩:=open_tups f1;obtain ⟨v2,ns,e2,a2,d2⟩:=open_strs f2;simp only [List.cons.injEq,and_true] at e0 e1 e2;subst e0 e1 e2;have hd:d=DataW.agg [.lit (.string s0.data.toList),y1.1,y2.1]:=congrArg Prod.fst hx;subst hd;simp only [Rows.uptoBulkAll,Rows.uptoBulk] at hz;refine ⟨⟨s0.data.toList,ts,ns⟩,c1,c2,by simp [docV],a1,a2,?_⟩
  have ht:ts.length≤B∧∀ t ∈ ts,SmallT B t:=by
   rcases d1 with ⟨_,rfl⟩ | ⟨ds,sp1,e,hl1,hk⟩
   ·exact ⟨by simp,fun t h=>by simp at h⟩
   ·rw [e] at hz;simp only [Rows.uptoBulk] at hz;obtain ⟨b1,b2⟩:=bulk_all ds;refine ⟨by omega,fun t h=>?_⟩
    obtain ⟨k,hkl,rfl⟩:=List.mem_iff_getElem.1 h;exact tuD_upto (hk k hkl (by omega)) (w1 _ (List.getElem_mem hkl)) (by have:=b2 k (by omega); omega)
  have hn:ns.length≤B∧∀ l ∈ ns,l.length≤B:=by
   rcases d2 with ⟨_,rfl⟩ | ⟨sp2,e⟩
   ·exact ⟨by simp,fun t h=>by simp at h⟩
   ·rw [e] at hz;simp only [Rows.uptoBulk] at hz;have hb:=bulk_strs (H:=H) ns;exact ⟨by omega,fun l hl=>by have:=hb.1 l hl; omega⟩
  exact ⟨by simp only; omega,ht.1,hn.1,ht.2,hn.2⟩
end
end Go.Proofs.YtdnekampnkhmfaaGreatDoor
namespace Go.Proofs.YtdnekampnkhmfaaGreatDoor
open Go.RowKit Sc
set_option maxHeartbeats 2000000 in
set_option maxRecDepth 100000 in
theorem pprint_bad (d:Dc) (ts ns:Value) (w:World) (hsm:SmallD 140737488355328 d) (hen:d.entity.length+4≤1048576) (hcp:CapTu ts) (hts:TusAt w ts d.tuples) (hns:StrsAt w ns d.notes) (hc:checkD d ≠ 0) :
  Calls Tryz.prog 11 #[docV d ts ns] w fun e w'=>e=.returned (.tuple #[.string ⟨#[]⟩,.int .i64 (checkD d)])∧Below w.heap.size w w':=by
 have KC:=hid (fun w' (h:Below w.heap.size w w')=>pcheck_any d ts ns w' hsm hen hcp (hts.below h) (hns.below h));obtain ⟨en,tl,nl⟩:=d;unfold docV at KC ⊢;simp only at KC ⊢;generalize checkD ⟨en,tl,nl⟩=R at KC hc ⊢;have r1:(R != 0)=true:=by simpa using hc
 clear hc hsm hen hts hns hcp;have hbx:=box3 w (.string ⟨en.toArray⟩) ts ns 25;have hbn:Below w.heap.size w (w.alloc (.cells #[.string ⟨en.toArray⟩,ts,ns] 25)):=(Below.refl _ w).alloc (Nat.le_refl _) _;obtain ⟨x0,x1,x2,_,_,_⟩:=hbx
 go_enter Tryz.func11,Tryz.ntmps11
 go_wp2_with fail
 generalize World.alloc w _=W0 at x0 x1 x2 hbn ⊢;refine (KC.out _ hbn).mono ?_
 rintro e w1 ⟨rfl,hw1⟩;have hb1:=hbn.trans (hw1.mono hbn.size);clear x0 x1 x2;go_wp2;go_ret2;exact ⟨rfl,hb1⟩
end Go.Proofs.YtdnekampnkhmfaaGreatDoor
namespace Go.Proofs.YtdnekampnkhmfaaGreatDoor
open Go.RowKit Go.ChangeShapes Go.WideShapes Go.Deep
def DocIn2 (B:Nat) (W:World) (v:Value):Prop:=∃ d ts ns,v=docV d ts ns∧DocAt W d ts ns∧SmallD B d∧d.entity.length+4≤B
section
variable {H : Type} {enc : TypeId × Value → H} {W : World} {sp : Nat → Bool}
theorem bulk_pos (d:DataW H):1≤Rows.uptoBulk d:=by
 cases d with
 | lit l=>cases l <;> simp [Rows.uptoBulk]
 | _=>simp [Rows.uptoBulk]
theorem docc_upto {B:Nat} {r:Reach} {b0:Nat} {v:Value} {d:DataW H} {p:List MemPlace} (hv:Value.okWide Tryz.prog W r b0 25 v) (h:DataW.Trod enc Tryz.prog W 0 sp true 25 v d p)
  (hz:Rows.uptoBulk d≤B):DocIn2 B W v:=by
 obtain ⟨d',ts,ns,hvd,a1,a2,a3⟩:=doc_upto hv h hz;obtain ⟨fuel,hf0⟩:=h;obtain ⟨xs,n,_,hx,hl,hlen,hf⟩:=DataW.trod_struct Tryz.underlying25 hf0;subst hvd;simp only [docV,Value.cells] at hl hf
 match xs,hlen with
 | [y0,y1,y2],_ =>
  have f0:=hf 0 _ rfl;have f1:=hf 1 _ rfl
  simp [cellsStr,cellsTups,cellsStrsD] at f0 f1
  obtain ⟨s0,e0,rfl,_⟩:=DataW.trod_string Tryz.underlying9 f0;have hd:d=DataW.agg [.lit (.string s0.data.toList),y1.1,y2.1]:=congrArg Prod.fst hx;subst hd;simp only [Rows.uptoBulkAll,Rows.uptoBulk] at hz;have p1:=bulk_pos y1.1;have p2:=bulk_pos y2.1;have he:d'.entity=s0.data.toList:=by
   simp only [List.cons.injEq,and_true] at e0
   injection e0 with e0
   rw [← e0]
  refine ⟨d',ts,ns,rfl,⟨a1,a2,?_⟩,a3,by rw [he]; omega⟩
  rcases open_slice Tryz.underlying22 f1 with ⟨h1,_⟩ | ⟨a,len,cap,m,n,D,Pl,h1,_,hlc,_⟩
  ·simp only [List.cons.injEq,and_true] at h1;subst h1;exact cap_one _ _
  ·simp only [List.cons.injEq,and_true] at h1;subst h1;intro b k c e
   injection e with _ q1 q2
   omega
end
end Go.Proofs.YtdnekampnkhmfaaGreatDoor
namespace Go.Proofs.YtdnekampnkhmfaaGreatDoor.pidfBack
open Go.RowKit Sc
set_option maxHeartbeats 2000000 in
set_option maxRecDepth 100000 in
theorem law_walk (w:World) (v0:Value) (k0:DocIn2 1048576 w v0) :
  Calls Tryz.prog 6 #[v0] w fun e w'=>e=.returned (.bool true)∧Below w.heap.size w w':=by
 obtain ⟨d,ts,ns,rfl,hD,hsm,hen⟩:=k0;have hsm2:SmallD 140737488355328 d:=hsm.up (by decide);obtain ⟨ta,tk,hta,_⟩:=hD.t;obtain ⟨na,nk,hna,_⟩:=hD.n;obtain ⟨tn,htn⟩:∃ tn,tn=d.tuples.length:=⟨_,rfl⟩
 obtain ⟨nn,hnn⟩:∃ nn,nn=d.notes.length:=⟨_,rfl⟩
 rw [← htn] at hta;rw [← hnn] at hna;have hEN:∃ en,en=d.entity:=⟨_,rfl⟩
 obtain ⟨en,hEN⟩:=hEN;have HD0:=hid (hD.alloc (.cells #[.string ⟨en.toArray⟩,ts,ns] 25));have hr0:=hid (rc_row3 w (.string ⟨en.toArray⟩) ts ns 25);have hb0:=hid (show Below w.heap.size w (w.alloc (.cells #[.string ⟨en.toArray⟩,ts,ns] 25)) from (Below.refl _ w).alloc (Nat.le_refl _) _);have hl0:=hid (alloc_lt w (.cells #[.string ⟨en.toArray⟩,ts,ns] 25));by_cases hc:checkD d=0
 case neg =>
  have KP:=hid (fun w' ts ns (k:DocAt w' d ts ns)=>pprint_bad d ts ns w' hsm2 hen k.c k.t k.n hc);have r1:(checkD d != 0)=true:=by simpa using hc
  have r2:(checkD d==0)=false:=by simpa using hc
  unfold docV at KP ⊢;rw [← hEN] at KP ⊢;generalize checkD d=C at KP r1 r2;clear hsm hsm2 hen htn hnn hc hEN hD;subst hta hna
  go_enter Tryz.func6,Tryz.ntmps6
  go_upto_region 1 with fail
  generalize World.alloc w _=W0 at HD0 hr0 hb0 hl0 ⊢;obtain ⟨y0,y1,y2,_,_,_⟩:=hr0.out.rc3;go_wp2_with fail
  refine (KP.out _ _ _ HD0.out).mono ?_
  rintro e w1 ⟨rfl,hw1⟩;have hb1:=hb0.out.trans (hw1.mono hb0.out.size);clear y0 y1 y2;go_wp2_with (go_at_call 10; refine (awake14_any _).mono ?_; rintro e w7 ⟨rfl,hw7⟩)
  go_ret;exact ⟨rfl,hb1.trans (hw7.mono hb1.size)⟩
 have KS:=hid (fun w' ts ns ts' ns' (k:DocAt w' d ts ns) (k':DocAt w' d ts' ns')=>rsame14_any d ts ns ts' ns' w' hsm2 k.t k.n k'.t k'.n);have KP:=hid (fun w' ts ns (k:DocAt w' d ts ns)=>pprint_ok d ts ns w' k.c k.t k.n hc);have KB:=hid (fun (hl:(prologK++printX (treeD d)).length≤4096) w'=>pback_any d w' hc hl);have KF:Hid (∀ w e w',DcP (d,0) w e w' → ∃ ta tk na nk,e=.returned (.tuple #[.agg #[.string ⟨d.entity.toArray⟩,.slice ta d.tuples.length tk,.slice na d.notes.length nk],.int .i64 0])∧DocAt w' d (.slice ta d.tuples.length tk) (.slice na d.notes.length nk)∧Below w.heap.size w w'):=fun w e w' h=>h.forms;have hTl:(prologK++printX (treeD d)).length≤140737488355328:=by
  have:prologK.length=39:=rfl
  have:=print_sm hc
  rw [List.length_append]; omega
 generalize prologK++printX (treeD d)=Z at KP KB hTl;have z1:=size_list Z;unfold docV at KS KP ⊢;rw [← hEN] at KP KS KF ⊢;rw [← htn,← hnn] at KF;clear hsm hsm2 hen htn hnn hc hEN hD;subst hta hna
 go_enter Tryz.func6,Tryz.ntmps6
 go_upto_region 1 with fail
 generalize World.alloc w _=W0 at HD0 hr0 hb0 hl0 ⊢;obtain ⟨y0,y1,y2,_,_,_⟩:=hr0.out.rc3;go_wp2_with fail
 refine (KP.out _ _ _ HD0.out).mono ?_
 rintro e w1 ⟨rfl,hw1⟩;have HD1:=hid (HD0.out.below hw1);have hr1:=hid (hr0.out.below hw1 hl0.out);have hl1:=hid (Nat.lt_of_lt_of_le hl0.out hw1.size);have hb1:=hid (hb0.out.trans (hw1.mono hb0.out.size));clear HD0 hr0 hb0 hl0 hw1 y0 y1 y2 KP;by_cases h4:4096 < Z.length
 ·have r4:(4096:Int) < (Z.length:Int):=by omega
  go_wp2_with (go_at_call 10; refine (awake14_any _).mono ?_; rintro e w7 ⟨rfl,hw7⟩)
  go_ret;exact ⟨rfl,hb1.out.trans (hw7.mono hb1.out.size)⟩
 have r4:¬ (4096:Int) < (Z.length:Int):=by omega
 have KB':=hid (KB.out (by omega));clear KB;go_wp2_with fail
 refine (KB'.out _).mono ?_
 intro e w3 hP3;obtain ⟨ta3,tk3,na3,nk3,rfl,hD3,hw3⟩:=KF.out _ _ _ hP3;have HE3:=hid (HD1.out.below hw3);have hr3:=hid (hr1.out.below hw3 hl1.out);have hl3:=hid (Nat.lt_of_lt_of_le hl1.out hw3.size);have hb3:=hid (hb1.out.trans (hw3.mono hb1.out.size));have HD4:=hid (hD3.alloc (.cells #[.string ⟨en.toArray⟩,.slice ta3 tn tk3,.slice na3 nn nk3] 25));have HE4:=hid (HE3.out.alloc (.cells #[.string ⟨en.toArray⟩,.slice ta3 tn tk3,.slice na3 nn nk3] 25));have hr4:=hid (hr3.out.below ((Below.refl _ w3).alloc (Nat.le_refl _) (.cells #[.string ⟨en.toArray⟩,.slice ta3 tn tk3,.slice na3 nn nk3] 25)) hl3.out);have hs4:=hid (rc_row3 w3 (.string ⟨en.toArray⟩) (.slice ta3 tn tk3) (.slice na3 nn nk3) 25);have hb4:=hid (hb3.out.alloc hb3.out.size (.cells #[.string ⟨en.toArray⟩,.slice ta3 tn tk3,.slice na3 nn nk3] 25));clear hP3 hD3 hw3 KB' HD1 hr1 hl1 hb1 HE3 hr3 hb3 KF
 go_upto_region 5 with fail
 generalize World.alloc w3 _=W3 at HD4 HE4 hr4 hs4 hb4 ⊢;obtain ⟨y0,y1,y2,_,_,_⟩:=hr4.out.rc3;obtain ⟨z0,z1',z2,_,_,_⟩:=hs4.out.rc3;go_wp2_with fail
 refine (KS.out _ _ _ _ _ HE4.out HD4.out).mono ?_
 rintro e w6 ⟨rfl,hw6⟩;have hb6:=hb4.out.trans (hw6.mono hb4.out.size);clear y0 y1 y2 z0 z1' z2;go_wp2_with (go_at_call 10; refine (awake14_any _).mono ?_; rintro e w7 ⟨rfl,hw7⟩)
 go_ret;exact ⟨rfl,hb6.trans (hw7.mono hb6.size)⟩
end Go.Proofs.YtdnekampnkhmfaaGreatDoor.pidfBack
