/-
  OpenPb, CpO.
-/
import Derived.Test.YtldkidljjbkmbaaGreatDoorPX17
set_option linter.unusedVariables false
set_option linter.unusedSimpArgs false
set_option maxRecDepth 20000
namespace Go.Proofs.YtldkidljjbkmbaaGreatDoor
open Go.RowKit Go.ChangeShapes Go.WideShapes Go.Deep
section
variable {H : Type} {enc : TypeId × Value → H} {W : World} {sp : Nat → Bool}
theorem open_pbs {fuel:Nat} {cs:List Value} {x:DataW H × List MemPlace} (h:DataW.trod enc Tryz.prog W 0 sp true fuel 22 cs=some x) :
  ∃ (v:Value) (al:List PbC),cs=[v]∧PbsAt W v al∧(∀ c ∈ al,PbGot W c)∧((x.1=.nil∧al=[])∨∃ ds sp,x.1=.slice ds sp∧ds.length=al.length∧∀ k (hk:k < al.length) (hd:k < ds.length),PbDb ds[k] al[k].p):=by
 rcases open_slice Tryz.underlying22 h with ⟨rfl,rfl⟩ | ⟨a,len,cap,m,n,D,Pl,rfl,_,hlc,hcm,hm,rfl,hall⟩
 ·exact ⟨_,[],rfl,⟨none,0,rfl,Nat.le_refl _,fun k hk=>by simp at hk⟩,fun c hc=>by simp at hc,Or.inl ⟨rfl,rfl⟩⟩
 ·have hlm:len≤m:=by rw [hm]; split <;> omega
  have each:∀ i,i < len → ∃ c:PbC,PbDb (D i) c.p∧PbGot W c∧(a.block < W.heap.size∧PbAt W a i c):=by
   intro i hi;obtain ⟨cs',h1,h2⟩:=hall i (by omega);obtain ⟨c,rfl,hd,hg⟩:=open_pb h2;rw [cellsPubB] at h1;obtain ⟨_,_,hc⟩:=World.cells?_some h1
   have hat:PbAt W a i c:=by
    intro j u hj;have hj7:j < 7:=by have:=(List.getElem?_eq_some_iff.1 hj).1; simpa [pbCells] using this
    have cj:=hc j hj7;rw [hj] at cj;rw [← cj]
    congr 1
    unfold Addr.add;by_cases j0:i * 7+j=0
    ·have:i=0:=by omega
     have:j=0:=by omega
     subst i j
     simp
    ·by_cases i0:i * 7=0
     ·simp [i0]
     ·by_cases j1:j=0
      ·subst j1; simp [i0]
      ·simp [i0,j1,Nat.add_assoc]
   refine ⟨c,hd,hg,?_,hat⟩
   have c0:W.cell? (a.add (i * 7))=some _:=hat 0 _ rfl
   have:(a.add (i * 7)).block < W.heap.size:=by
    unfold World.cell? at c0
    cases hh:W.heap[(a.add (i * 7)).block]? with
    | none=>simp [hh] at c0
    | some o=>exact (Array.getElem?_eq_some_iff.1 hh).1
   rwa [add_block] at this
  obtain ⟨f,hf⟩:=@choose_lt PbC ⟨⟨⟨0,[],[],0,⟨[],[],[]⟩⟩,.nilIface,.nilIface⟩⟩ len _ each;refine ⟨_,(List.range len).map f,rfl,⟨some a,cap,by simp,by simpa using hlc,fun k hk=>?_⟩,fun c hc=>?_,Or.inr ⟨(List.range len).map D,_,rfl,by simp,fun k hk hd=>?_⟩⟩
  ·simp at hk
   refine ⟨a,rfl,?_⟩
   simpa using (hf k hk).2.2
  ·simp only [List.mem_map,List.mem_range] at hc;obtain ⟨k,hk,rfl⟩:=hc;exact (hf k hk).2.1
  ·simp at hk
   simpa using (hf k hk).1
def PubsIn (B:Nat) (W:World) (v:Value):Prop:=∃ cs:List PbC,PbsAt W v cs∧cs.length≤B∧∀ c ∈ cs,PbGot W c∧SmallD B c.p.doc
theorem pubs_upto {B:Nat} {r:Reach} {b0:Nat} {v:Value} {d:DataW H} {p:List MemPlace} (hv:Value.okWide Tryz.prog W r b0 22 v) (h:DataW.Trod enc Tryz.prog W 0 sp true 22 v d p)
  (hz:Rows.uptoBulk d≤B):PubsIn B W v:=by
 obtain ⟨a,len,cap,rfl⟩:=okWide_slice Tryz.underlying22 hv;obtain ⟨fuel,hf0⟩:=h;obtain ⟨v',al,hc,hat,hg,hd⟩:=open_pbs hf0
 simp [Value.cells] at hc
 subst hc;refine ⟨al,hat,?_⟩
 rcases hd with ⟨_,rfl⟩ | ⟨ds,sp1,e,hl1,hk⟩
 ·exact ⟨by simp,fun c hc=>by simp at hc⟩
 ·simp only at e;rw [e] at hz;simp only [Rows.uptoBulk] at hz;obtain ⟨b1,b2⟩:=bulk_all ds;refine ⟨by omega,fun c hc=>⟨hg c hc,?_⟩⟩
  obtain ⟨k,hkl,rfl⟩:=List.mem_iff_getElem.1 hc;exact pbB_upto (hk k hkl (by omega)) (hg _ hc).wf (by have:=b2 k (by omega); omega)
end
end Go.Proofs.YtldkidljjbkmbaaGreatDoor
namespace Go.Proofs.YtldkidljjbkmbaaGreatDoor
open Go.RowKit Go.Maps Go.WideMaps Sc
theorem compose_in {w:World} {v:Value} {cs:List PbC} {who:List UInt8} (hv:PbsAt w v cs) (hn:cs.length≤1048576) (hg:∀ c ∈ cs,PbGot w c∧SmallD 1048576 c.p.doc) (hw:who.length≤1048576) :
  ∀ u,Below w.heap.size w u → Calls Tryz.prog 11 #[.string ⟨who.toArray⟩,v] u fun e w'=>∃ vt vn,e=.returned (.tuple #[docV (compC who (pbsL cs)).1 vt vn,.int .i64 (compC who (pbsL cs)).2])∧DocG u.heap.size w' (compC who (pbsL cs)).1 vt vn∧Below u.heap.size u w' :=
 fun u hu=>ccomp_any (hv.below hu) ((pbs_ok hg).below hu) (by omega) (by omega) (fun c hc=>(hg c hc).1.le)
theorem nums_in {w:World} {cs:List PbC} (hg:∀ c ∈ cs,PbGot w c∧SmallD 1048576 c.p.doc):∀ p ∈ pbsL cs,p.num≤9223372036854775807:=fun p hp=>by
 obtain ⟨c,hc,rfl⟩:=List.mem_map.1 hp;exact (hg c hc).1.le
end Go.Proofs.YtldkidljjbkmbaaGreatDoor
