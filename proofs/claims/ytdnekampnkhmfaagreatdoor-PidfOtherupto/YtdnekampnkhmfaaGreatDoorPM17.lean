/-
  XLawL, RefParams, OpenDoc, OwnT, PNd, NumL, PdL, RefDig, PR1.
-/
import Derived.Test.YtdnekampnkhmfaaGreatDoorPM16
set_option linter.unusedVariables false
set_option linter.unusedSimpArgs false
set_option maxRecDepth 20000
namespace Go.Proofs.YtdnekampnkhmfaaGreatDoor
open Go.RowKit Sc
def attW (p:Par):Nat:=5+p.name.length+p.value.length
def attsW (l:List Par):Nat:=(l.map attW).sum
def ndW (x:Nd):Nat:=5+x.name.length+x.text.length+attsW x.attrs
def ndsW (l:List Nd):Nat:=(l.map ndW).sum
theorem ndsW_app (a b:List Nd):ndsW (a++b)=ndsW a+ndsW b:=by simp [ndsW]
theorem attsW_le {l:List Par} {K:Nat} (h:∀ p ∈ l,attW p≤K):attsW l≤l.length * K:=by
 induction l with
 | nil=>simp [attsW]
 | cons a l ih =>
  have e:attsW (a :: l)=attW a+attsW l:=by simp [attsW]
  have h1:=h a (by simp);have h2:=ih fun p hp=>h p (by simp [hp]);rw [e,List.length_cons,Nat.succ_mul]; omega
theorem ndsW_le {l:List Nd} {K:Nat} (h:∀ x ∈ l,ndW x≤K):ndsW l≤l.length * K:=by
 induction l with
 | nil=>simp [ndsW]
 | cons a l ih =>
  have e:ndsW (a :: l)=ndW a+ndsW l:=by simp [ndsW]
  have h1:=h a (by simp);have h2:=ih fun p hp=>h p (by simp [hp]);rw [e,List.length_cons,Nat.succ_mul]; omega
theorem attrsT_W (l:List Par):(attrsT l).length≤6 * attsW l:=by
 induction l with
 | nil=>simp [attrsT]
 | cons a l ih =>
  have e:attsW (a :: l)=attW a+attsW l:=by simp [attsW]
  have e2:attrsT (a :: l)=attrT a++attrsT l:=rfl;have h1:=escX_len a.value;rw [e,e2,List.length_append,attrT_len];unfold attW;omega
mutual
theorem printX_W (d:Nat):∀ t:XT,(printX t).length≤6 * ndsW (flatX d t)
 | .mk n a tx ks=>by
  have h1:=printXs_W (d+1) ks;have h2:=attrsT_W a;have h3:=escX_len tx;have e:ndsW (flatX d (.mk n a tx ks))=(5+n.length+tx.length+attsW a)+ndsW (flatXs (d+1) ks):=by rw [flatX]; simp [ndsW,ndW]
  rw [e,printX]
  split
  ·simp only [List.length_append,List.length_cons,List.length_nil]; omega
  ·simp only [List.length_append,List.length_cons,List.length_nil]; omega
theorem printXs_W (d:Nat):∀ ks:List XT,(printXs ks).length≤6 * ndsW (flatXs d ks)
 | []=>by simp [printXs]
 | k :: ks=>by
  have h1:=printX_W d k;have h2:=printXs_W d ks;rw [printXs,flatXs,List.length_append,ndsW_app]; omega
end
theorem ok_W {l:List Nd} {K:Nat} (h:checkX l=0) (hk:∀ x ∈ l,x.name.length≤K∧x.text.length≤K∧∀ p ∈ x.attrs,p.name.length≤K∧p.value.length≤K):ndsW l≤200 * (17 * (5+2 * K)):=by
 obtain ⟨h1,h2,h3,h4⟩:=checkX_ok h;have hn:∀ x ∈ l,nodeOk x=true:=by
  intro x hx;obtain ⟨a,b,rfl⟩:=List.append_of_mem hx;exact (steps_tail (steps_drop a (x :: b) h4)).1
 have hw:∀ x ∈ l,ndW x≤17 * (5+2 * K):=by
  intro x hx;obtain ⟨k1,k2,k3⟩:=hk x hx;have ha:x.attrs.length≤16:=by
   have:=hn x hx
   simp only [nodeOk,attrsOk,Bool.and_eq_true,decide_eq_true_eq] at this;exact this.2.2.1.1
  have hp:=attsW_le (l:=x.attrs) (K:=5+2 * K) fun p hp=>by have:=k3 p hp; unfold attW; omega
  have hm:x.attrs.length * (5+2 * K)≤16 * (5+2 * K):=Nat.mul_le_mul_right _ ha;unfold ndW; omega
 have:=ndsW_le hw
 have hm:l.length * (17 * (5+2 * K))≤200 * (17 * (5+2 * K)):=Nat.mul_le_mul_right _ h2;omega
theorem parseX_ok {s:List UInt8} {l:List Nd} (h:parseX s=(l,0)):checkX l=0:=by
 unfold parseX at h
 split at h
 ·simp at h
 ·split at h
  ·simp at h
  ·split at h
   ·simp at h
   ·split at h
    ·next hc=>simp only [Prod.mk.injEq,and_true] at h; rw [← h]; exact hc.2
    ·simp at h
theorem parseX_sm {s:List UInt8} {l:List Nd} (h:parseX s=(l,0)):∀ x ∈ l,SmNd 4096 x:=by
 rw [parseC_is] at h
 split at h
 ·simp at h
 ·next h4 =>
  cases ho:docC s with
  | none=>rw [ho] at h; simp [parseD] at h
  | some q =>
   rw [ho] at h;simp only [parseD,Prod.mk.injEq,and_true] at h;subst h;unfold docC at ho
   split at ho
   ·cases ho
   ·next r hr =>
    have hl:=headC_len hr;unfold bodyC at ho
    split at ho
    ·cases ho
    ·next l2 r2 he =>
     have hd:=(suf_dw xblk r).length_le
     have:=elemC_small 4096 _ 0 _ _ _ (by omega) he
     repeat' split at ho
     all_goals first
      | (simp only [Option.some.injEq] at ho; subst ho; exact this)
      | (exfalso; simp at ho)
def StrsAt (w:World) (v:Value) (ls:List (List UInt8)):Prop :=
 ∃ (ao:Option Addr) (cap:Nat),v=.slice ao ls.length cap∧∀ k (hk:k < ls.length),∃ a,ao=some a∧a.block < w.heap.size∧w.cell? (a.add k)=some (.string ⟨ls[k].toArray⟩)
theorem StrsAt.below {w w':World} {v:Value} {ls:List (List UInt8)} (h:StrsAt w v ls) (hb:Below w.heap.size w w'):StrsAt w' v ls:=by
 obtain ⟨ao,cap,hv,hc⟩:=h;refine ⟨ao,cap,hv,fun k hk=>?_⟩
 obtain ⟨a,e,ha,hcell⟩:=hc k hk;exact ⟨a,e,Nat.lt_of_lt_of_le ha hb.size,cell_below hb (by rw [add_block]; exact ha) hcell⟩
theorem parsOf_snoc (keep:List UInt8) (ls:List (List UInt8)) (l:List UInt8):parsOf keep (ls++[l])=match parsOf keep ls,parOf keep l with | some ps,some p=>some (ps++[p]) | _,_=>none:=by
 induction ls with
 | nil =>
  rw [List.nil_append,parsOf,parsOf]
  cases parOf keep l <;> rfl
 | cons x ls ih =>
  rw [List.cons_append,parsOf,parsOf,ih]
  cases parOf keep x <;> cases parsOf keep ls <;> cases parOf keep l <;> rfl
theorem parsOf_bad {keep:List UInt8} {ls:List (List UInt8)} {k:Nat} (hk:k < ls.length) (h:parOf keep ls[k]=none):parsOf keep ls=none:=by
 induction ls generalizing k with
 | nil=>simp at hk
 | cons x ls ih =>
  rw [parsOf]
  cases k with
  | zero=>simp at h; rw [h]
  | succ k =>
   rw [ih (by simpa using hk) (by simpa using h)]
   cases parOf keep x <;> rfl
theorem parsOf_len {keep:List UInt8} {ls:List (List UInt8)} {ps:List Par} (h:parsOf keep ls=some ps):ps.length=ls.length:=by
 induction ls generalizing ps with
 | nil=>simp [parsOf] at h; subst h; rfl
 | cons x ls ih =>
  rw [parsOf] at h
  cases hx:parOf keep x with
  | none=>rw [hx] at h; simp at h
  | some p =>
   cases hl:parsOf keep ls with
   | none=>rw [hx,hl] at h; simp at h
   | some qs=>rw [hx,hl] at h; simp at h; subst h; simp [ih hl]
theorem written_list (s keep:List UInt8) (w:World) (hs:s.length≤1048576) (hk:keep.length≤64) :
  Calls Tryz.prog 82 #[.string ⟨s.toArray⟩,.string ⟨keep.toArray⟩] w fun e w'=>e=.returned (.tuple #[.string ⟨(writtenV keep s).1.toArray⟩,.bool (writtenV keep s).2])∧Below w.heap.size w w' :=
 written_any ⟨s.toArray⟩ ⟨keep.toArray⟩ w (by rw [size_list]; omega) (by rw [size_list]; unfold maxLen; omega)
theorem parOf_some {keep l:List UInt8} (h1:(writtenV keep (cutL 61 l).1).2=true) (h2:(writtenV keep (cutL 61 l).2.1).2=true):parOf keep l=some ⟨(writtenV keep (cutL 61 l).1).1,(writtenV keep (cutL 61 l).2.1).1,(cutL 61 l).2.2⟩:=by
 rw [parOf,if_pos ⟨h1,h2⟩]
theorem parOf_none {keep l:List UInt8} (h:¬ ((writtenV keep (cutL 61 l).1).2=true∧(writtenV keep (cutL 61 l).2.1).2=true)):parOf keep l=none:=by
 rw [parOf,if_neg h]
def ParsRes (keep:List UInt8) (ls:List (List UInt8)) (w w':World) (v:Value) (b:Bool):Prop :=
 (∃ ps,parsOf keep ls=some ps∧b=true∧OwnP w' w.heap.size v ps)∨(parsOf keep ls=none∧b=false∧v=.slice none 0 0)
set_option maxHeartbeats 2000000 in
set_option maxRecDepth 100000 in
theorem params_any (v:Value) (ls:List (List UInt8)) (keep:List UInt8) (w:World) (hk:keep.length≤64) (hn:ls.length≤1048577) (hl:∀ l ∈ ls,l.length≤1048576) (hv:StrsAt w v ls) :
  Calls Tryz.prog 85 #[v,.string ⟨keep.toArray⟩] w fun e w'=>∃ v' b,e=.returned (.tuple #[v',.bool b])∧ParsRes keep ls w w' v' b∧Below w.heap.size w w':=by
 obtain ⟨i0,hi,hz0,hz1,hz2⟩:=info_parts infoPar;obtain ⟨ao,cap,rfl,hc⟩:=hv;have HC:Hid _:=hc; clear hc
 have HL:Hid _:=hl; clear hl
 obtain ⟨n,hn'⟩:∃ n,n=ls.length:=⟨_,rfl⟩
 rw [← hn'] at hn ⊢;have HN:Hid _:=hn'; clear hn'
 go_enter Tryz.func85,Tryz.ntmps85
 go_wp2
 go_loopw [6,7] (fun x i wr=>∃ (k:Nat) (ps:List Par),k≤n∧i=.int .i64 k∧Hid (parsOf keep (ls.take k)=some ps)∧ps.length=k∧OwnP wr w.heap.size x ps∧Below w.heap.size w wr∧w.heap.size≤wr.heap.size) (fun _ i _=>n - (intOf i).toNat)
 case atStart=>exact ⟨0,[],by omega,rfl,rfl,rfl,OwnP.nil _ _,Below.refl _ _,Nat.le_refl _⟩
 case round =>
  obtain ⟨k,ps,hkn,rfl,hps,hpl,hown,hb,hB⟩:=hrel;by_cases hlt:k < n
  ·have hkl:k < ls.length:=by have:=HN.out; omega
   obtain ⟨a,hao,hab,hcell⟩:=HC.out k hkl;have hcell2:=cell_below hb (by rw [add_block]; exact hab) hcell;have hll:=HL.out _ (List.getElem_mem hkl);have hcl:=cutL_len 61 ls[k];subst hao;clear hcell;go_wp2_with fail
   refine (cut3_list ls[k] 61 _ (by omega)).mono ?_
   rintro e w' ⟨rfl,q,rfl⟩;have hown1:=hown.below (below_drewN _ q);have hb1:=hb.trans ((below_drewN _ q).mono hB);go_wp2_with fail
   refine (written_list (cutL 61 ls[k]).1 keep _ (by omega) hk).mono ?_
   rintro e w3 ⟨rfl,hw3⟩;have hown3:=hown1.below hw3;have hb3:=hb1.trans (hw3.mono hb1.size);go_wp2_with fail
   refine (written_list (cutL 61 ls[k]).2.1 keep _ (by omega) hk).mono ?_
   rintro e w4 ⟨rfl,hw4⟩;have hown4:=hown3.below hw4;have hb4:=hb3.trans (hw4.mono hb3.size);have hB4:=hb4.size;clear hown hown1 hown3 hb hb1 hb3 hw3 hw4 hB hcell2;have hsn:parsOf keep (ls.take (k+1))=match parsOf keep (ls.take k),parOf keep ls[k] with | some ps,some p=>some (ps++[p]) | _,_=>none:=by
    rw [List.take_succ_eq_append_getElem hkl];exact parsOf_snoc keep _ _
   rw [hps.out] at hsn;have hpbad:=@parsOf_bad keep ls k hkl;have hpsome:=@parOf_some keep ls[k];have hpnone:=@parOf_none keep ls[k];generalize cutL 61 ls[k]=c3 at hpsome hpnone ⊢;obtain ⟨ca,cb,cc⟩:=c3;simp only at hpsome hpnone ⊢;generalize writtenV keep ca=wa at hpsome hpnone ⊢;generalize writtenV keep cb=wb at hpsome hpnone ⊢;obtain ⟨na,ha⟩:=wa;obtain ⟨nb,hbb⟩:=wb;simp only at hpsome hpnone ⊢;have HPB:Hid _:=hpbad; clear hpbad
   have HPN:Hid _:=hpnone; clear hpnone
   have HPS:Hid _:=hpsome; clear hpsome
   have HSN:Hid _:=hsn; clear hsn
   cases ha with
   | false =>
    have hnone:Hid (parsOf keep ls=none):=HPB.out (HPN.out (by simp));go_wp2;go_ret2
    first | exact ⟨.slice none 0 0,false,rfl,Or.inr ⟨hnone.out,rfl,rfl⟩,hb4⟩ | exact ⟨.slice none 0 0,Or.inl ⟨rfl,Or.inr ⟨hnone.out,rfl,rfl⟩,hb4⟩⟩
   | true =>
    cases hbb with
    | false =>
     have hnone:Hid (parsOf keep ls=none):=HPB.out (HPN.out (by simp));go_wp2;go_ret2
     first | exact ⟨.slice none 0 0,false,rfl,Or.inr ⟨hnone.out,rfl,rfl⟩,hb4⟩ | exact ⟨.slice none 0 0,Or.inl ⟨rfl,Or.inr ⟨hnone.out,rfl,rfl⟩,hb4⟩⟩
    | true =>
     have hsn2:Hid (parsOf keep (ls.take (k+1))=some (ps++[⟨na,nb,cc⟩])):=show _=_ by rw [HSN.out,HPS.out rfl rfl]
     have hnew:∀ (j:Nat) (u:Value),(parCells ⟨na,nb,cc⟩)[j]? = some u → (w4.alloc (.cells #[.string ⟨na.toArray⟩,.string ⟨nb.toArray⟩,.bool cc] 59)).cell? ((⟨w4.heap.size,0,none⟩:Addr).add j)=some u:=by
      intro j u hj;have e:(⟨w4.heap.size,0,none⟩:Addr).add j=⟨w4.heap.size,j,none⟩:=by unfold Addr.add; split <;> simp_all
      rw [e];unfold World.cell?;rw [heap_alloc_new]
      simpa [parCells] using hj
     have HNW:Hid _:=hnew; clear hnew HSN HPS HPN HPB
     go_wp2_with (at_builtin; refine wp_appP _ rfl (.tmp 48) (.tmp 53) 50 rfl w.heap.size i0 _ Tryz.underlying50 hi hz0 hz1 hz2 rfl _ ps rfl (hown4.alloc _) ⟨w4.heap.size,0,none⟩ 1 ⟨na,nb,cc⟩ rfl (by exact HNW.out) (by omega) w (hb4.alloc hB4 _) (by simp; omega) ?_; intro v5 w5 hown5 hb5 hB5)
     go_wp2;go_roundw
     case rel=>exact ⟨k+1,ps++[⟨na,nb,cc⟩],by omega,by go_num,hsn2,by simp; omega,hown5,hb5,hB5⟩
     case measure=>simp [intOf]; omega
  ·have hend:Hid (parsOf keep ls=some ps):=show _=_ by
    have h:=hps.out;have e:=HN.out;rw [List.take_of_length_le (by omega)] at h; exact h
   clear hps;go_wp2;go_ret2
   first | exact ⟨_,_,rfl,Or.inl ⟨ps,hend.out,rfl,hown⟩,hb⟩ | exact ⟨_,Or.inr ⟨rfl,Or.inl ⟨ps,hend.out,rfl,hown⟩,hb⟩⟩
end Go.Proofs.YtdnekampnkhmfaaGreatDoor
namespace Go.Proofs.YtdnekampnkhmfaaGreatDoor
open Go.RowKit Go.ChangeShapes Go.WideShapes Go.Deep
def tuCells (t:Tu):List Value:=[.string ⟨t.id.toArray⟩,.bool t.opn,.string ⟨t.contact.toArray⟩,.int .i64 t.prio,.string ⟨t.note.toArray⟩]
def tuV (t:Tu):Value:=.agg #[.string ⟨t.id.toArray⟩,.bool t.opn,.string ⟨t.contact.toArray⟩,.int .i64 t.prio,.string ⟨t.note.toArray⟩]
def docV (d:Dc) (ts ns:Value):Value:=.agg #[.string ⟨d.entity.toArray⟩,ts,ns]
structure TuAt (w:World) (ad:Addr) (k:Nat) (t:Tu):Prop where
 c0:w.cell? (ad.add (k * 5))=some (.string ⟨t.id.toArray⟩)
 c1:w.cell? ⟨(ad.add (k * 5)).block,(ad.add (k * 5)).off+1,none⟩=some (.bool t.opn)
 c2:w.cell? ⟨(ad.add (k * 5)).block,(ad.add (k * 5)).off+2,none⟩=some (.string ⟨t.contact.toArray⟩)
 c3:w.cell? ⟨(ad.add (k * 5)).block,(ad.add (k * 5)).off+3,none⟩=some (.int .i64 t.prio)
 c4:w.cell? ⟨(ad.add (k * 5)).block,(ad.add (k * 5)).off+4,none⟩=some (.string ⟨t.note.toArray⟩)
theorem TuAt.below {B:Nat} {w w':World} {ad:Addr} {k:Nat} {t:Tu} (h:TuAt w ad k t) (hb:Below B w w') (ha:ad.block < B):TuAt w' ad k t :=
 ⟨cell_below hb (by rw [add_block]; exact ha) h.c0,cell_below hb (by simp only [add_block]; exact ha) h.c1,cell_below hb (by simp only [add_block]; exact ha) h.c2,cell_below hb (by simp only [add_block]; exact ha) h.c3,cell_below hb (by simp only [add_block]; exact ha) h.c4⟩
def TusAt (w:World) (v:Value) (ts:List Tu):Prop :=
 ∃ (ao:Option Addr) (cap:Nat),v=.slice ao ts.length cap∧∀ k (hk:k < ts.length),∃ ad,ao=some ad∧ad.block < w.heap.size∧TuAt w ad k ts[k]
theorem TusAt.below {w w':World} {v:Value} {ts:List Tu} (h:TusAt w v ts) (hb:Below w.heap.size w w'):TusAt w' v ts:=by
 obtain ⟨ao,cap,hv,hc⟩:=h;refine ⟨ao,cap,hv,fun k hk=>?_⟩
 obtain ⟨ad,e,hlt,hcell⟩:=hc k hk;exact ⟨ad,e,Nat.lt_of_lt_of_le hlt hb.size,hcell.below hb hlt⟩
def SmallT (B:Nat) (t:Tu):Prop:=t.id.length≤B∧t.contact.length≤B∧t.note.length≤B∧(Lit.int .i64 t.prio).wf=true
structure SmallD (B:Nat) (d:Dc):Prop where
 ent:d.entity.length≤B
 tl:d.tuples.length≤B
 nl:d.notes.length≤B
 ts:∀ t ∈ d.tuples,SmallT B t
 ns:∀ s ∈ d.notes,s.length≤B
end Go.Proofs.YtdnekampnkhmfaaGreatDoor
namespace Go.Proofs.YtdnekampnkhmfaaGreatDoor
open Go.RowKit Sc
def tusCells (ts:List Tu):List Value:=ts.flatMap tuCells
theorem tusCells_get (ts:List Tu) (k:Nat) (hk:k < ts.length) (j:Nat) (u:Value) (h:(tuCells ts[k])[j]? = some u):(tusCells ts)[k * 5+j]? = some u:=by
 induction ts generalizing k with
 | nil=>simp at hk
 | cons t ts ih =>
  have e:tusCells (t :: ts)=tuCells t++tusCells ts:=rfl;have el:(tuCells t).length=5:=rfl
  cases k with
  | zero =>
   have hj:j < 5:=by have:=(List.getElem?_eq_some_iff.1 h).1; simpa [tuCells] using this
   rw [e,List.getElem?_append_left (by rw [el]; omega),Nat.zero_mul,Nat.zero_add];exact h
  | succ k =>
   have:=ih k (by simpa using hk) (by simpa using h)
   rw [e,List.getElem?_append_right (by rw [el]; omega),el,show (k+1) * 5+j - 5=k * 5+j by omega];exact this
def OwnT (w:World) (B:Nat) (v:Value) (ts:List Tu):Prop:=w.ownsRow B 56 5 v ts.length (tusCells ts)
theorem OwnT.nil (w:World) (B:Nat):OwnT w B (.slice none 0 0) []:=World.ownsRow_nil _ _ _ _
theorem OwnT.below {w w':World} {B:Nat} {v:Value} {ts:List Tu} (h:OwnT w B v ts) (hb:Below w.heap.size w w'):OwnT w' B v ts:=by
 obtain ⟨h1,h2⟩:=h;refine ⟨h1,?_⟩
 rcases h2 with h2 | ⟨g,cap,cur,hv,hg,hh,r⟩
 ·exact Or.inl h2
 ·exact Or.inr ⟨g,cap,cur,hv,hg,by rw [hb.block g (Array.getElem?_eq_some_iff.1 hh).1]; exact hh,r⟩
theorem OwnT.alloc {w:World} {B:Nat} {v:Value} {ts:List Tu} (h:OwnT w B v ts) (o:Obj):OwnT (w.alloc o) B v ts:=World.ownsRow.alloc h o
theorem OwnT.form {w:World} {B:Nat} {v:Value} {ts:List Tu} (h:OwnT w B v ts):∃ a cap,v=.slice a ts.length cap:=by
 rcases h.2 with ⟨rfl,hn⟩ | ⟨g,cap,cur,rfl,_⟩
 ·exact ⟨none,0,by rw [hn]⟩
 ·exact ⟨_,cap,rfl⟩
theorem OwnT.tusAt {w:World} {B:Nat} {v:Value} {ts:List Tu} (h:OwnT w B v ts):TusAt w v ts:=by
 have h0:=h
 rcases h.2 with ⟨rfl,hn⟩ | ⟨g,cap,cur,rfl,hb,hg,r⟩
 ·exact ⟨none,0,by rw [hn],fun k hk=>by omega⟩
 ·refine ⟨some ⟨g,0,none⟩,cap,rfl,fun k hk=>⟨_,rfl,(Array.getElem?_eq_some_iff.1 hg).1,?_⟩⟩
  have e:∀ j,(⟨g,0,none⟩:Addr).add j=⟨g,j,none⟩:=fun j=>by unfold Addr.add; split <;> simp_all
  have c:∀ j u,(tuCells ts[k])[j]? = some u → w.cell? ⟨g,k * 5+j,none⟩=some u:=fun j u hj=>by
   have:=World.ownsRow.cells h0 (g:=g) rfl (k * 5+j) _ (tusCells_get ts k hk j u hj)
   rw [e] at this; exact this
  refine ⟨?_,?_,?_,?_,?_⟩
  ·rw [e]; exact c 0 _ rfl
  ·rw [e]; exact c 1 _ rfl
  ·rw [e]; exact c 2 _ rfl
  ·rw [e]; exact c 3 _ rfl
  ·rw [e]; exact c 4 _ rfl
theorem infoTup:(Tryz.prog.info? 56).map (fun i=>(i.zero,i.size,i.bytes))=some (some (.agg #[.string .empty,.bool false,.string .empty,.int .i64 0,.string .empty]),5,64):=by kernel_rfl
theorem wp_appTu {P:Program} (w:World) {ops:Array Oper} {rest:List Oper} {o:Oper} {a:Act} {Q:Exit → Act → World → Prop} (hgd:o.guard=none)
  (s x:Operand) (t:TypeId) (ho:o.op=Op.call { callee:=Callee.builtin Builtin.append,args:=#[s,x],argTypes:=#[t,t] }) (B:Nat) (i:TypeInfo)
  (z:Value) (ht:P.underlying t=some (TypeDesc.slice 56)) (hi:P.info? 56=some i) (hz:i.zero=some z) (hsize:i.size=5) (hby:i.bytes=64) (hzs:z.cells.size=5)
  (v:Value) (ts:List Tu) (hs:a.eval s=v) (hown:OwnT w B v ts) (ad:Addr) (c:Nat) (p:Tu) (hx:a.eval x=Value.slice (some ad) 1 c)
  (hnews:∀ (j:Nat) (u:Value),(tuCells p)[j]? = some u → w.cell? (ad.add j)=some u)
  (hlen:ts.length≤2000000) (w0:World) (hb:Below B w0 w) (hB:B≤w.heap.size)
  (h:∀ (v':Value) (w':World),OwnT w' B v' (ts++[p]) → Below B w0 w' → B≤w'.heap.size → w.grownBy w' v.ownBlock → wpList P ops Q rest (a.put o.dst v') w'):wpList P ops Q (o :: rest) a w:=by
 refine wpList_append_own w hgd s x t ho B 56 i z 5 64 ht hi hz hsize hby hzs (by decide) v ts.length (tusCells ts) hs hown ad 1 c (tuCells p) hx rfl hnews
  (by intro u hu; simp [tuCells] at hu; rcases hu with rfl | rfl | rfl | rfl | rfl <;> rfl) (by unfold maxLen; omega) (by omega) hB ?_
 intro v' w' hown' hgr _;refine h v' w' ?_ (hb.grown hgr hB (fun k hk=>(World.ownsRow.lt hown k hk).1)) (Nat.le_trans hB hgr.size) hgr
 have e:tusCells (ts++[p])=tusCells ts++tuCells p:=by simp [tusCells]
 unfold OwnT;rw [e,List.length_append];exact hown'
theorem bstep14 {S:Nat} {w1 u wa:World} (h:Below S w1 u) (hS:S≤w1.heap.size) (hw:Below u.heap.size u wa):Below S w1 wa:=h.trans (hw.mono (Nat.le_trans hS h.size))
theorem al14 {S:Nat} {w1 wa:World} (h:Below S w1 wa) (hS:S≤w1.heap.size) (o1 o2:Obj):Below S w1 ((wa.alloc o1).alloc o2):=(h.alloc (Nat.le_trans hS h.size) o1).alloc (by simp; have:=h.size; omega) o2
theorem ownP_newX (W:World) (B:Nat) (hB:B≤W.heap.size) (ps:List Par) (n:Nat) (hn:ps.length=n) (hm:n≤1000):OwnP (W.alloc (.cells (parsCells ps).toArray 59)) B (.slice (some ⟨W.heap.size,0,none⟩) n n) ps:=by
 subst hn;refine ⟨parsCells_len ps,.inr ⟨_,_,(parsCells ps).toArray,rfl,hB,heap_alloc_new _ _,Nat.le_refl _,by unfold maxLen; omega,by simp [parsCells_len],?_⟩⟩
 rw [List.take_of_length_le (by simp [parsCells_len])]
theorem ownN_newX (W:World) (B:Nat) (hB:B≤W.heap.size) (c:NdC) (hc:OwnP W B c.a c.nd.attrs):OwnN (W.alloc (.cells (ndCells c).toArray 52)) B (.slice (some ⟨W.heap.size,0,none⟩) 1 1) [c]:=by
 refine ⟨⟨rfl,.inr ⟨_,_,(ndCells c).toArray,rfl,hB,heap_alloc_new _ _,Nat.le_refl _,by unfold maxLen; omega,rfl,by simp [ndsCells,ndCells]⟩⟩,fun c' h'=>?_⟩
 simp only [List.mem_singleton] at h'; subst h'; exact hc.alloc _
theorem root_own (W:World) (B:Nat) (hB:B≤W.heap.size) (g:Nat) (hg:g=W.heap.size+1) (en:List UInt8):OwnN ((W.alloc (.cells #[.string ⟨#[120,109,108,110,115]⟩,.string ⟨#[117,114,110,58,105,101,116,102,58,112,97,114,97,109,115,58,120,109,108,58,110,115,58,112,105,100,102]⟩,.bool true,.string ⟨#[101,110,116,105,116,121]⟩,.string ((⟨#[112,114,101,115,58]⟩:ByteArray)++⟨en.toArray⟩),.bool true] 59)).alloc (.cells #[.int .i64 0,.string ⟨#[112,114,101,115,101,110,99,101]⟩,.slice (some ⟨W.heap.size,0,none⟩) 2 2,.string ⟨#[]⟩] 52)) B (.slice (some ⟨g,0,none⟩) 1 1)
  [⟨⟨0,presenceK,[atr xmlnsK spaceK,atr entityK (presK++[58]++en)],[]⟩,.slice (some ⟨W.heap.size,0,none⟩) 2 2⟩]:=by
 have hE:(⟨#[112,114,101,115,58]⟩:ByteArray)++⟨en.toArray⟩=⟨(presK++[58]++en).toArray⟩:=by rw [ByteArray.mk_append_mk]; simp [presK]
 rw [hE];have h1:=ownP_newX W B hB [atr xmlnsK spaceK,atr entityK (presK++[58]++en)] 2 rfl (by decide);have hs:(W.alloc (.cells (parsCells [atr xmlnsK spaceK,atr entityK (presK++[58]++en)]).toArray 59)).heap.size=W.heap.size+1:=by simp
 have h2:=ownN_newX _ B (by rw [hs]; omega) ⟨⟨0,presenceK,[atr xmlnsK spaceK,atr entityK (presK++[58]++en)],[]⟩,.slice (some ⟨W.heap.size,0,none⟩) 2 2⟩ h1;rw [hs,← hg] at h2;exact h2
structure PSt (w1:World) (b:Nat) (x:Tu) (W:World) (v:Value) (cs:List NdC):Prop where
 own:OwnN W w1.heap.size v cs
 row:RowIs W b 56 (tuCells x)
 lt:b < W.heap.size
 ne:v.ownBlock ≠ some b
 bel:Below w1.heap.size w1 W
theorem PSt.below {w1:World} {b:Nat} {x:Tu} {W W':World} {v:Value} {cs:List NdC} (h:PSt w1 b x W v cs) (hb:Below W.heap.size W W'):PSt w1 b x W' v cs :=
 ⟨h.own.below hb,h.row.below hb h.lt,Nat.lt_of_lt_of_le h.lt hb.size,h.ne,h.bel.trans (hb.mono h.bel.size)⟩
theorem PSt.alloc {w1:World} {b:Nat} {x:Tu} {W:World} {v:Value} {cs:List NdC} (h:PSt w1 b x W v cs) (o:Obj):PSt w1 b x (W.alloc o) v cs:=h.below ((Below.refl _ W).alloc (Nat.le_refl _) o)
theorem PSt.app {w1:World} {b:Nat} {x:Tu} {W w5:World} {v v5:Value} {cs:List NdC} {c:NdC} (h:PSt w1 b x W v cs) (hf:FrN v W v5 w5) (ho:OwnN w5 w1.heap.size v5 (cs++[c])):PSt w1 b x w5 v5 (cs++[c]) :=
 ⟨ho,hf.row h.row h.lt h.ne,Nat.lt_of_lt_of_le h.lt hf.size,fun e=>by
  rcases hf.own b e with q | q
  ·exact h.ne q
  ·have:=h.lt; omega,h.bel.trans (hf.to h.bel.size fun g hg=>(World.ownsRow.lt h.own.1 g hg).1)⟩
theorem PSt.c5 {w1:World} {b:Nat} {x:Tu} {W:World} {v:Value} {cs:List NdC} (h:PSt w1 b x W v cs):RowC5 W b (.string ⟨x.id.toArray⟩) (.bool x.opn) (.string ⟨x.contact.toArray⟩) (.int .i64 x.prio) (.string ⟨x.note.toArray⟩):=RowIs.rc5 h.row
theorem PSt.size {w1:World} {b:Nat} {x:Tu} {W:World} {v:Value} {cs:List NdC} (h:PSt w1 b x W v cs):w1.heap.size≤W.heap.size:=h.bel.size
theorem nds_snoc (cs:List NdC) (c:NdC):ndsL (cs++[c])=ndsL cs++[c.nd]:=by simp [ndsL]
theorem flat_next {tl:List Tu} {j:Nat} (h:j < tl.length):flatXs 1 ((tl.take (j+1)).map tupT)=flatXs 1 ((tl.take j).map tupT)++flatX 1 (tupT tl[j]):=by
 rw [List.take_succ_eq_append_getElem h,List.map_append,flatXs_app]; simp [flatXs]
theorem flat_tup (x:Tu):flatX 1 (tupT x)=[⟨1,tupleK,[atr pidK x.id],[]⟩,⟨2,pstatK,[],[]⟩,⟨3,basicK,[],if x.opn then openK else closedK⟩]++(flatXs 2 (contT x)++flatXs 2 (tnoteT x)):=by
 rw [tupT,flatX,flatXs,statT,flatX,flatXs,flatXs,flatX,flatXs,flatXs_app]; simp
theorem wp_appNs {P:Program} (w:World) {ops:Array Oper} {rest:List Oper} {o:Oper} {a:Act} {Q:Exit → Act → World → Prop} (hgd:o.guard=none)
  (s x:Operand) (t:TypeId) (ho:o.op=Op.call { callee:=Callee.builtin Builtin.append,args:=#[s,x],argTypes:=#[t,t] }) (B:Nat) (i:TypeInfo)
  (z:Value) (ht:P.underlying t=some (TypeDesc.slice 52)) (hi:P.info? 52=some i) (hz:i.zero=some z) (hsize:i.size=4) (hby:i.bytes=64) (hzs:z.cells.size=4)
  (v:Value) (cs:List NdC) (hs:a.eval s=v) (hown:OwnN w B v cs) (ad:Addr) (k:Nat) (c:List NdC) (n:Nat) (hn:n=c.length) (hn0:0 < n) (hc:∀ d ∈ c,OwnP w B d.a d.nd.attrs) (hx:a.eval x=Value.slice (some ad) n k)
  (hnews:∀ (j:Nat) (u:Value),(ndsCells c)[j]? = some u → w.cell? (ad.add j)=some u)
  (hlen:cs.length≤1000000) (hlen2:c.length≤1000000) (hB:B≤w.heap.size)
  (h:∀ (v':Value) (w':World),OwnN w' B v' (cs++c) → FrN v w v' w' → wpList P ops Q rest (a.put o.dst v') w'):wpList P ops Q (o :: rest) a w:=by
 have one:∀ (ps:List Par) (B:Nat) (v:Value),OwnP w B v ps → v.oneCell'=true:=fun ps B v h=>by
  rcases h.2 with ⟨rfl,_⟩ | ⟨g,cap,cur,rfl,_⟩ <;> rfl
 subst hn;refine wpList_append_own_at w hgd s x t ho B 52 i z 4 64 ht hi hz hsize hby hzs (by decide) v cs.length (ndsCells cs) hs hown.1 ad c.length k (ndsCells c) hx (ndsCells_len c) hnews
  (by
   intro u hu;unfold ndsCells at hu;obtain ⟨d,hd,hu⟩:=List.mem_flatMap.1 hu
   simp [ndCells] at hu
   rcases hu with rfl | rfl | rfl | rfl <;> first | rfl | exact one _ _ _ (hc d hd)) (by unfold maxLen; omega) (by omega) hB ?_
 intro v' w' hown' hgr _ hat;have keep:∀ (ps:List Par) (u:Value),OwnP w B u ps → OwnP w' B u ps:=fun ps u hu=>World.ownsRow.kept hu hgr (rows_neN hown.1 hu (by decide));refine h v' w' ⟨?_,?_⟩ (grown_fr hgr hat)
 ·have e:ndsCells (cs++c)=ndsCells cs++ndsCells c:=by simp [ndsCells]
  rw [e,List.length_append];exact hown'
 ·intro c' hc'
  rcases List.mem_append.1 hc' with hc' | hc'
  ·exact keep _ _ (hown.2 c' hc')
  ·exact keep _ _ (hc c' hc')
theorem ownN_cells {w:World} {B:Nat} {a:Option Addr} {n k:Nat} {cs:List NdC} (h:OwnN w B (.slice a n k) cs) (h0:0 < cs.length):∃ g,a=some ⟨g,0,none⟩∧n=cs.length∧g < w.heap.size∧B≤g∧∀ (j:Nat) (u:Value),(ndsCells cs)[j]? = some u → w.cell? ((⟨g,0,none⟩:Addr).add j)=some u:=by
 have h1:=h.1
 rcases h.1.2 with ⟨e,hn⟩ | ⟨g,cap,cur,e,hb,hg,_⟩
 ·omega
 ·injection e with ea en ek
  subst ea en ek;exact ⟨g,rfl,rfl,(Array.getElem?_eq_some_iff.1 hg).1,hb,fun j u hj=>World.ownsRow.cells h1 (g:=g) rfl j u hj⟩
def valG:Int → List UInt8 → Int
 | n,[]=>n
 | n,b :: r=>valG (10 * n+((b.toNat:Int) - 48)) r
theorem valG_ge:∀ (l:List UInt8) (n:Int),0≤n → allB 1 l=true → n≤valG n l
 | [],n,_,_=>Int.le_refl _
 | b :: r,n,h0,h=>by
  have hb:=u8_bd b;have h1:isB b.toNat 1=true∧allB 1 r=true:=by unfold allB at h ⊢; simpa using h
  rw [isB_digit _ hb.1 hb.2] at h1;have h2:=of_decide_eq_true h1.1
  have:=valG_ge r (10 * n+((b.toNat:Int) - 48)) (by omega) h1.2
  unfold valG; omega
theorem numL_is (most:Int) (hm:9≤most):∀ (l:List UInt8) (n:Int),0≤n → n≤most → allB 1 l=true → numL most n l=if valG n l≤most then some (valG n l) else none
 | [],n,_,hn,_=>by rw [numL,valG,if_pos hn]
 | b :: r,n,h0,hn,h=>by
  have hb:=u8_bd b;have h1:isB b.toNat 1=true∧allB 1 r=true:=by unfold allB at h ⊢; simpa using h
  rw [isB_digit _ hb.1 hb.2] at h1;have h2:=of_decide_eq_true h1.1;have hg:=valG_ge r (10 * n+((b.toNat:Int) - 48)) (by omega) h1.2;rw [numL,valG];by_cases hc:(b.toNat:Int) - 48 > most∨n > (most - ((b.toNat:Int) - 48)) / 10
  ·rw [if_pos hc,if_neg (by omega)]
  ·rw [if_neg hc,numL_is most hm r _ (by omega) (by omega) h1.2]
theorem numV_is {most:Int} (hm:9≤most) (l:List UInt8):numV most l=if l=[]∨allB 1 l=false then (0,10) else if valG 0 l≤most then (valG 0 l,0) else (0,9):=by
 unfold numV;by_cases h:l=[]∨allB 1 l=false
 ·rw [if_pos h,if_pos h]
 ·rw [if_neg h,if_neg h,numL_is most hm l 0 (by omega) (by omega) (by simp only [not_or] at h; simpa using h.2)];by_cases h2:valG 0 l≤most
  ·rw [if_pos h2,if_pos h2]
  ·rw [if_neg h2,if_neg h2]
theorem dig_thou {k:Nat} (h:k < 1000):digL (1000+k)=49 :: d3 k:=by
 have hz:∀ m:Nat,digb m=UInt8.ofNat (48+m % 10):=fun m=>rfl;rw [digL_big (by omega),digL_big (by omega),digL_big (by omega),digL_small (by omega)];have e1:(1000+k) / 10 / 10 / 10 % 10=1:=by omega
 have e2:(1000+k) / 10 / 10 % 10=k / 100 % 10:=by omega
 have e3:(1000+k) / 10 % 10=k / 10 % 10:=by omega
 have e4:(1000+k) % 10=k % 10:=by omega
 simp only [d3,hz,e1,e2,e3,e4]
 rfl
theorem d3_len (k:Nat):(d3 k).length=3:=rfl
def thouC (s:List UInt8):Int × Bool:=if thouV s < 0 then (0,false) else (thouV s,true)
def thouCC (a b:List UInt8):Int × Bool :=
 if ¬ (a=[48]∨a=[49])∨3 < b.length then (0,false)
 else ((numV 1000 (a++(b++List.replicate (3 - b.length) 48))).1,(numV 1000 (a++(b++List.replicate (3 - b.length) 48))).2==0)
theorem allB_app (c:Int) (a b:List UInt8):allB c (a++b)=(allB c a && allB c b):=by simp [allB]
theorem allB_zeros (n:Nat):allB 1 (List.replicate n 48)=true:=by
 unfold allB;rw [List.all_eq_true];intro x hx;rw [List.eq_of_mem_replicate hx]
 decide +kernel
theorem valG_four {a:UInt8} (ha:a=48∨a=49) {l:List UInt8} (hl:l.length=3) (hd:allB 1 l=true):0≤valG 0 (a :: l)∧valG 0 (a :: l)≤1999:=by
 match l,hl with
 | [x,y,z],_ =>
  have h1:isB x.toNat 1=true∧isB y.toNat 1=true∧isB z.toNat 1=true:=by unfold allB at hd; simpa using hd
  have bx:=u8_bd x;have b_y:=u8_bd y;have bz:=u8_bd z;rw [isB_digit _ bx.1 bx.2,isB_digit _ b_y.1 b_y.2,isB_digit _ bz.1 bz.2] at h1;obtain ⟨p,q,r⟩:=h1;have p:=of_decide_eq_true p;have q:=of_decide_eq_true q;have r:=of_decide_eq_true r;simp only [valG]
  rcases ha with rfl | rfl
  ·have:((48:UInt8).toNat:Int)=48:=rfl
   omega
  ·have:((49:UInt8).toNat:Int)=49:=rfl
   omega
theorem thou_code (s:List UInt8):thouC s=thouCC (cutL 46 s).1 (cutL 46 s).2.1:=by
 unfold thouC thouV thouCC;generalize (cutL 46 s).1=a;generalize (cutL 46 s).2.1=b;by_cases ha:a=[48]∨a=[49]
 case neg=>rw [if_pos (c:=¬ (a=[48]∨a=[49])∨3 < b.length∨allB 1 b=false) (.inl ha),if_pos (c:=¬ (a=[48]∨a=[49])∨3 < b.length) (.inl ha)]; rfl
 by_cases hb:3 < b.length
 ·rw [if_pos (c:=¬ (a=[48]∨a=[49])∨3 < b.length∨allB 1 b=false) (.inr (.inl hb)),if_pos (c:=¬ (a=[48]∨a=[49])∨3 < b.length) (.inr hb)]; rfl
 rw [if_neg (c:=¬ (a=[48]∨a=[49])∨3 < b.length) (fun h=>h.elim (fun h1=>h1 ha) hb)];obtain ⟨c,hc,rfl⟩:∃ c:UInt8,(c=48∨c=49)∧a=[c]:=by
  rcases ha with rfl | rfl
  ·exact ⟨48,.inl rfl,rfl⟩
  ·exact ⟨49,.inr rfl,rfl⟩
 have hca:allB 1 [c]=true:=by rcases hc with rfl | rfl <;> decide +kernel
 have hall:allB 1 ([c]++(b++List.replicate (3 - b.length) 48))=allB 1 b:=by rw [allB_app,allB_app,allB_zeros,hca,Bool.true_and,Bool.and_true]
 have hne:([c]++(b++List.replicate (3 - b.length) 48)) ≠ []:=by simp
 cases hd:allB 1 b with
 | false =>
  rw [if_pos (c:=¬ ([c]=[48]∨[c]=[49])∨3 < b.length∨false=false) (.inr (.inr rfl)),numV_is (by decide),if_pos (c:=_∨allB 1 ([c]++(b++List.replicate (3 - b.length) 48))=false) (.inr (by rw [hall,hd]))]
  rfl
 | true =>
  have hv:=valG_four hc (l:=b++List.replicate (3 - b.length) 48) (by simp; omega) (by rw [allB_app,allB_zeros,hd]; rfl);rw [if_neg (c:=¬ ([c]=[48]∨[c]=[49])∨3 < b.length∨true=false) (fun h=>h.elim (fun h1=>h1 ha) (fun h2=>h2.elim hb (by simp)))];rw [numV_is (most:=10000) (by decide),numV_is (most:=1000) (by decide)];have hno:¬ ([c]++(b++List.replicate (3 - b.length) 48)=[]∨allB 1 ([c]++(b++List.replicate (3 - b.length) 48))=false):=by rw [hall,hd]; simp
  rw [if_neg hno,if_neg hno];rw [show [c]++(b++List.replicate (3 - b.length) 48)=c :: (b++List.replicate (3 - b.length) 48) from rfl];generalize valG 0 (c :: (b++List.replicate (3 - b.length) 48))=v at hv;rw [if_pos (c:=v≤10000) (by omega)];by_cases h1:v≤1000
  ·rw [if_pos h1,if_neg (c:=1000 < v) (by omega),if_neg (by simp only; omega)]; rfl
  ·rw [if_neg h1,if_pos (c:=1000 < v) (by omega)]; rfl
theorem ref_stop {most n d:Int} (h:922337203685477580 < n∨most < d∨most - d < 10 * n) (hm:most≤9223372036854775807) (hd:0≤d):d > most∨n > (most - d) / 10:=by omega
set_option maxHeartbeats 600000 in
theorem refnumber_any (s:ByteArray) (most:Int) (w:World) (hs:s.size≤maxLen) (hm0:-9223372036854775808≤most) (hm1:most≤9223372036854775807) :
  Calls Tryz.prog 48 #[.string s,.int .i64 most] w fun e w'=>e=.returned (.tuple #[.int .i64 (numV most s.data.toList).1,.int .i64 (numV most s.data.toList).2])∧w'=w:=by
 have hs0:=hs;unfold maxLen at hs;by_cases he:s.size=0
 ·have hE:=isE_true he;have hv:numV most s.data.toList=(0,10):=by
   have:s.data.toList=[]:=List.eq_nil_of_length_eq_zero (by rw [len_data,he])
   rw [numV,if_pos (Or.inl this)]
  have HV:Hid (numV most s.data.toList=(0,10)):=hv; clear hv
  go_enter Tryz.func48,Tryz.ntmps48
  go_wp2;go_ret2;exact ⟨ret_pair 0 10 HV.out,rfl⟩
 have hE:=isE_false (s:=s) (by omega);have hne:=data_ne (s:=s) (by omega);by_cases ha:allB 1 s.data.toList=true
 ·have hdig:Hid (∀ k (hk:k < s.size),48≤(s[k].toNat:Int)∧(s[k].toNat:Int)≤57):=fun k hk=>digit_at ha k hk;have HV:Hid (numV most s.data.toList=match numL most 0 s.data.toList with | some n=>(n,0) | none=>(0,9)):=by
   show _=_
   rw [numV,if_neg (by simp [hne,ha])]
   rfl
  clear hne
  go_enter Tryz.func48,Tryz.ntmps48
  go_wp2_with (go_at_call 47; refine (refall_any _ _ _ hs0).mono ?_; rintro e w' ⟨rfl,rfl⟩)
  go_loop [6,7] (fun n i=>∃ (k:Nat) (m:Int),k≤s.size∧i=.int .i64 k∧n=.int .i64 m∧0≤m∧m≤9223372036854775807∧Hid (numL most 0 s.data.toList=numL most m (s.data.toList.drop k))) (fun _ i=>s.size - (intOf i).toNat)
  case atStart=>exact ⟨0,0,Nat.zero_le _,rfl,rfl,by omega,by omega,rfl⟩
  case round =>
   obtain ⟨k,m,hk,rfl,rfl,hm0',hm1',hnum⟩:=hrel;by_cases hlt:k < s.size
   ·have hd:=hdig.out k hlt;by_cases h0:922337203685477580 < m
    ·have HS:Hid (numL most m (s.data.toList.drop k)=none):=numL_stop hlt (ref_stop (Or.inl h0) hm1 (by omega));go_wp2;go_ret2;exact ⟨ret_pair 0 9 (by rw [HV.out,hnum.out,HS.out]),rfl⟩
    ·by_cases h1:most < (s[k].toNat:Int) - 48
     ·have HS:Hid (numL most m (s.data.toList.drop k)=none):=numL_stop hlt (ref_stop (Or.inr (Or.inl h1)) hm1 (by omega));go_wp2;go_ret2;exact ⟨ret_pair 0 9 (by rw [HV.out,hnum.out,HS.out]),rfl⟩
     ·by_cases h2:most - ((s[k].toNat:Int) - 48) < 10 * m
      ·have HS:Hid (numL most m (s.data.toList.drop k)=none):=numL_stop hlt (ref_stop (Or.inr (Or.inr h2)) hm1 (by omega));go_wp2;go_ret2;exact ⟨ret_pair 0 9 (by rw [HV.out,hnum.out,HS.out]),rfl⟩
      ·have hst:=numL_go (most:=most) (n:=m) hlt (by omega);have HS:Hid (numL most m (s.data.toList.drop k)=numL most (10 * m+((s[k].toNat:Int) - 48)) (s.data.toList.drop (k+1))):=hst;clear hst;go_wp2
       go_round
       case rel=>exact ⟨k+1,10 * m+((s[k].toNat:Int) - 48),by omega,by go_num,by go_num,by omega,by omega,show _=_ by rw [hnum.out,HS.out]⟩
       case measure=>simp [intOf]; omega
   ·have HD:Hid (s.data.toList.drop k=[]):=drop_all s k (by omega);go_wp2;go_ret2;exact ⟨ret_pair m 0 (by rw [HV.out,hnum.out,HD.out]; rfl),rfl⟩
 ·have ha':allB 1 s.data.toList=false:=by simpa using ha
  have HV:Hid (numV most s.data.toList=(0,10)):=by show _=_; rw [numV,if_pos (Or.inr ha')]
  clear ha hne
  go_enter Tryz.func48,Tryz.ntmps48
  go_wp2_with (go_at_call 47; refine (refall_any _ _ _ hs0).mono ?_; rintro e w' ⟨rfl,rfl⟩)
  go_ret2;exact ⟨ret_pair 0 10 HV.out,rfl⟩
set_option maxHeartbeats 1000000 in
set_option maxRecDepth 100000 in
theorem rtext14_any (l:List UInt8) (w:World) (h:l.length≤140737488355328) :
  Calls Tryz.prog 33 #[.string ⟨l.toArray⟩] w fun e w'=>e=.returned (.bool (textP l))∧w'=w:=by
 have KS:=hid (fun w'=>signs_list l w' h);have KT:=hid (fun w'=>trimX_list l w' h);have zl:=size_list l;have hv:textP l=(decide (l.length≤128) && (signsX l && xtrim l==l)):=rfl;generalize textP l=R at hv ⊢;by_cases h1:l.length≤128
 ·rw [decide_eq_true h1,Bool.true_and] at hv;have r1:(l.length:Int)≤128:=by omega
  cases hs:signsX l with
  | false =>
   rw [hs] at KS hv;have HV:Hid (R=false):=hv;clear hv hs KT
   go_enter Tryz.func33,Tryz.ntmps33
   go_wp2_with (go_at_call 69; refine (KS.out _).mono ?_; rintro e w' ⟨rfl,hw'⟩; rw [hw']; clear hw' w')
   go_ret;exact ⟨ret_bool HV.out.symm,rfl⟩
  | true =>
   rw [hs] at KS hv;have HV:Hid (R=(xtrim l==l)):=hv;clear hv hs;generalize xtrim l=t at KT HV
   go_enter Tryz.func33,Tryz.ntmps33
   go_wp2_with fail
   refine (KS.out _).mono ?_
   rintro e w' ⟨rfl,hw'⟩; rw [hw']; clear hw' w'
   go_wp2_with fail
   refine (KT.out _).mono ?_
   rintro e w' ⟨rfl,hw'⟩; rw [hw']; clear hw' w'
   go_wp2;go_ret;exact ⟨ret_bool HV.out.symm,rfl⟩
 ·rw [decide_eq_false h1,Bool.false_and] at hv;have HV:=hid hv;have r1:¬ (l.length:Int)≤128:=by omega
  clear hv KS KT
  go_enter Tryz.func33,Tryz.ntmps33
  go_wp2;go_ret;exact ⟨ret_bool HV.out.symm,rfl⟩
set_option maxHeartbeats 1000000 in
set_option maxRecDepth 100000 in
theorem rident_any (s:ByteArray) (w:World) (hs:s.size≤140737488355328) :
  Calls Tryz.prog 32 #[.string s] w fun e w'=>e=.returned (.bool (identP s.data.toList))∧w'=w:=by
 have HS:=hid (all_snocX idc s);have HB:=hid (all_badX idc s);have HT:Hid (∀ k,s.size≤k → (s.data.toList.take k).all idc=true → s.data.toList.all idc=true):=fun k hk ha=>by rw [take_all s k hk] at ha; exact ha
 have hl:=len_data s;have hv:identP s.data.toList=(s.data.toList.all idc && (decide (1≤s.size) && decide (s.size≤64))):=by unfold identP; rw [hl]
 have HVB:Hid (s.data.toList.all idc=false → identP s.data.toList=false):=fun h=>by rw [hv,h]; rfl
 have HVG:Hid (s.data.toList.all idc=true → identP s.data.toList=(decide (1≤s.size) && decide (s.size≤64))):=fun h=>by rw [hv,h]; rfl
 generalize identP s.data.toList=R at HVB HVG ⊢;generalize s.data.toList.all idc=A at HB HT HVB HVG;clear hv hl
 go_enter Tryz.func32,Tryz.ntmps32
 go_wp2
 go_loop [3] (fun i=>∃ k:Nat,k≤s.size∧i=.int .i64 k∧Hid ((s.data.toList.take k).all idc=true)) (fun i=>s.size - (intOf i).toNat)
 case atStart=>exact ⟨0,Nat.zero_le _,rfl,show _=_ by simp⟩
 case round =>
  obtain ⟨k,hk,rfl,ha⟩:=hrel;by_cases hlt:k < s.size
  ·have hbd:=u8_bd s[k];by_cases h33:(s[k].toNat:Int) < 33
   ·have hR:Hid (R=false):=HVB.out (HB.out k hlt (by unfold idc; rw [decide_eq_false (by omega)]; rfl));clear ha HS HB HT HVB HVG;go_wp2;go_ret;exact ⟨ret_bool hR.out.symm,rfl⟩
   ·by_cases h126:126 < (s[k].toNat:Int)
    ·have hR:Hid (R=false):=HVB.out (HB.out k hlt (by unfold idc; rw [decide_eq_false (p:=s[k].toNat≤126) (by omega)]; simp));clear ha HS HB HT HVB HVG;go_wp2;go_ret;exact ⟨ret_bool hR.out.symm,rfl⟩
    ·have ha2:Hid ((s.data.toList.take (k+1)).all idc=true):=HS.out k hlt ha.out (by unfold idc; rw [decide_eq_true (by omega),decide_eq_true (by omega)]; rfl);clear ha HS HB HT HVB HVG;go_wp2
     go_round
     case rel=>exact ⟨k+1,by omega,by go_num,ha2⟩
     case measure=>simp [intOf]; omega
  ·have hR:=hid (HVG.out (HT.out k (by omega) ha.out));clear ha HS HB HT HVB HVG;by_cases h1:1≤s.size
   ·have q1:(1:Int)≤(s.size:Int):=by omega
    go_wp2;go_ret;exact ⟨ret_bool (by rw [hR.out,decide_eq_true h1]; simp; omega),rfl⟩
   ·have q1:¬ (1:Int)≤(s.size:Int):=by omega
    go_wp2;go_ret;exact ⟨ret_bool (by rw [hR.out,decide_eq_false h1]; simp),rfl⟩
theorem ident_list (l:List UInt8) (w:World) (h:l.length≤140737488355328) :
  Calls Tryz.prog 32 #[.string ⟨l.toArray⟩] w fun e w'=>e=.returned (.bool (identP l))∧w'=w:=rident_any ⟨l.toArray⟩ w (by rw [size_list]; exact h)
end Go.Proofs.YtdnekampnkhmfaaGreatDoor
