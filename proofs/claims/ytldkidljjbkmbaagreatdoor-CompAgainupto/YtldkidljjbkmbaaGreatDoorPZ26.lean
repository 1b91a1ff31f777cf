/-
  PubO, CompN, RegCall, RegMid, CpS, CpT.
-/
import Derived.Test.YtldkidljjbkmbaaGreatDoorPX02
import Derived.Test.YtldkidljjbkmbaaGreatDoorPX04
set_option linter.unusedVariables false
set_option linter.unusedSimpArgs false
set_option maxRecDepth 20000
namespace Go.Proofs.YtldkidljjbkmbaaGreatDoor
open Go.RowKit Sc
theorem pbsL_len (cs:List PbC):(pbsL cs).length=cs.length:=by simp [pbsL]
theorem pbsCells_len (cs:List PbC):(pbsCells cs).length=cs.length * 7:=by
 induction cs with
 | nil=>rfl
 | cons c cs ih =>
  have e:pbsCells (c :: cs)=pbCells c++pbsCells cs:=rfl;rw [e,List.length_append,ih,pbCells_len,List.length_cons]; omega
theorem pbsCells_at (cs:List PbC) (i:Nat) (u:Value) (h:(pbsCells cs)[i]? = some u):∃ (k:Nat) (hk:k < cs.length) (j:Nat),j < 7∧i=k * 7+j∧(pbCells cs[k])[j]? = some u:=by
 have hi:i < cs.length * 7:=by rw [← pbsCells_len]; exact (List.getElem?_eq_some_iff.1 h).1
 have hk:i / 7 < cs.length:=by omega
 have hj:i % 7 < 7:=by omega
 obtain ⟨v,hv⟩:∃ v,(pbCells cs[i / 7])[i % 7]? = some v:=⟨_,List.getElem?_eq_getElem (l:=pbCells cs[i / 7]) (i:=i % 7) (by rw [pbCells_len]; exact hj)⟩
 have:=pbsCells_get cs (i / 7) hk (i % 7) v hv
 rw [show i / 7 * 7+i % 7=i by omega,h] at this
 injection this with this
 exact ⟨i / 7,hk,i % 7,hj,by omega,by rw [hv,this]⟩
theorem pbs_front {w:World} {ad:Addr} {cs:List PbC} (h:∀ k (hk:k < cs.length),PbAt w ad k cs[k]) (i:Nat) (j:Nat) (u:Value) (hu:(pbsCells (cs.take i))[j]? = some u):w.cell? (ad.add j)=some u:=by
 obtain ⟨k,hk,j',hj',rfl,hcu⟩:=pbsCells_at _ _ _ hu;have hk2:k < cs.length:=by rw [List.length_take] at hk; omega
 rw [List.getElem_take] at hcu;exact h k hk2 j' u hcu
theorem OwnPb.below {w w':World} {B:Nat} {v:Value} {cs:List PbC} (h:OwnPb w B v cs) (hb:Below w.heap.size w w'):OwnPb w' B v cs:=by
 obtain ⟨h1,h2⟩:=h;refine ⟨h1,?_⟩
 rcases h2 with h2 | ⟨g,cap,cur,hv,hg,hh,r⟩
 ·exact Or.inl h2
 ·exact Or.inr ⟨g,cap,cur,hv,hg,by rw [hb.block g (Array.getElem?_eq_some_iff.1 hh).1]; exact hh,r⟩
theorem infoPub:(Tryz.prog.info? 43).map (fun i=>(i.zero,i.size,i.bytes))=some (some (.agg #[.int .i64 0,.string .empty,.string .empty,.int .i64 0,.string .empty,.slice none 0 0,.slice none 0 0]),7,112):=by kernel_rfl
theorem pb_new (W:World) (c:PbC) (g:Nat) (hg:g=W.heap.size):∀ (j:Nat) (u:Value),(pbsCells [c])[j]? = some u → (W.alloc (.cells (pbCells c).toArray 43)).cell? ((⟨g,0,none⟩:Addr).add j)=some u:=by
 intro j u hj;subst hg;have e:(⟨W.heap.size,0,none⟩:Addr).add j=⟨W.heap.size,j,none⟩:=by unfold Addr.add; split <;> simp_all
 rw [e];unfold World.cell?;rw [heap_alloc_new]
 simpa [pbsCells] using hj
theorem seen_t (num:Int):∀ (l:List Tu) (st:List Tu × List Tu),(l.foldl (stepT num) st).2=l.foldl dedC st.2
 | [],st=>rfl
 | t :: l,st=>by
  rw [List.foldl_cons,List.foldl_cons,seen_t num l]
  congr 1
  unfold stepT dedC
  split <;> rfl
def allC (l:List Pb):List Tu:=l.foldl (fun a p=>p.doc.tuples.foldl dedC a) []
theorem all_is (l:List Pb):(foldC l).1.2=allC l:=by
 have:∀ (l:List Pb) (st:(List Tu × List Tu) × List (List UInt8)),(l.foldl pubC st).1.2=l.foldl (fun a p=>p.doc.tuples.foldl dedC a) st.1.2:=by
  intro l
  induction l with
  | nil=>intro st; rfl
  | cons p l ih =>
   intro st;rw [List.foldl_cons,List.foldl_cons,ih]
   congr 1
   unfold pubC;exact seen_t p.num p.doc.tuples st.1
 exact this l _
theorem ded_sub {α:Type} [DecidableEq α]:∀ (l a:List α) (x:α),x ∈ a → x ∈ l.foldl dedC a
 | [],a,x,h=>h
 | s :: l,a,x,h=>by
  rw [List.foldl_cons];refine ded_sub l _ x ?_
  unfold dedC
  split
  ·exact h
  ·exact List.mem_append_left _ h
theorem ded_mem {α:Type} [DecidableEq α]:∀ (l a:List α) (x:α),x ∈ l → x ∈ l.foldl dedC a
 | s :: l,a,x,h=>by
  rw [List.foldl_cons]
  rcases List.mem_cons.1 h with rfl | h
  ·refine ded_sub l _ _ ?_
   unfold dedC
   split
   ·assumption
   ·simp
  ·exact ded_mem l _ x h
theorem all_mem {l:List Pb} {q:Pb} (hq:q ∈ l) {t:Tu} (ht:t ∈ q.doc.tuples):t ∈ allC l:=by
 have keep:∀ (l:List Pb) (a:List Tu),t ∈ a → t ∈ l.foldl (fun a p=>p.doc.tuples.foldl dedC a) a:=by
  intro l
  induction l with
  | nil=>intro a h; exact h
  | cons p l ih=>intro a h; exact ih _ (ded_sub _ _ _ h)
 obtain ⟨a,b,rfl⟩:=List.append_of_mem hq;unfold allC;rw [List.foldl_append,List.foldl_cons];exact keep b _ (ded_mem _ _ _ ht)
def gotN (n:List (List UInt8)) (s:List UInt8):Prop:=s ∈ n∨16≤n.length
theorem gotN.pre {n m:List (List UInt8)} {s:List UInt8} (h:gotN n s) (hp:n <+: m):gotN m s:=by
 rcases h with h | h
 ·exact .inl (hp.subset h)
 ·exact .inr (Nat.le_trans h hp.length_le)
theorem gotN.step (n:List (List UInt8)) (s:List UInt8):gotN (stepN n s) s:=by
 unfold stepN
 split
 ·next h=>exact h
 ·exact .inl (by simp)
theorem notes_got:∀ (l n:List (List UInt8)) (s:List UInt8),s ∈ l → gotN (l.foldl stepN n) s
 | x :: l,n,s,h=>by
  rw [List.foldl_cons]
  rcases List.mem_cons.1 h with rfl | h
  ·exact (gotN.step n s).pre (foldN_pre l _)
  ·exact notes_got l _ s h
theorem notes_all {l:List Pb} {q:Pb} (hq:q ∈ l) {s:List UInt8} (hs:s ∈ q.doc.notes):gotN (foldC l).2 s:=by
 obtain ⟨a,b,rfl⟩:=List.append_of_mem hq;unfold foldC;rw [List.foldl_append,List.foldl_cons];have h1:=notes_got q.doc.notes (a.foldl pubC (([],[]),[])).2 s hs;exact h1.pre (foldP_pre b (pubC (a.foldl pubC (([],[]),[])) q)).2
theorem idle_t {num:Int} {st:List Tu × List Tu}:∀ (l:List Tu),(∀ t ∈ l,t ∈ st.2) → l.foldl (stepT num) st=st
 | [],_=>rfl
 | t :: l,h=>by
  have e:stepT num st t=st:=by unfold stepT; rw [if_pos (h t (.head _))]
  rw [List.foldl_cons,e];exact idle_t l fun x hx=>h x (.tail _ hx)
theorem idle_n {n:List (List UInt8)}:∀ (l:List (List UInt8)),(∀ s ∈ l,gotN n s) → l.foldl stepN n=n
 | [],_=>rfl
 | s :: l,h=>by
  have hg:s ∈ n∨16≤n.length:=h s (.head _);have e:stepN n s=n:=by unfold stepN; rw [if_pos hg]
  rw [List.foldl_cons,e];exact idle_n l fun x hx=>h x (.tail _ hx)
theorem chk_snoc:∀ {l:List Pb} {last:Int} {p:Pb},chkC last l=0 → (∀ q,l.getLast? = some q → q.num < p.num) → (l=[] → last < p.num) → checkD p.doc=0 → chkC last (l++[p])=0
 | [],last,p,_,_,h2,h3=>by
  have:=h2 rfl
  simp only [List.nil_append,chkC];rw [if_neg (by omega),if_neg (by rw [h3]; simp)]
 | q :: l,last,p,h,h1,_,h3=>by
  simp only [List.cons_append,chkC] at h ⊢
  split at h
  ·cases h
  ·next a =>
   rw [if_neg a]
   split at h
   ·next b=>exact absurd h b
   ·next b =>
    rw [if_neg b];refine chk_snoc h (fun x hx=>h1 x ?_) (fun e=>?_) h3
    ·rw [List.getLast?_cons,hx]; rfl
    ·subst e; exact h1 q rfl
theorem again_plain {who:List UInt8} {l:List Pb} {d:Dc} {q p:Pb} (h:compC who l=(d,0)) (hq:q ∈ l) (hd:p.doc=q.doc) (hl:∀ x,l.getLast? = some x → x.num < p.num):compC who (l++[p])=(d,0):=by
 obtain ⟨h1,h2,rfl⟩:=comp_parts h;have hne:l ≠ []:=fun e=>by subst e; simp at hq
 have h3:=chk_snoc (p:=p) h2 hl (fun e=>absurd e hne) (by rw [hd]; exact chk_all h2 q hq);rw [comp_mk h1 h3]
 have e:foldC (l++[p])=foldC l:=by
  have e1:foldC (l++[p])=pubC (foldC l) p:=by unfold foldC; rw [List.foldl_append]; rfl
  rw [e1];unfold pubC;rw [idle_t _ (fun t ht=>by rw [all_is]; exact all_mem hq (by rw [← hd]; exact ht)),idle_n _ (fun s hs=>notes_all hq (by rw [← hd]; exact hs))]
 rw [e]
end Go.Proofs.YtldkidljjbkmbaaGreatDoor
namespace Go.Proofs.YtldkidljjbkmbaaGreatDoor
open Go.RowKit
structure RP (X:Type) where
 W:World
 n:Nat
 base:List (Nat × Value)
 T:List (Nat × Nat × Value)
 D:X → List (Nat × Nat × Value)
 R:X → World → Prop
 c:Nat
 al:Nat
 dal:Nat
 st:Nat
 Ty:TypeId
 zero:List Value
 cells:X → List Value
theorem wp_region_mid2 {P:Program} {ops:Array Oper} {Q:Exit → Act → World → Prop} {id:Nat} {a0:Act} {w:World} (hm:P.follows .mixedOrders=true) (p1 p2:MP) (s m:Nat) (hW:p1.W={ w with drawn:=w.drawn+1 }) (ha:p1.a0=a0) (hsz:a0.tmps.size=p1.n) (hdf:a0.defers=[])
  (hms:m < s) (hsl:s < ops.size) (hlow:lowB .any ops=true) (hlate:∀ L i,i ∈ Region.ready .any ops L → s < i → L.getD s false=true) (hsm:∀ L,s ∈ Region.ready .any ops L → L.getD m false=true) (F:Array Bool → Act → World → Prop)
  (head1:∀ L a u i,L.size=ops.size → L.getD m false=false → i ≠ m → i < s → i ∈ Region.ready .any ops L → MI p1 ops L a u → wpOp P ops Q i (MI p1 ops (L.setIfInBounds i true)) a u)
  (mid:∀ L a u,L.size=ops.size → m ∈ Region.ready .any ops L → MI p1 ops L a u → wpOp P ops Q m (MI p2 ops (L.setIfInBounds m true)) a u)
  (head2:∀ L a u i,L.size=ops.size → L.getD m false=true → i ≠ m → i < s → i ∈ Region.ready .any ops L → MI p2 ops L a u → wpOp P ops Q i (MI p2 ops (L.setIfInBounds i true)) a u)
  (store:∀ L a u,L.size=ops.size → s ∈ Region.ready .any ops L → MI p2 ops L a u → wpOp P ops Q s (F (L.setIfInBounds s true)) a u)
  (tail:∀ L a u i,L.size=ops.size → L.getD s false=true → i ∈ Region.ready .any ops L → F L a u → wpOp P ops Q i (F (L.setIfInBounds i true)) a u)
  (fin:∀ L a u,L.size=ops.size → (∀ j,j < ops.size → L.getD j false=true) → F L a u → Q .normal a u):(Code.region id ops true).wp P Q a0 w:=by
 refine wp_region_inv hm (fun L a u=>(L.getD s false=false∧((L.getD m false=false∧MI p1 ops L a u)∨(L.getD m false=true∧MI p2 ops L a u)))∨(L.getD s false=true∧F L a u)) ?_ ?_ ?_
 ·have gz:∀ j,(Array.replicate ops.size false).getD j false=false:=fun j=>by rw [Array.getD_eq_getD_getElem?,Array.getElem?_replicate]; split <;> rfl
  refine .inl ⟨gz _,.inl ⟨gz _,⟨hsz,hdf,fun s _=>by rw [ha]⟩,by rw [hW]; exact Below.refl _ _,fun i _ hl=>?_,fun i j _ hl=>?_⟩⟩
  ·rw [gz] at hl; cases hl
  ·rw [gz] at hl; cases hl
 ·intro L a u hs hr hI;have hall:=all_listed hlow hs hr
  rcases hI with ⟨h1,_⟩ | ⟨_,h1⟩
  ·rw [hall s hsl] at h1; cases h1
  ·exact fin L a u hs hall h1
 ·intro L a u i hs hi hI;obtain ⟨hn,hlt⟩:=ready_nots hi
  rcases hI with ⟨h1,h3⟩ | ⟨h1,h2⟩
  ·by_cases e:i=s
   ·subst e
    rcases h3 with ⟨h4,_⟩ | ⟨_,h5⟩
    ·rw [hsm L hi] at h4; cases h4
    ·exact wpOp_mono (fun a' w' q=>.inr ⟨getD_set_same (by omega),q⟩) (store L a u hs hi h5)
   ·have his:i < s:=by
     rcases Nat.lt_or_gt_of_ne e with h | h
     ·exact h
     ·rw [hlate L i hi h] at h1; cases h1
    have g1:(L.setIfInBounds i true).getD s false=false:=by rw [getD_set_ne (Ne.symm e)]; exact h1
    rcases h3 with ⟨h4,h5⟩ | ⟨h4,h5⟩
    ·by_cases e2:i=m
     ·subst e2;exact wpOp_mono (fun a' w' q=>.inl ⟨g1,.inr ⟨getD_set_same (by omega),q⟩⟩) (mid L a u hs hi h5)
     ·exact wpOp_mono (fun a' w' q=>.inl ⟨g1,.inl ⟨by rw [getD_set_ne (Ne.symm e2)]; exact h4,q⟩⟩) (head1 L a u i hs h4 e2 his hi h5)
    ·have e2:i ≠ m:=fun e2=>by subst e2; rw [h4] at hn; cases hn
     exact wpOp_mono (fun a' w' q=>.inl ⟨g1,.inr ⟨by rw [getD_set_ne (Ne.symm e2)]; exact h4,q⟩⟩) (head2 L a u i hs h4 e2 his hi h5)
  ·have e:i ≠ s:=fun e=>by subst e; rw [h1] at hn; cases hn
   exact wpOp_mono (fun a' w' q=>.inr ⟨by rw [getD_set_ne (Ne.symm e)]; exact h1,q⟩) (tail L a u i hs h1 hi h2)
end Go.Proofs.YtldkidljjbkmbaaGreatDoor
namespace Go.Proofs.YtldkidljjbkmbaaGreatDoor
open Go.RowKit Sc
theorem step_appPb1 {P:Program} {ops:Array Oper} {o:Oper} {a:Act} {w:World} {K:Act → World → Prop} {Q:Exit → Act → World → Prop} {E:Prop} (hgd:o.guard=none)
  (s x:Operand) (t:TypeId) (ho:o.op=Op.call { callee:=Callee.builtin Builtin.append,args:=#[s,x],argTypes:=#[t,t] }) (B:Nat) (i:TypeInfo)
  (z:Value) (ht:P.underlying t=some (TypeDesc.slice 43)) (hi:P.info? 43=some i) (hz:i.zero=some z) (hsize:i.size=7) (hby:i.bytes=112) (hzs:z.cells.size=7)
  (v:Value) (cs:List PbC) (hs:a.eval s=v) (hown:OwnPb w B v cs) (ad:Addr) (k:Nat) (c:PbC) (hx:a.eval x=Value.slice (some ad) 1 k) (hc:c.ts.oneCell'=true∧c.ns.oneCell'=true)
  (hnews:∀ (j:Nat) (u:Value),(pbCells c)[j]? = some u → w.cell? (ad.add j)=some u)
  (hlen:cs.length≤2000000) (hB:B≤w.heap.size)
  (h:∀ (v':Value) (w':World),OwnPb w' B v' (cs++[c]) → w.grownBy w' v.ownBlock → K (a.put o.dst v') w'):if Region.wanted o (yielded ops a.tmps)=true then Oper.wp P o a w K Q else E:=by
 have hw:Region.wanted o (yielded ops a.tmps)=true:=by simp [Region.wanted,hgd]
 rw [if_pos hw];obtain ⟨v',w',hrun,r1,hgr,_,hat⟩:=run_append_own_at (P:=P) w B t o.type 43 i z 7 112 ht hi hz hsize hby hzs (by decide) v cs.length (pbsCells cs) hown ad 1 k (pbCells c) rfl hnews
  (by intro u hu; simp [pbCells] at hu; rcases hu with rfl | rfl | rfl | rfl | rfl | rfl | rfl <;> first | rfl | exact hc.1 | exact hc.2) (by unfold maxLen; omega) (by omega) hB
 unfold Oper.wp
 simp [execOp,ho,resolve,invoke,builtin,hs,hx,hrun,Result.andThen]
 refine h v' w' ?_ hgr
 have e:pbsCells (cs++[c])=pbsCells cs++pbCells c:=by simp [pbsCells]
 unfold OwnPb;rw [e,List.length_append];exact r1
theorem step_appPb0 {P:Program} {ops:Array Oper} {o:Oper} {a:Act} {w:World} {K:Act → World → Prop} {Q:Exit → Act → World → Prop} {E:Prop} (hgd:o.guard=none)
  (s x:Operand) (t:TypeId) (ho:o.op=Op.call { callee:=Callee.builtin Builtin.append,args:=#[s,x],argTypes:=#[t,t] }) (B:Nat) (i:TypeInfo)
  (z:Value) (ht:P.underlying t=some (TypeDesc.slice 43)) (hi:P.info? 43=some i) (hz:i.zero=some z) (hsize:i.size=7) (hby:i.bytes=112) (hzs:z.cells.size=7)
  (b0:Addr) (hs:a.eval s=.slice (some b0) 0 0) (ad:Addr) (k:Nat) (cs:List PbC) (hx:a.eval x=Value.slice (some ad) cs.length k) (hpos:0 < cs.length)
  (hnews:∀ (j:Nat) (u:Value),(pbsCells cs)[j]? = some u → w.cell? (ad.add j)=some u)
  (hlen:cs.length≤2000000) (hB:B≤w.heap.size)
  (h:∀ (v':Value) (w':World),OwnPb w' B v' cs → Below w.heap.size w w' → K (a.put o.dst v') w'):if Region.wanted o (yielded ops a.tmps)=true then Oper.wp P o a w K Q else E:=by
 have hw:Region.wanted o (yielded ops a.tmps)=true:=by simp [Region.wanted,hgd]
 rw [if_pos hw];have hpl:=pbsCells_len cs;have hr:=run_append_grow (P:=P) w t o.type 43 i z ht hi hz b0 0 0 [] (by simp) (by intro j v hj; simp at hj) ad cs.length k (pbsCells cs) (by rw [hpl,hsize]) hnews (by omega) (by omega) (growslice_fits (by omega) (by rw [hby]; omega));simp only [Nat.zero_add,List.nil_append,Array.empty_append] at hr;have hge:=grownCap_ge w cs.length 0 43;have hcm:grownCap w cs.length 0 43≤maxLen:=grownCap_le_maxLen w cs.length 0 43 (by unfold maxLen; omega);unfold Oper.wp
 simp [execOp,ho,resolve,invoke,builtin,hs,hx,hr,Result.andThen]
 refine h _ _ ⟨hpl,.inr ⟨w.heap.size,_,_,rfl,hB,heap_alloc_new w.drew _,hge,hcm,?_,?_⟩⟩ (((Below.refl _ w).drew).alloc (Nat.le_refl _) _)
 ·simp only [Array.size_append,List.size_toArray,size_zeroCells,hzs,hpl,← Nat.add_mul]
  congr 1
  omega
 ·simp only [Array.toList_append];rw [← hpl];exact List.take_left
structure ag7Ops (ops:Array Oper):Prop where
 sz:ops.size=14
 p0:OpIs ops 0 (some 60) (.move (.tmp 0))
 p1:OpIs ops 1 (some 61) (.buildSlice 22 0 #[])
 p2:OpIs ops 2 (some 62) (.move (.tmp 1))
 p3:OpIs ops 3 (some 63) (.call { callee:=.builtin .append,args:=#[.tmp 61,.tmp 62],argTypes:=#[22,22] })
 p4:OpIs ops 4 (some 64) (.load 43 (.tmp 9))
 p5:OpIs ops 5 (some 65) (.buildSlice 22 1 #[(0,.tmp 64)])
 p6:OpIs ops 6 (some 66) (.call { callee:=.builtin .append,args:=#[.tmp 63,.tmp 65],argTypes:=#[22,22] })
 p7:OpIs ops 7 (some 67) (.call { callee:=.value (.func 11),args:=#[.tmp 60,.tmp 66],argTypes:=#[9,22] })
 p8:OpIs ops 8 (some 59) (.move (.tmp 67))
 p9:OpIs ops 9 (some 68) (.extract (.tmp 59) 0)
 p10:OpIs ops 10 (some 69) (.extract (.tmp 59) 1)
 p11:OpIs ops 11 (some 10) (.alloc 28)
 p12:OpIs ops 12 none (.store 28 (.tmp 10) (.tmp 68))
 p13:OpIs ops 13 (some 11) (.assign (.tmp 69))
 w3_1:Waits ops 3 1
 w3_2:Waits ops 3 2
 w5_4:Waits ops 5 4
 w6_3:Waits ops 6 3
 w6_5:Waits ops 6 5
 w7_0:Waits ops 7 0
 w7_6:Waits ops 7 6
 w8_7:Waits ops 8 7
 w9_8:Waits ops 9 8
 w10_8:Waits ops 10 8
 w12_0:Waits ops 12 0
 w12_1:Waits ops 12 1
 w12_2:Waits ops 12 2
 w12_3:Waits ops 12 3
 w12_4:Waits ops 12 4
 w12_5:Waits ops 12 5
 w12_6:Waits ops 12 6
 w12_7:Waits ops 12 7
 w12_8:Waits ops 12 8
 w12_9:Waits ops 12 9
 w12_11:Waits ops 12 11
 w13_10:Waits ops 13 10
 w13_12:Waits ops 13 12
def ag7D:Nat → Nat
 | 0=>60
 | 1=>61
 | 2=>62
 | 3=>63
 | 4=>64
 | 5=>65
 | 6=>66
 | 7=>67
 | 8=>59
 | 9=>68
 | 10=>69
 | 11=>10
 | _=>2000
def ag7R (who:List UInt8) (oa:Option Addr) (n cap:Nat) (cs:List PbC) (cp:PbC) (d:Dc) (er:Int) (B:Nat):Nat → Value → World → Prop
 | 0=>fun v w=>v=.string ⟨who.toArray⟩
 | 1=>fun v w=>∃ g,v=.slice (some ⟨g,0,none⟩) 0 0
 | 2=>fun v w=>v=.slice oa n cap
 | 3=>fun v w=>OwnPb w B v cs
 | 4=>fun v w=>v=pbV cp
 | 5=>fun v w=>∃ g,v=.slice (some ⟨g,0,none⟩) 1 1∧g < w.heap.size∧∀ (j:Nat) (u:Value),(pbCells cp)[j]? = some u → w.cell? ((⟨g,0,none⟩:Addr).add j)=some u
 | 11=>fun v w=>∃ nb,v=.pointer (some ⟨nb,0,none⟩)∧B≤nb∧RowIs w nb 28 [.string ⟨#[]⟩,.slice none 0 0,.slice none 0 0]
 | _=>fun _ _=>True
def ag7S (who:List UInt8) (oa:Option Addr) (n cap:Nat) (cs:List PbC) (cp:PbC) (d:Dc) (er:Int) (B:Nat):Nat → Value → World → Prop
 | 0=>fun v w=>v=.string ⟨who.toArray⟩
 | 2=>fun v w=>v=.slice oa n cap
 | 4=>fun v w=>v=pbV cp
 | 6=>fun v w=>OwnPb w B v (cs++[cp])
 | 7=>fun v w=>∃ (ta:Option Addr) (tc:Nat) (na:Option Addr) (nc:Nat),v=.tuple #[.agg #[.string ⟨d.entity.toArray⟩,.slice ta d.tuples.length tc,.slice na d.notes.length nc],.int .i64 er]∧DocG 0 w d (.slice ta d.tuples.length tc) (.slice na d.notes.length nc)
 | 8=>fun v w=>∃ (ta:Option Addr) (tc:Nat) (na:Option Addr) (nc:Nat),v=.tuple #[.agg #[.string ⟨d.entity.toArray⟩,.slice ta d.tuples.length tc,.slice na d.notes.length nc],.int .i64 er]∧DocG 0 w d (.slice ta d.tuples.length tc) (.slice na d.notes.length nc)
 | 9=>fun v w=>∃ (ta:Option Addr) (tc:Nat) (na:Option Addr) (nc:Nat),v=.agg #[.string ⟨d.entity.toArray⟩,.slice ta d.tuples.length tc,.slice na d.notes.length nc]∧DocG 0 w d (.slice ta d.tuples.length tc) (.slice na d.notes.length nc)
 | 10=>fun v w=>v=.int .i64 er
 | 11=>fun v w=>∃ nb,v=.pointer (some ⟨nb,0,none⟩)∧B≤nb∧RowIs w nb 28 [.string ⟨#[]⟩,.slice none 0 0,.slice none 0 0]
 | _=>fun _ _=>True
def ag7P (a0:Act) (W:World) (who:List UInt8) (oa:Option Addr) (n cap:Nat) (cs:List PbC) (cp:PbC) (d:Dc) (er:Int) (B:Nat):MP where
 a0:=a0
 lo:=10
 hi:=70
 n:=80
 k:=12
 W:=W
 D:=ag7D
 R:=ag7R who oa n cap cs cp d er B
def ag7Q (a0:Act) (W:World) (who:List UInt8) (oa:Option Addr) (n cap:Nat) (cs:List PbC) (cp:PbC) (d:Dc) (er:Int) (B:Nat):MP where
 a0:=a0
 lo:=10
 hi:=70
 n:=80
 k:=12
 W:=W
 D:=ag7D
 R:=ag7S who oa n cap cs cp d er B
theorem ag7_inj:∀ j,j < 12 → ∀ i,i < 12 → j ≠ i → ag7D j ≠ ag7D i:=by decide +kernel
theorem ag7R_st (who:List UInt8) (oa:Option Addr) (n cap:Nat) (cs:List PbC) (cp:PbC) (d:Dc) (er:Int) (B:Nat) {u u':World} (hb:Below u.heap.size u u'):∀ j v,j < 12 → ag7R who oa n cap cs cp d er B j v u → ag7R who oa n cap cs cp d er B j v u':=by
 intro j v hj h
 rcases (show j=0∨j=1∨j=2∨j=3∨j=4∨j=5∨j=6∨j=7∨j=8∨j=9∨j=10∨j=11 by omega) with rfl | rfl | rfl | rfl | rfl | rfl | rfl | rfl | rfl | rfl | rfl | rfl
 ·exact h
 ·exact h
 ·exact h
 ·exact OwnPb.below h hb
 ·exact h
 ·obtain ⟨g2,h1,h3,h4⟩:=h; exact ⟨g2,h1,Nat.lt_of_lt_of_le h3 hb.size,fun j u hj=>cell_below hb (by rw [add_block]; exact h3) (h4 j u hj)⟩
 ·exact h
 ·exact h
 ·exact h
 ·exact h
 ·exact h
 ·obtain ⟨nb,h1,h2,h3⟩:=h; exact ⟨nb,h1,h2,h3.below hb h3.bl⟩
theorem ag7S_st (who:List UInt8) (oa:Option Addr) (n cap:Nat) (cs:List PbC) (cp:PbC) (d:Dc) (er:Int) (B:Nat) {u u':World} (hb:Below u.heap.size u u'):∀ j v,j < 12 → ag7S who oa n cap cs cp d er B j v u → ag7S who oa n cap cs cp d er B j v u':=by
 intro j v hj h
 rcases (show j=0∨j=1∨j=2∨j=3∨j=4∨j=5∨j=6∨j=7∨j=8∨j=9∨j=10∨j=11 by omega) with rfl | rfl | rfl | rfl | rfl | rfl | rfl | rfl | rfl | rfl | rfl | rfl
 ·exact h
 ·exact h
 ·exact h
 ·exact h
 ·exact h
 ·exact h
 ·exact OwnPb.below h hb
 ·obtain ⟨ta,tc,na,nc,h1,h2⟩:=h; exact ⟨ta,tc,na,nc,h1,h2.below hb⟩
 ·obtain ⟨ta,tc,na,nc,h1,h2⟩:=h; exact ⟨ta,tc,na,nc,h1,h2.below hb⟩
 ·obtain ⟨ta,tc,na,nc,h1,h2⟩:=h; exact ⟨ta,tc,na,nc,h1,h2.below hb⟩
 ·exact h
 ·obtain ⟨nb,h1,h2,h3⟩:=h; exact ⟨nb,h1,h2,h3.below hb h3.bl⟩
set_option maxHeartbeats 4000000 in
set_option maxRecDepth 100000 in
theorem ag7_head1 {ops:Array Oper} (S:ag7Ops ops) (a0:Act) (W:World) (who:List UInt8) (oa:Option Addr) (n cap:Nat) (cs:List PbC) (cp:PbC) (d:Dc) (er:Int) (B:Nat) (gp:Nat)
  (B0:a0.eval (.tmp 0)=.string ⟨who.toArray⟩) (B1:a0.eval (.tmp 1)=.slice oa n cap) (B9:a0.eval (.tmp 9)=.pointer (some ⟨gp,0,none⟩)) (hB:B=W.heap.size)
  (HP:∀ u,Below W.heap.size W u → RowIs u gp 43 (pbCells cp)) (HV:∀ u,Below W.heap.size W u → PbsAt u (.slice oa n cap) cs) (hn:n=cs.length) (hpos:0 < n) (hlen:n≤1999999) (hc1:cp.ts.oneCell'=true∧cp.ns.oneCell'=true)
  (KC:∀ u v,Below W.heap.size W u → OwnPb u B v (cs++[cp]) → Calls Tryz.prog 11 #[.string ⟨who.toArray⟩,v] u fun e w'=>∃ vt vn,e=.returned (.tuple #[docV d vt vn,.int .i64 er])∧DocG u.heap.size w' d vt vn∧Below u.heap.size u w')
  (Q:Exit → Act → World → Prop) (L:Array Bool) (a:Act) (w:World) (i:Nat) (hsz:L.size=ops.size) (hm:L.getD 6 false=false) (hne:i ≠ 6) (hik:i < 12) (hi:i ∈ Region.ready .any ops L) (hI:MI (ag7P a0 W who oa n cap cs cp d er B) ops L a w) :
  wpOp Tryz.prog ops Q i (MI (ag7P a0 W who oa n cap cs cp d er B) ops (L.setIfInBounds i true)) a w:=by
 have evc:∀ v,a.eval (.const v)=v:=fun _=>rfl;have hnot:=(ready_nots hi).1;have b0:=(hI.o.out 0 (.inl (by simp [ag7P]))).trans B0;have b1:=(hI.o.out 1 (.inl (by simp [ag7P]))).trans B1;have b9:=(hI.o.out 9 (.inl (by simp [ag7P]))).trans B9;have hP:=HP w hI.bel;have hV:=HV w hI.bel;have hBw:B≤w.heap.size:=by rw [hB]; exact hI.bel.size
 have put:∀ (i d':Nat) (hi:i ∈ Region.ready .any ops L) (hk:i < 12) (hd:ag7D i=d') (h1:10≤d') (h2:d' < 70) (v:Value) (w':World) (hb:Below w.heap.size w w') (hR:ag7R who oa n cap cs cp d er B i v w'),MI (ag7P a0 W who oa n cap cs cp d er B) ops (L.setIfInBounds i true) (a.put (some d') v) w':=fun i d' hi hk hd h1 h2 v w' hb hR =>
  hI.put hsz i hi d' hd (fun j hj hji=>by subst hd; exact ag7_inj j hj i hk hji) h1 h2 (by simp [ag7P]) (fun j v hj h=>ag7R_st who oa n cap cs cp d er B hb j v hj h) v hb hR
 rcases (show i=0∨i=1∨i=2∨i=3∨i=4∨i=5∨i=6∨i=7∨i=8∨i=9∨i=10∨i=11 by omega) with rfl | rfl | rfl | rfl | rfl | rfl | rfl | rfl | rfl | rfl | rfl | rfl
 ·refine S.p0.val (v:=.string ⟨who.toArray⟩) (w':=w) (fun o ho=>?_) (put 0 60 hi (by decide) rfl (by decide) (by decide) _ _ (Below.refl _ _) rfl)
  simp only [execOp,ho,b0];clear hI S hi hsz put evc HP HV KC hP hV;go_simp
 ·refine S.p1.val (v:=.slice (some ⟨w.heap.size,0,none⟩) 0 0) (w':=w.alloc (.cells #[] 43)) (fun o ho=>?_) (put 1 61 hi (by decide) rfl (by decide) (by decide) _ _ ((Below.refl _ w).alloc (Nat.le_refl _) _) ⟨_,rfl⟩)
  simp only [execOp,ho];clear hI S hi hsz put evc HP HV KC hP hV;go_simp
 ·refine S.p2.val (v:=.slice oa n cap) (w':=w) (fun o ho=>?_) (put 2 62 hi (by decide) rfl (by decide) (by decide) _ _ (Below.refl _ _) rfl)
  simp only [execOp,ho,b1];clear hI S hi hsz put evc HP HV KC hP hV;go_simp
 ·have q1:=hI.val 1 (by simp [ag7P]) (S.w3_1.on hi);simp only [ag7P,ag7R,ag7D] at q1;have q2:=hI.val 2 (by simp [ag7P]) (S.w3_2.on hi);simp only [ag7P,ag7R,ag7D] at q2;obtain ⟨g1,q1⟩:=q1;obtain ⟨ao,cp',e,_,hat⟩:=hV
  injection e with e1 e2 e3
  obtain ⟨ad,had,_,_⟩:=hat 0 (by omega);subst e1 e3;subst had;obtain ⟨i1,hj,hy0,hy1,hy2⟩:=info_parts infoPub;obtain ⟨o,ho1,hg,hd,hop⟩:=S.p3;refine wpOp_of (E:=True) ho1 (step_appPb0 hg (.tmp 61) (.tmp 62) 22 hop B i1 _ Tryz.underlying22 hj hy0 hy1 hy2 rfl ⟨g1,0,none⟩ q1 ad cap cs (by rw [q2,hn]) (by omega) (fun j u hu=>?_) (by omega) hBw ?_) hg
  ·refine pbs_front (cs:=cs) (fun k hk=>?_) cs.length j u (by rw [List.take_length]; exact hu)
   obtain ⟨ad',h1,_,h3⟩:=hat k hk
   injection h1 with h1
   subst h1;exact h3
  ·intro v' w' hown' hb;rw [hd];exact put 3 63 hi (by decide) rfl (by decide) (by decide) _ _ hb hown'
 ·obtain ⟨s0,s1,s2,s3,s4,s5,s6,-,-,-,-,-,-,-⟩:=RowIs.rp7 (show RowIs w gp 43 [.int .i64 cp.p.num,.string ⟨cp.p.who.toArray⟩,.string ⟨cp.p.tag.toArray⟩,.int .i64 cp.p.til,.string ⟨cp.p.doc.entity.toArray⟩,cp.ts,cp.ns] from hP);refine S.p4.val (v:=pbV cp) (w':=w) (fun o ho=>?_) (put 4 64 hi (by decide) rfl (by decide) (by decide) _ _ (Below.refl _ _) rfl)
  simp only [execOp,ho,b9,pbV];clear hI S hi hsz put evc HP HV KC hP hV;go_simp
 ·have q4:=hI.val 4 (by simp [ag7P]) (S.w5_4.on hi);simp only [ag7P,ag7R,ag7D] at q4;refine S.p5.val (v:=.slice (some ⟨w.heap.size,0,none⟩) 1 1) (w':=w.alloc (.cells (pbCells cp).toArray 43)) (fun o ho=>?_) (put 5 65 hi (by decide) rfl (by decide) (by decide) _ _ ((Below.refl _ w).alloc (Nat.le_refl _) _) ⟨_,rfl,by simp,fun j u hj=>pb_new w cp _ rfl j u (by simpa [pbsCells] using hj)⟩)
  simp only [execOp,ho];have em:Array.map (fun x:Nat × Operand=>(x.fst,a.eval x.snd)) #[(0,Operand.tmp 64)]=#[(0,pbV cp)]:=by simp only [List.map_toArray,List.map_cons,List.map_nil,q4]
  rw [em];unfold pbV pbCells;clear hI S hi hsz put evc HP HV KC hP hV;go_simp
 ·exact absurd rfl hne
 ·have h6:=S.w7_6.on hi;rw [hm] at h6; cases h6
 ·have h6:=hI.dn 7 6 S.w7_6 (S.w8_7.on hi);rw [hm] at h6; cases h6
 ·have h6:=hI.dn 7 6 S.w7_6 (hI.dn 8 7 S.w8_7 (S.w9_8.on hi));rw [hm] at h6; cases h6
 ·have h6:=hI.dn 7 6 S.w7_6 (hI.dn 8 7 S.w8_7 (S.w10_8.on hi));rw [hm] at h6; cases h6
 ·refine S.p11.val (v:=.pointer (some ⟨w.heap.size,0,none⟩)) (w':=w.alloc (.cells #[.string ⟨#[]⟩,.slice none 0 0,.slice none 0 0] 28)) (fun o ho=>?_) (put 11 10 hi (by decide) rfl (by decide) (by decide) _ _ ((Below.refl _ w).alloc (Nat.le_refl _) _) ⟨_,rfl,hBw,rc_row3 w _ _ _ _⟩)
  simp only [execOp,ho];clear hI S hi hsz put evc HP HV KC hP hV;go_simp
set_option maxHeartbeats 4000000 in
set_option maxRecDepth 100000 in
theorem ag7_head2 {ops:Array Oper} (S:ag7Ops ops) (a0:Act) (W:World) (who:List UInt8) (oa:Option Addr) (n cap:Nat) (cs:List PbC) (cp:PbC) (d:Dc) (er:Int) (B:Nat) (gp:Nat)
  (B0:a0.eval (.tmp 0)=.string ⟨who.toArray⟩) (B1:a0.eval (.tmp 1)=.slice oa n cap) (B9:a0.eval (.tmp 9)=.pointer (some ⟨gp,0,none⟩)) (hB:B=W.heap.size)
  (HP:∀ u,Below W.heap.size W u → RowIs u gp 43 (pbCells cp)) (HV:∀ u,Below W.heap.size W u → PbsAt u (.slice oa n cap) cs) (hn:n=cs.length) (hpos:0 < n) (hlen:n≤1999999) (hc1:cp.ts.oneCell'=true∧cp.ns.oneCell'=true)
  (KC:∀ u v,Below W.heap.size W u → OwnPb u B v (cs++[cp]) → Calls Tryz.prog 11 #[.string ⟨who.toArray⟩,v] u fun e w'=>∃ vt vn,e=.returned (.tuple #[docV d vt vn,.int .i64 er])∧DocG u.heap.size w' d vt vn∧Below u.heap.size u w')
  (Q:Exit → Act → World → Prop) (L:Array Bool) (a:Act) (w:World) (i:Nat) (hsz:L.size=ops.size) (hm:L.getD 6 false=true) (hne:i ≠ 6) (hik:i < 12) (hi:i ∈ Region.ready .any ops L) (hI:MI (ag7Q a0 W who oa n cap cs cp d er B) ops L a w) :
  wpOp Tryz.prog ops Q i (MI (ag7Q a0 W who oa n cap cs cp d er B) ops (L.setIfInBounds i true)) a w:=by
 have evc:∀ v,a.eval (.const v)=v:=fun _=>rfl;have hnot:=(ready_nots hi).1;have b0:=(hI.o.out 0 (.inl (by simp [ag7Q]))).trans B0;have b1:=(hI.o.out 1 (.inl (by simp [ag7Q]))).trans B1;have b9:=(hI.o.out 9 (.inl (by simp [ag7Q]))).trans B9;have hP:=HP w hI.bel;have hV:=HV w hI.bel;have hBw:B≤w.heap.size:=by rw [hB]; exact hI.bel.size
 have put:∀ (i d':Nat) (hi:i ∈ Region.ready .any ops L) (hk:i < 12) (hd:ag7D i=d') (h1:10≤d') (h2:d' < 70) (v:Value) (w':World) (hb:Below w.heap.size w w') (hR:ag7S who oa n cap cs cp d er B i v w'),MI (ag7Q a0 W who oa n cap cs cp d er B) ops (L.setIfInBounds i true) (a.put (some d') v) w':=fun i d' hi hk hd h1 h2 v w' hb hR =>
  hI.put hsz i hi d' hd (fun j hj hji=>by subst hd; exact ag7_inj j hj i hk hji) h1 h2 (by simp [ag7Q]) (fun j v hj h=>ag7S_st who oa n cap cs cp d er B hb j v hj h) v hb hR
 rcases (show i=0∨i=1∨i=2∨i=3∨i=4∨i=5∨i=6∨i=7∨i=8∨i=9∨i=10∨i=11 by omega) with rfl | rfl | rfl | rfl | rfl | rfl | rfl | rfl | rfl | rfl | rfl | rfl
 ·refine S.p0.val (v:=.string ⟨who.toArray⟩) (w':=w) (fun o ho=>?_) (put 0 60 hi (by decide) rfl (by decide) (by decide) _ _ (Below.refl _ _) rfl)
  simp only [execOp,ho,b0];clear hI S hi hsz put evc HP HV KC hP hV;go_simp
 ·have h6:=hI.dn 3 1 S.w3_1 (hI.dn 6 3 S.w6_3 hm);rw [hnot] at h6; cases h6
 ·have h6:=hI.dn 3 2 S.w3_2 (hI.dn 6 3 S.w6_3 hm);rw [hnot] at h6; cases h6
 ·have h6:=hI.dn 6 3 S.w6_3 hm;rw [hnot] at h6; cases h6
 ·have h6:=hI.dn 5 4 S.w5_4 (hI.dn 6 5 S.w6_5 hm);rw [hnot] at h6; cases h6
 ·have h6:=hI.dn 6 5 S.w6_5 hm;rw [hnot] at h6; cases h6
 ·exact absurd rfl hne
 ·have q0:=hI.val 0 (by simp [ag7Q]) (S.w7_0.on hi);simp only [ag7Q,ag7S,ag7D] at q0;have q6:=hI.val 6 (by simp [ag7Q]) (S.w7_6.on hi);simp only [ag7Q,ag7S,ag7D] at q6;refine S.p7.enter (vals:=#[.string ⟨who.toArray⟩,a.eval (.tmp 66)]) (by simp only [List.map_toArray,List.map_cons,List.map_nil,q0]) (fun xs u=>by kernel_rfl) ?_
  refine (KC w _ hI.bel q6).mono ?_
  rintro e w' ⟨vt,vn,rfl,hG,hb⟩;obtain ⟨ta,tc,na,nc,rfl,rfl⟩:=hG.forms;exact ⟨_,rfl,put 7 67 hi (by decide) rfl (by decide) (by decide) _ _ hb ⟨ta,tc,na,nc,rfl,⟨own_lower hG.t (Nat.zero_le _),own_lower hG.n (Nat.zero_le _)⟩⟩⟩
 ·have q7:=hI.val 7 (by simp [ag7Q]) (S.w8_7.on hi);simp only [ag7Q,ag7S,ag7D] at q7;obtain ⟨ta,tc,na,nc,q7,qG⟩:=q7;refine S.p8.val (v:=.tuple #[.agg #[.string ⟨d.entity.toArray⟩,.slice ta d.tuples.length tc,.slice na d.notes.length nc],.int .i64 er]) (w':=w) (fun o ho=>?_) (put 8 59 hi (by decide) rfl (by decide) (by decide) _ _ (Below.refl _ _) ⟨ta,tc,na,nc,rfl,qG⟩)
  simp only [execOp,ho,q7];clear hI S hi hsz put evc HP HV KC hP hV;go_simp
 ·have q8:=hI.val 8 (by simp [ag7Q]) (S.w9_8.on hi);simp only [ag7Q,ag7S,ag7D] at q8;obtain ⟨ta,tc,na,nc,q8,qG⟩:=q8;refine S.p9.val (v:=.agg #[.string ⟨d.entity.toArray⟩,.slice ta d.tuples.length tc,.slice na d.notes.length nc]) (w':=w) (fun o ho=>?_) (put 9 68 hi (by decide) rfl (by decide) (by decide) _ _ (Below.refl _ _) ⟨ta,tc,na,nc,rfl,qG⟩)
  simp only [execOp,ho,q8];clear hI S hi hsz put evc HP HV KC hP hV;go_simp
 ·have q8:=hI.val 8 (by simp [ag7Q]) (S.w10_8.on hi);simp only [ag7Q,ag7S,ag7D] at q8;obtain ⟨ta,tc,na,nc,q8,qG⟩:=q8;refine S.p10.val (v:=.int .i64 er) (w':=w) (fun o ho=>?_) (put 10 69 hi (by decide) rfl (by decide) (by decide) _ _ (Below.refl _ _) rfl)
  simp only [execOp,ho,q8];clear hI S hi hsz put evc HP HV KC hP hV;go_simp
 ·refine S.p11.val (v:=.pointer (some ⟨w.heap.size,0,none⟩)) (w':=w.alloc (.cells #[.string ⟨#[]⟩,.slice none 0 0,.slice none 0 0] 28)) (fun o ho=>?_) (put 11 10 hi (by decide) rfl (by decide) (by decide) _ _ ((Below.refl _ w).alloc (Nat.le_refl _) _) ⟨_,rfl,hBw,rc_row3 w _ _ _ _⟩)
  simp only [execOp,ho];clear hI S hi hsz put evc HP HV KC hP hV;go_simp
theorem own_neC {w:World} {B b s n:Nat} {e1 e2:TypeId} {v:Value} {xs l:List Value} (h1:w.ownsRow B e1 s v n xs) (h2:RowIs w b e2 l) (hne:e1 ≠ e2):v.ownBlock=none∨v.ownBlock ≠ some b:=by
 rcases h1.2 with ⟨rfl,_⟩ | ⟨g,cap,cur,rfl,_,hg,_⟩
 ·exact .inl rfl
 ·right
  intro e;have e:g=b:=by simpa [Value.ownBlock] using e
  subst e;unfold RowIs at h2;rw [hg] at h2
  injection h2 with h2
  injection h2 with _ h2
  exact hne h2
theorem DocG.put {B nb j:Nat} {w:World} {d:Dc} {vt vn v:Value} {l:List Value} (h:DocG B w d vt vn) (hr:RowIs w nb 28 l):DocG B (w.setCell ⟨nb,j,none⟩ v) d vt vn :=
 ⟨World.ownsRow.kept h.t (put_grown w nb j v) (own_neC h.t hr (by decide)),World.ownsRow.kept h.n (put_grown w nb j v) (own_neC h.n hr (by decide))⟩
theorem cons_len {α:Type} {us:List α} {n:Nat} (h:us.length=n+1):∃ u r,us=u :: r∧r.length=n:=by
 cases us with
 | nil=>simp at h
 | cons u r=>exact ⟨u,r,rfl,by simpa using h⟩
end Go.Proofs.YtldkidljjbkmbaaGreatDoor
