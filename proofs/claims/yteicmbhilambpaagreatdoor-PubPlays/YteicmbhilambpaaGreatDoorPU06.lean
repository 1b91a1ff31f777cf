/-
  PubL, PubO, PubQ, PsT, PsM, PubS, PsP, PShelf, PtG, PubY, PtP, PtR, PtM, PtN, PtO.
-/
import Derived.Test.YteicmbhilambpaaGreatDoorPU27
import Derived.BigRegion
import Derived.Shelf.SlSortCmp.NoneTotal
import Derived.Maps.RangeWalk
set_option linter.unusedVariables false
set_option linter.unusedSimpArgs false
set_option maxRecDepth 20000
namespace Go.Proofs.YteicmbhilambpaaGreatDoor
open Go.RowKit Sc
def liveS (l:List Pb) (who:List UInt8):List Pb:=l.filter fun p=>p.who==who
def pbCells (c:PbC):List Value:=[.int .i64 c.p.num,.string ⟨c.p.who.toArray⟩,.string ⟨c.p.tag.toArray⟩,.int .i64 c.p.til,.string ⟨c.p.doc.entity.toArray⟩,c.ts,c.ns]
def pbsCells (cs:List PbC):List Value:=cs.flatMap pbCells
theorem pbCells_len (c:PbC):(pbCells c).length=7:=rfl
theorem pbsCells_len (cs:List PbC):(pbsCells cs).length=cs.length * 7:=by
 induction cs with
 | nil=>rfl
 | cons c cs ih =>
  have e:pbsCells (c :: cs)=pbCells c++pbsCells cs:=rfl;rw [e,List.length_append,ih,pbCells_len,List.length_cons]; omega
theorem pbsCells_app (a b:List PbC):pbsCells (a++b)=pbsCells a++pbsCells b:=by simp [pbsCells]
theorem pbsCells_get (cs:List PbC) (k:Nat) (hk:k < cs.length) (j:Nat) (u:Value) (h:(pbCells cs[k])[j]? = some u):(pbsCells cs)[k * 7+j]? = some u:=by
 induction cs generalizing k with
 | nil=>simp at hk
 | cons c cs ih =>
  have e:pbsCells (c :: cs)=pbCells c++pbsCells cs:=rfl
  cases k with
  | zero =>
   have hj:j < 7:=by have:=(List.getElem?_eq_some_iff.1 h).1; simpa [pbCells] using this
   rw [e,List.getElem?_append_left (by rw [pbCells_len]; omega),Nat.zero_mul,Nat.zero_add];exact h
  | succ k =>
   have:=ih k (by simpa using hk) (by simpa using h)
   rw [e,List.getElem?_append_right (by rw [pbCells_len]; omega),pbCells_len,show (k+1) * 7+j - 7=k * 7+j by omega];exact this
def OwnPb (w:World) (B:Nat) (v:Value) (cs:List PbC):Prop:=w.ownsRow B 62 7 v cs.length (pbsCells cs)
theorem OwnPb.nil (w:World) (B:Nat):OwnPb w B (.slice none 0 0) []:=World.ownsRow_nil _ _ _ _
theorem OwnPb.below {w w':World} {B:Nat} {v:Value} {cs:List PbC} (h:OwnPb w B v cs) (hb:Below w.heap.size w w'):OwnPb w' B v cs:=by
 obtain ⟨h1,h2⟩:=h;refine ⟨h1,?_⟩
 rcases h2 with h2 | ⟨g,cap,cur,hv,hg,hh,r⟩
 ·exact Or.inl h2
 ·exact Or.inr ⟨g,cap,cur,hv,hg,by rw [hb.block g (Array.getElem?_eq_some_iff.1 hh).1]; exact hh,r⟩
theorem OwnPb.alloc {w:World} {B:Nat} {v:Value} {cs:List PbC} (h:OwnPb w B v cs) (o:Obj):OwnPb (w.alloc o) B v cs:=World.ownsRow.alloc h o
theorem OwnPb.form {w:World} {B:Nat} {v:Value} {cs:List PbC} (h:OwnPb w B v cs):∃ a cap,v=.slice a cs.length cap:=by
 rcases h.2 with ⟨rfl,hn⟩ | ⟨g,cap,cur,rfl,_⟩
 ·exact ⟨none,0,by rw [hn]⟩
 ·exact ⟨_,cap,rfl⟩
theorem infoPub:(Tryz.prog.info? 62).map (fun i=>(i.zero,i.size,i.bytes))=some (some (.agg #[.int .i64 0,.string .empty,.string .empty,.int .i64 0,.string .empty,.slice none 0 0,.slice none 0 0]),7,112):=by kernel_rfl
theorem pb_new (W:World) (c:PbC) (g:Nat) (hg:g=W.heap.size):∀ (j:Nat) (u:Value),(pbsCells [c])[j]? = some u → (W.alloc (.cells (pbCells c).toArray 62)).cell? ((⟨g,0,none⟩:Addr).add j)=some u:=by
 intro j u hj;subst hg;have e:(⟨W.heap.size,0,none⟩:Addr).add j=⟨W.heap.size,j,none⟩:=by unfold Addr.add; split <;> simp_all
 rw [e];unfold World.cell?;rw [heap_alloc_new]
 simpa [pbsCells] using hj
theorem pb_new1 (W:World) (c:PbC):∀ (j:Nat) (u:Value),(pbsCells [c])[j]? = some u → (W.alloc (.cells (pbCells c).toArray 62)).cell? ((⟨W.heap.size,0,none⟩:Addr).add j)=some u:=pb_new W c _ rfl
theorem tusCells_get (ts:List Tu) (k:Nat) (hk:k < ts.length) (j:Nat) (u:Value) (h:(tuCells ts[k])[j]? = some u):(tusCells ts)[k * 5+j]? = some u:=by
 induction ts generalizing k with
 | nil=>simp at hk
 | cons t ts ih =>
  have e:tusCells (t :: ts)=tuCells t++tusCells ts:=rfl;have el:(tuCells t).length=5:=rfl
  cases k with
  | zero =>
   have hj:j < 5:=by have:=(List.getElem?_eq_some_iff.1 h).1; simpa [tuCells] using this
   rw [e,List.getElem?_append_left (by rw [el]; omega),Nat.zero_mul,Nat.zero_add];exact h
  | succ k =>
   have:=ih k (by simpa using hk) (by simpa using h)
   rw [e,List.getElem?_append_right (by rw [el]; omega),el,show (k+1) * 5+j - 5=k * 5+j by omega];exact this
theorem OwnU.tusAt {w:World} {B:Nat} {v:Value} {ts:List Tu} (h:OwnU w B v ts):TusAt w v ts:=by
 have h0:=h
 rcases h.2 with ⟨rfl,hn⟩ | ⟨g,cap,cur,rfl,hb,hg,r⟩
 ·exact ⟨none,0,by rw [hn],fun k hk=>by omega⟩
 ·refine ⟨some ⟨g,0,none⟩,cap,rfl,fun k hk=>⟨_,rfl,(Array.getElem?_eq_some_iff.1 hg).1,?_⟩⟩
  have e:∀ j,(⟨g,0,none⟩:Addr).add j=⟨g,j,none⟩:=fun j=>by unfold Addr.add; split <;> simp_all
  have c:∀ j u,(tuCells ts[k])[j]? = some u → w.cell? ⟨g,k * 5+j,none⟩=some u:=fun j u hj=>by
   have:=World.ownsRow.cells h0 (g:=g) rfl (k * 5+j) _ (tusCells_get ts k hk j u hj)
   rw [e] at this; exact this
  refine ⟨?_,?_,?_,?_,?_⟩
  ·rw [e]; exact c 0 _ rfl
  ·rw [e]; exact c 1 _ rfl
  ·rw [e]; exact c 2 _ rfl
  ·rw [e]; exact c 3 _ rfl
  ·rw [e]; exact c 4 _ rfl
end Go.Proofs.YteicmbhilambpaaGreatDoor
namespace Go.Proofs.YteicmbhilambpaaGreatDoor
open Go.RowKit Go.Maps Go.WideMaps Sc
theorem pbE_some {v:Value} {y:DataW Unit × List MemPlace} (h:pbE v=some y):∃ (n t:Int) (a b e:ByteArray) (x z:Option Addr) (xn xc zn zc:Nat),v=.agg #[.int .i64 n,.string a,.string b,.int .i64 t,.string e,.slice x xn xc,.slice z zn zc]:=by
 unfold pbE at h
 split at h
 ·rename_i cs
  split at h
  ·rename_i n a b t e x xn xc y yn yc hcs
   exact ⟨n,t,a,b,e,x,y,xn,xc,yn,yc,by rw [← hcs]⟩
  ·cases h
 ·cases h
end Go.Proofs.YteicmbhilambpaaGreatDoor
namespace Go.Proofs.YteicmbhilambpaaGreatDoor
open Go.RowKit Sc
theorem ow_rows_ne {w:World} {B1 B2 e1 e2 s1 s2 n1 n2:Nat} {v1 v2:Value} {x1 x2:List Value} (h1:w.ownsRow B1 e1 s1 v1 n1 x1) (h2:w.ownsRow B2 e2 s2 v2 n2 x2) (hne:e2 ≠ e1):v2.ownBlock=none∨v2.ownBlock ≠ v1.ownBlock:=by
 rcases h2.2 with ⟨rfl,_⟩ | ⟨g2,c2,u2,rfl,_,hg2,_⟩
 ·exact Or.inl rfl
 ·right
  rcases h1.2 with ⟨rfl,_⟩ | ⟨g1,c1,u1,rfl,_,hg1,_⟩
  ·simp [Value.ownBlock]
  ·simp only [Value.ownBlock];intro e
   injection e with e
   rw [e,hg1] at hg2
   injection hg2 with hg2
   injection hg2 with _ hg2
   exact hne hg2.symm
theorem wp_appPg {P:Program} (w:World) {ops:Array Oper} {rest:List Oper} {o:Oper} {a:Act} {Q:Exit → Act → World → Prop} (hgd:o.guard=none)
  (s x:Operand) (t:TypeId) (ho:o.op=Op.call { callee:=Callee.builtin Builtin.append,args:=#[s,x],argTypes:=#[t,t] }) (B:Nat) (i:TypeInfo)
  (z:Value) (ht:P.underlying t=some (TypeDesc.slice 62)) (hi:P.info? 62=some i) (hz:i.zero=some z) (hsize:i.size=7) (hby:i.bytes=112) (hzs:z.cells.size=7)
  (v:Value) (cs:List PbC) (hs:a.eval s=v) (hown:OwnPb w B v cs) (ad:Addr) (k:Nat) (c:List PbC) (n:Nat) (hn:n=c.length) (hc:∀ d ∈ c,d.ts.oneCell'=true∧d.ns.oneCell'=true) (hx:a.eval x=Value.slice (some ad) n k)
  (hnews:∀ (j:Nat) (u:Value),(pbsCells c)[j]? = some u → w.cell? (ad.add j)=some u)
  (hlen:cs.length≤100000) (hlen2:c.length≤100000) (hB:B≤w.heap.size)
  (h:∀ (v':Value) (w':World),OwnPb w' B v' (cs++c) → w.grownBy w' v.ownBlock → wpList P ops Q rest (a.put o.dst v') w'):wpList P ops Q (o :: rest) a w:=by
 subst hn
 refine wpList_append_own w hgd s x t ho B 62 i z 7 112 ht hi hz hsize hby hzs (by decide) v cs.length (pbsCells cs) hs hown ad c.length k (pbsCells c) hx (pbsCells_len c) hnews
  (by
   intro u hu;unfold pbsCells at hu;obtain ⟨d,hd,hu⟩:=List.mem_flatMap.1 hu
   simp [pbCells] at hu
   rcases hu with rfl | rfl | rfl | rfl | rfl | rfl | rfl <;> first | rfl | exact (hc d hd).1 | exact (hc d hd).2) (by unfold maxLen; omega) (by omega) hB ?_
 intro v' w' hown' hgr _;refine h v' w' ?_ hgr
 unfold OwnPb;rw [pbsCells_app,List.length_append];exact hown'
theorem strNe:9 ≠ 62:=by decide
end Go.Proofs.YteicmbhilambpaaGreatDoor
namespace Go.Proofs.YteicmbhilambpaaGreatDoor
open Go.RowKit Go.Maps Go.WideMaps Sc
theorem rp_own7 {w:World} {B e s m b:Nat} {v:Value} {xs:List Value} (h:w.ownsRow B e s v m xs) (hb:b < B) (v0 v1 v2 v3 v4 v5 v6:Value):(((((((w.setCell ⟨b,0,none⟩ v0).setCell ⟨b,1,none⟩ v1).setCell ⟨b,2,none⟩ v2).setCell ⟨b,3,none⟩ v3).setCell ⟨b,4,none⟩ v4).setCell ⟨b,5,none⟩ v5).setCell ⟨b,6,none⟩ v6).ownsRow B e s v m xs:=(ownsRow_setCell_below (a:=⟨b,6,none⟩) (ownsRow_setCell_below (a:=⟨b,5,none⟩) (ownsRow_setCell_below (a:=⟨b,4,none⟩) (ownsRow_setCell_below (a:=⟨b,3,none⟩) (ownsRow_setCell_below (a:=⟨b,2,none⟩) (ownsRow_setCell_below (a:=⟨b,1,none⟩) (ownsRow_setCell_below (a:=⟨b,0,none⟩) h hb _) hb _) hb _) hb _) hb _) hb _) hb _)
structure CP (w u:World) (c:PbC):Prop where
 s:RowIs u w.heap.size 62 (pbCells c)
 r:RowIs u (w.heap.size+1) 62 [.int .i64 0,.string ⟨#[]⟩,.string ⟨#[]⟩,.int .i64 0,.string ⟨#[]⟩,.slice none 0 0,.slice none 0 0]
 b:Below w.heap.size w u
theorem CP.step {w u u':World} {c:PbC} (h:CP w u c) (hb:Below u.heap.size u u'):CP w u' c :=
 ⟨h.s.below hb h.s.bl,h.r.below hb h.r.bl,h.b.trans (hb.mono h.b.size)⟩
theorem CP.set1 {w u:World} {c:PbC} (h:CP w u c):CP w (u.setCell ⟨w.heap.size,1,none⟩ (.string ⟨c.p.who.toArray⟩)) c :=
 ⟨by have:=h.s.set 1 (.string ⟨c.p.who.toArray⟩); simpa [pbCells] using this,row_other h.r (by omega) _ _,h.b.setCell (Nat.le_refl _) _⟩
theorem CP.set2 {w u:World} {c:PbC} (h:CP w u c):CP w (u.setCell ⟨w.heap.size,2,none⟩ (.string ⟨c.p.tag.toArray⟩)) c :=
 ⟨by have:=h.s.set 2 (.string ⟨c.p.tag.toArray⟩); simpa [pbCells] using this,row_other h.r (by omega) _ _,h.b.setCell (Nat.le_refl _) _⟩
theorem CP.set4 {w u:World} {c:PbC} (h:CP w u c) (ts ns:Value):CP w (((u.setCell ⟨w.heap.size,4,none⟩ (.string ⟨c.p.doc.entity.toArray⟩)).setCell ⟨w.heap.size,5,none⟩ ts).setCell ⟨w.heap.size,6,none⟩ ns) ⟨c.p,ts,ns⟩ :=
 ⟨by have:=((h.s.set 4 (.string ⟨c.p.doc.entity.toArray⟩)).set 5 ts).set 6 ns; simpa [pbCells] using this,row_other (row_other (row_other h.r (by omega) _ _) (by omega) _ _) (by omega) _ _,((h.b.setCell (Nat.le_refl _) _).setCell (Nat.le_refl _) _).setCell (Nat.le_refl _) _⟩
set_option maxHeartbeats 4000000 in
set_option maxRecDepth 100000 in
theorem pcopypub_any (c:PbC) (w:World) (hs:SmallPb c) (ht:TusAt w c.ts c.p.doc.tuples) (hn:StrsAt w c.ns c.p.doc.notes) :
  Calls Tryz.prog 42 #[pbV c] w fun e w'=>∃ ts' ns',e=.returned (pbV ⟨c.p,ts',ns'⟩)∧OwnU w' w.heap.size ts' c.p.doc.tuples∧Own w' w.heap.size 9 ns' (strs c.p.doc.notes)∧Below w.heap.size w w':=by
 have hs0:=rp_row7 w (.int .i64 c.p.num) (.string ⟨c.p.who.toArray⟩) (.string ⟨c.p.tag.toArray⟩) (.int .i64 c.p.til) (.string ⟨c.p.doc.entity.toArray⟩) c.ts c.ns 62;have hb0:Below w.heap.size w (w.alloc (.cells #[.int .i64 c.p.num,.string ⟨c.p.who.toArray⟩,.string ⟨c.p.tag.toArray⟩,.int .i64 c.p.til,.string ⟨c.p.doc.entity.toArray⟩,c.ts,c.ns] 62)):=(Below.refl _ w).alloc (Nat.le_refl _) _;have e0:(w.alloc (.cells #[.int .i64 c.p.num,.string ⟨c.p.who.toArray⟩,.string ⟨c.p.tag.toArray⟩,.int .i64 c.p.til,.string ⟨c.p.doc.entity.toArray⟩,c.ts,c.ns] 62)).heap.size=w.heap.size+1:=by simp
 generalize hw0:w.alloc (.cells #[.int .i64 c.p.num,.string ⟨c.p.who.toArray⟩,.string ⟨c.p.tag.toArray⟩,.int .i64 c.p.til,.string ⟨c.p.doc.entity.toArray⟩,c.ts,c.ns] 62)=w0 at hb0 hs0 e0;have hr1:=rp_row7 w0 (.int .i64 0) (.string ⟨#[]⟩) (.string ⟨#[]⟩) (.int .i64 0) (.string ⟨#[]⟩) (.slice none 0 0) (.slice none 0 0) 62;have hb1:Below w0.heap.size w0 (w0.alloc (.cells #[.int .i64 0,.string ⟨#[]⟩,.string ⟨#[]⟩,.int .i64 0,.string ⟨#[]⟩,.slice none 0 0,.slice none 0 0] 62)):=(Below.refl _ w0).alloc (Nat.le_refl _) _;generalize hw1:w0.alloc (.cells #[.int .i64 0,.string ⟨#[]⟩,.string ⟨#[]⟩,.int .i64 0,.string ⟨#[]⟩,.slice none 0 0,.slice none 0 0] 62)=w1 at hb1 hr1;rw [e0] at hr1;have HI:Hid (CP w w1 c):=⟨hs0.below hb1 hs0.bl,hr1,hb0.trans (hb1.mono hb0.size)⟩
 have K1:=hid (fun (u:World)=>clonep c.p.who u hs.who);have K2:=hid (fun (u:World)=>clonep c.p.tag u hs.tag);have K3:=hid (fun (u:World) (hu:Below w.heap.size w u)=>pcopydoc_any c.p.doc c.ts c.ns u hs.doc hs.tl hs.nl (ht.below hu) (hn.below hu));obtain ⟨ta,tc,hta⟩:∃ a k,c.ts=.slice a c.p.doc.tuples.length k:=by obtain ⟨a,k,e,_⟩:=ht; exact ⟨a,k,e⟩
 obtain ⟨na,nc,hna⟩:∃ a k,c.ns=.slice a c.p.doc.notes.length k:=by obtain ⟨a,k,e,_⟩:=hn; exact ⟨a,k,e⟩
 clear hr1 hb0 hb1 hs0 hs ht hn;obtain ⟨p,ts,ns⟩:=c;obtain ⟨num,who,tag,til,⟨en,tl,nl⟩⟩:=p;simp only at hta hna K1 K2 K3 hw0;subst hta hna;obtain ⟨n1,hn1⟩:∃ n,n=tl.length:=⟨_,rfl⟩
 obtain ⟨n2,hn2⟩:∃ n,n=nl.length:=⟨_,rfl⟩
 rw [← hn1,← hn2] at HI K3 hw0 ⊢;have HN1:=hid hn1;have HN2:=hid hn2;clear hn1 hn2;obtain ⟨s0,s1,s2,s3,s4,s5,s6,g0,g1,g2,g3,g4,g5,g6⟩:=HI.out.s.rp7
 go_enter Tryz.func42,Tryz.ntmps42
 unfold pbV;unfold docV at K3;simp only at K3 s0 s1 s2 s3 s4 s5 s6 ⊢;go_wp2_with fail
 refine (K1.out _).mono ?_
 rintro e w2 ⟨rfl,hb2⟩;replace HI:=hid (HI.out.step hb2);clear s0 s1 s2 s3 s4 s5 s6 g0 g1 g2 g3 g4 g5 g6 hb2;obtain ⟨s0,s1,s2,s3,s4,s5,s6,g0,g1,g2,g3,g4,g5,g6⟩:=HI.out.s.rp7;simp only at s0 s1 s2 s3 s4 s5 s6;go_wp2_with fail
 refine (K2.out _).mono ?_
 rintro e w3 ⟨rfl,hb3⟩;replace HI:=hid (HI.out.set1.step hb3);clear s0 s1 s2 s3 s4 s5 s6 g0 g1 g2 g3 g4 g5 g6 hb3;obtain ⟨s0,s1,s2,s3,s4,s5,s6,g0,g1,g2,g3,g4,g5,g6⟩:=HI.out.s.rp7;simp only at s0 s1 s2 s3 s4 s5 s6
 go_upto_region 3 with fail
 replace HI:=hid HI.out.set2;clear s0 s1 s2 s3 s4 s5 s6 g0 g1 g2 g3 g4 g5 g6
 try simp only at HI
 generalize World.setCell _ _ _=w4 at HI ⊢;obtain ⟨s0,s1,s2,s3,s4,s5,s6,g0,g1,g2,g3,g4,g5,g6⟩:=HI.out.s.rp7;simp only at s0 s1 s2 s3 s4 s5 s6;have hsz:w.heap.size+1 < w4.heap.size:=HI.out.r.bl;go_wp2_with fail
 refine (K3.out _ HI.out.b).mono ?_
 rintro e w5 ⟨ts',ns',rfl,ho5,hn5,hb5⟩;replace HI:=hid (HI.out.step hb5);clear s0 s1 s2 s3 s4 s5 s6 g0 g1 g2 g3 g4 g5 g6 hb5 K1 K2 K3;obtain ⟨xa,xk,e5⟩:=ho5.form;obtain ⟨ya,yk,e6⟩:=own_formP hn5;rw [show (strs nl).length=nl.length by simp [strs],← HN2.out] at e6;rw [← HN1.out] at e5;subst e5 e6;obtain ⟨s0,s1,s2,s3,s4,s5,s6,g0,g1,g2,g3,g4,g5,g6⟩:=HI.out.s.rp7;simp only at s0 s1 s2 s3 s4 s5 s6;replace HI:=hid (And.intro (HI.out.set4 (.slice xa n1 xk) (.slice ya n2 yk)) (And.intro (own_set3P ho5 (show w.heap.size < w4.heap.size by omega) (.string ⟨en.toArray⟩) (.slice xa n1 xk) (.slice ya n2 yk)) (own_set3P hn5 (show w.heap.size < w4.heap.size by omega) (.string ⟨en.toArray⟩) (.slice xa n1 xk) (.slice ya n2 yk))));clear ho5 hn5
 go_upto_region 4 with fail
 clear s0 s1 s2 s3 s4 s5 s6 g0 g1 g2 g3 g4 g5 g6
 try simp only at HI
 generalize World.setCell _ _ _=w6 at HI ⊢;obtain ⟨s0,s1,s2,s3,s4,s5,s6,g0,g1,g2,g3,g4,g5,g6⟩:=HI.out.1.s.rp7;obtain ⟨z0,z1,z2,z3,z4,z5,z6,y0,y1,y2,y3,y4,y5,y6⟩:=HI.out.1.r.rp7;simp only at s0 s1 s2 s3 s4 s5 s6;have KEEP:=hid (And.intro (rp_store7 HI.out.1.r (.int .i64 num) (.string ⟨who.toArray⟩) (.string ⟨tag.toArray⟩) (.int .i64 til) (.string ⟨en.toArray⟩) (.slice xa n1 xk) (.slice ya n2 yk)) (And.intro (rp_below7 HI.out.1.b (w.heap.size+1) (by omega) (.int .i64 num) (.string ⟨who.toArray⟩) (.string ⟨tag.toArray⟩) (.int .i64 til) (.string ⟨en.toArray⟩) (.slice xa n1 xk) (.slice ya n2 yk)) (And.intro (rp_own7 HI.out.2.1 hsz (.int .i64 num) (.string ⟨who.toArray⟩) (.string ⟨tag.toArray⟩) (.int .i64 til) (.string ⟨en.toArray⟩) (.slice xa n1 xk) (.slice ya n2 yk)) (rp_own7 HI.out.2.2 hsz (.int .i64 num) (.string ⟨who.toArray⟩) (.string ⟨tag.toArray⟩) (.int .i64 til) (.string ⟨en.toArray⟩) (.slice xa n1 xk) (.slice ya n2 yk)))));clear HI;go_wp2;generalize World.setCell _ _ _=wB at KEEP ⊢;obtain ⟨hrA,hbA,hoA,hnA⟩:=KEEP.out;obtain ⟨d0,d1,d2,d3,d4,d5,d6,_,_,_,_,_,_,_⟩:=hrA.rp7
 try simp only [Exit.inBlock,Exit.then]
 refine bodyPost_ret (v:=.agg #[.int .i64 num,.string ⟨who.toArray⟩,.string ⟨tag.toArray⟩,.int .i64 til,.string ⟨en.toArray⟩,.slice xa n1 xk,.slice ya n2 yk]) (by simp [results,Tryz.results42,go_sem,d0,d1,d2,d3,d4,d5,d6]; try rfl) rfl ?_
 exact ⟨_,_,rfl,own_lower hoA (by omega),own_lower hnA (by omega),hbA⟩
end Go.Proofs.YteicmbhilambpaaGreatDoor
namespace Go.Proofs.YteicmbhilambpaaGreatDoor
open Go.Shelf
def laysSlC25_f45_ren:Go.Shelf.Ren:=⟨fun | 5=>45 | 7=>63 | n=>n,fun | 22=>3 | 3=>3 | 4=>4 | n=>n,fun | n=>n⟩
theorem laysSlC25_f45:Go.Proofs.SlLaysC2.n5 Tryz.prog laysSlC25_f45_ren:={
 mixed:=by kernel_rfl
 f5:=⟨Tryz.f45.name,by decide,Tryz.func45.trans (congrArg some (by kernel_rfl))⟩
 f7:=⟨Tryz.f63.name,by decide,Tryz.func63.trans (congrArg some (by kernel_rfl))⟩
 t3:=Tryz.underlying3
 a3:=Tryz.isAgg3
 z3:=Tryz.sizeOf3
 v3:=Tryz.zeroValue3
 t4:=Tryz.underlying4
 a4:=Tryz.isAgg4
 z4:=Tryz.sizeOf4
 v4:=Tryz.zeroValue4
 t22:=Tryz.underlying3
 a22:=Tryz.isAgg3
 z22:=Tryz.sizeOf3
 v22:=Tryz.zeroValue3 }
open Go.Lib in
theorem cmp_Compare_int (x y:Int) (w:World) :
  Calls Tryz.prog 45 #[.int .i64 x,.int .i64 y] w fun e w'=>e=.returned (.int .i64 (Lib.compareInt x y))∧w'=w:=AnyG.cmp_Compare_int laysSlC25_f45 x y w
def sortFn_ren:Go.Shelf.Ren:=⟨fun | 6=>43 | 15=>52 | 14=>62 | 28=>77 | 29=>78 | 20=>92 | 21=>93 | 22=>94 | 23=>95 | 24=>96 | 25=>97 | 26=>98 | 27=>99 | 46=>127 | 47=>105 | 48=>106 | 49=>128 | 50=>129 | 57=>148 | n=>n,fun | 22=>29 | 24=>62 | 25=>100 | 3=>3 | 39=>65 | 0=>0 | 53=>138 | 55=>140 | 4=>4 | 46=>131 | 45=>130 | 50=>51 | 5=>5 | 9=>9 | 66=>168 | 70=>172 | 76=>195 | 77=>196 | n=>n,fun | n=>n⟩
theorem sortFn:Go.Proofs.SlLaysF0.n6 Tryz.prog sortFn_ren:={
 mixed:=by kernel_rfl
 f6:=⟨Tryz.f43.name,by decide,Tryz.func43.trans (congrArg some (by kernel_rfl))⟩
 f14:=⟨Tryz.f62.name,by decide,Tryz.func62.trans (congrArg some (by kernel_rfl))⟩
 f15:=Tryz.func52.trans (congrArg some (by kernel_rfl))
 f20:=⟨Tryz.f92.name,by decide,Tryz.func92.trans (congrArg some (by kernel_rfl))⟩
 f21:=⟨Tryz.f93.name,by decide,Tryz.func93.trans (congrArg some (by kernel_rfl))⟩
 f22:=⟨Tryz.f94.name,by decide,Tryz.func94.trans (congrArg some (by kernel_rfl))⟩
 f23:=⟨Tryz.f95.name,by decide,Tryz.func95.trans (congrArg some (by kernel_rfl))⟩
 f24:=⟨Tryz.f96.name,by decide,Tryz.func96.trans (congrArg some (by kernel_rfl))⟩
 f25:=⟨Tryz.f97.name,by decide,Tryz.func97.trans (congrArg some (by kernel_rfl))⟩
 f26:=⟨Tryz.f98.name,by decide,Tryz.func98.trans (congrArg some (by kernel_rfl))⟩
 f27:=⟨Tryz.f99.name,by decide,Tryz.func99.trans (congrArg some (by kernel_rfl))⟩
 f28:=Tryz.func77.trans (congrArg some (by kernel_rfl))
 f29:=Tryz.func78.trans (congrArg some (by kernel_rfl))
 f46:=⟨Tryz.f127.name,by decide,Tryz.func127.trans (congrArg some (by kernel_rfl))⟩
 f47:=Tryz.func105.trans (congrArg some (by kernel_rfl))
 f48:=Tryz.func106.trans (congrArg some (by kernel_rfl))
 f49:=⟨Tryz.f128.name,by decide,Tryz.func128.trans (congrArg some (by kernel_rfl))⟩
 f50:=⟨Tryz.f129.name,by decide,Tryz.func129.trans (congrArg some (by kernel_rfl))⟩
 f57:=⟨Tryz.f148.name,by decide,Tryz.func148.trans (congrArg some (by kernel_rfl))⟩
 t0:=Tryz.underlying0
 a0:=Tryz.isAgg0
 z0:=Tryz.sizeOf0
 v0:=Tryz.zeroValue0
 t3:=Tryz.underlying3
 a3:=Tryz.isAgg3
 z3:=Tryz.sizeOf3
 v3:=Tryz.zeroValue3
 t4:=Tryz.underlying4
 a4:=Tryz.isAgg4
 z4:=Tryz.sizeOf4
 v4:=Tryz.zeroValue4
 t5:=Tryz.underlying5
 a5:=Tryz.isAgg5
 z5:=Tryz.sizeOf5
 v5:=Tryz.zeroValue5
 t9:=Tryz.underlying9
 a9:=Tryz.isAgg9
 z9:=Tryz.sizeOf9
 v9:=Tryz.zeroValue9
 t22:=Tryz.underlying29
 a22:=Tryz.isAgg29
 z22:=Tryz.sizeOf29
 v22:=Tryz.zeroValue29
 t25:=Tryz.underlying100
 a25:=Tryz.isAgg100
 z25:=Tryz.sizeOf100
 v25:=Tryz.zeroValue100
 t39:=Tryz.underlying65
 a39:=Tryz.isAgg65
 z39:=Tryz.sizeOf65
 v39:=Tryz.zeroValue65
 t45:=Tryz.underlying130
 a45:=Tryz.isAgg130
 z45:=Tryz.sizeOf130
 v45:=Tryz.zeroValue130
 t46:=Tryz.underlying131
 a46:=Tryz.isAgg131
 z46:=Tryz.sizeOf131
 v46:=Tryz.zeroValue131
 t50:=Tryz.underlying51
 a50:=Tryz.isAgg51
 z50:=Tryz.sizeOf51
 v50:=Tryz.zeroValue51
 t53:=Tryz.underlying138
 a53:=Tryz.isAgg138
 z53:=Tryz.sizeOf138
 v53:=Tryz.zeroValue138
 t55:=Tryz.underlying140
 a55:=Tryz.isAgg140
 z55:=Tryz.sizeOf140
 v55:=Tryz.zeroValue140
 t66:=Tryz.underlying168
 a66:=Tryz.isAgg168
 z66:=Tryz.sizeOf168
 v66:=Tryz.zeroValue168
 t70:=Tryz.underlying172
 a70:=Tryz.isAgg172
 z70:=Tryz.sizeOf172
 v70:=Tryz.zeroValue172
 t76:=Tryz.underlying195
 a76:=Tryz.isAgg195
 z76:=Tryz.sizeOf195
 v76:=Tryz.zeroValue195
 t77:=Tryz.underlying196
 a77:=Tryz.isAgg196
 z77:=Tryz.sizeOf196
 v77:=Tryz.zeroValue196 }
end Go.Proofs.YteicmbhilambpaaGreatDoor
namespace Go.Proofs.YteicmbhilambpaaGreatDoor
open Go.RowKit Go.Maps Go.WideMaps Sc
section
variable {B bt : Nat} {w w' : World} {s : Sto} {now : Int}
theorem plen_tab (h:TabP B bt w s):Calls Tryz.prog 24 #[.pointer (some ⟨bt,0,none⟩)] w fun e w'=>e=.returned (.int .i64 s.l.length)∧w'=w:=by
 obtain ⟨mn,ma,be,mw,cs,r,e1,h2,h3,h4,h5⟩:=h.has;rw [e1,pbsL_len];exact plen_any h4
end
end Go.Proofs.YteicmbhilambpaaGreatDoor
namespace Go.Proofs.YteicmbhilambpaaGreatDoor
open Go.RowKit Sc
theorem pbsL_app (a b:List PbC):pbsL (a++b)=pbsL a++pbsL b:=by simp [pbsL]
theorem doS_full {s:Sto} {now:Int} {a:Pa} (h1:badA s now a=false) (h2:noneP s a=false) (h3:(secC s.c a.exp).2=true) (h4:a.mt=[]) (h5:¬ (a.has=false∨(secC s.c a.exp).1=0)) (h6:s.c.pubs≤s.l.length):doS s now a=(s,⟨503,0,[],false⟩,0):=by
 unfold doS; rw [if_neg (by rw [h1]; simp),if_neg (by rw [h2]; simp),if_neg (by rw [h3]; simp),if_pos h4,if_neg h5,if_pos h6]
end Go.Proofs.YteicmbhilambpaaGreatDoor
namespace Go.Proofs.YteicmbhilambpaaGreatDoor
open Go.RowKit Go.Maps Go.WideMaps Sc
theorem TabP.lower {B C bt:Nat} {w:World} {s:Sto} (h:TabP C bt w s) (hB:B≤C):TabP B bt w s:=by
 obtain ⟨mn,ma,be,mw,cs,r,e1,h2,h3,h4,h5⟩:=h.has;refine ⟨h.right,h.ok,mn,ma,be,mw,cs,r,e1,h2,fun x hx=>⟨own_lower (h3 x hx).1 hB,own_lower (h3 x hx).2 hB⟩,?_,h5⟩
 exact ⟨h4.row,h4.num,h4.all,h4.wheel.lowerp hB,h4.n1,h4.n2,h4.n3,Nat.le_trans hB h4.lb,Nat.le_trans hB h4.ln,Nat.le_trans hB h4.lm⟩
def TyOk (e:TypeId):Prop:=e ≠ 120∧e ≠ 127∧e ≠ 123∧e ≠ 76
structure Bag (w wr:World) (bt:Nat) (S:Sto) (v:Value) (cs:List PbC) (l:List (Nat × TypeId × List Value)):Prop where
 tab:TabP w.heap.size bt wr S
 rows:∀ x ∈ l,RowIs wr x.1 x.2.1 x.2.2∧TyOk x.2.1
 bel:Below w.heap.size w wr
 own:OwnPb wr w.heap.size v cs
section
variable {w wr w' : World} {bt : Nat} {S S' : Sto} {v : Value} {cs : List PbC} {l : List (Nat × TypeId × List Value)}
theorem Bag.below (h:Bag w wr bt S v cs l) (hb:Below wr.heap.size wr w'):Bag w w' bt S v cs l :=
 ⟨h.tab.below hb,fun x hx=>⟨(h.rows x hx).1.below hb (h.rows x hx).1.bl,(h.rows x hx).2⟩,h.bel.trans (hb.mono h.bel.size),h.own.below hb⟩
theorem Bag.call (h:Bag w wr bt S v cs l) (ht:TabP w.heap.size bt w' S') (hf:FrP w.heap.size wr w'):Bag w w' bt S' v cs l :=
 ⟨ht,fun x hx=>by
  obtain ⟨h1,a,b,c,d⟩:=h.rows x hx;exact ⟨hf.row h1 a b c d,a,b,c,d⟩,h.bel.trans hf.below,hf.own h.own (by decide) (by decide) (by decide) (by decide)⟩
theorem Bag.add (h:Bag w wr bt S v cs l) {b:Nat} {e:TypeId} {us:List Value} (hr:RowIs wr b e us) (he:TyOk e):Bag w wr bt S v cs ((b,e,us) :: l) :=
 ⟨h.tab,fun x hx=>by
  rcases List.mem_cons.1 hx with rfl | hx
  ·exact ⟨hr,he⟩
  ·exact h.rows x hx,h.bel,h.own⟩
theorem Bag.new (h:Bag w wr bt S v cs l) (vs:List Value) (e:TypeId) (he:TyOk e):Bag w (wr.alloc (.cells vs.toArray e)) bt S v cs ((wr.heap.size,e,vs) :: l) :=
 (h.below ((Below.refl _ wr).alloc (Nat.le_refl _) _)).add (by unfold RowIs; rw [heap_alloc_new]) he
theorem Bag.r0 {x:Nat × TypeId × List Value} (h:Bag w wr bt S v cs (x :: l)):RowIs wr x.1 x.2.1 x.2.2:=(h.rows x (List.mem_cons_self ..)).1
theorem Bag.tl {x:Nat × TypeId × List Value} (h:Bag w wr bt S v cs (x :: l)):Bag w wr bt S v cs l:=⟨h.tab,fun y hy=>h.rows y (List.mem_cons_of_mem _ hy),h.bel,h.own⟩
theorem tyTold:TyOk 46:=⟨by decide,by decide,by decide,by decide⟩
end
end Go.Proofs.YteicmbhilambpaaGreatDoor
namespace Go.Proofs.YteicmbhilambpaaGreatDoor
open Go.RowKit Go.Maps Go.WideMaps Go.Sort
def cmpPb (x y:PbC):Int:=Lib.compareInt x.p.num y.p.num
theorem lt_cmpPb (x y:PbC):ltOf cmpPb x y=decide (x.p.num < y.p.num):=by
 unfold ltOf cmpPb Lib.compareInt;by_cases h:x.p.num < y.p.num
 ·rw [if_pos h]
  simp [h]
 ·rw [if_neg h];by_cases h2:x.p.num > y.p.num
  ·rw [if_pos h2]; simp [h]
  ·rw [if_neg h2]; simp [h]
theorem swo_cmpPb:SWO (ltOf cmpPb):=by
 refine ⟨fun x=>?_,fun x y z h1 h2=>?_,fun x y z h1 h2=>?_⟩
 ·rw [lt_cmpPb]; simp
 ·rw [lt_cmpPb] at h1 h2 ⊢;simp only [decide_eq_true_eq] at h1 h2 ⊢;omega
 ·rw [lt_cmpPb] at h1 h2 ⊢;simp only [decide_eq_false_iff_not] at h1 h2 ⊢;omega
def slOf:Value → Option Addr × Nat × Nat
 | .slice a n c=>(a,n,c)
 | _=>(none,0,0)
def IsSl (v:Value):Prop:=∃ a n c,v=.slice a n c
def slV (v:Value):Value:=.slice (slOf v).1 (slOf v).2.1 (slOf v).2.2
theorem slV_id {v:Value} (h:IsSl v):slV v=v:=by
 obtain ⟨a,n,c,rfl⟩:=h
 rfl
def encP (c:PbC):List Value:=[.int .i64 c.p.num,.string ⟨c.p.who.toArray⟩,.string ⟨c.p.tag.toArray⟩,.int .i64 c.p.til,.string ⟨c.p.doc.entity.toArray⟩,slV c.ts,slV c.ns]
theorem enc_id {c:PbC} (h:IsSl c.ts∧IsSl c.ns):encP c=pbCells c:=by
 unfold encP pbCells;rw [slV_id h.1,slV_id h.2]
theorem enc_one (x:PbC):∀ v ∈ encP x,v.oneCell'=true:=by
 intro v hv;simp only [encP,List.mem_cons,List.not_mem_nil,or_false] at hv
 rcases hv with rfl | rfl | rfl | rfl | rfl | rfl | rfl <;> rfl
theorem flat_pbs [Inhabited PbC] (d:Array PbC) (h:∀ c ∈ d.toList,IsSl c.ts∧IsSl c.ns):flatK encP 7 d=(pbsCells d.toList).toArray:=by
 refine ext_get! (by simp [pbsCells_len]) fun t ht=>?_
 have ht':t < d.size * 7:=by simpa using ht
 rw [get_flatK _ _ _ _ ht'];have hk:t / 7 < d.toList.length:=by simp; omega
 have hj:t % 7 < 7:=Nat.mod_lt _ (by decide);have e1:d[t / 7]! = d.toList[t / 7]:=by rw [getElem!_pos d _ (by simpa using hk)]; simp
 rw [e1,enc_id (h _ (List.getElem_mem hk))];have hjl:t % 7 < (pbCells d.toList[t / 7]).length:=by rw [pbCells_len]; exact hj
 have htl:t < (pbsCells d.toList).length:=by rw [pbsCells_len]; simpa using ht'
 have h2:=pbsCells_get d.toList (t / 7) hk (t % 7) _ (List.getElem?_eq_getElem hjl);rw [show t / 7 * 7+t % 7=t by omega,List.getElem?_eq_getElem htl] at h2
 injection h2 with h2
 have e2:(pbCells d.toList[t / 7])[t % 7]! = (pbCells d.toList[t / 7])[t % 7]:=getElem!_pos (pbCells d.toList[t / 7]) (t % 7) hjl;have e3:(pbsCells d.toList).toArray[t]! = (pbsCells d.toList).toArray[t]'(by simpa using htl):=getElem!_pos (pbsCells d.toList).toArray t (by simpa using htl);rw [e2,e3]
 simpa using h2.symm
theorem holds_pbs [Inhabited PbC] {w:World} {g:Nat} {cur:Array Value} {e:TypeId} {cs:List PbC} (hb:w.heap[g]? = some (.cells cur e (0,0))) (ht:cur.toList.take (cs.length * 7)=pbsCells cs) (hc:∀ c ∈ cs,IsSl c.ts∧IsSl c.ns):HoldsK encP 7 w g 0 cs.toArray:=by
 unfold HoldsK;rw [flat_pbs _ (by simpa using hc)];intro j hj;have hj':j < cs.length * 7:=by simpa [pbsCells_len] using hj
 refine ⟨?_,by simp [World.frozen?,hb]⟩
 have h1:(cur.toList.take (cs.length * 7))[j]? = (pbsCells cs)[j]? := by rw [ht]
 rw [List.getElem?_take_of_lt hj'] at h1;simp only [World.cell?,hb,Nat.zero_add];simp only [Option.isSome_none,Bool.false_eq_true,if_false];rw [← Array.getElem?_toList,h1];have hl:j < (pbsCells cs).length:=by rw [pbsCells_len]; exact hj'
 rw [List.getElem?_eq_getElem hl];rw [getElem!_pos (pbsCells cs.toArray.toList).toArray j (by simpa using hl)]
 simp
theorem heap_sortP {w:World} {g n:Nat} {os:Array Obj} {cur:Array Value} {e:TypeId} {fr:Nat × Nat} (F:Array Value) (hb:w.heap[g]? = some (.cells cur e fr)) :
  (grow (putRow id (Sort.ahead w n) g 0 F) os).heap[g]? = some (.cells (putCells id 0 F cur) e fr):=by
 have hg:g < w.heap.size:=(Array.getElem?_eq_some_iff.1 hb).1;rw [heap_grow_old _ _ (by simpa using hg)]
 simp [putRow,mapBlock,Sort.ahead,Array.getElem?_modify,hb,onCells]
theorem grown_sortP {w:World} {g n:Nat} {os:Array Obj} (F:Array Value):w.grownBy (grow (putRow id (Sort.ahead w n) g 0 F) os) (some g):=by
 refine ⟨rfl,rfl,rfl,by simp,fun k hk hne=>?_⟩
 rw [heap_grow_old _ _ (by simpa using hk)]
 have:g ≠ k:=fun e=>hne (by rw [e])
 simp [putRow,mapBlock,Sort.ahead,Array.getElem?_modify,this]
theorem take_putP (cur:Array Value) (l:List Value) (h:l.length≤cur.size):(putCells id 0 l.toArray cur).toList.take l.length=l:=by
 apply List.ext_getElem?
 intro j;by_cases hj:j < l.length
 ·rw [List.getElem?_take_of_lt hj,Array.getElem?_toList]
  simp [putCells,hj,show j < cur.size by omega]
 ·rw [List.getElem?_take_eq_none (by omega),List.getElem?_eq_none (by omega)]
set_option maxHeartbeats 1000000 in
set_option maxRecDepth 100000 in
theorem live1_any (W:World) (p q:Pb) (xa ya za ua:Option Addr) (xn xc yn yc zn zc un uc:Nat) :
  Calls Tryz.prog 44 #[.agg #[.int .i64 p.num,.string ⟨p.who.toArray⟩,.string ⟨p.tag.toArray⟩,.int .i64 p.til,.string ⟨p.doc.entity.toArray⟩,.slice xa xn xc,.slice ya yn yc],.agg #[.int .i64 q.num,.string ⟨q.who.toArray⟩,.string ⟨q.tag.toArray⟩,.int .i64 q.til,.string ⟨q.doc.entity.toArray⟩,.slice za zn zc,.slice ua un uc]] W fun e w'=>e=.returned (.int .i64 (Lib.compareInt p.num q.num))∧∃ n os',w'=grow (W.drewN n) os':=by
 have K:=fun (u:World)=>cmp_Compare_int p.num q.num u;generalize Lib.compareInt p.num q.num=r at K ⊢
 go_enter Tryz.func44,Tryz.ntmps44
 go_wp2_with (go_at_call 45; refine (K _).mono ?_; rintro e w2 ⟨rfl,rfl⟩)
 go_ret;exact ⟨rfl,0,_,by rw [alloc_eq_grow,alloc_eq_grow,grow_grow]; rfl⟩
theorem live1_enters:∀ args w,(callFunc 44 args).run Tryz.prog w=.ok (.enter 44 args) w:=enters_of Tryz.func44 (by kernel_rfl) rfl
theorem sort_pubs {u:World} {B:Nat} {v:Value} {cs:List PbC} (ho:OwnPb u B v cs) (hf:∀ c ∈ cs,IsSl c.ts∧IsSl c.ns) (hn:cs.length≤1000000) :
  Calls Tryz.prog 43 #[v,.func (.func 44) #[] #[]] u fun e u'=>e=.returned (.tuple #[])∧∃ ds,OwnPb u' B v ds∧ds.Perm cs∧(ds.Pairwise fun a b=>a.p.num≤b.p.num)∧u.grownBy u' v.ownBlock:=by
 have ho0:=ho;obtain ⟨h1,h2⟩:=ho
 rcases h2 with ⟨rfl,h0⟩ | ⟨g,cap,cur,rfl,hg,hh,hnc,hcm,hcs,ht⟩
 ·have hx:cs=[]:=List.eq_nil_of_length_eq_zero h0;subst hx;refine (AnyF.slices_SortFunc_none sortFn none 0 _ u).mono ?_
  rintro e u' ⟨rfl,rfl⟩;exact ⟨rfl,[],ho0,.refl _,.nil,⟨rfl,rfl,rfl,Nat.le_refl _,fun _ _ _=>rfl⟩⟩
 ·haveI:Inhabited PbC:=⟨zeroP⟩
  have hH:HoldsK encP 7 u g 0 cs.toArray:=holds_pbs hh ht hf;have K:=AnyQ.slices_SortFunc sortFn 7 Tryz.isAgg62 Tryz.sizeOf62 encP (fun _=>rfl) enc_one cmpPb swo_cmpPb 44 #[] g 0 cap cs.toArray u live1_enters (fun m os dk _ x y=>live1_any _ x.p y.p _ _ _ _ _ _ _ _ _ _ _ _) hH (Array.getElem?_eq_some_iff.1 hh).1 (by simp; omega);have K2:Calls Tryz.prog 43 #[.slice (some ⟨g,0,none⟩) cs.length cap,.func (.func 44) #[] #[]] u fun e w'=>e=.returned (.tuple #[])∧∃ d' n os,PermIn 0 cs.toArray.size cs.toArray d'∧SortedIn (ltOf cmpPb) 0 cs.toArray.size d'∧w'=sortWorldK encP 7 u g 0 n d' os:=K;refine K2.mono ?_
  rintro e u' ⟨rfl,d',n,os,hp,hs,rfl⟩;obtain ⟨p1,p2,p3⟩:=hp;have e1:(d'.extract 0 cs.toArray.size)=d':=by rw [← p1]; simp
  have e2:(cs.toArray.extract 0 cs.toArray.size)=cs.toArray:=by simp
  rw [e1,e2] at p3;have hperm:d'.toList.Perm cs:=by simpa using p3
  have hf':∀ c ∈ d'.toList,IsSl c.ts∧IsSl c.ns:=fun c hc=>hf c (hperm.mem_iff.1 hc);have hl:d'.toList.length=cs.length:=hperm.length_eq;refine ⟨rfl,d'.toList,?_,hperm,?_,?_⟩
  ·unfold sortWorldK putRowK;rw [flat_pbs _ hf'];unfold OwnPb;rw [hl];refine ⟨by rw [pbsCells_len,hl],.inr ⟨g,cap,_,rfl,hg,heap_sortP _ hh,hnc,hcm,by simpa [putCells] using hcs,?_⟩⟩
   have:=take_putP cur (pbsCells d'.toList) (by rw [pbsCells_len,hl]; omega)
   rw [pbsCells_len,hl] at this;exact this
  ·rw [List.pairwise_iff_getElem];intro i j hi hj hij
   have:=hs i j (Nat.zero_le _) hij (by rw [← p1]; simpa using hj)
   rw [lt_cmpPb,decide_eq_false_iff_not,getElem!_pos d' i (by simpa using hi),getElem!_pos d' j (by simpa using hj)] at this;simp only [Array.getElem_toList];omega
  ·unfold sortWorldK putRowK;exact grown_sortP _
end Go.Proofs.YteicmbhilambpaaGreatDoor
namespace Go.Proofs.YteicmbhilambpaaGreatDoor
open Go.RowKit Go.Maps Go.WideMaps Sc
theorem pbE_pbV {v:Value} {y:DataW Unit × List MemPlace} (h:pbE v=some y):∃ c:PbC,v=pbV c:=by
 obtain ⟨n,t,a,b,e,x,z,xn,xc,zn,zc,rfl⟩:=pbE_some h;refine ⟨⟨⟨n,a.data.toList,b.data.toList,t,⟨e.data.toList,[],[]⟩⟩,.slice x xn xc,.slice z zn zc⟩,?_⟩
 simp [pbV]
structure ComeP (la done todo:List PbC) (left:Lit → Bool):Prop where
 perm:la.Perm (done++todo)
 is:∀ x ∈ la,left (kAp x)=true ↔ x ∈ todo
 sub:∀ k,left k=true → ∃ x ∈ la,kAp x=k
theorem nodup_num {la:List PbC} (hr:la.Pairwise fun a b=>a.p.num < b.p.num):∀ {x y:PbC},x ∈ la → y ∈ la → x.p.num=y.p.num → x=y:=by
 intro x y hx hy e;obtain ⟨i,hi,rfl⟩:=List.mem_iff_getElem.1 hx;obtain ⟨j,hj,rfl⟩:=List.mem_iff_getElem.1 hy;have hP:=List.pairwise_iff_getElem.1 hr
 rcases Nat.lt_trichotomy i j with h | h | h
 ·have:=hP i j hi hj h; omega
 ·subst h; rfl
 ·have:=hP j i hj hi h; omega
theorem ComeP.start {la:List PbC} {D:DataW Unit} (hM:MpG kAp pbD la D):ComeP la [] la (Maps.has D) :=
 ⟨.refl _,fun x hx=>⟨fun _=>hx,fun _=>(hM.has _).2 ⟨x,hx,rfl⟩⟩,fun k hk=>(hM.has k).1 hk⟩
theorem ComeP.none {la done todo:List PbC} {left:Lit → Bool} (h:ComeP la done todo left) (hn:∀ k,left k=false):la.Perm done:=by
 have:todo=[]:=by
  rcases todo with _ | ⟨x,t⟩
  ·rfl
  ·have hx:x ∈ la:=h.perm.mem_iff.2 (by simp)
   have:=(h.is x hx).2 (by simp)
   rw [hn] at this
   cases this
 have hp:=h.perm;rw [this,List.append_nil] at hp;exact hp
theorem ComeP.one {la done todo:List PbC} {left:Lit → Bool} (h:ComeP la done todo left) (hr:la.Pairwise fun a b=>a.p.num < b.p.num) {x:PbC} (hx:x ∈ la) (hl:left (kAp x)=true) :
  ∃ todo',ComeP la (done++[x]) todo' fun z=>left z && !z.sameKey (kAp x):=by
 have hnd:la.Nodup:=hr.imp fun h e=>by rw [e] at h; omega
 have hin:=(h.is x hx).1 hl;obtain ⟨a,b,rfl⟩:=List.append_of_mem hin;have hp:=h.perm;have hnd2:(done++(a++x :: b)).Nodup:=hp.nodup_iff.1 hnd
 have hxa:x ∉ a++b:=by
  have h3:(a++x :: b).Nodup:=(List.nodup_append.1 hnd2).2.1;have h4:(x :: (a++b)).Nodup:=List.perm_middle.nodup_iff.1 h3;exact (List.nodup_cons.1 h4).1
 refine ⟨a++b,?_,fun y hy=>?_,fun k hk=>?_⟩
 ·refine hp.trans ?_
  rw [List.append_assoc];exact List.Perm.append_left _ List.perm_middle
 ·simp only [Bool.and_eq_true,Bool.not_eq_true']
  have hsk:(kAp y).sameKey (kAp x)=false ↔ y ≠ x:=by
   constructor
   ·rintro h1 rfl;rw [WideAt.sameKey_self (by unfold kAp; trivial)] at h1
    cases h1
   ·intro hne
    cases hs:(kAp y).sameKey (kAp x) with
    | false=>rfl
    | true=>exact absurd (nodup_num hr hy hx (kAp_inj.1 (WideAt.sameKey_eq hs))) hne
  rw [hsk,h.is y hy]
  constructor
  ·rintro ⟨h1,h2⟩;simp only [List.mem_append,List.mem_cons] at h1 ⊢
   rcases h1 with h1 | h1 | h1
   ·exact .inl h1
   ·exact absurd h1 h2
   ·exact .inr h1
  ·intro h1;refine ⟨?_,fun e=>hxa (by rw [← e]; exact h1)⟩
   simp only [List.mem_append,List.mem_cons] at h1 ⊢
   rcases h1 with h1 | h1
   ·exact .inl h1
   ·exact .inr (.inr h1)
 ·simp only [Bool.and_eq_true] at hk;exact h.sub k hk.1
theorem wp_next_pb (w:World) {ops:Array Oper} {rest:List Oper} {o:Oper} {a:Act} {Q:Exit → Act → World → Prop} (hg:o.guard=none) (it:Operand) (hop:o.op=Op.next it false)
  (b r n:Nat) (D:DataW Unit) {la done todo:List PbC} (left:Lit → Bool) (cnt:Nat) (hM:MpG kAp pbD la D) (hr:la.Pairwise fun a b=>a.p.num < b.p.num) (hs:∀ x ∈ la,SlF x.ts∧SlF x.ns) (hc:ComeP la done todo left)
  (hit:a.eval it=.pointer (some ⟨r,0,none⟩)) (h:w.ranges Tryz.prog 3 pbE b r n D left cnt)
  (hDone:cnt=0 → la.Perm done → wpList Tryz.prog ops Q rest (a.put o.dst (.tuple #[.bool false])) w)
  (hMore:∀ (x:PbC) (w':World) (left':Lit → Bool) (cnt':Nat) (todo':List PbC),x ∈ la → ComeP la (done++[x]) todo' left' → w'.ranges Tryz.prog 3 pbE b r n D left' cnt' → cnt' < cnt →
   w.grownBy w' (some r) → w'.heap.size=w.heap.size → (Instr.entry (.pointer (some ⟨r,0,none⟩))).run Tryz.prog w'=.ok (.tuple #[.int .i64 x.p.num,pbV x]) w' → wpList Tryz.prog ops Q rest (a.put o.dst (.tuple #[.bool true,.int .i64 x.p.num,pbV x])) w') :
  wpList Tryz.prog ops Q (o :: rest) a w:=by
 refine wpList_next_ranges w hg it hop 3 keyI pbE (Value.int .i64) pbV (fun key kl hk=>?_) (fun v y hv=>pbE_pbV hv) b r n D left cnt hit h (fun h0 hl=>hDone h0 (hc.none hl)) ?_
 ·obtain ⟨x,rfl,_⟩:=Maps.keyOf_int_inv Tryz.underlying3 hk;exact ⟨x,rfl⟩
 ·intro i c kl y w' cnt' hk hl hR hat hrg hlt hgr hsz hen;obtain ⟨i',e1,rfl,hwf⟩:=Maps.keyOf_int_inv Tryz.underlying3 hk
  cases e1
  obtain ⟨x,hx,hxk⟩:=hc.sub _ hl;have hi:x.p.num=i:=by unfold kAp idK at hxk; injection hxk
  subst hi
  have hy:y.1=pbD x:=by
   rw [← hat (.lit (.int .i64 0))];exact hM.at' x hx _
  obtain ⟨y1,y2⟩:=y;simp only at hy;subst hy;have hv:=pbE_inv hR (hs x hx);obtain ⟨todo',hc'⟩:=hc.one hr hx hl;rw [hv] at hen ⊢;exact hMore x w' _ cnt' todo' hx hc' hrg hlt hgr hsz hen
theorem tuNeP:109 ≠ 62:=by decide
theorem liveS_app (a b:List Pb) (who:List UInt8):liveS (a++b) who=liveS a who++liveS b who:=by simp [liveS]
structure LiveI (w:World) (who:List UInt8) (wr:World) (v:Value) (ds done:List PbC):Prop where
 bel:Below w.heap.size w wr
 own:OwnPb wr w.heap.size v ds
 docs:∀ c ∈ ds,OwnU wr w.heap.size c.ts c.p.doc.tuples∧Own wr w.heap.size 9 c.ns (strs c.p.doc.notes)
 is:pbsL ds=liveS (pbsL done) who
section
variable {w wr w' : World} {who : List UInt8} {v : Value} {ds done : List PbC}
theorem LiveI.start (w:World) (who:List UInt8) (hb:Below w.heap.size w w'):LiveI w who w' (.slice none 0 0) [] [] :=
 ⟨hb,OwnPb.nil _ _,fun c hc=>by simp at hc,rfl⟩
theorem LiveI.below (h:LiveI w who wr v ds done) (hb:Below wr.heap.size wr w'):LiveI w who w' v ds done :=
 ⟨h.bel.trans (hb.mono h.bel.size),h.own.below hb,fun c hc=>⟨(h.docs c hc).1.below hb,(h.docs c hc).2.below hb⟩,h.is⟩
theorem LiveI.iter {b r n cnt:Nat} {D:DataW Unit} {left:Lit → Bool} (h:LiveI w who wr v ds done) (hr:wr.ranges Tryz.prog 3 pbE b r n D left cnt) (hge:w.heap.size≤r) (hg:wr.grownBy w' (some r)):LiveI w who w' v ds done:=by
 have hn:∀ {B e s n:Nat} {x:Value} {xs:List Value},wr.ownsRow B e s x n xs → x.ownBlock=none∨x.ownBlock ≠ some r:=fun ho=>.inr (Ne.symm (row_ne_iter ho hr));refine ⟨h.bel.grown hg h.bel.size fun k hk=>by injection hk with hk; omega,World.ownsRow.kept h.own hg (hn h.own),fun c hc=>?_,h.is⟩
 obtain ⟨h1,h2⟩:=h.docs c hc;exact ⟨World.ownsRow.kept h1 hg (hn h1),World.ownsRow.kept h2 hg (hn h2)⟩
theorem LiveI.skip (h:LiveI w who wr v ds done) {x:PbC} (hx:(x.p.who==who)=false):LiveI w who wr v ds (done++[x]):=by
 refine ⟨h.bel,h.own,h.docs,?_⟩
 rw [h.is,pbsL_app,liveS_app]
 simp [liveS,pbsL,hx]
theorem LiveI.app (h:LiveI w who wr v ds done) {v':Value} {x y:PbC} (hx:(x.p.who==who)=true) (hy:y.p=x.p) (hd:OwnU wr w.heap.size y.ts y.p.doc.tuples∧Own wr w.heap.size 9 y.ns (strs y.p.doc.notes))
  (ho:OwnPb w' w.heap.size v' (ds++[y])) (hg:wr.grownBy w' v.ownBlock):LiveI w who w' v' (ds++[y]) (done++[x]):=by
 refine ⟨h.bel.grown hg h.bel.size fun k hk=>(World.ownsRow.lt h.own k hk).1,ho,fun c hc=>?_,?_⟩
 ·have hh:OwnU wr w.heap.size c.ts c.p.doc.tuples∧Own wr w.heap.size 9 c.ns (strs c.p.doc.notes):=by
   rcases List.mem_append.1 hc with hc | hc
   ·exact h.docs c hc
   ·rw [List.mem_singleton] at hc;subst hc;exact hd
  exact ⟨World.ownsRow.kept hh.1 hg (ow_rows_ne h.own hh.1 tuNeP),World.ownsRow.kept hh.2 hg (ow_rows_ne h.own hh.2 strNe)⟩
 ·rw [pbsL_app,h.is,pbsL_app,liveS_app]
  simp [liveS,pbsL,hx,hy]
end
theorem IsSl_own {w:World} {B e s n:Nat} {v:Value} {xs:List Value} (h:w.ownsRow B e s v n xs):IsSl v:=by
 rcases h.2 with ⟨rfl,_⟩ | ⟨g,cap,cur,rfl,_⟩
 ·exact ⟨_,_,_,rfl⟩
 ·exact ⟨_,_,_,rfl⟩
theorem pubs_sorted {l:List Pb} (hl:l.Pairwise fun p q=>p.num < q.num) {who:List UInt8} {done ds es cs:List PbC} (hc:pbsL cs=l) (hp:cs.Perm done) (hd:pbsL ds=liveS (pbsL done) who) (he:es.Perm ds) (hs:es.Pairwise fun a b=>a.p.num≤b.p.num):pbsL es=liveS l who:=by
 have h1:(pbsL es).Perm (liveS l who):=by
  refine (List.Perm.map PbC.p he).trans ?_
  rw [show ds.map PbC.p=pbsL ds from rfl,hd,← hc];unfold liveS;exact (List.Perm.filter _ (List.Perm.map PbC.p hp)).symm
 have h2:(liveS l who).Pairwise fun p q=>p.num < q.num:=hl.sublist List.filter_sublist
 have h3:(pbsL es).Pairwise fun p q=>p.num≤q.num:=by
  unfold pbsL;exact List.pairwise_map.2 hs
 refine List.Perm.eq_of_pairwise (le:=fun p q=>p.num≤q.num) (fun a b ha hb hab hba=>?_) h3 (h2.imp fun h=>by omega) h1
 have ha':=h1.mem_iff.1 ha;obtain ⟨i,hi,rfl⟩:=List.mem_iff_getElem.1 ha';obtain ⟨j,hj,rfl⟩:=List.mem_iff_getElem.1 hb;have hP:=List.pairwise_iff_getElem.1 h2
 rcases Nat.lt_trichotomy i j with h | h | h
 ·have:=hP i j hi hj h; omega
 ·subst h; rfl
 ·have:=hP j i hj hi h; omega
theorem LiveI.len {w wr:World} {who:List UInt8} {v:Value} {ds done:List PbC} (h:LiveI w who wr v ds done):ds.length≤done.length:=by
 have:=congrArg List.length h.is
 rw [pbsL_len] at this;rw [this];refine Nat.le_trans (List.length_filter_le _ _) ?_
 rw [pbsL_len]; exact Nat.le_refl _
theorem ComeP.len {la done todo:List PbC} {left:Lit → Bool} (h:ComeP la done todo left):done.length≤la.length:=by
 rw [h.perm.length_eq,List.length_append]; omega
theorem own_strsAtO {w:World} {B:Nat} {v:Value} {ps:List (List UInt8)} (h:Own w B 9 v (strs ps)):StrsAt w v ps:=by
 have h0:=h;have e:(strs ps).length=ps.length:=by simp [strs]
 rcases h.2 with ⟨rfl,hn⟩ | ⟨g,cap,cur,rfl,hb,hg,_⟩
 ·rw [e] at hn;exact ⟨none,0,by rw [hn],fun k hk=>by omega⟩
 ·refine ⟨some ⟨g,0,none⟩,cap,by rw [e],fun k hk=>⟨_,rfl,(Array.getElem?_eq_some_iff.1 hg).1,?_⟩⟩
  exact World.ownsRow.cells h0 (g:=g) rfl k _ (by simp [strs,hk])
set_option maxHeartbeats 4000000 in
set_option maxRecDepth 100000 in
theorem plive_tab {B bt:Nat} {w:World} {s:Sto} (h:TabP B bt w s) (who:List UInt8) :
  Calls Tryz.prog 22 #[.pointer (some ⟨bt,0,none⟩),.string ⟨who.toArray⟩] w fun e w'=>∃ v ds,e=.returned v∧OwnPb w' w.heap.size v ds∧(∀ c ∈ ds,OwnU w' w.heap.size c.ts c.p.doc.tuples∧Own w' w.heap.size 9 c.ns (strs c.p.doc.notes))∧pbsL ds=liveS s.l who∧Below w.heap.size w w':=by
 obtain ⟨i0,hi,hz0,hz1,hz2⟩:=info_parts infoPub;have hT:=h;obtain ⟨mn,ma,be,mw,cs,r,e1,h2,h3,h4,h5⟩:=h.has;obtain ⟨D,hown,hMp⟩:=h4.all;have KM:=pmade_any h4;have hpw:cs.Pairwise fun a b=>a.p.num < b.p.num:=nums_pw (by rw [← e1]; exact h.ok.nums);have hln:cs.length≤200:=by rw [← pbsL_len cs,← e1]; exact few_pubs h.right h.ok
 have cm:=h4.c9;have hmlt:=hown.lt;have hcs:∀ x ∈ cs,SlF x.ts∧SlF x.ns:=fun x hx=>(h2 x hx).f;have HS:=hid (And.intro hT (And.intro e1 (And.intro h2 (And.intro h3 (And.intro hpw hcs)))));clear h h4 h5 hT e1 h2 h3 hpw hcs
 go_enter Tryz.func22,Tryz.ntmps22
 go_wp2_with (first
  | (go_at_call 34; refine KM.mono ?_; rintro e w2 ⟨rfl,hw2⟩; rw [hw2]; clear hw2)
  | (at_range; refine wpList_range_own _ rfl _ 73 rfl 3 62 keyI Tryz.underlying73 _ ma cs.length _ rfl hown ?_; intro w0 hrg0 hg0 hs0)
  | go_in)
 go_frame
 have hb0:Below w.heap.size w w0:=(Below.refl _ _).grown hg0 (Nat.le_refl _) fun k hk=>by cases hk
 have HC:=hid (ComeP.start hMp);have HL:=hid (LiveI.start w who hb0);have HR:=hid hrg0;clear hrg0 hg0 hs0 hown hb0 KM cm
 go_loopw [5] (fun v wr=>∃ ds done todo left cnt,Hid (LiveI w who wr v ds done)∧Hid (ComeP cs done todo left)∧Hid (wr.ranges Tryz.prog 3 pbE ma w.heap.size cs.length D left cnt)) (fun _ wr=>wr.rangeLeft ma w.heap.size)
 case atStart=>exact ⟨[],[],cs,_,_,HL,HC,HR⟩
 case round =>
  clear HL HC HR;obtain ⟨ds,done,todo,left,cnt,HL,HC,HR⟩:=hrel;have hrg:=HR.out;have hcp:=HC.out;have hpw:=HS.out.2.2.2.2.1;have hcs:=HS.out.2.2.2.2.2;have hdl:=HL.out.len;have hcl:=hcp.len
  go_wp2_with (first
   | (at_next; refine wp_next_pb _ rfl _ rfl ma w.heap.size cs.length D left cnt hMp hpw hcs hcp rfl hrg ?_ ?_)
   | go_in)
  ·intro hc0 hperm;have KS:=hid (sort_pubs HL.out.own (fun c hc=>⟨IsSl_own (HL.out.docs c hc).1,IsSl_own (HL.out.docs c hc).2⟩) (by omega));clear hrg HR HC hcp;go_wp2_with (go_at_call 43; refine KS.out.mono ?_; rintro e u2 ⟨rfl,es,ho2,hp2,hs2,hg2⟩)
   go_ret;refine ⟨_,es,rfl,ho2,fun c hc=>?_,pubs_sorted (by rw [← HS.out.2.1]; exact HS.out.1.ok.nums) rfl hperm HL.out.is hp2 hs2 |>.trans (by rw [HS.out.2.1]),HL.out.bel.grown hg2 HL.out.bel.size fun k hk=>(World.ownsRow.lt HL.out.own k hk).1⟩
   have hd:=HL.out.docs c (hp2.mem_iff.1 hc);exact ⟨World.ownsRow.kept hd.1 hg2 (ow_rows_ne HL.out.own hd.1 tuNeP),World.ownsRow.kept hd.2 hg2 (ow_rows_ne HL.out.own hd.2 strNe)⟩
  ·intro x w1 left1 cnt1 todo1 hx hc1 hrg1 hlt1 hg1 hs1 hen;have hl:=hrg.left_eq;have L1:=hid (HL.out.iter hrg (Nat.le_refl _) hg1);have C1:=hid hc1;have hms:cnt1 < wr.rangeLeft ma w.heap.size:=by rw [hl]; exact hlt1
   have SX:=hid (HS.out.2.2.1 x hx);have OX:=hid (HS.out.2.2.2.1 x hx);have hb1:Below w.heap.size w w1:=L1.out.bel;have b2:Below w1.heap.size w1 (w1.alloc (.cells #[.int .i64 x.p.num,.string ⟨x.p.who.toArray⟩,.string ⟨x.p.tag.toArray⟩,.int .i64 x.p.til,.string ⟨x.p.doc.entity.toArray⟩,x.ts,x.ns] 62)):=(Below.refl _ w1).alloc (Nat.le_refl _) _;have RX:=hid (rp_row7 w1 (.int .i64 x.p.num) (.string ⟨x.p.who.toArray⟩) (.string ⟨x.p.tag.toArray⟩) (.int .i64 x.p.til) (.string ⟨x.p.doc.entity.toArray⟩) x.ts x.ns 62);have L2:=hid (L1.out.below b2);have R2:=hid (hrg1.alloc (.cells #[.int .i64 x.p.num,.string ⟨x.p.who.toArray⟩,.string ⟨x.p.tag.toArray⟩,.int .i64 x.p.til,.string ⟨x.p.doc.entity.toArray⟩,x.ts,x.ns] 62));have hsl:IsSl x.ts∧IsSl x.ns:=⟨IsSl_own OX.out.1,IsSl_own OX.out.2⟩
   clear hc1 hrg1 hg1 hs1 hrg HR HC hcp HL hl hlt1 L1 b2 hb1;unfold pbV at hen ⊢;obtain ⟨⟨xa,xn,xc,hxt⟩,⟨ya,yn,yc,hyt⟩⟩:=hsl;rw [hxt,hyt] at hen RX L2 R2 ⊢
   go_upto_region 7 with fail
   generalize w1.heap.size=gx at RX ⊢;generalize World.alloc _ _=w2 at RX L2 R2 ⊢;obtain ⟨x0,x1,x2,x3,x4,x5,x6,_⟩:=RX.out.rp7
   cases heb:x.p.who==who
   ·go_wp2;go_roundw
    case rel=>exact ⟨ds,done++[x],todo1,left1,cnt1,L2.out.skip heb,C1.out,R2.out⟩
    case measure=>rw [R2.out.left_eq]; exact hms
   ·have TX:=HS.out.1.below L2.out.bel;have KC:=hid (pcopypub_any x w2 SX.out ((OX.out.1.below L2.out.bel).tusAt) (own_strsAtO (OX.out.2.below L2.out.bel)));unfold pbV at KC;simp only [hxt,hyt] at KC;clear TX;go_wp2_with fail
    refine KC.out.mono ?_
    rintro e w3 ⟨ts',ns',rfl,ho3,hn3,hb3⟩;have L3:=hid (L2.out.below hb3);have R3:=hid (show w3.ranges Tryz.prog 3 pbE ma w.heap.size cs.length D left1 cnt1 from R2.out.kept (row:=none) ⟨hb3.os,hb3.tape,hb3.output,hb3.size,fun k hk _=>hb3.block k hk⟩ (by simp) (by simp));have OY:=hid (And.intro (own_lower ho3 L2.out.bel.size) (own_lower hn3 L2.out.bel.size));obtain ⟨a3,n3,c3,rfl⟩:=IsSl_own ho3;obtain ⟨a4,n4,c4,rfl⟩:=IsSl_own hn3;clear L2 R2 RX x0 x1 x2 x3 x4 x5 x6 KC ho3 hn3 hb3 hen;have hle:=L3.out.bel.size;go_wp2_with (at_builtin; refine wp_appPg _ rfl (.tmp 24) (.tmp 27) 29 rfl w.heap.size i0 _ Tryz.underlying29 hi hz0 hz1 hz2 rfl _ ds rfl (L3.out.own.alloc _) ⟨_,0,none⟩ 1 [⟨x.p,.slice a3 n3 c3,.slice a4 n4 c4⟩] 1 rfl (fun d hd=>by simp at hd; subst hd; exact ⟨rfl,rfl⟩) rfl (pb_new1 _ ⟨x.p,.slice a3 n3 c3,.slice a4 n4 c4⟩) (by omega) (by simp) (Nat.le_trans hle (by simp)) ?_; intro v4 w4 hown4 hgr4)
    go_roundw
    case rel =>
     have L4:=L3.out.below ((Below.refl _ w3).alloc (Nat.le_refl _) (.cells #[.int .i64 x.p.num,.string ⟨x.p.who.toArray⟩,.string ⟨x.p.tag.toArray⟩,.int .i64 x.p.til,.string ⟨x.p.doc.entity.toArray⟩,.slice a3 n3 c3,.slice a4 n4 c4] 62));have R4:=R3.out.alloc (.cells #[.int .i64 x.p.num,.string ⟨x.p.who.toArray⟩,.string ⟨x.p.tag.toArray⟩,.int .i64 x.p.til,.string ⟨x.p.doc.entity.toArray⟩,.slice a3 n3 c3,.slice a4 n4 c4] 62);exact ⟨_,done++[x],todo1,left1,cnt1,L4.app (y:=⟨x.p,.slice a3 n3 c3,.slice a4 n4 c4⟩) heb rfl ⟨OY.out.1.alloc _,OY.out.2.alloc _⟩ hown4 hgr4,C1.out,R4.kept hgr4 (row_ne_low L4.own hmlt) (row_ne_iter L4.own R4)⟩
    case measure =>
     have L4:=L3.out.below ((Below.refl _ w3).alloc (Nat.le_refl _) (.cells #[.int .i64 x.p.num,.string ⟨x.p.who.toArray⟩,.string ⟨x.p.tag.toArray⟩,.int .i64 x.p.til,.string ⟨x.p.doc.entity.toArray⟩,.slice a3 n3 c3,.slice a4 n4 c4] 62));have R4:=R3.out.alloc (.cells #[.int .i64 x.p.num,.string ⟨x.p.who.toArray⟩,.string ⟨x.p.tag.toArray⟩,.int .i64 x.p.til,.string ⟨x.p.doc.entity.toArray⟩,.slice a3 n3 c3,.slice a4 n4 c4] 62);rw [(R4.kept hgr4 (row_ne_low L4.own hmlt) (row_ne_iter L4.own R4)).left_eq];exact hms
end Go.Proofs.YteicmbhilambpaaGreatDoor
