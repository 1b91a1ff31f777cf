/-
  PR7, PP1, PP2, SHost, PR4, PR7b, XPar, XParse, PR10.
-/
import Derived.Test.YtdnekampnkhmfaaGreatDoorPK22
import Derived.Test.YtdnekampnkhmfaaGreatDoorPK28
set_option linter.unusedVariables false
set_option linter.unusedSimpArgs false
set_option maxRecDepth 20000
namespace Go.Proofs.YtdnekampnkhmfaaGreatDoor
open Go.RowKit Sc
theorem own_single {w:World} {B:Nat} {kv:Value} {q:Nat} (h:Own w B 3 kv (posCells [q])):∃ g cap,kv=.slice (some ⟨g,0,none⟩) 1 cap∧w.cell? ⟨g,0,none⟩=some (.int .i64 (q:Int))∧B≤g:=by
 have h0:=h
 rcases h.2 with ⟨rfl,hn⟩ | ⟨g,cap,cur,rfl,hb,hg,_⟩
 ·simp [posCells] at hn
 ·have e:∀ j,(⟨g,0,none⟩:Addr).add j=⟨g,j,none⟩:=fun j=>by unfold Addr.add; split <;> simp_all
  have:=World.ownsRow.cells h0 (g:=g) rfl 0 (.int .i64 (q:Int)) (by simp [posCells])
  rw [e] at this;exact ⟨g,cap,by simp [posCells],this,hb⟩
theorem own_form {w:World} {B:Nat} {kv:Value} {l:List Nat} (h:Own w B 3 kv (posCells l)):∃ ka cap,kv=.slice ka l.length cap:=by
 rcases h.2 with ⟨rfl,hn⟩ | ⟨g,cap,cur,rfl,hb,hg,_⟩
 ·simp [posCells] at hn; exact ⟨none,0,by rw [hn]; rfl⟩
 ·exact ⟨some ⟨g,0,none⟩,cap,by simp [posCells]⟩
theorem places_one {nm:List UInt8} {d p:Nat} {t:XT} (h:(placesN nm d t p).length=1):∃ q k,placesN nm d t p=[(q,k)]∧namedX nm (kidsOf t)=[k]:=by
 obtain ⟨y,hy⟩:=List.length_eq_one_iff.1 h;obtain ⟨q,k⟩:=y;refine ⟨q,k,hy,?_⟩
 have:=namedP_kids nm (d+1) (kidsOf t) (p+1)
 rw [show namedP nm (startsP (d+1) (kidsOf t) (p+1))=[(q,k)] from hy] at this;exact this.symm
theorem places_len {nm:List UInt8} {d p:Nat} {t:XT}:(placesN nm d t p).length=(namedX nm (kidsOf t)).length:=namedP_len
theorem RowD.node {w:World} {v:Value} {cs:List NdC} (h:RowD w v cs) {q d:Nat} {t:XT} (hs:SubAt (ndsL cs) q d t):∃ ad cap a,v=.slice (some ad) cs.length cap∧ad.block < w.heap.size∧q < cs.length∧w.cell? (ad.add (q * 4))=some (.int .i64 (d:Int))∧w.cell? ⟨(ad.add (q * 4)).block,(ad.add (q * 4)).off+1,none⟩=some (.string ⟨(nameT t).toArray⟩)∧w.cell? ⟨(ad.add (q * 4)).block,(ad.add (q * 4)).off+2,none⟩=some a∧w.cell? ⟨(ad.add (q * 4)).block,(ad.add (q * 4)).off+3,none⟩=some (.string ⟨(textOf t).toArray⟩)∧ParsAt w a (attrsOf t)∧SmallP 1048576 (attrsOf t)∧(textOf t).length≤1048576:=by
 obtain ⟨hp,hnd⟩:=sub_at hs;obtain ⟨ao,cap,rfl,hc⟩:=h.at';obtain ⟨ad,rfl,e2,c,pa⟩:=hc q hp;have sm:=h.small _ (List.getElem_mem hp);have c0:=c.c0;have c1:=c.c1;have c2:=c.c2;have c3:=c.c3;rw [hnd] at c0 c1 c3 pa sm;exact ⟨ad,cap,cs[q].a,rfl,e2,hp,c0,c1,c2,c3,pa,sm.2.2.1,sm.2.1⟩
section
variable {t : XT}
theorem tup_no1 (h:(namedX pstatK (kidsOf t)).length ≠ 1):tupleT t=none:=by
 unfold tupleT
 split
 ·next st e=>rw [e] at h; simp at h
 ·rfl
theorem tup_no2 {st:XT} (h1:namedX pstatK (kidsOf t)=[st]) (h:(namedX basicK (kidsOf st)).length ≠ 1):tupleT t=none:=by
 unfold tupleT;rw [h1]
 simp only
 split
 ·next b e=>rw [e] at h; simp at h
 ·rfl
theorem tup_yes {st b:XT} (h1:namedX pstatK (kidsOf t)=[st]) (h2:namedX basicK (kidsOf st)=[b]):tupleT t=if textOf b ≠ openK∧textOf b ≠ closedK then none else if 1 < (namedX pcontK (kidsOf t)).length∨1 < (namedX noteK (kidsOf t)).length then none else (contP (kidsOf t)).map fun c=>⟨(attG pidK (attrsOf t)).getD [],textOf b==openK,c.1,c.2,(((namedX noteK (kidsOf t)).head?).map textOf).getD []⟩:=by
 unfold tupleT;rw [h1]
 simp only
 rw [h2]
end
def TupP (R:Option Tu) (w:World) (e:Ending) (w':World):Prop:=∃ x ok,e=.returned (.tuple #[tuV x,.bool ok])∧(R=if ok=true then some x else none)∧Below w.heap.size w w'
set_option maxHeartbeats 1000000 in
set_option maxRecDepth 100000 in
theorem pattr_any (x y:ByteArray) (w:World) :
  Calls Tryz.prog 60 #[.string x,.string y] w fun e w'=>e=.returned (.agg #[.string x,.string y,.bool true])∧Below w.heap.size w w':=by
 have hr0':=rc_row3 w (.string ⟨#[]⟩) (.string ⟨#[]⟩) (.bool false) 59;have hb0:Below w.heap.size w (w.alloc (.cells #[.string ⟨#[]⟩,.string ⟨#[]⟩,.bool false] 59)):=(Below.refl _ w).alloc (Nat.le_refl _) _;have hlt0:=alloc_lt w (.cells #[.string ⟨#[]⟩,.string ⟨#[]⟩,.bool false] 59);obtain ⟨c0,c1,c2,f0,f1,f2⟩:=hr0'.rc3;have hr0:=hid hr0';clear hr0'
 go_enter Tryz.func60,Tryz.ntmps60
 go_wp2;have hr5:=rc_store3 hr0.out (.string x) (.string y) (.bool true);have hb5:=rc_below3 hb0 w.heap.size (Nat.le_refl _) (.string x) (.string y) (.bool true);generalize World.setCell _ _ _=w5 at hr5 hb5 ⊢;obtain ⟨d0,d1,d2,_,_,_⟩:=hr5.rc3
 try simp only [Exit.inBlock,Exit.then]
 refine bodyPost_ret (v:=.agg #[.string x,.string y,.bool true]) (by simp [results,Tryz.results60,go_sem,d0,d1,d2]; try rfl) rfl ?_
 exact ⟨rfl,(Below.refl _ w).alloc (Nat.le_refl _) _⟩
def wordO (b:Bool):List UInt8:=if b=true then openK else closedK
set_option maxHeartbeats 1000000 in
theorem pword_any (b:Bool) (w:World) :
  Calls Tryz.prog 114 #[.bool b] w fun e w'=>e=.returned (.string ⟨(wordO b).toArray⟩)∧w'=w:=by
 cases b
 all_goals
  go_enter Tryz.func114,Tryz.ntmps114
  go_wp2;go_ret;exact ⟨rfl,rfl⟩
def contA (x:Tu):List Par:=if x.prio=-1 then [] else [atr priorityK (decL x.prio)]
structure CE (w wr:World) (x:Tu) (n:List Value):Prop where
 bel:Below w.heap.size w wr
 r1:RowIs wr w.heap.size 56 (tuCells x)
 r2:RowIs wr (w.heap.size+1) 52 [.int .i64 0,.string ⟨#[]⟩,.slice none 0 0,.string ⟨#[]⟩]
 r3:RowIs wr (w.heap.size+1+1) 52 n
theorem CE.lt {w wr:World} {x:Tu} {n:List Value} (h:CE w wr x n):w.heap.size+1+1 < wr.heap.size:=(Array.getElem?_eq_some_iff.1 (show wr.heap[w.heap.size+1+1]? = some _ from h.r3)).1
theorem CE.below {w wr w':World} {x:Tu} {n:List Value} (h:CE w wr x n) (hb:Below wr.heap.size wr w'):CE w w' x n :=
 ⟨h.bel.trans (hb.mono h.bel.size),h.r1.below hb (by have:=h.lt; omega),h.r2.below hb (by have:=h.lt; omega),h.r3.below hb h.lt⟩
theorem CE.set {w wr:World} {x:Tu} {n:List Value} (h:CE w wr x n) (j:Nat) (v:Value):CE w (wr.setCell ⟨w.heap.size+1+1,j,none⟩ v) x (n.set j v) :=
 ⟨h.bel.setCell (show w.heap.size≤(⟨w.heap.size+1+1,j,none⟩:Addr).block from by simp only; omega) _,row_other h.r1 (by omega),row_other h.r2 (by omega),h.r3.set j v⟩
theorem ce_new (w:World) (x:Tu) (n0 n1 n2 n3:Value):CE w (((w.alloc (.cells #[.string ⟨x.id.toArray⟩,.bool x.opn,.string ⟨x.contact.toArray⟩,.int .i64 x.prio,.string ⟨x.note.toArray⟩] 56)).alloc (.cells #[.int .i64 0,.string ⟨#[]⟩,.slice none 0 0,.string ⟨#[]⟩] 52)).alloc (.cells #[n0,n1,n2,n3] 52)) x [n0,n1,n2,n3]:=by
 have h1:=rc_row5 w (.string ⟨x.id.toArray⟩) (.bool x.opn) (.string ⟨x.contact.toArray⟩) (.int .i64 x.prio) (.string ⟨x.note.toArray⟩) 56;have hl1:=alloc_lt w (.cells #[.string ⟨x.id.toArray⟩,.bool x.opn,.string ⟨x.contact.toArray⟩,.int .i64 x.prio,.string ⟨x.note.toArray⟩] 56);have hs1:(w.alloc (.cells #[.string ⟨x.id.toArray⟩,.bool x.opn,.string ⟨x.contact.toArray⟩,.int .i64 x.prio,.string ⟨x.note.toArray⟩] 56)).heap.size=w.heap.size+1:=by simp
 have hb1:Below w.heap.size w (w.alloc (.cells #[.string ⟨x.id.toArray⟩,.bool x.opn,.string ⟨x.contact.toArray⟩,.int .i64 x.prio,.string ⟨x.note.toArray⟩] 56)):=(Below.refl _ w).alloc (Nat.le_refl _) _;generalize w.alloc (.cells #[.string ⟨x.id.toArray⟩,.bool x.opn,.string ⟨x.contact.toArray⟩,.int .i64 x.prio,.string ⟨x.note.toArray⟩] 56)=W1 at h1 hl1 hs1 hb1 ⊢;have h2:=rc_row4 W1 (.int .i64 0) (.string ⟨#[]⟩) (.slice none 0 0) (.string ⟨#[]⟩) 52;have hl2:=alloc_lt W1 (.cells #[.int .i64 0,.string ⟨#[]⟩,.slice none 0 0,.string ⟨#[]⟩] 52);have hs2:(W1.alloc (.cells #[.int .i64 0,.string ⟨#[]⟩,.slice none 0 0,.string ⟨#[]⟩] 52)).heap.size=w.heap.size+1+1:=by simp [hs1]
 have hb2:Below W1.heap.size W1 (W1.alloc (.cells #[.int .i64 0,.string ⟨#[]⟩,.slice none 0 0,.string ⟨#[]⟩] 52)):=(Below.refl _ W1).alloc (Nat.le_refl _) _;generalize W1.alloc (.cells #[.int .i64 0,.string ⟨#[]⟩,.slice none 0 0,.string ⟨#[]⟩] 52)=W2 at h2 hl2 hs2 hb2 ⊢;have h3:=rc_row4 W2 n0 n1 n2 n3 52;have hb3:Below W2.heap.size W2 (W2.alloc (.cells #[n0,n1,n2,n3] 52)):=(Below.refl _ W2).alloc (Nat.le_refl _) _;have hb12:=hb1.trans (hb2.mono hb1.size);rw [hs1] at h2 hl2;rw [hs2] at h3;exact ⟨hb12.trans (hb3.mono hb12.size),(h1.below hb2 hl1).below hb3 (by rw [hs2]; omega),h2.below hb3 (by rw [hs2]; omega),h3⟩
set_option maxHeartbeats 2000000 in
set_option maxRecDepth 100000 in
theorem pcont_any (x:Tu) (w:World) (hp:(Lit.int .i64 x.prio).wf=true) :
  Calls Tryz.prog 115 #[tuV x] w fun e w'=>∃ a,e=.returned (ndV ⟨2,pcontK,contA x,x.contact⟩ a)∧OwnP w' w.heap.size a (contA x)∧Below w.heap.size w w':=by
 have hp:=i64_of hp;have KD:=hid (fun w'=>pdec_any x.prio w');have hA:contA x=if x.prio=-1 then [] else [atr priorityK (decL x.prio)]:=rfl
 generalize contA x=A at hA ⊢;have HC:=hid (ce_new w x (.int .i64 2) (.string ⟨#[99,111,110,116,97,99,116]⟩) (.slice none 0 0) (.string ⟨x.contact.toArray⟩));generalize decL x.prio=DL at KD hA;obtain ⟨xi,xo,xc,xp,xn⟩:=x;unfold tuV ndV;simp only at KD hA HC hp ⊢;have hr0:=rc_row5 w (.string ⟨xi.toArray⟩) (.bool xo) (.string ⟨xc.toArray⟩) (.int .i64 xp) (.string ⟨xn.toArray⟩) 56
 go_enter Tryz.func115,Tryz.ntmps115
 go_upto_region 2 with fail
 clear hr0;generalize World.alloc (World.alloc (World.alloc w _) _) _=W3 at HC ⊢;obtain ⟨a0,a1,a2,a3,a4,_,_,_,_,_⟩:=(show RowIs W3 w.heap.size 56 [.string ⟨xi.toArray⟩,.bool xo,.string ⟨xc.toArray⟩,.int .i64 xp,.string ⟨xn.toArray⟩] from HC.out.r1).rc5;obtain ⟨b0,b1,b2,b3,f0,f1,f2,f3⟩:=HC.out.r2.rc4;obtain ⟨c0,c1,c2,c3,g0,g1,g2,g3⟩:=HC.out.r3.rc4;by_cases h1:xp=-1
 ·subst h1;rw [if_pos rfl] at hA;subst hA;have hr5:=hid (rc_store4 HC.out.r2 (.int .i64 2) (.string ⟨#[99,111,110,116,97,99,116]⟩) (.slice none 0 0) (.string ⟨xc.toArray⟩));have hb5:=hid (rc_below4 HC.out.bel (w.heap.size+1) (Nat.le_succ _) (.int .i64 2) (.string ⟨#[99,111,110,116,97,99,116]⟩) (.slice none 0 0) (.string ⟨xc.toArray⟩));clear HC KD;go_wp2;generalize World.setCell _ _ _=w5 at hr5 hb5 ⊢;obtain ⟨e0,e1,e2,e3,_,_,_,_⟩:=hr5.out.rc4
  try simp only [Exit.inBlock,Exit.then]
  refine bodyPost_ret (v:=.agg #[.int .i64 2,.string ⟨#[99,111,110,116,97,99,116]⟩,.slice none 0 0,.string ⟨xc.toArray⟩]) (by simp [results,Tryz.results115,go_sem,e0,e1,e2,e3]; try rfl) rfl ?_
  exact ⟨_,rfl,OwnP.nil _ _,hb5.out⟩
 ·rw [if_neg h1] at hA;subst hA;have q1:(xp != -1)=true:=by simpa using h1
  have q2:(xp==-1)=false:=by simpa using h1
  go_wp2_with fail
  refine (KD.out _).mono ?_
  rintro e w4 ⟨rfl,hw4⟩;have HC4:=hid (HC.out.below hw4);clear a0 a1 a2 a3 a4 b0 b1 b2 b3 f0 f1 f2 f3 c0 c1 c2 c3 g0 g1 g2 g3 KD HC;go_wp2_with fail
  refine (pattr_any _ _ _).mono ?_
  rintro e w5 ⟨rfl,hw5⟩;have HC5:=hid (HC4.out.below hw5);have hlt5:=HC5.out.lt;have hsz5:=HC5.out.bel.size;have hal:Below w5.heap.size w5 (w5.alloc (.cells #[.string ⟨#[112,114,105,111,114,105,116,121]⟩,.string ⟨DL.toArray⟩,.bool true] 59)):=(Below.refl _ w5).alloc (Nat.le_refl _) _;have HC6:=hid (HC5.out.below hal);obtain ⟨c0,c1,c2,c3,g0,g1,g2,g3⟩:=HC6.out.r3.rc4;have HC5s:=hid (HC5.out.set 2 (.slice (some ⟨w5.heap.size,0,none⟩) 1 1));have hs5:(w5.setCell ⟨w.heap.size+1+1,2,none⟩ (.slice (some ⟨w5.heap.size,0,none⟩) 1 1)).heap.size=w5.heap.size:=World.size_setCell _ _ _;have hOP:OwnP ((w5.setCell ⟨w.heap.size+1+1,2,none⟩ (.slice (some ⟨w5.heap.size,0,none⟩) 1 1)).alloc (.cells #[.string ⟨#[112,114,105,111,114,105,116,121]⟩,.string ⟨DL.toArray⟩,.bool true] 59)) w5.heap.size (.slice (some ⟨w5.heap.size,0,none⟩) 1 1) [atr priorityK DL]:=by
   have h:=ownP_newX (w5.setCell ⟨w.heap.size+1+1,2,none⟩ (.slice (some ⟨w5.heap.size,0,none⟩) 1 1)) w5.heap.size (by rw [hs5]; exact Nat.le_refl _) [atr priorityK DL] 1 rfl (by decide);rw [hs5] at h;exact h
  have HC7:=hid (HC5s.out.below ((Below.refl _ _).alloc (Nat.le_refl _) (.cells #[.string ⟨#[112,114,105,111,114,105,116,121]⟩,.string ⟨DL.toArray⟩,.bool true] 59)));have HOP:=hid hOP;clear hw4 HC4 hw5 HC5 hal hOP HC6 HC5s hs5
  go_upto_region 4 with fail
  clear c0 c1 c2 c3 g0 g1 g2 g3;generalize World.alloc _ _=w6 at HC7 HOP ⊢;obtain ⟨b0,b1,b2,b3,f0,f1,f2,f3⟩:=HC7.out.r2.rc4;obtain ⟨c0,c1,c2,c3,g0,g1,g2,g3⟩:=(show RowIs w6 (w.heap.size+1+1) 52 [.int .i64 2,.string ⟨#[99,111,110,116,97,99,116]⟩,.slice (some ⟨w5.heap.size,0,none⟩) 1 1,.string ⟨xc.toArray⟩] from HC7.out.r3).rc4;have hr5:=hid (rc_store4 HC7.out.r2 (.int .i64 2) (.string ⟨#[99,111,110,116,97,99,116]⟩) (.slice (some ⟨w5.heap.size,0,none⟩) 1 1) (.string ⟨xc.toArray⟩));have hb5:=hid (rc_below4 HC7.out.bel (w.heap.size+1) (Nat.le_succ _) (.int .i64 2) (.string ⟨#[99,111,110,116,97,99,116]⟩) (.slice (some ⟨w5.heap.size,0,none⟩) 1 1) (.string ⟨xc.toArray⟩));have hO5:=hid (show OwnP ((((w6.setCell ⟨w.heap.size+1,0,none⟩ (.int .i64 2)).setCell ⟨w.heap.size+1,1,none⟩ (.string ⟨#[99,111,110,116,97,99,116]⟩)).setCell ⟨w.heap.size+1,2,none⟩ (.slice (some ⟨w5.heap.size,0,none⟩) 1 1)).setCell ⟨w.heap.size+1,3,none⟩ (.string ⟨xc.toArray⟩)) w5.heap.size (.slice (some ⟨w5.heap.size,0,none⟩) 1 1) [atr priorityK DL] from ownsRow_setCell_below (a:=⟨w.heap.size+1,3,none⟩) (ownsRow_setCell_below (a:=⟨w.heap.size+1,2,none⟩) (ownsRow_setCell_below (a:=⟨w.heap.size+1,1,none⟩) (ownsRow_setCell_below (a:=⟨w.heap.size+1,0,none⟩) HOP.out (by simp only; omega) _) (by simp only; omega) _) (by simp only; omega) _) (by simp only; omega) _);clear HC7 HOP;go_wp2;generalize World.setCell _ _ _=w9 at hr5 hb5 hO5 ⊢;obtain ⟨e0,e1,e2,e3,_,_,_,_⟩:=hr5.out.rc4
  try simp only [Exit.inBlock,Exit.then]
  refine bodyPost_ret (v:=.agg #[.int .i64 2,.string ⟨#[99,111,110,116,97,99,116]⟩,.slice (some ⟨w5.heap.size,0,none⟩) 1 1,.string ⟨xc.toArray⟩]) (by simp [results,Tryz.results115,go_sem,e0,e1,e2,e3]; try rfl) rfl ?_
  exact ⟨_,rfl,ownP_mono hO5.out hsz5,hb5.out⟩
theorem ownN_newL (W:World) (B:Nat) (hB:B≤W.heap.size) (cs:List NdC) (n:Nat) (hn:cs.length=n) (hm:n≤1000) (hc:∀ c ∈ cs,OwnP W B c.a c.nd.attrs):OwnN (W.alloc (.cells (ndsCells cs).toArray 52)) B (.slice (some ⟨W.heap.size,0,none⟩) n n) cs:=by
 subst hn;refine ⟨⟨ndsCells_len cs,.inr ⟨_,_,(ndsCells cs).toArray,rfl,hB,heap_alloc_new _ _,Nat.le_refl _,by unfold maxLen; omega,by simp [ndsCells_len],?_⟩⟩,fun c h=>(hc c h).alloc _⟩
 rw [List.take_of_length_le (by simp [ndsCells_len])]
def tup3 (x:Tu) (a:Value):List NdC:=[⟨⟨1,tupleK,[atr pidK x.id],[]⟩,a⟩,⟨⟨2,pstatK,[],[]⟩,.slice none 0 0⟩,⟨⟨3,basicK,[],wordO x.opn⟩,.slice none 0 0⟩]
theorem tup3_own (W:World) (B:Nat) (hB:B≤W.heap.size) (g:Nat) (hg:g=W.heap.size+1) (x:Tu):OwnN ((W.alloc (.cells #[.string ⟨#[105,100]⟩,.string ⟨x.id.toArray⟩,.bool true] 59)).alloc (.cells #[.int .i64 1,.string ⟨#[116,117,112,108,101]⟩,.slice (some ⟨W.heap.size,0,none⟩) 1 1,.string ⟨#[]⟩,.int .i64 2,.string ⟨#[115,116,97,116,117,115]⟩,.slice none 0 0,.string ⟨#[]⟩,.int .i64 3,.string ⟨#[98,97,115,105,99]⟩,.slice none 0 0,.string ⟨(wordO x.opn).toArray⟩] 52)) B (.slice (some ⟨g,0,none⟩) 3 3) (tup3 x (.slice (some ⟨W.heap.size,0,none⟩) 1 1)):=by
 have h1:=ownP_newX W B hB [atr pidK x.id] 1 rfl (by decide);have hs:(W.alloc (.cells (parsCells [atr pidK x.id]).toArray 59)).heap.size=W.heap.size+1:=by simp
 have h2:=ownN_newL _ B (by rw [hs]; omega) (tup3 x (.slice (some ⟨W.heap.size,0,none⟩) 1 1)) 3 rfl (by decide) (by
  intro c hc;simp only [tup3,List.mem_cons,List.not_mem_nil,or_false] at hc
  rcases hc with rfl | rfl | rfl
  ·exact h1
  ·exact OwnP.nil _ _
  ·exact OwnP.nil _ _)
 rw [hs,← hg] at h2;exact h2
theorem flat_cont (x:Tu) (h:x.contact ≠ []):flatXs 2 (contT x)=[⟨2,pcontK,contA x,x.contact⟩]:=by
 unfold contT contA;rw [if_neg h]
 simp [flatXs,flatX]
theorem flat_tnote (x:Tu) (h:x.note ≠ []):flatXs 2 (tnoteT x)=[⟨2,noteK,[],x.note⟩]:=by
 unfold tnoteT noteT;rw [if_neg h]
 simp [flatXs,flatX]
theorem flat_tup3 (x:Tu) (a:Value):flatX 1 (tupT x)=ndsL (tup3 x a)++(flatXs 2 (contT x)++flatXs 2 (tnoteT x)):=flat_tup x
theorem own_ne {w:World} {B b:Nat} {v:Value} {cs:List NdC} {l:List Value} (h:OwnN w B v cs) (hr:RowIs w b 56 l):v.ownBlock ≠ some b:=by
 intro e
 rcases h.1.2 with ⟨rfl,_⟩ | ⟨g,cap,cur,rfl,_,hg,_⟩
 ·cases e
 ·injection e with e
  simp only at e;subst e;unfold RowIs at hr;rw [hg] at hr
  injection hr with hr
  injection hr with _ h2
  exact absurd h2 (by decide)
def TelP (F:List Nd) (w:World) (e:Ending) (w':World):Prop:=∃ v cs,e=.returned v∧ndsL cs=F∧OwnN w' w.heap.size v cs∧Below w.heap.size w w'
set_option maxHeartbeats 4000000 in
set_option maxRecDepth 100000 in
theorem ptupel_any (x:Tu) (w:World) (hp:(Lit.int .i64 x.prio).wf=true) :
  Calls Tryz.prog 61 #[tuV x] w fun e w'=>TelP (flatX 1 (tupT x)) w e w':=by
 have KC:=hid (fun w'=>pcont_any x w' hp);have KW:=hid (fun w'=>pword_any x.opn w');have HFT:=hid (fun a=>flat_tup3 x a);have HFC:=hid (flat_cont x);have HFN:=hid (flat_tnote x);have HF0:Hid ((x.contact=[] → flatXs 2 (contT x)=[])∧(x.note=[] → flatXs 2 (tnoteT x)=[])):=⟨fun h=>by unfold contT; rw [if_pos h]; simp [flatXs],fun h=>by unfold tnoteT; rw [if_pos h]; simp [flatXs]⟩
 generalize flatX 1 (tupT x)=F at HFT ⊢;generalize flatXs 2 (contT x)=FC at HFT HFC HF0;generalize flatXs 2 (tnoteT x)=FN at HFT HFN HF0;have hW:wordO x.opn=wordO x.opn:=rfl;have HR0:=hid (show RowIs _ w.heap.size 56 (tuCells x) from rc_row5 w (.string ⟨x.id.toArray⟩) (.bool x.opn) (.string ⟨x.contact.toArray⟩) (.int .i64 x.prio) (.string ⟨x.note.toArray⟩) 56);have hb0:Below w.heap.size w (w.alloc (.cells #[.string ⟨x.id.toArray⟩,.bool x.opn,.string ⟨x.contact.toArray⟩,.int .i64 x.prio,.string ⟨x.note.toArray⟩] 56)):=(Below.refl _ w).alloc (Nat.le_refl _) _;have hl0:=alloc_lt w (.cells #[.string ⟨x.id.toArray⟩,.bool x.opn,.string ⟨x.contact.toArray⟩,.int .i64 x.prio,.string ⟨x.note.toArray⟩] 56);clear hW;obtain ⟨xi,xo,xc,xp,xn⟩:=x;unfold tuV at KC ⊢;simp only at KC KW HFC HFN HF0 HR0 hb0 hl0 ⊢;obtain ⟨i1,hj,hy0,hy1,hy2⟩:=info_parts infoNodeB
 go_enter Tryz.func61,Tryz.ntmps61
 go_upto_region 1 with fail
 generalize World.alloc w _=W0 at HR0 hb0 hl0 ⊢;have HX:=hid (fun (W':World) (h:Below W0.heap.size W0 W')=>RowIs.rc5 (show RowIs W' w.heap.size 56 [.string ⟨xi.toArray⟩,.bool xo,.string ⟨xc.toArray⟩,.int .i64 xp,.string ⟨xn.toArray⟩] from HR0.out.below h hl0));obtain ⟨y0,y1,y2,y3,y4,_,_,_,_,_⟩:=HX.out W0 (Below.refl _ _)
 go_cut [3] from 4 to 14 (fun v wx=>∃ cs,Hid (∃ a,ndsL cs=ndsL (tup3 ⟨xi,xo,xc,xp,xn⟩ a))∧Hid (PSt w w.heap.size ⟨xi,xo,xc,xp,xn⟩ wx v cs))
 case first =>
  go_region_law (first | (go_simp; go_at_call 60; refine (pattr_any _ _ _).mono ?_; rintro e wa ⟨rfl,hwa⟩; have hq:=bstep14 (S:=W0.heap.size) (w1:=W0) (by first | exact Below.refl _ _ | exact (Below.refl _ _).drew | exact (Below.refl _ _).drew.drew | exact (Below.refl _ _).drew.drew.drew | exact (Below.refl _ _).drew.drew.drew.drew) (Nat.le_refl _) hwa; obtain ⟨ya0,ya1,ya2,ya3,ya4,_,_,_,_,_⟩:=HX.out _ hq; obtain ⟨yb0,yb1,yb2,yb3,yb4,_,_,_,_,_⟩:=HX.out _ (hq.alloc hq.size (.cells #[.string ⟨#[105,100]⟩,.string ⟨xi.toArray⟩,.bool true] 59)); clear hwa) | (go_simp; go_at_call 114; refine (KW.out _).mono ?_; rintro e ww ⟨rfl,hww⟩; rw [hww]; clear hww ww))
  all_goals
   have hq2:=fun o1 o2=>al14 hq (Nat.le_refl _) o1 o2;have hro:=tup3_own wa w.heap.size (Nat.le_trans hb0.size hq.size) _ rfl ⟨xi,xo,xc,xp,xn⟩;have hPS:Hid (PSt w w.heap.size ⟨xi,xo,xc,xp,xn⟩ _ _ _):=⟨hro,HR0.out.below (hq2 _ _) hl0,Nat.lt_of_lt_of_le hl0 (hq2 _ _).size,own_ne hro (HR0.out.below (hq2 _ _) hl0),hb0.trans ((hq2 _ _).mono hb0.size)⟩
   clear hro hq2;go_wp2_with fail
   go_meet
   case rel=>exact ⟨_,show _ from ⟨_,rfl⟩,hPS⟩
 case rest =>
  obtain ⟨cs,⟨a0,hnd⟩,hP⟩:=hcut;clear y0 y1 y2 y3 y4 HX HR0 hb0 hl0 KW;have hcl:cs.length=3:=by rw [← ndsL_len,hnd]; rfl
  have hnewN:=hid (fun (W:World) (c:NdC) (g:Nat) (hg:g=W.heap.size)=>xnd_new W c g hg);have HND:Hid (F=ndsL cs++(FC++FN)):=show _=_ by rw [hnd]; exact HFT.out a0
  obtain ⟨vo,vc,hvf⟩:=hP.out.own.form;rw [hcl] at hvf;subst hvf;clear hnd HFT;obtain ⟨z0,z1,z2,z3,z4,_,_,_,_,_⟩:=hP.out.c5;simp only at z0 z1 z2 z3 z4;by_cases hcx:xc=[]
  ·have hFC:=HF0.out.1 hcx;subst hcx hFC;by_cases hnx:xn=[]
   ·have hFN:=HF0.out.2 hnx;subst hnx hFN;clear HFC HFN HF0;go_wp2;go_ret;exact ⟨_,cs,rfl,by rw [HND.out]; simp,hP.out.own,hP.out.bel⟩
   ·have hFN:=HFN.out hnx;subst hFN;have hne:xn.isEmpty=false:=by simpa using hnx
    clear HFC HFN HF0;go_wp2_with (at_builtin; refine wp_appN2 _ rfl (.tmp 26) (.tmp 30) 47 rfl w.heap.size i1 _ Tryz.underlying47 hj hy0 hy1 hy2 rfl (.slice vo 3 vc) cs rfl (by exact OwnN.alloc hP.out.own _) ⟨_,0,none⟩ 1 ⟨⟨2,noteK,[],xn⟩,.slice none 0 0⟩ (by exact OwnP.nil _ _) rfl (by exact hnewN.out _ _ _ rfl) (by omega) (by have:=hP.out.size; simp; omega) ?_; intro v9 w9 hown9 hf9; have hP9:=(hP.out.alloc _).app hf9 hown9; clear hown9 hf9)
    go_ret;exact ⟨_,_,rfl,by rw [HND.out,nds_snoc]; rfl,hP9.own,hP9.bel⟩
  ·have hFC:=HFC.out hcx;subst hFC;have hce:xc.isEmpty=false:=by simpa using hcx
   go_wp2_with fail
   refine (KC.out _).mono ?_
   rintro e wc ⟨ca,rfl,hoc,hwc⟩;have hPc:=hid (hP.out.below hwc);have hoc:=ownP_mono hoc (show w.heap.size≤_ from hP.out.size);obtain ⟨qa,qc,hqf⟩:∃ qa qc,ca=.slice qa (contA ⟨xi,xo,xc,xp,xn⟩).length qc:=hoc.parsAt.form;obtain ⟨qn,hqn⟩:∃ qn,qn=(contA ⟨xi,xo,xc,xp,xn⟩).length:=⟨_,rfl⟩
   rw [← hqn] at hqf;subst hqf;clear hqn hP KC z0 z1 z2 z3 z4 hwc;unfold ndV
   simp only
   generalize contA ⟨xi,xo,xc,xp,xn⟩=CA at hoc HND
   go_upto_region 4 with (at_builtin; refine wp_appN2 _ rfl (.tmp 18) (.tmp 21) 47 rfl w.heap.size i1 _ Tryz.underlying47 hj hy0 hy1 hy2 rfl (.slice vo 3 vc) cs rfl (by exact OwnN.alloc hPc.out.own _) ⟨_,0,none⟩ 1 ⟨⟨2,pcontK,CA,xc⟩,.slice qa qn qc⟩ (by exact OwnP.alloc hoc _) rfl (by exact hnewN.out _ _ _ rfl) (by omega) (by have:=hPc.out.size; simp; omega) ?_; intro v9 w9 hown9 hf9; have hP9:=(hPc.out.alloc _).app hf9 hown9; clear hown9 hf9)
   have hL9:(cs++[(⟨⟨2,pcontK,CA,xc⟩,.slice qa qn qc⟩:NdC)]).length=4:=by simp [hcl]
   have hN9:=hid (nds_snoc cs ⟨⟨2,pcontK,CA,xc⟩,.slice qa qn qc⟩);generalize cs++[(⟨⟨2,pcontK,CA,xc⟩,.slice qa qn qc⟩:NdC)]=cs2 at hP9 hL9 hN9;obtain ⟨vo2,vc2,hvf2⟩:=hP9.own.form;rw [hL9] at hvf2;subst hvf2;have HP9:=hid hP9;obtain ⟨z0,z1,z2,z3,z4,_,_,_,_,_⟩:=HP9.out.c5;simp only at z0 z1 z2 z3 z4;clear hP9 hPc hoc;by_cases hnx:xn=[]
   ·have hFN:=HF0.out.2 hnx;subst hnx hFN;clear HFC HFN HF0;go_wp2;go_ret;exact ⟨_,cs2,rfl,by rw [HND.out,hN9.out]; simp,HP9.out.own,HP9.out.bel⟩
   ·have hFN:=HFN.out hnx;subst hFN;have hne:xn.isEmpty=false:=by simpa using hnx
    clear HFC HFN HF0;go_wp2_with (at_builtin; refine wp_appN2 _ rfl (.tmp 26) (.tmp 30) 47 rfl w.heap.size i1 _ Tryz.underlying47 hj hy0 hy1 hy2 rfl (.slice vo2 4 vc2) cs2 rfl (by exact OwnN.alloc HP9.out.own _) ⟨_,0,none⟩ 1 ⟨⟨2,noteK,[],xn⟩,.slice none 0 0⟩ (by exact OwnP.nil _ _) rfl (by exact hnewN.out _ _ _ rfl) (by omega) (by have:=HP9.out.size; simp; omega) ?_; intro v10 w10 hown10 hf10; have hP10:=(HP9.out.alloc _).app hf10 hown10; clear hown10 hf10)
    go_ret;exact ⟨_,_,rfl,by rw [HND.out,nds_snoc,hN9.out]; simp,hP10.own,hP10.bel⟩
theorem parse4 {l:List UInt8} {u:Uri} {er:Int} (h:parseV ([115,105,112,58]++l)=(u,er)) (w:World) (hs:l.length+4≤1048576) :
  Calls Tryz.prog 64 #[.string (⟨#[115,105,112,58]⟩++⟨l.toArray⟩)] w fun e w'=>∃ a1 k1 a2 k2,e=.returned (.tuple #[.agg #[.string ⟨u.scheme.toArray⟩,.string ⟨u.user.toArray⟩,.string ⟨u.host.toArray⟩,.int .i64 u.port,.slice a1 u.params.length k1,.slice a2 u.headers.length k2],.int .i64 er])∧ParsAt w' (.slice a1 u.params.length k1) u.params∧ParsAt w' (.slice a2 u.headers.length k2) u.headers∧Below w.heap.size w w':=by
 have k:=parse_any ([115,105,112,58]++l) w (by simp; omega);rw [h,← appL] at k;refine k.mono ?_
 rintro e w' ⟨p,q,rfl,hp,hq,hb⟩;have hp2:=hp.parsAt;have hq2:=hq.parsAt;obtain ⟨a1,k1,e1⟩:=hp2.form;obtain ⟨a2,k2,e2⟩:=hq2.form;simp only at e1 e2 hp2 hq2;subst e1 e2;exact ⟨a1,k1,a2,k2,rfl,hp2,hq2,hb⟩
set_option maxHeartbeats 1000000 in
set_option maxRecDepth 100000 in
theorem samehost_any (l:List UInt8) (w:World) (hs:l.length+4≤1048576) :
  Calls Tryz.prog 28 #[.string ⟨l.toArray⟩] w fun e w'=>e=.returned (.tuple #[.string ⟨(hostV l).1.toArray⟩,.int .i64 (hostV l).2])∧Below w.heap.size w w':=by
 obtain ⟨u,er,hpv⟩:∃ u er,parseV ([115,105,112,58]++l)=(u,er):=⟨_,_,rfl⟩
 have K1:=hid (parse4 hpv w hs);by_cases her:er=0
 ·subst her;have hcz:=parse_checked hpv;have hsm:=small_of_check hcz;obtain ⟨t,n,hwv⟩:∃ t n,whoV u=(t,n):=⟨_,_,rfl⟩
  have K2:=hid (fun (w':World) (p h:Value)=>who_any u p h w' hsm);rw [hwv] at K2;unfold uriV at K2;simp only at K2;by_cases hn:n=0
  ·subst hn;by_cases ht:t=l
   ·subst ht;have HV:=hid (host_yes (t:=t) hpv hwv);clear hpv hwv hcz hsm
    go_enter Tryz.func28,Tryz.ntmps28
    go_wp2_with fail
    refine K1.out.mono ?_
    rintro e w1 ⟨a1,k1,a2,k2,rfl,hp,hq,hw1⟩;have hb1:=hw1.alloc hw1.size (.cells #[.string ⟨u.scheme.toArray⟩,.string ⟨u.user.toArray⟩,.string ⟨u.host.toArray⟩,.int .i64 u.port,.slice a1 u.params.length k1,.slice a2 u.headers.length k2] 73);have hx:=box_new w1 u (.slice a1 u.params.length k1) (.slice a2 u.headers.length k2);have hlx:=alloc_lt w1 (.cells #[.string ⟨u.scheme.toArray⟩,.string ⟨u.user.toArray⟩,.string ⟨u.host.toArray⟩,.int .i64 u.port,.slice a1 u.params.length k1,.slice a2 u.headers.length k2] 73);have HX:=hid hx;have HP:=hid (hp.alloc (.cells #[.string ⟨u.scheme.toArray⟩,.string ⟨u.user.toArray⟩,.string ⟨u.host.toArray⟩,.int .i64 u.port,.slice a1 u.params.length k1,.slice a2 u.headers.length k2] 73));have HQ:=hid (hq.alloc (.cells #[.string ⟨u.scheme.toArray⟩,.string ⟨u.user.toArray⟩,.string ⟨u.host.toArray⟩,.int .i64 u.port,.slice a1 u.params.length k1,.slice a2 u.headers.length k2] 73));obtain ⟨g0,g1,g2,g3,g4,g5⟩:=hx;clear hp hq hw1 K1;go_wp2_with fail
    refine (K2.out _ _ _ HP.out HQ.out).mono ?_
    rintro e w2 ⟨rfl,hw2⟩;have hb2:=hb1.trans (hw2.mono hb1.size);clear g0 g1 g2 g3 g4 g5;obtain ⟨g0,g1,g2,g3,g4,g5⟩:=HX.out.below hw2 hlx;clear hw2 HP HQ HX hlx;go_wp2;go_ret2;exact ⟨ret_who HV.out,hb2⟩
   ·have HV:=hid (host_no hpv (by rw [hwv]; simp [ht]));have ht2:(t==l)=false:=by simpa using ht
    clear hpv hwv hcz hsm
    go_enter Tryz.func28,Tryz.ntmps28
    go_wp2_with fail
    refine K1.out.mono ?_
    rintro e w1 ⟨a1,k1,a2,k2,rfl,hp,hq,hw1⟩;have hb1:=hw1.alloc hw1.size (.cells #[.string ⟨u.scheme.toArray⟩,.string ⟨u.user.toArray⟩,.string ⟨u.host.toArray⟩,.int .i64 u.port,.slice a1 u.params.length k1,.slice a2 u.headers.length k2] 73);have hx:=box_new w1 u (.slice a1 u.params.length k1) (.slice a2 u.headers.length k2);have HP:=hid (hp.alloc (.cells #[.string ⟨u.scheme.toArray⟩,.string ⟨u.user.toArray⟩,.string ⟨u.host.toArray⟩,.int .i64 u.port,.slice a1 u.params.length k1,.slice a2 u.headers.length k2] 73));have HQ:=hid (hq.alloc (.cells #[.string ⟨u.scheme.toArray⟩,.string ⟨u.user.toArray⟩,.string ⟨u.host.toArray⟩,.int .i64 u.port,.slice a1 u.params.length k1,.slice a2 u.headers.length k2] 73));obtain ⟨g0,g1,g2,g3,g4,g5⟩:=hx;clear hp hq hw1 K1;go_wp2_with fail
    refine (K2.out _ _ _ HP.out HQ.out).mono ?_
    rintro e w2 ⟨rfl,hw2⟩;have hb2:=hb1.trans (hw2.mono hb1.size);clear g0 g1 g2 g3 g4 g5 hw2 HP HQ;go_wp2;go_ret2;exact ⟨ret_who HV.out,hb2⟩
  ·have HV:=hid (host_no hpv (by rw [hwv]; simp [hn]));have hn1:(n != 0)=true:=by simpa using hn
   have hn2:(n==0)=false:=by simpa using hn
   clear hpv hwv hcz hsm
   go_enter Tryz.func28,Tryz.ntmps28
   go_wp2_with fail
   refine K1.out.mono ?_
   rintro e w1 ⟨a1,k1,a2,k2,rfl,hp,hq,hw1⟩;have hb1:=hw1.alloc hw1.size (.cells #[.string ⟨u.scheme.toArray⟩,.string ⟨u.user.toArray⟩,.string ⟨u.host.toArray⟩,.int .i64 u.port,.slice a1 u.params.length k1,.slice a2 u.headers.length k2] 73);have hx:=box_new w1 u (.slice a1 u.params.length k1) (.slice a2 u.headers.length k2);have HP:=hid (hp.alloc (.cells #[.string ⟨u.scheme.toArray⟩,.string ⟨u.user.toArray⟩,.string ⟨u.host.toArray⟩,.int .i64 u.port,.slice a1 u.params.length k1,.slice a2 u.headers.length k2] 73));have HQ:=hid (hq.alloc (.cells #[.string ⟨u.scheme.toArray⟩,.string ⟨u.user.toArray⟩,.string ⟨u.host.toArray⟩,.int .i64 u.port,.slice a1 u.params.length k1,.slice a2 u.headers.length k2] 73));obtain ⟨g0,g1,g2,g3,g4,g5⟩:=hx;clear hp hq hw1 K1;go_wp2_with fail
   refine (K2.out _ _ _ HP.out HQ.out).mono ?_
   rintro e w2 ⟨rfl,hw2⟩;have hb2:=hb1.trans (hw2.mono hb1.size);clear g0 g1 g2 g3 g4 g5 hw2 HP HQ;go_wp2;go_ret2;exact ⟨ret_who HV.out,hb2⟩
 ·have HV:=hid (host_bad hpv her);have he1:(er != 0)=true:=by simpa using her
  have he2:(er==0)=false:=by simpa using her
  clear hpv
  go_enter Tryz.func28,Tryz.ntmps28
  go_wp2_with fail
  refine K1.out.mono ?_
  rintro e w1 ⟨a1,k1,a2,k2,rfl,hp,hq,hw1⟩;have hb1:=hw1.alloc hw1.size (.cells #[.string ⟨u.scheme.toArray⟩,.string ⟨u.user.toArray⟩,.string ⟨u.host.toArray⟩,.int .i64 u.port,.slice a1 u.params.length k1,.slice a2 u.headers.length k2] 73);clear hp hq hw1 K1;go_wp2;go_ret2;exact ⟨ret_who HV.out,hb1⟩
theorem distinctT_snoc (t:Tu):∀ l:List Tu,distinctT (l++[t])=(distinctT l && l.all (fun q=>!(q.id==t.id)))
 | []=>rfl
 | q :: l=>by
  rw [List.cons_append,distinctT,distinctT,distinctT_snoc t l,List.all_append,List.all_cons,List.all_cons,List.all_nil];have e:(t.id==q.id)=(q.id==t.id):=BEq.comm;rw [e]
  cases l.all (fun q_1=>!(q_1.id==q.id)) <;> cases distinctT l <;> cases (q.id==t.id) <;> cases l.all (fun q=>!(q.id==t.id)) <;> rfl
theorem distinctT_front:∀ a b:List Tu,distinctT (a++b)=true → distinctT a=true
 | [],b,_=>rfl
 | t :: a,b,h=>by
  rw [List.cons_append,distinctT,List.all_append] at h;simp only [Bool.and_eq_true] at h;rw [distinctT,distinctT_front a b h.2,h.1.1]; rfl
def tupsOk (l:List Tu):Bool:=l.all tupP && distinctT l
theorem tups_snoc {l:List Tu} {j:Nat} (hj:j < l.length) (ha:tupsOk (l.take j)=true) (h1:tupP l[j]=true) (h2:(l.take j).all (fun q=>!(q.id==l[j].id))=true):tupsOk (l.take (j+1))=true:=by
 simp only [tupsOk,Bool.and_eq_true] at ha ⊢;rw [List.take_succ_eq_append_getElem hj,List.all_append,distinctT_snoc,ha.1,ha.2,h2]
 simp [h1]
theorem chkD_is {d:Dc} (h1:(hostV d.entity).2=0) (h2:d.tuples.length≤16) (h3:d.notes.length≤16):checkD d=if (tupsOk d.tuples && d.notes.all noteP)=true then 0 else 140:=by
 unfold checkD tupsOk;rw [if_neg (by simp [h1]; omega),Bool.and_assoc]
theorem tups_bad {l:List Tu} {j:Nat} (hj:j < l.length) (h1:tupP l[j]=false):tupsOk l=false:=by
 unfold tupsOk
 have:l.all tupP=false:=by
  rw [List.all_eq_false];exact ⟨l[j],List.getElem_mem hj,by rw [h1]; simp⟩
 rw [this]; rfl
theorem tups_twice {l:List Tu} {j m:Nat} (hj:j < l.length) (hm:m < j) (h1:((l[m]'(by omega)).id==l[j].id)=true):tupsOk l=false:=by
 unfold tupsOk
 have:distinctT l=false:=by
  cases hd:distinctT l with
  | false=>rfl
  | true =>
   exfalso
   have e:l=l.take (j+1)++l.drop (j+1):=by simp
   rw [e] at hd;have h2:=distinctT_front _ _ hd;rw [List.take_succ_eq_append_getElem hj,distinctT_snoc] at h2;simp only [Bool.and_eq_true,List.all_eq_true] at h2;have h3:=h2.2 (l[m]'(by omega)) (by rw [List.mem_take_iff_getElem]; exact ⟨m,by omega,rfl⟩);rw [h1] at h3
   simp at h3
 rw [this]; simp
def smX (B:Nat) (k:XT):Prop:=(textOf k).length≤B∧SmallP B (attrsOf k)
theorem thou_le (s:List UInt8):thouV s≤1000:=by
 unfold thouV
 split
 ·omega
 ·split
  ·omega
  ·omega
theorem cont_small {B:Nat} {ks:List XT} {c:List UInt8 × Int} (h:contP ks=some c) (hk:∀ k ∈ ks,smX B k):c.1.length≤B∧-1≤c.2∧c.2≤1000:=by
 have hm:∀ k ∈ namedX pcontK ks,smX B k:=fun k h=>hk k (List.mem_filter.1 h).1;unfold contP at h
 split at h
 ·injection h with h; subst h; simp
 ·next c0 r e =>
  have h0:=(hm c0 (by rw [e]; simp)).1
  split at h
  ·injection h with h; subst h; exact ⟨h0,by simp,by simp⟩
  ·next p hp =>
   have h1:=thou_le p
   split at h
   ·cases h
   ·next hn=>injection h with h; subst h; exact ⟨h0,by simp only; omega,h1⟩
theorem tup_small {B:Nat} {t:XT} {x:Tu} (h:tupleT t=some x) (h0:smX B t) (hk:∀ k ∈ kidsOf t,smX B k):SmallT B x:=by
 unfold tupleT at h
 split at h
 ·split at h
  ·split at h
   ·cases h
   ·split at h
    ·cases h
    ·cases hc:contP (kidsOf t) with
     | none=>rw [hc] at h; cases h
     | some c =>
      rw [hc] at h;simp only [Option.map_some,Option.some.injEq] at h;obtain ⟨c1,c2,c3⟩:=cont_small hc hk;subst h;refine ⟨?_,c1,?_,?_⟩
      ·simp only
       cases hP:attG pidK (attrsOf t) with
       | none=>simp
       | some v=>exact attG_small h0.2 hP
      ·simp only
       cases hn:namedX noteK (kidsOf t) with
       | nil=>simp
       | cons k r =>
        have hm:k ∈ kidsOf t:=(List.mem_filter.1 (show k ∈ namedX noteK (kidsOf t) by rw [hn]; simp)).1;exact (hk k hm).1
      ·simp only [Lit.wf,IntKind.min,IntKind.max,IntKind.signed,IntKind.bits,Bool.and_eq_true,decide_eq_true_eq,if_true];omega
  ·cases h
 ·cases h
theorem kid_at {ks:List XT} {d p:Nat} {k:XT} (h:k ∈ ks):∃ y ∈ startsP d ks p,y.2=k:=by
 rw [← startsP_snd d ks p] at h;obtain ⟨y,hy,e⟩:=List.mem_map.1 h;exact ⟨y,hy,e⟩
theorem RowD.smX {w:World} {v:Value} {cs:List NdC} (h:RowD w v cs) {q d:Nat} {t:XT} (hs:SubAt (ndsL cs) q d t):smX 1048576 t:=by
 obtain ⟨_,_,_,_,_,_,_,_,_,_,_,h1,h2⟩:=h.node hs;exact ⟨h2,h1⟩
theorem RowD.tup {w:World} {v:Value} {cs:List NdC} (h:RowD w v cs) {q d:Nat} {t:XT} (hs:SubAt (ndsL cs) q d t) {x:Tu} (hx:tupleT t=some x):SmallT 1048576 x :=
 tup_small hx (h.smX hs) fun k hk=>by
  obtain ⟨y,hy,rfl⟩:=kid_at (d:=d+1) (p:=q+1) hk;exact h.smX (sub_kids hs y hy)
theorem FrX.row {b c:Nat} {v v':Value} {w w':World} {e:TypeId} {l:List Value} (h:FrX b v w v' w') (hr:RowIs w c e l) (hn:c ≠ b) (hv:v.ownBlock ≠ some c):RowIs w' c e l:=by
 unfold RowIs at hr ⊢;rw [h.block c (Array.getElem?_eq_some_iff.1 hr).1 hn hv]; exact hr
theorem one_row (w:World) (v:Value) (t:TypeId):RowIs (w.alloc (.cells #[v] t)) w.heap.size t [v]:=by
 unfold RowIs; rw [heap_alloc_new]
def AttP (o:Option (List Nd)) (b B:Nat) (w:World) (e:Ending) (w':World):Prop:=match o with
 | none=>e=.returned (.tuple #[.slice none 0 0,.int .i64 130])∧FrX b (.slice none 0 0) w (.slice none 0 0) w'
 | some ns=>∃ v' cs',e=.returned (.tuple #[v',.int .i64 0])∧ndsL cs'=ns∧OwnN w' B v' cs'∧FrX b (.slice none 0 0) w (.slice none 0 0) w'
set_option maxHeartbeats 4000000 in
set_option maxRecDepth 100000 in
theorem attempt_any (b:Nat) (l:List UInt8) (w:World) (hrd:XrAt w b l (.slice none 0 0)) (hl:l.length≤4096) :
  Calls Tryz.prog 52 #[.func (.func 53) #[.pointer (some ⟨b,0,none⟩)] #[]] w fun e w'=>AttP (docC l) b w.heap.size w e w':=by
 have hmf:∀ (fn:Fn) (first cap:Array Value) (w:World),(Instr.makeFunc fn first cap).run Tryz.prog w=.ok (.func fn first cap) w:=fun _ _ _ _=>rfl;have hbw:=hrd.lt;have hrp:=(one_row w (.slice none 0 0) 47).below ((Below.refl _ (w.alloc (.cells #[.slice none 0 0] 47))).alloc (Nat.le_refl _) (.cells #[.int .i64 0] 28)) (by simp);have hrq:=one_row (w.alloc (.cells #[.slice none 0 0] 47)) (.int .i64 0) 28;rw [show (w.alloc (.cells #[.slice none 0 0] 47)).heap.size=w.heap.size+1 by simp] at hrq;have hb0:Below w.heap.size w ((w.alloc (.cells #[.slice none 0 0] 47)).alloc (.cells #[.int .i64 0] 28)):=((Below.refl _ w).alloc (Nat.le_refl _) _).alloc (by simp) _;have hsz:((w.alloc (.cells #[.slice none 0 0] 47)).alloc (.cells #[.int .i64 0] 28)).heap.size=w.heap.size+2:=by simp
 have hr0:=hrd.below hb0;have KD:=hid (doc_any b (w.heap.size+2) l _ hr0 (by omega) (Nat.le_of_eq hsz.symm) hl);have HB0:=hid hb0;have HRP:=hid hrp;have HRQ:=hid hrq;have HSZ:=hid hsz;clear hrd hr0 hb0 hrp hrq hsz;generalize docC l=R at KD ⊢
 cases R with
 | none =>
  simp only [DocP] at KD
  go_enter_defers Tryz.func52,Tryz.ntmps52
  go_wp2_with fail
  generalize World.alloc _ _=W0 at KD HB0 HRP HRQ HSZ ⊢;refine (KD.out).mono ?_
  rintro e w2 ⟨rfl,hf2⟩;have hp2:=hf2.row HRP.out (by omega) (by simp [Value.ownBlock]);have hq2:=hf2.row HRQ.out (by omega) (by simp [Value.ownBlock]);have hq3:RowIs (w2.setCell ⟨w.heap.size,0,none⟩ (.slice none 0 0)) (w.heap.size+1) 28 [.int .i64 0]:=by
   unfold RowIs; rw [heap_setCell_other _ _ _ _ (show w.heap.size+1 ≠ w.heap.size by omega)]; exact hq2
  refine leaves_cons (f:=100) (args:=#[.pointer (some ⟨w.heap.size,0,none⟩),.pointer (some ⟨w.heap.size+1,0,none⟩)]) (by simp) (by simp [go_sem]) ?_
  refine (catch_panic ⟨w.heap.size,0,none⟩ ⟨w.heap.size+1,0,none⟩ _ _ [] w2 (hp2.cell 0 (by simp)) (hp2.frozen 0) (hq3.cell 0 (by simp)) (hq3.frozen 0)).mono ?_
  rintro e u' w'' ⟨rfl,rfl,rfl⟩;have hp4:RowIs ((w2.setCell ⟨w.heap.size,0,none⟩ (.slice none 0 0)).setCell ⟨w.heap.size+1,0,none⟩ (.int .i64 130)) w.heap.size 47 [.slice none 0 0]:=by
   have:=hp2.set 0 (.slice none 0 0)
   unfold RowIs at this ⊢;rw [heap_setCell_other _ _ _ _ (show w.heap.size ≠ w.heap.size+1 by omega)]; simpa using this
  have hq4:RowIs ((w2.setCell ⟨w.heap.size,0,none⟩ (.slice none 0 0)).setCell ⟨w.heap.size+1,0,none⟩ (.int .i64 130)) (w.heap.size+1) 28 [.int .i64 130]:=by
   have:=hq3.set 0 (.int .i64 130)
   simpa using this
  have hfin:FrX b (.slice none 0 0) w (.slice none 0 0) ((w2.setCell ⟨w.heap.size,0,none⟩ (.slice none 0 0)).setCell ⟨w.heap.size+1,0,none⟩ (.int .i64 130)):=by
   have h1:=(FrX.of (v:=.slice none 0 0) (FrR.below (b:=b) HB0.out)).trans hf2;refine ⟨h1.os,h1.tape,h1.output,by simp only [World.size_setCell]; exact h1.size,fun c hc hn hv=>?_,h1.own⟩
   rw [heap_setCell_other _ _ _ _ (show c ≠ w.heap.size+1 by omega),heap_setCell_other _ _ _ _ (show c ≠ w.heap.size by omega)];exact h1.block c hc hn hv
  have c4:=hp4.cell 0 (by simp);have c5:=hq4.cell 0 (by simp);generalize World.setCell _ _ _=w4 at hfin c4 c5 ⊢;simp only [List.getElem_cons_zero] at c4 c5
  simp [Leaves,settle,results,Tryz.results52,go_sem,c4,c5,AttP,hfin]
 | some ns =>
  simp only [DocP] at KD
  go_enter_defers Tryz.func52,Tryz.ntmps52
  go_wp2_with fail
  generalize World.alloc _ _=W0 at KD HB0 HRP HRQ HSZ ⊢;refine (KD.out).mono ?_
  rintro e w2 ⟨v2,cs2,rfl,hk2,hown2,hf2⟩;have hp2:=hf2.row HRP.out (by omega) (by simp [Value.ownBlock]);have hq2:=hf2.row HRQ.out (by omega) (by simp [Value.ownBlock]);obtain ⟨xa,xc,hv2⟩:=hown2.form;obtain ⟨N2,hN2⟩:∃ N2,cs2.length=N2:=⟨_,rfl⟩
  rw [hN2] at hv2;subst hv2;have hq3:RowIs (w2.setCell ⟨w.heap.size,0,none⟩ (.slice xa N2 xc)) (w.heap.size+1) 28 [.int .i64 0]:=by
   unfold RowIs; rw [heap_setCell_other _ _ _ _ (show w.heap.size+1 ≠ w.heap.size by omega)]; exact hq2
  have cp:=hp2.cell 0 (by simp);have fp:=hp2.frozen 0;have cq:=hq3.cell 0 (by simp);have fq:=hq3.frozen 0;simp only [List.getElem_cons_zero] at cp cq;have hp4:RowIs ((w2.setCell ⟨w.heap.size,0,none⟩ (.slice xa N2 xc)).setCell ⟨w.heap.size+1,0,none⟩ (.int .i64 0)) w.heap.size 47 [.slice xa N2 xc]:=by
   have:=hp2.set 0 (.slice xa N2 xc)
   unfold RowIs at this ⊢;rw [heap_setCell_other _ _ _ _ (show w.heap.size ≠ w.heap.size+1 by omega)]; simpa using this
  have hq4:RowIs ((w2.setCell ⟨w.heap.size,0,none⟩ (.slice xa N2 xc)).setCell ⟨w.heap.size+1,0,none⟩ (.int .i64 0)) (w.heap.size+1) 28 [.int .i64 0]:=by
   have:=hq3.set 0 (.int .i64 0)
   simpa using this
  have hfin:FrX b (.slice none 0 0) w (.slice none 0 0) ((w2.setCell ⟨w.heap.size,0,none⟩ (.slice xa N2 xc)).setCell ⟨w.heap.size+1,0,none⟩ (.int .i64 0)):=by
   have h1:=(FrX.of (v:=.slice none 0 0) (FrR.below (b:=b) HB0.out)).trans hf2.none;refine ⟨h1.os,h1.tape,h1.output,by simp only [World.size_setCell]; exact h1.size,fun c hc hn hv=>?_,h1.own⟩
   rw [heap_setCell_other _ _ _ _ (show c ≠ w.heap.size+1 by omega),heap_setCell_other _ _ _ _ (show c ≠ w.heap.size by omega)];exact h1.block c hc hn hv
  have hown4:OwnN ((w2.setCell ⟨w.heap.size,0,none⟩ (.slice xa N2 xc)).setCell ⟨w.heap.size+1,0,none⟩ (.int .i64 0)) w.heap.size (.slice xa N2 xc) cs2:=by
   have h1:OwnN ((w2.setCell ⟨w.heap.size,0,none⟩ (.slice xa N2 xc)).setCell ⟨w.heap.size+1,0,none⟩ (.int .i64 0)) (w.heap.size+2) (.slice xa N2 xc) cs2 :=
    ⟨ownsRow_setCell_below (ownsRow_setCell_below hown2.1 (by simp) _) (by simp) _,fun c hc=>ownsRow_setCell_below (ownsRow_setCell_below (hown2.2 c hc) (by simp) _) (by simp) _⟩
   exact h1.mono (by omega)
  have c4:=hp4.cell 0 (by simp);have c5:=hq4.cell 0 (by simp);have HFIN:=hid hfin;have HOWN:=hid hown4;have HK2:=hid hk2;have C4:=hid c4;have C5:=hid c5;clear hp4 hq4 hfin hown4 hown2 hk2 hN2 c4 c5 hf2 hp2 hq2 hq3;go_wp2;generalize World.setCell _ _ _=w4 at HFIN HOWN C4 C5 ⊢;have c4:=C4.out;have c5:=C5.out;simp only [List.getElem_cons_zero] at c4 c5;refine leaves_cons (f:=100) (args:=#[.pointer (some ⟨w.heap.size,0,none⟩),.pointer (some ⟨w.heap.size+1,0,none⟩)]) (by simp) (by simp [go_sem]) ?_
  refine (catch_idle ⟨w.heap.size,0,none⟩ ⟨w.heap.size+1,0,none⟩ _).mono ?_
  rintro e u' w'' ⟨rfl,rfl,rfl⟩
  simp [Leaves,settle,results,Tryz.results52,go_sem,c4,c5]
  exact ⟨.slice xa N2 xc,cs2,rfl,HK2.out,HOWN.out,HFIN.out⟩
def ParP (R:List Nd × Int) (w:World) (e:Ending) (w':World):Prop:=∃ v' cs',e=.returned (.tuple #[v',.int .i64 R.2])∧ndsL cs'=R.1∧OwnN w' w.heap.size v' cs'∧Below w.heap.size w w'
theorem fr_below {w w':World} {o:Obj} (h:FrX w.heap.size (.slice none 0 0) (w.alloc o) (.slice none 0 0) w'):Below w.heap.size w w':=by
 have hb:Below w.heap.size w (w.alloc o):=(Below.refl _ w).alloc (Nat.le_refl _) o;refine ⟨h.os.trans hb.os,h.tape.trans hb.tape,h.output.trans hb.output,Nat.le_trans hb.size h.size,fun c hc=>?_⟩
 rw [h.block c (Nat.lt_of_lt_of_le hc hb.size) (by omega) (by simp [Value.ownBlock]),hb.block c hc]
set_option maxHeartbeats 1000000 in
set_option maxRecDepth 100000 in
theorem xparse_any (l:List UInt8) (w:World) (hl:l.length≤140737488355328) :
  Calls Tryz.prog 22 #[.string ⟨l.toArray⟩] w fun e w'=>ParP (parseX l) w e w':=by
 have hmf:∀ (fn:Fn) (first cap:Array Value) (w:World),(Instr.makeFunc fn first cap).run Tryz.prog w=.ok (.func fn first cap) w:=fun _ _ _ _=>rfl;have hP:=parseC_is l;generalize parseX l=R at hP ⊢;by_cases h:4096 < l.length
 ·rw [if_pos h] at hP;have HP:=hid hP;have r:(4096:Int) < (l.length:Int):=by omega
  clear hP
  go_enter Tryz.func22,Tryz.ntmps22
  go_wp2;go_ret2;rw [HP.out];exact ⟨.slice none 0 0,[],rfl,rfl,OwnN.nil _ _,Below.refl _ _⟩
 ·rw [if_neg h] at hP;have HP:=hid hP;have r:¬ (4096:Int) < (l.length:Int):=by omega
  have hrd:XrAt (w.alloc (.cells #[.string ⟨l.toArray⟩,.slice none 0 0] 94)) w.heap.size l (.slice none 0 0):=rc_row2 w _ _ _;have KA:=hid (attempt_any w.heap.size l _ hrd (by omega));have HFB:Hid (∀ w',FrX w.heap.size (.slice none 0 0) (w.alloc (.cells #[.string ⟨l.toArray⟩,.slice none 0 0] 94)) (.slice none 0 0) w' → Below w.heap.size w w'):=fun w' h=>fr_below h;have HSZ:Hid (w.heap.size≤(w.alloc (.cells #[.string ⟨l.toArray⟩,.slice none 0 0] 94)).heap.size):=show _≤_ by simp
  clear hP hrd;generalize docC l=o at KA HP
  cases o with
  | none =>
   simp only [AttP] at KA
   go_enter Tryz.func22,Tryz.ntmps22
   go_wp2_with fail
   generalize World.alloc _ _=W0 at KA HFB ⊢;refine (KA.out).mono ?_
   rintro e w2 ⟨rfl,hf2⟩;go_wp2;go_ret2;rw [HP.out];exact ⟨.slice none 0 0,[],rfl,rfl,OwnN.nil _ _,HFB.out _ hf2⟩
  | some ns =>
   simp only [AttP] at KA
   go_enter Tryz.func22,Tryz.ntmps22
   go_wp2_with fail
   generalize World.alloc _ _=W0 at KA HFB HSZ ⊢;refine (KA.out).mono ?_
   rintro e w2 ⟨v2,cs2,rfl,hk2,hown2,hf2⟩;go_wp2;go_ret2;rw [HP.out];exact ⟨v2,cs2,rfl,hk2,hown2.mono HSZ.out,HFB.out _ hf2⟩
def DcP (R:Dc × Int) (w:World) (e:Ending) (w':World):Prop:=∃ ts ns,e=.returned (.tuple #[docV R.1 ts ns,.int .i64 R.2])∧OwnT w' w.heap.size ts R.1.tuples∧Own w' w.heap.size 9 ns (strs R.1.notes)∧Below w.heap.size w w'
theorem SmNd.smallM {x:Nd} (h:SmNd 4096 x):SmallN 1048576 x:=by
 obtain ⟨h1,h2,h3,h4,h5,h6⟩:=h;refine ⟨by omega,by omega,⟨by omega,fun p hp=>⟨by have:=(h4 p hp).1; omega,by have:=(h4 p hp).2; omega⟩⟩,?_⟩
 simp only [Lit.wf,IntKind.min,IntKind.max,IntKind.signed,IntKind.bits,Bool.and_eq_true,decide_eq_true_eq,if_true];omega
theorem rowD_of {w:World} {B:Nat} {v:Value} {cs:List NdC} {s:List UInt8} {l:List Nd} (h:OwnN w B v cs) (hp:parseX s=(l,0)) (hk:ndsL cs=l):RowD w v cs:=by
 have hsm:=parseX_sm hp;have hck:=checkX_ok (parseX_ok hp);have hm:∀ c ∈ cs,SmNd 4096 c.nd:=fun c hc=>hsm c.nd (by rw [← hk]; exact List.mem_map.2 ⟨c,hc,rfl⟩);refine ⟨h.ndsAt,by rw [← ndsL_len,hk]; omega,fun c hc=>?_,fun c hc=>(hm c hc).smallM⟩
 obtain ⟨_,_,_,_,h5,h6⟩:=hm c hc;exact ⟨h5,by omega⟩
theorem FrR.low {b:Nat} {w wr w':World} (h:FrR b w wr) (hb:Below w.heap.size wr w'):FrR b w w' :=
 ⟨hb.os.trans h.os,hb.tape.trans h.tape,hb.output.trans h.output,Nat.le_trans h.size hb.size,fun c hc hn=>by rw [hb.block c hc,h.block c hc hn]⟩
theorem FrR.under {b B:Nat} {w wr:World} (h:FrR b w wr) (hB:B≤b) (hw:B≤w.heap.size):Below B w wr :=
 ⟨h.os,h.tape,h.output,h.size,fun c hc=>h.block c (Nat.lt_of_lt_of_le hc hw) (by omega)⟩
theorem FrR.cell {b g j:Nat} {w w':World} {v:Value} (h:FrR b w w') (hc:w.cell? ⟨g,j,none⟩=some v) (hn:g ≠ b):w'.cell? ⟨g,j,none⟩=some v:=by
 have hl:g < w.heap.size:=World.block_lt_of_cell? _ _ hc;unfold World.cell? at hc ⊢;rw [h.block g hl hn]; exact hc
theorem places_bd {nm:List UInt8} {cs:List NdC} {p d:Nat} {t:XT} (h:SubAt (ndsL cs) p d t):(placesN nm d t p).length≤cs.length:=by
 have h1:=congrArg List.length (sub_places h);rw [List.length_map] at h1;have h2:=kids_len d ((ndsL cs).drop (p+1)) (p+1);have h3:=namedP_le nm (startsP (d+1) (kidsOf t) (p+1));rw [List.length_drop,ndsL_len] at h2;unfold placesN;omega
theorem who_len (u:Uri):(whoV u).1.length≤257:=by
 unfold whoV
 split
 ·simp
 ·next h =>
  split
  ·simp
  ·exact whoT_len (Classical.not_not.1 h)
theorem own_strsAt {w:World} {B:Nat} {v:Value} {ps:List (List UInt8)} (h:Own w B 9 v (strs ps)):StrsAt w v ps:=by
 have h0:=h
 rcases h.2 with ⟨rfl,hn⟩ | ⟨g,cap,cur,rfl,hb,hg,_⟩
 ·rw [strs_length] at hn;exact ⟨none,0,by rw [hn],fun k hk=>by omega⟩
 ·refine ⟨some ⟨g,0,none⟩,cap,by rw [strs_length],fun k hk=>⟨_,rfl,(Array.getElem?_eq_some_iff.1 hg).1,?_⟩⟩
  exact World.ownsRow.cells h0 (g:=g) rfl k _ (by simp [strs,hk])
theorem own_sform {w:World} {B:Nat} {e:TypeId} {v:Value} {xs:List Value} (h:Own w B e v xs):∃ a cap,v=.slice a xs.length cap:=by
 rcases h.2 with ⟨rfl,hn⟩ | ⟨g,cap,cur,rfl,_⟩
 ·exact ⟨none,0,by rw [hn]⟩
 ·exact ⟨some ⟨g,0,none⟩,cap,rfl⟩
theorem ownT_lower {w:World} {B C:Nat} {v:Value} {ts:List Tu} (h:OwnT w B v ts) (hc:C≤B):OwnT w C v ts:=by
 obtain ⟨h1,h2⟩:=h;refine ⟨h1,?_⟩
 rcases h2 with h2 | ⟨g,cap,cur,hv,hg,r⟩
 ·exact Or.inl h2
 ·exact Or.inr ⟨g,cap,cur,hv,Nat.le_trans hc hg,r⟩
theorem infoStrD:(Tryz.prog.info? 9).map (fun i=>(i.zero,i.size,i.bytes))=some (some (.string .empty),1,16):=by kernel_rfl
theorem tu_newW (W:World) (x:Tu) (g:Nat) (hg:g=W.heap.size):∀ (j:Nat) (u:Value),(tuCells x)[j]? = some u → (W.alloc (.cells #[.string ⟨x.id.toArray⟩,.bool x.opn,.string ⟨x.contact.toArray⟩,.int .i64 x.prio,.string ⟨x.note.toArray⟩] 56)).cell? ((⟨g,0,none⟩:Addr).add j)=some u:=by
 intro j u hj;subst hg;have e:(⟨W.heap.size,0,none⟩:Addr).add j=⟨W.heap.size,j,none⟩:=by unfold Addr.add; split <;> simp_all
 rw [e];unfold World.cell?;rw [heap_alloc_new]
 simpa [tuCells] using hj
theorem tuplesT_snoc (k:XT):∀ l:List XT,tuplesT (l++[k])=match tuplesT l with | none=>none | some a=>(tupleT k).map fun x=>a++[x]
 | []=>by
  rw [List.nil_append,tuplesT,tuplesT]
  cases tupleT k <;> rfl
 | t :: l=>by
  rw [List.cons_append,tuplesT,tuplesT,tuplesT_snoc k l]
  cases tupleT t with
  | none=>rfl
  | some x =>
   cases tuplesT l with
   | none=>rfl
   | some a=>cases tupleT k <;> rfl
theorem tuplesT_bad {k:XT} (h:tupleT k=none) (r:List XT):∀ l:List XT,tuplesT (l++k :: r)=none
 | []=>by rw [List.nil_append,tuplesT,h]
 | t :: l=>by
  rw [List.cons_append,tuplesT,tuplesT_bad h r l]
  cases tupleT t <;> rfl
theorem tups_take {P:List (Nat × XT)} {j:Nat} (hj:j < P.length) {a:List Tu} {x:Tu} (h:tuplesT ((P.take j).map Prod.snd)=some a) (hx:tupleT P[j].2=some x):tuplesT ((P.take (j+1)).map Prod.snd)=some (a++[x]):=by
 rw [List.take_succ_eq_append_getElem hj,List.map_append,List.map_cons,List.map_nil,tuplesT_snoc,h];simp only [hx,Option.map_some]
theorem tups_fail {P:List (Nat × XT)} {j:Nat} (hj:j < P.length) (hx:tupleT P[j].2=none):tuplesT (P.map Prod.snd)=none:=by
 have e:P=P.take j++P[j] :: P.drop (j+1):=by rw [← List.drop_eq_getElem_cons hj,List.take_append_drop]
 rw [congrArg (List.map Prod.snd) e,List.map_append,List.map_cons];exact tuplesT_bad hx _ _
def notesP (P:List (Nat × XT)):List (List UInt8):=((P.map Prod.snd).map textOf).filter fun s=>!s.isEmpty
theorem notesP_snoc {P:List (Nat × XT)} {j:Nat} (hj:j < P.length):notesP (P.take (j+1))=notesP (P.take j)++(if P[j].2 |> textOf |>.isEmpty then [] else [textOf P[j].2]):=by
 unfold notesP;rw [List.take_succ_eq_append_getElem hj];simp only [List.map_append,List.map_cons,List.map_nil,List.filter_append,List.filter_cons,List.filter_nil]
 cases (textOf P[j].2).isEmpty <;> rfl
end Go.Proofs.YtdnekampnkhmfaaGreatDoor
