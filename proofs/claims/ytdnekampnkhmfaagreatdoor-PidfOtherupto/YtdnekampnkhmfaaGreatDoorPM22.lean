/-
  PR7, PP1, PP2.
-/
import Derived.Test.YtdnekampnkhmfaaGreatDoorPM20
set_option linter.unusedVariables false
set_option linter.unusedSimpArgs false
set_option maxRecDepth 20000
namespace Go.Proofs.YtdnekampnkhmfaaGreatDoor
open Go.RowKit Sc
theorem RowD.node {w:World} {v:Value} {cs:List NdC} (h:RowD w v cs) {q d:Nat} {t:XT} (hs:SubAt (ndsL cs) q d t):∃ ad cap a,v=.slice (some ad) cs.length cap∧ad.block < w.heap.size∧q < cs.length∧w.cell? (ad.add (q * 4))=some (.int .i64 (d:Int))∧w.cell? ⟨(ad.add (q * 4)).block,(ad.add (q * 4)).off+1,none⟩=some (.string ⟨(nameT t).toArray⟩)∧w.cell? ⟨(ad.add (q * 4)).block,(ad.add (q * 4)).off+2,none⟩=some a∧w.cell? ⟨(ad.add (q * 4)).block,(ad.add (q * 4)).off+3,none⟩=some (.string ⟨(textOf t).toArray⟩)∧ParsAt w a (attrsOf t)∧SmallP 1048576 (attrsOf t)∧(textOf t).length≤1048576:=by
 obtain ⟨hp,hnd⟩:=sub_at hs;obtain ⟨ao,cap,rfl,hc⟩:=h.at';obtain ⟨ad,rfl,e2,c,pa⟩:=hc q hp;have sm:=h.small _ (List.getElem_mem hp);have c0:=c.c0;have c1:=c.c1;have c2:=c.c2;have c3:=c.c3;rw [hnd] at c0 c1 c3 pa sm;exact ⟨ad,cap,cs[q].a,rfl,e2,hp,c0,c1,c2,c3,pa,sm.2.2.1,sm.2.1⟩
section
variable {t : XT}
theorem tup_no1 (h:(namedX pstatK (kidsOf t)).length ≠ 1):tupleT t=none:=by
 unfold tupleT
 split
 ·next st e=>rw [e] at h; simp at h
 ·rfl
theorem tup_no2 {st:XT} (h1:namedX pstatK (kidsOf t)=[st]) (h:(namedX basicK (kidsOf st)).length ≠ 1):tupleT t=none:=by
 unfold tupleT;rw [h1]
 simp only
 split
 ·next b e=>rw [e] at h; simp at h
 ·rfl
theorem tup_yes {st b:XT} (h1:namedX pstatK (kidsOf t)=[st]) (h2:namedX basicK (kidsOf st)=[b]):tupleT t=if textOf b ≠ openK∧textOf b ≠ closedK then none else if 1 < (namedX pcontK (kidsOf t)).length∨1 < (namedX noteK (kidsOf t)).length then none else (contP (kidsOf t)).map fun c=>⟨(attG pidK (attrsOf t)).getD [],textOf b==openK,c.1,c.2,(((namedX noteK (kidsOf t)).head?).map textOf).getD []⟩:=by
 unfold tupleT;rw [h1]
 simp only
 rw [h2]
end
def TupP (R:Option Tu) (w:World) (e:Ending) (w':World):Prop:=∃ x ok,e=.returned (.tuple #[tuV x,.bool ok])∧(R=if ok=true then some x else none)∧Below w.heap.size w w'
set_option maxHeartbeats 1000000 in
set_option maxRecDepth 100000 in
theorem pattr_any (x y:ByteArray) (w:World) :
  Calls Tryz.prog 60 #[.string x,.string y] w fun e w'=>e=.returned (.agg #[.string x,.string y,.bool true])∧Below w.heap.size w w':=by
 have hr0':=rc_row3 w (.string ⟨#[]⟩) (.string ⟨#[]⟩) (.bool false) 59;have hb0:Below w.heap.size w (w.alloc (.cells #[.string ⟨#[]⟩,.string ⟨#[]⟩,.bool false] 59)):=(Below.refl _ w).alloc (Nat.le_refl _) _;have hlt0:=alloc_lt w (.cells #[.string ⟨#[]⟩,.string ⟨#[]⟩,.bool false] 59);obtain ⟨c0,c1,c2,f0,f1,f2⟩:=hr0'.rc3;have hr0:=hid hr0';clear hr0'
 go_enter Tryz.func60,Tryz.ntmps60
 go_wp2;have hr5:=rc_store3 hr0.out (.string x) (.string y) (.bool true);have hb5:=rc_below3 hb0 w.heap.size (Nat.le_refl _) (.string x) (.string y) (.bool true);generalize World.setCell _ _ _=w5 at hr5 hb5 ⊢;obtain ⟨d0,d1,d2,_,_,_⟩:=hr5.rc3
 try simp only [Exit.inBlock,Exit.then]
 refine bodyPost_ret (v:=.agg #[.string x,.string y,.bool true]) (by simp [results,Tryz.results60,go_sem,d0,d1,d2]; try rfl) rfl ?_
 exact ⟨rfl,(Below.refl _ w).alloc (Nat.le_refl _) _⟩
def wordO (b:Bool):List UInt8:=if b=true then openK else closedK
set_option maxHeartbeats 1000000 in
theorem pword_any (b:Bool) (w:World) :
  Calls Tryz.prog 114 #[.bool b] w fun e w'=>e=.returned (.string ⟨(wordO b).toArray⟩)∧w'=w:=by
 cases b
 all_goals
  go_enter Tryz.func114,Tryz.ntmps114
  go_wp2;go_ret;exact ⟨rfl,rfl⟩
def contA (x:Tu):List Par:=if x.prio=-1 then [] else [atr priorityK (decL x.prio)]
structure CE (w wr:World) (x:Tu) (n:List Value):Prop where
 bel:Below w.heap.size w wr
 r1:RowIs wr w.heap.size 56 (tuCells x)
 r2:RowIs wr (w.heap.size+1) 52 [.int .i64 0,.string ⟨#[]⟩,.slice none 0 0,.string ⟨#[]⟩]
 r3:RowIs wr (w.heap.size+1+1) 52 n
theorem CE.lt {w wr:World} {x:Tu} {n:List Value} (h:CE w wr x n):w.heap.size+1+1 < wr.heap.size:=(Array.getElem?_eq_some_iff.1 (show wr.heap[w.heap.size+1+1]? = some _ from h.r3)).1
theorem CE.below {w wr w':World} {x:Tu} {n:List Value} (h:CE w wr x n) (hb:Below wr.heap.size wr w'):CE w w' x n :=
 ⟨h.bel.trans (hb.mono h.bel.size),h.r1.below hb (by have:=h.lt; omega),h.r2.below hb (by have:=h.lt; omega),h.r3.below hb h.lt⟩
theorem CE.set {w wr:World} {x:Tu} {n:List Value} (h:CE w wr x n) (j:Nat) (v:Value):CE w (wr.setCell ⟨w.heap.size+1+1,j,none⟩ v) x (n.set j v) :=
 ⟨h.bel.setCell (show w.heap.size≤(⟨w.heap.size+1+1,j,none⟩:Addr).block from by simp only; omega) _,row_other h.r1 (by omega),row_other h.r2 (by omega),h.r3.set j v⟩
theorem ce_new (w:World) (x:Tu) (n0 n1 n2 n3:Value):CE w (((w.alloc (.cells #[.string ⟨x.id.toArray⟩,.bool x.opn,.string ⟨x.contact.toArray⟩,.int .i64 x.prio,.string ⟨x.note.toArray⟩] 56)).alloc (.cells #[.int .i64 0,.string ⟨#[]⟩,.slice none 0 0,.string ⟨#[]⟩] 52)).alloc (.cells #[n0,n1,n2,n3] 52)) x [n0,n1,n2,n3]:=by
 have h1:=rc_row5 w (.string ⟨x.id.toArray⟩) (.bool x.opn) (.string ⟨x.contact.toArray⟩) (.int .i64 x.prio) (.string ⟨x.note.toArray⟩) 56;have hl1:=alloc_lt w (.cells #[.string ⟨x.id.toArray⟩,.bool x.opn,.string ⟨x.contact.toArray⟩,.int .i64 x.prio,.string ⟨x.note.toArray⟩] 56);have hs1:(w.alloc (.cells #[.string ⟨x.id.toArray⟩,.bool x.opn,.string ⟨x.contact.toArray⟩,.int .i64 x.prio,.string ⟨x.note.toArray⟩] 56)).heap.size=w.heap.size+1:=by simp
 have hb1:Below w.heap.size w (w.alloc (.cells #[.string ⟨x.id.toArray⟩,.bool x.opn,.string ⟨x.contact.toArray⟩,.int .i64 x.prio,.string ⟨x.note.toArray⟩] 56)):=(Below.refl _ w).alloc (Nat.le_refl _) _;generalize w.alloc (.cells #[.string ⟨x.id.toArray⟩,.bool x.opn,.string ⟨x.contact.toArray⟩,.int .i64 x.prio,.string ⟨x.note.toArray⟩] 56)=W1 at h1 hl1 hs1 hb1 ⊢;have h2:=rc_row4 W1 (.int .i64 0) (.string ⟨#[]⟩) (.slice none 0 0) (.string ⟨#[]⟩) 52;have hl2:=alloc_lt W1 (.cells #[.int .i64 0,.string ⟨#[]⟩,.slice none 0 0,.string ⟨#[]⟩] 52);have hs2:(W1.alloc (.cells #[.int .i64 0,.string ⟨#[]⟩,.slice none 0 0,.string ⟨#[]⟩] 52)).heap.size=w.heap.size+1+1:=by simp [hs1]
 have hb2:Below W1.heap.size W1 (W1.alloc (.cells #[.int .i64 0,.string ⟨#[]⟩,.slice none 0 0,.string ⟨#[]⟩] 52)):=(Below.refl _ W1).alloc (Nat.le_refl _) _;generalize W1.alloc (.cells #[.int .i64 0,.string ⟨#[]⟩,.slice none 0 0,.string ⟨#[]⟩] 52)=W2 at h2 hl2 hs2 hb2 ⊢;have h3:=rc_row4 W2 n0 n1 n2 n3 52;have hb3:Below W2.heap.size W2 (W2.alloc (.cells #[n0,n1,n2,n3] 52)):=(Below.refl _ W2).alloc (Nat.le_refl _) _;have hb12:=hb1.trans (hb2.mono hb1.size);rw [hs1] at h2 hl2;rw [hs2] at h3;exact ⟨hb12.trans (hb3.mono hb12.size),(h1.below hb2 hl1).below hb3 (by rw [hs2]; omega),h2.below hb3 (by rw [hs2]; omega),h3⟩
set_option maxHeartbeats 2000000 in
set_option maxRecDepth 100000 in
theorem pcont_any (x:Tu) (w:World) (hp:(Lit.int .i64 x.prio).wf=true) :
  Calls Tryz.prog 115 #[tuV x] w fun e w'=>∃ a,e=.returned (ndV ⟨2,pcontK,contA x,x.contact⟩ a)∧OwnP w' w.heap.size a (contA x)∧Below w.heap.size w w':=by
 have hp:=i64_of hp;have KD:=hid (fun w'=>pdec_any x.prio w');have hA:contA x=if x.prio=-1 then [] else [atr priorityK (decL x.prio)]:=rfl
 generalize contA x=A at hA ⊢;have HC:=hid (ce_new w x (.int .i64 2) (.string ⟨#[99,111,110,116,97,99,116]⟩) (.slice none 0 0) (.string ⟨x.contact.toArray⟩));generalize decL x.prio=DL at KD hA;obtain ⟨xi,xo,xc,xp,xn⟩:=x;unfold tuV ndV;simp only at KD hA HC hp ⊢;have hr0:=rc_row5 w (.string ⟨xi.toArray⟩) (.bool xo) (.string ⟨xc.toArray⟩) (.int .i64 xp) (.string ⟨xn.toArray⟩) 56
 go_enter Tryz.func115,Tryz.ntmps115
 go_upto_region 2 with fail
 clear hr0;generalize World.alloc (World.alloc (World.alloc w _) _) _=W3 at HC ⊢;obtain ⟨a0,a1,a2,a3,a4,_,_,_,_,_⟩:=(show RowIs W3 w.heap.size 56 [.string ⟨xi.toArray⟩,.bool xo,.string ⟨xc.toArray⟩,.int .i64 xp,.string ⟨xn.toArray⟩] from HC.out.r1).rc5;obtain ⟨b0,b1,b2,b3,f0,f1,f2,f3⟩:=HC.out.r2.rc4;obtain ⟨c0,c1,c2,c3,g0,g1,g2,g3⟩:=HC.out.r3.rc4;by_cases h1:xp=-1
 ·subst h1;rw [if_pos rfl] at hA;subst hA;have hr5:=hid (rc_store4 HC.out.r2 (.int .i64 2) (.string ⟨#[99,111,110,116,97,99,116]⟩) (.slice none 0 0) (.string ⟨xc.toArray⟩));have hb5:=hid (rc_below4 HC.out.bel (w.heap.size+1) (Nat.le_succ _) (.int .i64 2) (.string ⟨#[99,111,110,116,97,99,116]⟩) (.slice none 0 0) (.string ⟨xc.toArray⟩));clear HC KD;go_wp2;generalize World.setCell _ _ _=w5 at hr5 hb5 ⊢;obtain ⟨e0,e1,e2,e3,_,_,_,_⟩:=hr5.out.rc4
  try simp only [Exit.inBlock,Exit.then]
  refine bodyPost_ret (v:=.agg #[.int .i64 2,.string ⟨#[99,111,110,116,97,99,116]⟩,.slice none 0 0,.string ⟨xc.toArray⟩]) (by simp [results,Tryz.results115,go_sem,e0,e1,e2,e3]; try rfl) rfl ?_
  exact ⟨_,rfl,OwnP.nil _ _,hb5.out⟩
 ·rw [if_neg h1] at hA;subst hA;have q1:(xp != -1)=true:=by simpa using h1
  have q2:(xp==-1)=false:=by simpa using h1
  go_wp2_with fail
  refine (KD.out _).mono ?_
  rintro e w4 ⟨rfl,hw4⟩;have HC4:=hid (HC.out.below hw4);clear a0 a1 a2 a3 a4 b0 b1 b2 b3 f0 f1 f2 f3 c0 c1 c2 c3 g0 g1 g2 g3 KD HC;go_wp2_with fail
  refine (pattr_any _ _ _).mono ?_
  rintro e w5 ⟨rfl,hw5⟩;have HC5:=hid (HC4.out.below hw5);have hlt5:=HC5.out.lt;have hsz5:=HC5.out.bel.size;have hal:Below w5.heap.size w5 (w5.alloc (.cells #[.string ⟨#[112,114,105,111,114,105,116,121]⟩,.string ⟨DL.toArray⟩,.bool true] 59)):=(Below.refl _ w5).alloc (Nat.le_refl _) _;have HC6:=hid (HC5.out.below hal);obtain ⟨c0,c1,c2,c3,g0,g1,g2,g3⟩:=HC6.out.r3.rc4;have HC5s:=hid (HC5.out.set 2 (.slice (some ⟨w5.heap.size,0,none⟩) 1 1));have hs5:(w5.setCell ⟨w.heap.size+1+1,2,none⟩ (.slice (some ⟨w5.heap.size,0,none⟩) 1 1)).heap.size=w5.heap.size:=World.size_setCell _ _ _;have hOP:OwnP ((w5.setCell ⟨w.heap.size+1+1,2,none⟩ (.slice (some ⟨w5.heap.size,0,none⟩) 1 1)).alloc (.cells #[.string ⟨#[112,114,105,111,114,105,116,121]⟩,.string ⟨DL.toArray⟩,.bool true] 59)) w5.heap.size (.slice (some ⟨w5.heap.size,0,none⟩) 1 1) [atr priorityK DL]:=by
   have h:=ownP_newX (w5.setCell ⟨w.heap.size+1+1,2,none⟩ (.slice (some ⟨w5.heap.size,0,none⟩) 1 1)) w5.heap.size (by rw [hs5]; exact Nat.le_refl _) [atr priorityK DL] 1 rfl (by decide);rw [hs5] at h;exact h
  have HC7:=hid (HC5s.out.below ((Below.refl _ _).alloc (Nat.le_refl _) (.cells #[.string ⟨#[112,114,105,111,114,105,116,121]⟩,.string ⟨DL.toArray⟩,.bool true] 59)));have HOP:=hid hOP;clear hw4 HC4 hw5 HC5 hal hOP HC6 HC5s hs5
  go_upto_region 4 with fail
  clear c0 c1 c2 c3 g0 g1 g2 g3;generalize World.alloc _ _=w6 at HC7 HOP ⊢;obtain ⟨b0,b1,b2,b3,f0,f1,f2,f3⟩:=HC7.out.r2.rc4;obtain ⟨c0,c1,c2,c3,g0,g1,g2,g3⟩:=(show RowIs w6 (w.heap.size+1+1) 52 [.int .i64 2,.string ⟨#[99,111,110,116,97,99,116]⟩,.slice (some ⟨w5.heap.size,0,none⟩) 1 1,.string ⟨xc.toArray⟩] from HC7.out.r3).rc4;have hr5:=hid (rc_store4 HC7.out.r2 (.int .i64 2) (.string ⟨#[99,111,110,116,97,99,116]⟩) (.slice (some ⟨w5.heap.size,0,none⟩) 1 1) (.string ⟨xc.toArray⟩));have hb5:=hid (rc_below4 HC7.out.bel (w.heap.size+1) (Nat.le_succ _) (.int .i64 2) (.string ⟨#[99,111,110,116,97,99,116]⟩) (.slice (some ⟨w5.heap.size,0,none⟩) 1 1) (.string ⟨xc.toArray⟩));have hO5:=hid (show OwnP ((((w6.setCell ⟨w.heap.size+1,0,none⟩ (.int .i64 2)).setCell ⟨w.heap.size+1,1,none⟩ (.string ⟨#[99,111,110,116,97,99,116]⟩)).setCell ⟨w.heap.size+1,2,none⟩ (.slice (some ⟨w5.heap.size,0,none⟩) 1 1)).setCell ⟨w.heap.size+1,3,none⟩ (.string ⟨xc.toArray⟩)) w5.heap.size (.slice (some ⟨w5.heap.size,0,none⟩) 1 1) [atr priorityK DL] from ownsRow_setCell_below (a:=⟨w.heap.size+1,3,none⟩) (ownsRow_setCell_below (a:=⟨w.heap.size+1,2,none⟩) (ownsRow_setCell_below (a:=⟨w.heap.size+1,1,none⟩) (ownsRow_setCell_below (a:=⟨w.heap.size+1,0,none⟩) HOP.out (by simp only; omega) _) (by simp only; omega) _) (by simp only; omega) _) (by simp only; omega) _);clear HC7 HOP;go_wp2;generalize World.setCell _ _ _=w9 at hr5 hb5 hO5 ⊢;obtain ⟨e0,e1,e2,e3,_,_,_,_⟩:=hr5.out.rc4
  try simp only [Exit.inBlock,Exit.then]
  refine bodyPost_ret (v:=.agg #[.int .i64 2,.string ⟨#[99,111,110,116,97,99,116]⟩,.slice (some ⟨w5.heap.size,0,none⟩) 1 1,.string ⟨xc.toArray⟩]) (by simp [results,Tryz.results115,go_sem,e0,e1,e2,e3]; try rfl) rfl ?_
  exact ⟨_,rfl,ownP_mono hO5.out hsz5,hb5.out⟩
theorem ownN_newL (W:World) (B:Nat) (hB:B≤W.heap.size) (cs:List NdC) (n:Nat) (hn:cs.length=n) (hm:n≤1000) (hc:∀ c ∈ cs,OwnP W B c.a c.nd.attrs):OwnN (W.alloc (.cells (ndsCells cs).toArray 52)) B (.slice (some ⟨W.heap.size,0,none⟩) n n) cs:=by
 subst hn;refine ⟨⟨ndsCells_len cs,.inr ⟨_,_,(ndsCells cs).toArray,rfl,hB,heap_alloc_new _ _,Nat.le_refl _,by unfold maxLen; omega,by simp [ndsCells_len],?_⟩⟩,fun c h=>(hc c h).alloc _⟩
 rw [List.take_of_length_le (by simp [ndsCells_len])]
def tup3 (x:Tu) (a:Value):List NdC:=[⟨⟨1,tupleK,[atr pidK x.id],[]⟩,a⟩,⟨⟨2,pstatK,[],[]⟩,.slice none 0 0⟩,⟨⟨3,basicK,[],wordO x.opn⟩,.slice none 0 0⟩]
theorem tup3_own (W:World) (B:Nat) (hB:B≤W.heap.size) (g:Nat) (hg:g=W.heap.size+1) (x:Tu):OwnN ((W.alloc (.cells #[.string ⟨#[105,100]⟩,.string ⟨x.id.toArray⟩,.bool true] 59)).alloc (.cells #[.int .i64 1,.string ⟨#[116,117,112,108,101]⟩,.slice (some ⟨W.heap.size,0,none⟩) 1 1,.string ⟨#[]⟩,.int .i64 2,.string ⟨#[115,116,97,116,117,115]⟩,.slice none 0 0,.string ⟨#[]⟩,.int .i64 3,.string ⟨#[98,97,115,105,99]⟩,.slice none 0 0,.string ⟨(wordO x.opn).toArray⟩] 52)) B (.slice (some ⟨g,0,none⟩) 3 3) (tup3 x (.slice (some ⟨W.heap.size,0,none⟩) 1 1)):=by
 have h1:=ownP_newX W B hB [atr pidK x.id] 1 rfl (by decide);have hs:(W.alloc (.cells (parsCells [atr pidK x.id]).toArray 59)).heap.size=W.heap.size+1:=by simp
 have h2:=ownN_newL _ B (by rw [hs]; omega) (tup3 x (.slice (some ⟨W.heap.size,0,none⟩) 1 1)) 3 rfl (by decide) (by
  intro c hc;simp only [tup3,List.mem_cons,List.not_mem_nil,or_false] at hc
  rcases hc with rfl | rfl | rfl
  ·exact h1
  ·exact OwnP.nil _ _
  ·exact OwnP.nil _ _)
 rw [hs,← hg] at h2;exact h2
theorem flat_cont (x:Tu) (h:x.contact ≠ []):flatXs 2 (contT x)=[⟨2,pcontK,contA x,x.contact⟩]:=by
 unfold contT contA;rw [if_neg h]
 simp [flatXs,flatX]
theorem flat_tnote (x:Tu) (h:x.note ≠ []):flatXs 2 (tnoteT x)=[⟨2,noteK,[],x.note⟩]:=by
 unfold tnoteT noteT;rw [if_neg h]
 simp [flatXs,flatX]
theorem flat_tup3 (x:Tu) (a:Value):flatX 1 (tupT x)=ndsL (tup3 x a)++(flatXs 2 (contT x)++flatXs 2 (tnoteT x)):=flat_tup x
theorem own_ne {w:World} {B b:Nat} {v:Value} {cs:List NdC} {l:List Value} (h:OwnN w B v cs) (hr:RowIs w b 56 l):v.ownBlock ≠ some b:=by
 intro e
 rcases h.1.2 with ⟨rfl,_⟩ | ⟨g,cap,cur,rfl,_,hg,_⟩
 ·cases e
 ·injection e with e
  simp only at e;subst e;unfold RowIs at hr;rw [hg] at hr
  injection hr with hr
  injection hr with _ h2
  exact absurd h2 (by decide)
def TelP (F:List Nd) (w:World) (e:Ending) (w':World):Prop:=∃ v cs,e=.returned v∧ndsL cs=F∧OwnN w' w.heap.size v cs∧Below w.heap.size w w'
set_option maxHeartbeats 4000000 in
set_option maxRecDepth 100000 in
theorem ptupel_any (x:Tu) (w:World) (hp:(Lit.int .i64 x.prio).wf=true) :
  Calls Tryz.prog 61 #[tuV x] w fun e w'=>TelP (flatX 1 (tupT x)) w e w':=by
 have KC:=hid (fun w'=>pcont_any x w' hp);have KW:=hid (fun w'=>pword_any x.opn w');have HFT:=hid (fun a=>flat_tup3 x a);have HFC:=hid (flat_cont x);have HFN:=hid (flat_tnote x);have HF0:Hid ((x.contact=[] → flatXs 2 (contT x)=[])∧(x.note=[] → flatXs 2 (tnoteT x)=[])):=⟨fun h=>by unfold contT; rw [if_pos h]; simp [flatXs],fun h=>by unfold tnoteT; rw [if_pos h]; simp [flatXs]⟩
 generalize flatX 1 (tupT x)=F at HFT ⊢;generalize flatXs 2 (contT x)=FC at HFT HFC HF0;generalize flatXs 2 (tnoteT x)=FN at HFT HFN HF0;have hW:wordO x.opn=wordO x.opn:=rfl;have HR0:=hid (show RowIs _ w.heap.size 56 (tuCells x) from rc_row5 w (.string ⟨x.id.toArray⟩) (.bool x.opn) (.string ⟨x.contact.toArray⟩) (.int .i64 x.prio) (.string ⟨x.note.toArray⟩) 56);have hb0:Below w.heap.size w (w.alloc (.cells #[.string ⟨x.id.toArray⟩,.bool x.opn,.string ⟨x.contact.toArray⟩,.int .i64 x.prio,.string ⟨x.note.toArray⟩] 56)):=(Below.refl _ w).alloc (Nat.le_refl _) _;have hl0:=alloc_lt w (.cells #[.string ⟨x.id.toArray⟩,.bool x.opn,.string ⟨x.contact.toArray⟩,.int .i64 x.prio,.string ⟨x.note.toArray⟩] 56);clear hW;obtain ⟨xi,xo,xc,xp,xn⟩:=x;unfold tuV at KC ⊢;simp only at KC KW HFC HFN HF0 HR0 hb0 hl0 ⊢;obtain ⟨i1,hj,hy0,hy1,hy2⟩:=info_parts infoNodeB
 go_enter Tryz.func61,Tryz.ntmps61
 go_upto_region 1 with fail
 generalize World.alloc w _=W0 at HR0 hb0 hl0 ⊢;have HX:=hid (fun (W':World) (h:Below W0.heap.size W0 W')=>RowIs.rc5 (show RowIs W' w.heap.size 56 [.string ⟨xi.toArray⟩,.bool xo,.string ⟨xc.toArray⟩,.int .i64 xp,.string ⟨xn.toArray⟩] from HR0.out.below h hl0));obtain ⟨y0,y1,y2,y3,y4,_,_,_,_,_⟩:=HX.out W0 (Below.refl _ _)
 go_cut [3] from 4 to 14 (fun v wx=>∃ cs,Hid (∃ a,ndsL cs=ndsL (tup3 ⟨xi,xo,xc,xp,xn⟩ a))∧Hid (PSt w w.heap.size ⟨xi,xo,xc,xp,xn⟩ wx v cs))
 case first =>
  go_region_law (first | (go_simp; go_at_call 60; refine (pattr_any _ _ _).mono ?_; rintro e wa ⟨rfl,hwa⟩; have hq:=bstep14 (S:=W0.heap.size) (w1:=W0) (by first | exact Below.refl _ _ | exact (Below.refl _ _).drew | exact (Below.refl _ _).drew.drew | exact (Below.refl _ _).drew.drew.drew | exact (Below.refl _ _).drew.drew.drew.drew) (Nat.le_refl _) hwa; obtain ⟨ya0,ya1,ya2,ya3,ya4,_,_,_,_,_⟩:=HX.out _ hq; obtain ⟨yb0,yb1,yb2,yb3,yb4,_,_,_,_,_⟩:=HX.out _ (hq.alloc hq.size (.cells #[.string ⟨#[105,100]⟩,.string ⟨xi.toArray⟩,.bool true] 59)); clear hwa) | (go_simp; go_at_call 114; refine (KW.out _).mono ?_; rintro e ww ⟨rfl,hww⟩; rw [hww]; clear hww ww))
  all_goals
   have hq2:=fun o1 o2=>al14 hq (Nat.le_refl _) o1 o2;have hro:=tup3_own wa w.heap.size (Nat.le_trans hb0.size hq.size) _ rfl ⟨xi,xo,xc,xp,xn⟩;have hPS:Hid (PSt w w.heap.size ⟨xi,xo,xc,xp,xn⟩ _ _ _):=⟨hro,HR0.out.below (hq2 _ _) hl0,Nat.lt_of_lt_of_le hl0 (hq2 _ _).size,own_ne hro (HR0.out.below (hq2 _ _) hl0),hb0.trans ((hq2 _ _).mono hb0.size)⟩
   clear hro hq2;go_wp2_with fail
   go_meet
   case rel=>exact ⟨_,show _ from ⟨_,rfl⟩,hPS⟩
 case rest =>
  obtain ⟨cs,⟨a0,hnd⟩,hP⟩:=hcut;clear y0 y1 y2 y3 y4 HX HR0 hb0 hl0 KW;have hcl:cs.length=3:=by rw [← ndsL_len,hnd]; rfl
  have hnewN:=hid (fun (W:World) (c:NdC) (g:Nat) (hg:g=W.heap.size)=>xnd_new W c g hg);have HND:Hid (F=ndsL cs++(FC++FN)):=show _=_ by rw [hnd]; exact HFT.out a0
  obtain ⟨vo,vc,hvf⟩:=hP.out.own.form;rw [hcl] at hvf;subst hvf;clear hnd HFT;obtain ⟨z0,z1,z2,z3,z4,_,_,_,_,_⟩:=hP.out.c5;simp only at z0 z1 z2 z3 z4;by_cases hcx:xc=[]
  ·have hFC:=HF0.out.1 hcx;subst hcx hFC;by_cases hnx:xn=[]
   ·have hFN:=HF0.out.2 hnx;subst hnx hFN;clear HFC HFN HF0;go_wp2;go_ret;exact ⟨_,cs,rfl,by rw [HND.out]; simp,hP.out.own,hP.out.bel⟩
   ·have hFN:=HFN.out hnx;subst hFN;have hne:xn.isEmpty=false:=by simpa using hnx
    clear HFC HFN HF0;go_wp2_with (at_builtin; refine wp_appN2 _ rfl (.tmp 26) (.tmp 30) 47 rfl w.heap.size i1 _ Tryz.underlying47 hj hy0 hy1 hy2 rfl (.slice vo 3 vc) cs rfl (by exact OwnN.alloc hP.out.own _) ⟨_,0,none⟩ 1 ⟨⟨2,noteK,[],xn⟩,.slice none 0 0⟩ (by exact OwnP.nil _ _) rfl (by exact hnewN.out _ _ _ rfl) (by omega) (by have:=hP.out.size; simp; omega) ?_; intro v9 w9 hown9 hf9; have hP9:=(hP.out.alloc _).app hf9 hown9; clear hown9 hf9)
    go_ret;exact ⟨_,_,rfl,by rw [HND.out,nds_snoc]; rfl,hP9.own,hP9.bel⟩
  ·have hFC:=HFC.out hcx;subst hFC;have hce:xc.isEmpty=false:=by simpa using hcx
   go_wp2_with fail
   refine (KC.out _).mono ?_
   rintro e wc ⟨ca,rfl,hoc,hwc⟩;have hPc:=hid (hP.out.below hwc);have hoc:=ownP_mono hoc (show w.heap.size≤_ from hP.out.size);obtain ⟨qa,qc,hqf⟩:∃ qa qc,ca=.slice qa (contA ⟨xi,xo,xc,xp,xn⟩).length qc:=hoc.parsAt.form;obtain ⟨qn,hqn⟩:∃ qn,qn=(contA ⟨xi,xo,xc,xp,xn⟩).length:=⟨_,rfl⟩
   rw [← hqn] at hqf;subst hqf;clear hqn hP KC z0 z1 z2 z3 z4 hwc;unfold ndV
   simp only
   generalize contA ⟨xi,xo,xc,xp,xn⟩=CA at hoc HND
   go_upto_region 4 with (at_builtin; refine wp_appN2 _ rfl (.tmp 18) (.tmp 21) 47 rfl w.heap.size i1 _ Tryz.underlying47 hj hy0 hy1 hy2 rfl (.slice vo 3 vc) cs rfl (by exact OwnN.alloc hPc.out.own _) ⟨_,0,none⟩ 1 ⟨⟨2,pcontK,CA,xc⟩,.slice qa qn qc⟩ (by exact OwnP.alloc hoc _) rfl (by exact hnewN.out _ _ _ rfl) (by omega) (by have:=hPc.out.size; simp; omega) ?_; intro v9 w9 hown9 hf9; have hP9:=(hPc.out.alloc _).app hf9 hown9; clear hown9 hf9)
   have hL9:(cs++[(⟨⟨2,pcontK,CA,xc⟩,.slice qa qn qc⟩:NdC)]).length=4:=by simp [hcl]
   have hN9:=hid (nds_snoc cs ⟨⟨2,pcontK,CA,xc⟩,.slice qa qn qc⟩);generalize cs++[(⟨⟨2,pcontK,CA,xc⟩,.slice qa qn qc⟩:NdC)]=cs2 at hP9 hL9 hN9;obtain ⟨vo2,vc2,hvf2⟩:=hP9.own.form;rw [hL9] at hvf2;subst hvf2;have HP9:=hid hP9;obtain ⟨z0,z1,z2,z3,z4,_,_,_,_,_⟩:=HP9.out.c5;simp only at z0 z1 z2 z3 z4;clear hP9 hPc hoc;by_cases hnx:xn=[]
   ·have hFN:=HF0.out.2 hnx;subst hnx hFN;clear HFC HFN HF0;go_wp2;go_ret;exact ⟨_,cs2,rfl,by rw [HND.out,hN9.out]; simp,HP9.out.own,HP9.out.bel⟩
   ·have hFN:=HFN.out hnx;subst hFN;have hne:xn.isEmpty=false:=by simpa using hnx
    clear HFC HFN HF0;go_wp2_with (at_builtin; refine wp_appN2 _ rfl (.tmp 26) (.tmp 30) 47 rfl w.heap.size i1 _ Tryz.underlying47 hj hy0 hy1 hy2 rfl (.slice vo2 4 vc2) cs2 rfl (by exact OwnN.alloc HP9.out.own _) ⟨_,0,none⟩ 1 ⟨⟨2,noteK,[],xn⟩,.slice none 0 0⟩ (by exact OwnP.nil _ _) rfl (by exact hnewN.out _ _ _ rfl) (by omega) (by have:=HP9.out.size; simp; omega) ?_; intro v10 w10 hown10 hf10; have hP10:=(HP9.out.alloc _).app hf10 hown10; clear hown10 hf10)
    go_ret;exact ⟨_,_,rfl,by rw [HND.out,nds_snoc,hN9.out]; simp,hP10.own,hP10.bel⟩
end Go.Proofs.YtdnekampnkhmfaaGreatDoor
