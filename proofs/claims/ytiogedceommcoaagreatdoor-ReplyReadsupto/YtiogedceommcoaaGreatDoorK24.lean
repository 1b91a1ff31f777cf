/-
  ACheck, AParse, RParseA, TailQ, AOwn, RBase2, AList.
-/
import Derived.Test.YtiogedceommcoaaGreatDoorK23
import Derived.OwnWalk
import Derived.Laws.CopyRow
set_option linter.unusedVariables false
set_option linter.unusedSimpArgs false
set_option maxRecDepth 20000
namespace Go.Proofs.YtiogedceommcoaaGreatDoor
open Go.RowKit Sc
def objA (a:Adr) (p h q:Value):Obj:=.cells #[.string ⟨a.display.toArray⟩,.string ⟨a.uri.scheme.toArray⟩,.string ⟨a.uri.user.toArray⟩,.string ⟨a.uri.host.toArray⟩,.int .i64 a.uri.port,p,h,q] 31
theorem boxA_new (w:World) (a:Adr) (p h q:Value):BoxA (w.alloc (objA a p h q)) w.heap.size a p h q:=by
 unfold BoxA World.cell? objA;simp only [heap_alloc_new];exact ⟨rfl,rfl,rfl,rfl,rfl,rfl,rfl,rfl⟩
structure Eight (w:World) (b:Nat) (v0 v1 v2 v3 v4 v5 v6 v7:Value):Prop where
 c0:w.cell? ⟨b,0,none⟩=some v0
 c1:w.cell? ⟨b,1,none⟩=some v1
 c2:w.cell? ⟨b,2,none⟩=some v2
 c3:w.cell? ⟨b,3,none⟩=some v3
 c4:w.cell? ⟨b,4,none⟩=some v4
 c5:w.cell? ⟨b,5,none⟩=some v5
 c6:w.cell? ⟨b,6,none⟩=some v6
 c7:w.cell? ⟨b,7,none⟩=some v7
 f0:w.frozen? ⟨b,0,none⟩=false
 f1:w.frozen? ⟨b,1,none⟩=false
 f2:w.frozen? ⟨b,2,none⟩=false
 f3:w.frozen? ⟨b,3,none⟩=false
 f4:w.frozen? ⟨b,4,none⟩=false
 f5:w.frozen? ⟨b,5,none⟩=false
 f6:w.frozen? ⟨b,6,none⟩=false
 f7:w.frozen? ⟨b,7,none⟩=false
theorem RowIs.eight {w:World} {b:Nat} {e:TypeId} {v0 v1 v2 v3 v4 v5 v6 v7:Value} (h:RowIs w b e [v0,v1,v2,v3,v4,v5,v6,v7]):Eight w b v0 v1 v2 v3 v4 v5 v6 v7 :=
 ⟨h.cell 0 (by simp),h.cell 1 (by simp),h.cell 2 (by simp),h.cell 3 (by simp),h.cell 4 (by simp),h.cell 5 (by simp),h.cell 6 (by simp),h.cell 7 (by simp),h.frozen 0,h.frozen 1,h.frozen 2,h.frozen 3,h.frozen 4,h.frozen 5,h.frozen 6,h.frozen 7⟩
def set8 (w:World) (b:Nat) (v0 v1 v2 v3 v4 v5 v6 v7:Value):World:=(((((((w.setCell ⟨b,0,none⟩ v0).setCell ⟨b,1,none⟩ v1).setCell ⟨b,2,none⟩ v2).setCell ⟨b,3,none⟩ v3).setCell ⟨b,4,none⟩ v4).setCell ⟨b,5,none⟩ v5).setCell ⟨b,6,none⟩ v6).setCell ⟨b,7,none⟩ v7
theorem row_store8 {w:World} {b:Nat} {e:TypeId} {u0 u1 u2 u3 u4 u5 u6 u7:Value} (h:RowIs w b e [u0,u1,u2,u3,u4,u5,u6,u7]) (v0 v1 v2 v3 v4 v5 v6 v7:Value) :
  RowIs (set8 w b v0 v1 v2 v3 v4 v5 v6 v7) b e [v0,v1,v2,v3,v4,v5,v6,v7]:=by
 have:=(((((((h.set 0 v0).set 1 v1).set 2 v2).set 3 v3).set 4 v4).set 5 v5).set 6 v6).set 7 v7
 unfold set8
 simpa using this
theorem store_below8 {B:Nat} {a w:World} (h:Below B a w) (b:Nat) (hb:B≤b) (v0 v1 v2 v3 v4 v5 v6 v7:Value):Below B a (set8 w b v0 v1 v2 v3 v4 v5 v6 v7):=by
 unfold set8;exact (((((((h.setCell hb _).setCell hb _).setCell hb _).setCell hb _).setCell hb _).setCell hb _).setCell hb _).setCell hb _
theorem OwnP.store8 {w:World} {B:Nat} {v:Value} {ps:List Par} (h:OwnP w B v ps) {b:Nat} (hb:b < B) (v0 v1 v2 v3 v4 v5 v6 v7:Value):OwnP (set8 w b v0 v1 v2 v3 v4 v5 v6 v7) B v ps:=by
 unfold set8;exact ownsRow_setCell_below (ownsRow_setCell_below (ownsRow_setCell_below (ownsRow_setCell_below (ownsRow_setCell_below (ownsRow_setCell_below (ownsRow_setCell_below (ownsRow_setCell_below h hb _) hb _) hb _) hb _) hb _) hb _) hb _) hb _
theorem row8_new (w:World) (t:TypeId):RowIs (w.alloc (.cells #[.string ⟨#[]⟩,.string ⟨#[]⟩,.string ⟨#[]⟩,.string ⟨#[]⟩,.int .i64 0,.slice none 0 0,.slice none 0 0,.slice none 0 0] t)) w.heap.size t [.string ⟨#[]⟩,.string ⟨#[]⟩,.string ⟨#[]⟩,.string ⟨#[]⟩,.int .i64 0,.slice none 0 0,.slice none 0 0,.slice none 0 0]:=by
 unfold RowIs; rw [heap_alloc_new]
def ParseRes (R:Adr × Int) (w w':World) (e:Ending):Prop :=
 ∃ p h q,e=.returned (.tuple #[adrV R.1 p h q,.int .i64 R.2])∧OwnP w' w.heap.size p R.1.uri.params∧OwnP w' w.heap.size h R.1.uri.headers∧OwnP w' w.heap.size q R.1.params
theorem res_none {R:Adr × Int} {n:Int} {w w':World} (h:R=(noA,n)):ParseRes R w w' (.returned (.tuple #[.agg #[.string ⟨#[]⟩,.string ⟨#[]⟩,.string ⟨#[]⟩,.string ⟨#[]⟩,.int .i64 0,.slice none 0 0,.slice none 0 0,.slice none 0 0],.int .i64 n])):=by
 subst h;exact ⟨.slice none 0 0,.slice none 0 0,.slice none 0 0,rfl,OwnP.nil _ _,OwnP.nil _ _,OwnP.nil _ _⟩
theorem cutR_len (t:List UInt8):(cutR t).1.u.length≤t.length∧(cutR t).1.r.length≤t.length:=by
 unfold cutR
 cases openV false t with
 | some k =>
  simp only
  have h:=cutL_len 62 (t.drop (k+1));rw [List.length_drop] at h;unfold angR
  split <;> simp <;> omega
 | none =>
  simp only
  have h:=cutL_len 59 t;have h2:=trimL_len (cutL 59 t).1;unfold plainR;refine ⟨by simp only; omega,?_⟩
  simp only
  split
  ·rename_i hc
   have:=cutL_dec hc
   simp; omega
  ·simp
theorem partsG_mem_len (sep:Int):∀ (l:List UInt8) (p:Pl) (cur x:List UInt8),x ∈ partsG sep p cur l → x.length≤cur.length+l.length
 | [],p,cur,x,h=>by rw [partsG] at h; simp at h; subst h; simp
 | b :: r,p,cur,x,h=>by
  rw [partsG] at h
  split at h
  ·rcases List.mem_cons.1 h with rfl | h
   ·omega
   ·have:=partsG_mem_len sep r _ _ x h; simp at this ⊢; omega
  ·have:=partsG_mem_len sep r _ _ x h; simp at this ⊢; omega
theorem parts_mem_len (sep:Int) (l:List UInt8):∀ x ∈ partsV sep l,x.length≤l.length:=fun x h=>by have:=partsG_mem_len sep l pl0 [] x h; simpa using this
theorem tail_of (d u r:List UInt8) {p0:List UInt8} {ps:List (List UInt8)} (h:partsV 59 r=p0 :: ps):tailV d u r=if (parseV u).2 ≠ 0 then (noA,(parseV u).2) else if allB 32 p0=false then (noA,50) else if (fieldsV ps).2 ≠ 0 then (noA,(fieldsV ps).2) else (⟨d,(parseV u).1,(fieldsV ps).1⟩,0):=by
 have e1:(partsV 59 r).headD []=p0:=by rw [h]; rfl
 have e2:(partsV 59 r).tail=ps:=by rw [h]; rfl
 unfold tailV;rw [e1,e2];have e:(trimL p0 ≠ []) ↔ (allB 32 p0=false):=by rw [ne_eq,trim_nil]; simp
 by_cases h1:(parseV u).2 ≠ 0
 ·rw [if_pos h1,if_pos h1]
 ·rw [if_neg h1,if_neg h1];by_cases h2:allB 32 p0=false
  ·rw [if_pos (e.2 h2),if_pos h2]
  ·rw [if_neg (fun k=>h2 (e.1 k)),if_neg h2]
set_option maxHeartbeats 1000000 in
set_option maxRecDepth 100000 in
theorem aparse_any (s:List UInt8) (w:World) (hs:s.length≤1048576) :
  Calls Tryz.prog 66 #[.string ⟨s.toArray⟩] w fun e w'=>ParseRes (parseA s) w w' e∧Below w.heap.size w w':=by
 have hts:=trimL_len s;have KT:=hid (fun w'=>trim_list s w' (by omega));have KC:=hid (fun w'=>cut_any (trimL s) w' (by omega));have hv:parseA s=parseT (trimL s):=rfl;rw [parseT_cut] at hv;generalize parseA s=R at hv ⊢;generalize trimL s=t at KT KC hv hts;have hr0:=row8_new w 31;have hb0:Below w.heap.size w (w.alloc (.cells #[.string ⟨#[]⟩,.string ⟨#[]⟩,.string ⟨#[]⟩,.string ⟨#[]⟩,.int .i64 0,.slice none 0 0,.slice none 0 0,.slice none 0 0] 31)):=(Below.refl _ w).alloc (Nat.le_refl _) _;have hlt0:=alloc_lt w (.cells #[.string ⟨#[]⟩,.string ⟨#[]⟩,.string ⟨#[]⟩,.string ⟨#[]⟩,.int .i64 0,.slice none 0 0,.slice none 0 0,.slice none 0 0] 31);have hpl:(cutR t).1.u.length≤1048576∧(cutR t).1.r.length≤1048576:=by have:=cutR_len t; omega
 generalize cutR t=P at KC hv hpl;obtain ⟨⟨d,u,r⟩,b⟩:=P;unfold pcsV at KC;simp only at KC hv hpl;have HV:=hid hv;clear hv hts
 go_enter Tryz.func66,Tryz.ntmps66
 go_wp2_with fail
 refine (KT.out _).mono ?_
 rintro e w1 ⟨rfl,hw1⟩;have hr1:=hr0.below hw1 hlt0;have hb1:=hb0.trans (hw1.mono hb0.size);have hlt1:=Nat.lt_of_lt_of_le hlt0 hw1.size;clear hr0 hb0 hlt0 hw1 KT;go_wp2_with fail
 refine (KC.out _).mono ?_
 rintro e w2 ⟨rfl,hw2⟩;have hr2:=hr1.below hw2 hlt1;have hb2:=hb1.trans (hw2.mono hb1.size);have hlt2:=Nat.lt_of_lt_of_le hlt1 hw2.size;clear hr1 hb1 hlt1 hw2 KC;obtain ⟨y0,y1,y2,y3,y4,y5,y6,y7,f0,f1,f2,f3,f4,f5,f6,f7⟩:=hr2.eight
 cases b with
 | false =>
  have HR:Hid (R=(noA,50)):=show _=_ by rw [HV.out]; rfl
  clear HV;have hsz:w.heap.size < (set8 w2 w.heap.size (.string ⟨#[]⟩) (.string ⟨#[]⟩) (.string ⟨#[]⟩) (.string ⟨#[]⟩) (.int .i64 0) (.slice none 0 0) (.slice none 0 0) (.slice none 0 0)).heap.size:=by unfold set8; simpa [World.setCell] using hlt2
  have hr6:=row_store8 hr2 (.string ⟨#[]⟩) (.string ⟨#[]⟩) (.string ⟨#[]⟩) (.string ⟨#[]⟩) (.int .i64 0) (.slice none 0 0) (.slice none 0 0) (.slice none 0 0);have hb6:=store_below8 hb2 w.heap.size (Nat.le_refl _) (.string ⟨#[]⟩) (.string ⟨#[]⟩) (.string ⟨#[]⟩) (.string ⟨#[]⟩) (.int .i64 0) (.slice none 0 0) (.slice none 0 0) (.slice none 0 0);have hr7:=hr6.below ((Below.refl _ _).alloc (Nat.le_refl _) (.cells #[.string ⟨d.toArray⟩,.string ⟨u.toArray⟩,.string ⟨r.toArray⟩] 148)) hsz;have hb7:=hb6.alloc hb6.size (.cells #[.string ⟨d.toArray⟩,.string ⟨u.toArray⟩,.string ⟨r.toArray⟩] 148);have H7:=hid (And.intro hr7 hb7);clear hr6 hb6 hr7 hb7 hsz;go_wp2;unfold set8 at H7;generalize World.alloc _ _=w7 at H7 ⊢;obtain ⟨hr7,hb7⟩:=H7.out;obtain ⟨d0,d1,d2,d3,d4,d5,d6,d7,_,_,_,_,_,_,_,_⟩:=hr7.eight
  try simp only [Exit.inBlock,Exit.then]
  refine bodyPost_ret (v:=.tuple #[.agg #[.string ⟨#[]⟩,.string ⟨#[]⟩,.string ⟨#[]⟩,.string ⟨#[]⟩,.int .i64 0,.slice none 0 0,.slice none 0 0,.slice none 0 0],.int .i64 50]) (by simp [results,Tryz.results66,go_sem,d0,d1,d2,d3,d4,d5,d6,d7]; try rfl) rfl ?_
  exact ⟨res_none HR.out,hb7⟩
 | true =>
  rw [if_pos rfl] at HV;have hp3:=row3_any w2 (.string ⟨d.toArray⟩) (.string ⟨u.toArray⟩) (.string ⟨r.toArray⟩) 148;have hr3:=hr2.below ((Below.refl _ w2).alloc (Nat.le_refl _) (.cells #[.string ⟨d.toArray⟩,.string ⟨u.toArray⟩,.string ⟨r.toArray⟩] 148)) hlt2;have hb3:=hb2.alloc hb2.size (.cells #[.string ⟨d.toArray⟩,.string ⟨u.toArray⟩,.string ⟨r.toArray⟩] 148);have hlt3:=alloc_lt w2 (.cells #[.string ⟨d.toArray⟩,.string ⟨u.toArray⟩,.string ⟨r.toArray⟩] 148);obtain ⟨p0',ps0,hpt⟩:=partsG_cons 59 r pl0 [];have hpt2:partsV 59 r=p0' :: ps0:=hpt;have hmem:=parts_mem_len 59 r;rw [hpt2] at hmem;have KU:=hid (fun w'=>parse_any u w' hpl.1);have KP:=hid (fun w'=>parts_of hpt2 w' (by omega));have KA:=hid (fun w'=>all_l p0' 32 w' (by have:=hmem p0' (by simp); omega));have HML:Hid (∀ l ∈ ps0,l.length≤1048576):=fun l hl=>by have:=hmem l (by simp [hl]); omega
  have HT:=hid (tail_of d u r hpt2);clear hpt hpt2 hmem y0 y1 y2 y3 y4 y5 y6 y7 f0 f1 f2 f3 f4 f5 f6 f7 hr2 hb2;generalize parseV u=pu at KU HT;obtain ⟨⟨us,uu,uh,up,upp,uhh⟩,un⟩:=pu;unfold uriV at KU;simp only at KU HT;obtain ⟨p0,p1,p2,g0,g1,g2⟩:=hp3.three;go_wp2_with fail
  refine (KU.out _).mono ?_
  rintro e w3 ⟨pv,hv,rfl,ho1,ho2,hw3⟩;obtain ⟨a1,k1,hpe⟩:=ho1.parsAt.form;obtain ⟨a2,k2,hhe⟩:=ho2.parsAt.form;subst hpe hhe;have hp4:=hp3.below hw3 hlt3;have hr4:=hr3.below hw3 (Nat.lt_trans hlt2 hlt3);have hb4:=hb3.trans (hw3.mono hb3.size);have hlt4:w2.heap.size < w3.heap.size:=Nat.lt_of_lt_of_le hlt3 hw3.size;have HO1:=hid (OwnP.mono ho1 (show w.heap.size+1≤_ by have:=hb3.size; omega));have HO2:=hid (OwnP.mono ho2 (show w.heap.size+1≤_ by have:=hb3.size; omega));clear hp3 hr3 hb3 hlt3 ho1 ho2 hw3 KU p0 p1 p2 g0 g1 g2;by_cases hun:un=0
  ·subst hun;have hA:=(Below.refl _ w3).alloc (Nat.le_refl _) (.cells #[.string ⟨us.toArray⟩,.string ⟨uu.toArray⟩,.string ⟨uh.toArray⟩,.int .i64 up,.slice a1 upp.length k1,.slice a2 uhh.length k2] 29);have hltA:=alloc_lt w3 (.cells #[.string ⟨us.toArray⟩,.string ⟨uu.toArray⟩,.string ⟨uh.toArray⟩,.int .i64 up,.slice a1 upp.length k1,.slice a2 uhh.length k2] 29);have hu5:=box_new w3 ⟨us,uu,uh,up,upp,uhh⟩ (.slice a1 upp.length k1) (.slice a2 uhh.length k2);have hp5:=hp4.below hA hlt4;have hr5:=hr4.below hA (Nat.lt_trans hlt2 hlt4);have hb5:=hb4.alloc hb4.size (.cells #[.string ⟨us.toArray⟩,.string ⟨uu.toArray⟩,.string ⟨uh.toArray⟩,.int .i64 up,.slice a1 upp.length k1,.slice a2 uhh.length k2] 29);have HO1a:=hid (HO1.out.below hA);have HO2a:=hid (HO2.out.below hA);clear hp4 hr4 hb4 HO1 HO2 hA;obtain ⟨p0,p1,p2,g0,g1,g2⟩:=hp5.three;go_wp2_with fail
   refine (KP.out _).mono ?_
   rintro e w5 ⟨g,cap,rfl,hcap,hgl,hcells,hw5⟩;have hg0:=hcells 0 (by simp);simp only [List.getElem_cons_zero] at hg0;have hp6:=hp5.below hw5 (Nat.lt_trans hlt4 hltA);have hr6:=hr5.below hw5 (Nat.lt_trans hlt2 (Nat.lt_trans hlt4 hltA));have hb6:=hb5.trans (hw5.mono hb5.size);have HU6:=hid (BoxU.below hu5 hw5 hltA);have HO1b:=hid (HO1a.out.below hw5);have HO2b:=hid (HO2a.out.below hw5);have hlt6:w.heap.size < w5.heap.size:=Nat.lt_of_lt_of_le (Nat.lt_trans hlt2 (Nat.lt_trans hlt4 hltA)) hw5.size;have hlt6p:w2.heap.size < w5.heap.size:=Nat.lt_of_lt_of_le (Nat.lt_trans hlt4 hltA) hw5.size;have hlt6u:w3.heap.size < w5.heap.size:=Nat.lt_of_lt_of_le hltA hw5.size;have HC:=hid hcells;clear hcells hp5 hr5 hb5 hu5 HO1a HO2a hw5 KP p0 p1 p2 g0 g1 g2;go_wp2_with fail
   refine (KA.out _).mono ?_
   rintro e w6 ⟨rfl,rfl⟩;clear KA
   cases hab:allB 32 p0' with
   | false =>
    have HR:Hid (R=(noA,50)):=show _=_ by rw [HV.out,HT.out,if_neg (by simp),if_pos hab]
    clear HV HT HC hab HU6 HO1b HO2b hg0;obtain ⟨y0,y1,y2,y3,y4,y5,y6,y7,f0,f1,f2,f3,f4,f5,f6,f7⟩:=hr6.eight;go_wp2;have hr7:=row_store8 hr6 (.string ⟨#[]⟩) (.string ⟨#[]⟩) (.string ⟨#[]⟩) (.string ⟨#[]⟩) (.int .i64 0) (.slice none 0 0) (.slice none 0 0) (.slice none 0 0);have hb7:=store_below8 hb6 w.heap.size (Nat.le_refl _) (.string ⟨#[]⟩) (.string ⟨#[]⟩) (.string ⟨#[]⟩) (.string ⟨#[]⟩) (.int .i64 0) (.slice none 0 0) (.slice none 0 0) (.slice none 0 0);unfold set8 at hr7 hb7;generalize World.setCell _ _ _=w7 at hr7 hb7 ⊢;obtain ⟨d0,d1,d2,d3,d4,d5,d6,d7,_,_,_,_,_,_,_,_⟩:=hr7.eight
    try simp only [Exit.inBlock,Exit.then]
    refine bodyPost_ret (v:=.tuple #[.agg #[.string ⟨#[]⟩,.string ⟨#[]⟩,.string ⟨#[]⟩,.string ⟨#[]⟩,.int .i64 0,.slice none 0 0,.slice none 0 0,.slice none 0 0],.int .i64 50]) (by simp [results,Tryz.results66,go_sem,d0,d1,d2,d3,d4,d5,d6,d7]; try rfl) rfl ?_
    exact ⟨res_none HR.out,hb7⟩
   | true =>
    have HT2:Hid (tailV d u r=if (fieldsV ps0).2 ≠ 0 then (noA,(fieldsV ps0).2) else (⟨d,⟨us,uu,uh,up,upp,uhh⟩,(fieldsV ps0).1⟩,0)):=show _=_ by rw [HT.out,if_neg (by simp),if_neg (by rw [hab]; simp)]
    have HSA:Hid (StrsAt w6 (.slice (some ⟨g,1,none⟩) ps0.length (cap - 1)) ps0):=strs_tail HC.out hgl (Below.refl _ _);have HSB:Hid (ps0=[] → StrsAt w6 (.slice (some ⟨g,0,none⟩) ps0.length 0) ps0):=fun h=>by subst h; exact strs_none _ _ _
    clear HT HC hab hg0 hgl;go_wp2_with fail
    all_goals (
     refine (afields_any _ ps0 w6 HML.out ?hstr).mono ?_
     case hstr=>first | with_reducible exact HSA.out | exact HSB.out (List.eq_nil_of_length_eq_zero (by omega))
     rintro e w7 ⟨fv,fn,rfl,⟨hfn,hfo⟩,hw7⟩;generalize fieldsV ps0=fr at HT2 hfn hfo;obtain ⟨fp,fm⟩:=fr;simp only at HT2 hfn hfo;subst hfn;obtain ⟨a3,k3,hfe⟩:=hfo.parsAt.form;subst hfe;have hp8:=hp6.below hw7 hlt6p;have hr8:=hr6.below hw7 hlt6;have hb8:=hb6.trans (hw7.mono hb6.size);have HU8:=hid (BoxU.below HU6.out hw7 hlt6u);have HO1c:=hid (HO1b.out.below hw7);have HO2c:=hid (HO2b.out.below hw7);have HO3c:=hid (OwnP.mono hfo (show w.heap.size+1≤_ by omega));clear hfo hw7 hp6 hr6 hb6 HU6 HO1b HO2b;obtain ⟨y0,y1,y2,y3,y4,y5,y6,y7,f0,f1,f2,f3,f4,f5,f6,f7⟩:=hr8.eight;by_cases hfz:fn=0
     ·subst hfz;have HR:Hid (R=(⟨d,⟨us,uu,uh,up,upp,uhh⟩,fp⟩,0)):=show _=_ by rw [HV.out,HT2.out,if_neg (by simp)]
      clear HV HT2;obtain ⟨p0,p1,p2,g0,g1,g2⟩:=hp8.three;obtain ⟨x0,x1,x2,x3,x4,x5⟩:=HU8.out;simp only at x0 x1 x2 x3 x4 x5;have hr9:=row_store8 hr8 (.string ⟨d.toArray⟩) (.string ⟨us.toArray⟩) (.string ⟨uu.toArray⟩) (.string ⟨uh.toArray⟩) (.int .i64 up) (.slice a1 upp.length k1) (.slice a2 uhh.length k2) (.slice a3 fp.length k3);have hb9:=store_below8 hb8 w.heap.size (Nat.le_refl _) (.string ⟨d.toArray⟩) (.string ⟨us.toArray⟩) (.string ⟨uu.toArray⟩) (.string ⟨uh.toArray⟩) (.int .i64 up) (.slice a1 upp.length k1) (.slice a2 uhh.length k2) (.slice a3 fp.length k3);have q1:=(OwnP.store8 HO1c.out (Nat.lt_succ_self _) (.string ⟨d.toArray⟩) (.string ⟨us.toArray⟩) (.string ⟨uu.toArray⟩) (.string ⟨uh.toArray⟩) (.int .i64 up) (.slice a1 upp.length k1) (.slice a2 uhh.length k2) (.slice a3 fp.length k3)).mono (Nat.le_succ w.heap.size);have q2:=(OwnP.store8 HO2c.out (Nat.lt_succ_self _) (.string ⟨d.toArray⟩) (.string ⟨us.toArray⟩) (.string ⟨uu.toArray⟩) (.string ⟨uh.toArray⟩) (.int .i64 up) (.slice a1 upp.length k1) (.slice a2 uhh.length k2) (.slice a3 fp.length k3)).mono (Nat.le_succ w.heap.size);have q3:=(OwnP.store8 HO3c.out (Nat.lt_succ_self _) (.string ⟨d.toArray⟩) (.string ⟨us.toArray⟩) (.string ⟨uu.toArray⟩) (.string ⟨uh.toArray⟩) (.int .i64 up) (.slice a1 upp.length k1) (.slice a2 uhh.length k2) (.slice a3 fp.length k3)).mono (Nat.le_succ w.heap.size);have H9:=hid (And.intro hr9 (And.intro hb9 (And.intro q1 (And.intro q2 q3))));clear hr9 hb9 q1 q2 q3;go_wp2;unfold set8 at H9;generalize World.setCell _ _ _=w9 at H9 ⊢;obtain ⟨hr9,hb9,q1,q2,q3⟩:=H9.out;obtain ⟨d0,d1,d2,d3,d4,d5,d6,d7,_,_,_,_,_,_,_,_⟩:=hr9.eight
      try simp only [Exit.inBlock,Exit.then]
      refine bodyPost_ret (v:=.tuple #[.agg #[.string ⟨d.toArray⟩,.string ⟨us.toArray⟩,.string ⟨uu.toArray⟩,.string ⟨uh.toArray⟩,.int .i64 up,.slice a1 upp.length k1,.slice a2 uhh.length k2,.slice a3 fp.length k3],.int .i64 0]) (by simp [results,Tryz.results66,go_sem,d0,d1,d2,d3,d4,d5,d6,d7]; try rfl) rfl ?_
      refine ⟨?_,hb9⟩
      rw [HR.out];exact ⟨_,_,_,rfl,q1,q2,q3⟩
     ·have HR:Hid (R=(noA,fn)):=show _=_ by rw [HV.out,HT2.out,if_pos hfz]
      have hne:(fn != 0)=true:=by simpa using hfz
      clear HV HT2 HU8 HO1c HO2c HO3c hp8;go_wp2;have hr7:=row_store8 hr8 (.string ⟨#[]⟩) (.string ⟨#[]⟩) (.string ⟨#[]⟩) (.string ⟨#[]⟩) (.int .i64 0) (.slice none 0 0) (.slice none 0 0) (.slice none 0 0);have hb7:=store_below8 hb8 w.heap.size (Nat.le_refl _) (.string ⟨#[]⟩) (.string ⟨#[]⟩) (.string ⟨#[]⟩) (.string ⟨#[]⟩) (.int .i64 0) (.slice none 0 0) (.slice none 0 0) (.slice none 0 0);unfold set8 at hr7 hb7;generalize World.setCell _ _ _=w7 at hr7 hb7 ⊢;obtain ⟨d0,d1,d2,d3,d4,d5,d6,d7,_,_,_,_,_,_,_,_⟩:=hr7.eight
      try simp only [Exit.inBlock,Exit.then]
      refine bodyPost_ret (v:=.tuple #[.agg #[.string ⟨#[]⟩,.string ⟨#[]⟩,.string ⟨#[]⟩,.string ⟨#[]⟩,.int .i64 0,.slice none 0 0,.slice none 0 0,.slice none 0 0],.int .i64 fn]) (by simp [results,Tryz.results66,go_sem,d0,d1,d2,d3,d4,d5,d6,d7]; try rfl) rfl ?_
      exact ⟨res_none HR.out,hb7⟩)
  ·have HR:Hid (R=(noA,un)):=show _=_ by rw [HV.out,HT.out,if_pos hun]
   have hne:(un != 0)=true:=by simpa using hun
   clear HV HT HO1 HO2 hp4;obtain ⟨y0,y1,y2,y3,y4,y5,y6,y7,f0,f1,f2,f3,f4,f5,f6,f7⟩:=hr4.eight;have hsz:w.heap.size < (set8 w3 w.heap.size (.string ⟨#[]⟩) (.string ⟨#[]⟩) (.string ⟨#[]⟩) (.string ⟨#[]⟩) (.int .i64 0) (.slice none 0 0) (.slice none 0 0) (.slice none 0 0)).heap.size:=by unfold set8; simpa [World.setCell] using Nat.lt_trans hlt2 hlt4
   have hltw:=Nat.lt_trans hlt2 hlt4;have hr6:=row_store8 hr4 (.string ⟨#[]⟩) (.string ⟨#[]⟩) (.string ⟨#[]⟩) (.string ⟨#[]⟩) (.int .i64 0) (.slice none 0 0) (.slice none 0 0) (.slice none 0 0);have hb6:=store_below8 hb4 w.heap.size (Nat.le_refl _) (.string ⟨#[]⟩) (.string ⟨#[]⟩) (.string ⟨#[]⟩) (.string ⟨#[]⟩) (.int .i64 0) (.slice none 0 0) (.slice none 0 0) (.slice none 0 0);have hr7:=hr6.below ((Below.refl _ _).alloc (Nat.le_refl _) (.cells #[.string ⟨us.toArray⟩,.string ⟨uu.toArray⟩,.string ⟨uh.toArray⟩,.int .i64 up,.slice a1 upp.length k1,.slice a2 uhh.length k2] 29)) hsz;have hb7:=hb6.alloc hb6.size (.cells #[.string ⟨us.toArray⟩,.string ⟨uu.toArray⟩,.string ⟨uh.toArray⟩,.int .i64 up,.slice a1 upp.length k1,.slice a2 uhh.length k2] 29);have H7:=hid (And.intro hr7 hb7);clear hr6 hb6 hr7 hb7 hsz;go_wp2;unfold set8 at H7;generalize World.alloc _ _=w7 at H7 ⊢;obtain ⟨hr7,hb7⟩:=H7.out;obtain ⟨d0,d1,d2,d3,d4,d5,d6,d7,_,_,_,_,_,_,_,_⟩:=hr7.eight
   try simp only [Exit.inBlock,Exit.then]
   refine bodyPost_ret (v:=.tuple #[.agg #[.string ⟨#[]⟩,.string ⟨#[]⟩,.string ⟨#[]⟩,.string ⟨#[]⟩,.int .i64 0,.slice none 0 0,.slice none 0 0,.slice none 0 0],.int .i64 un]) (by simp [results,Tryz.results66,go_sem,d0,d1,d2,d3,d4,d5,d6,d7]; try rfl) rfl ?_
   exact ⟨res_none HR.out,hb7⟩
structure P3 (w W:World) (d:List UInt8):Prop where
 r:RowIs W w.heap.size 31 [.string ⟨#[]⟩,.string ⟨#[]⟩,.string ⟨#[]⟩,.string ⟨#[]⟩,.int .i64 0,.slice none 0 0,.slice none 0 0,.slice none 0 0]
 n:RowIs W (w.heap.size+1) 31 [.string ⟨#[]⟩,.string ⟨#[]⟩,.string ⟨#[]⟩,.string ⟨#[]⟩,.int .i64 0,.slice none 0 0,.slice none 0 0,.slice none 0 0]
 a:RowIs W (w.heap.size+1+1) 31 [.string ⟨d.toArray⟩,.string ⟨#[]⟩,.string ⟨#[]⟩,.string ⟨#[]⟩,.int .i64 0,.slice none 0 0,.slice none 0 0,.slice none 0 0]
 lt:w.heap.size+1+1 < W.heap.size
 b:Below w.heap.size w W
end Go.Proofs.YtiogedceommcoaaGreatDoor
namespace Go.Proofs.YtiogedceommcoaaGreatDoor
section
variable {P : Program} {md : Region.Mode} {C : World → Prop} {Q' : Exit → Act → World → Prop} {Q1 : Act → Prop}
theorem wpAny_go {ops:Array Oper} {f:Nat} {listed:Array Bool} {a:Act} {w:World} (i:Nat) (o:Oper) (hr:Region.ready md ops listed=[i]) (ho:ops[i]? = some o) (hg:o.guard=none)
  (h:o.wp P a w (fun a' w'=>wpAny P md ops Q' f (listed.setIfInBounds i true) a' w') Q'):wpAny P md ops Q' (f+1) listed a w:=by
 refine ⟨fun h0=>absurd (hr.symm.trans h0) (by simp),fun j hj=>?_⟩
 rw [hr] at hj;simp only [List.mem_singleton] at hj;subst hj;unfold wpOp;simp only [ho,Region.wanted,hg,if_true];exact .inl h
theorem wpAny_end {ops:Array Oper} {f:Nat} {listed:Array Bool} {a:Act} {w:World} (hr:Region.ready md ops listed=[]) (h:Q' .normal a w):wpAny P md ops Q' f listed a w:=by
 cases f with
 | zero=>exact ⟨hr,h⟩
 | succ f=>exact ⟨fun _=>h,fun i hi=>by rw [hr] at hi; cases hi⟩
end
end Go.Proofs.YtiogedceommcoaaGreatDoor
namespace Go.Proofs.YtiogedceommcoaaGreatDoor
open Go.RowKit Sc
def adrsCells (cs:List AdrC):List Value:=cs.flatMap adrCells
theorem adrCells_len (c:AdrC):(adrCells c).length=8:=rfl
theorem adrsCells_get (cs:List AdrC) (k:Nat) (hk:k < cs.length) (j:Nat) (u:Value) (h:(adrCells cs[k])[j]? = some u):(adrsCells cs)[k * 8+j]? = some u:=by
 induction cs generalizing k with
 | nil=>simp at hk
 | cons c cs ih =>
  have e:adrsCells (c :: cs)=adrCells c++adrsCells cs:=rfl
  cases k with
  | zero =>
   have hj:j < 8:=by have:=(List.getElem?_eq_some_iff.1 h).1; simpa [adrCells] using this
   rw [e,List.getElem?_append_left (by rw [adrCells_len]; omega),Nat.zero_mul,Nat.zero_add];exact h
  | succ k =>
   have:=ih k (by simpa using hk) (by simpa using h)
   rw [e,List.getElem?_append_right (by rw [adrCells_len]; omega),adrCells_len,show (k+1) * 8+j - 8=k * 8+j by omega];exact this
def AdrC.Own (w:World) (B:Nat) (c:AdrC):Prop:=OwnP w B c.p c.a.uri.params∧OwnP w B c.h c.a.uri.headers∧OwnP w B c.q c.a.params
theorem AdrC.Own.below {w w':World} {B:Nat} {c:AdrC} (h:c.Own w B) (hb:Below w.heap.size w w'):c.Own w' B:=⟨h.1.below hb,h.2.1.below hb,h.2.2.below hb⟩
theorem AdrC.Own.mono {w:World} {B B':Nat} {c:AdrC} (h:c.Own w B) (hle:B'≤B):c.Own w B':=⟨h.1.mono hle,h.2.1.mono hle,h.2.2.mono hle⟩
theorem AdrC.Own.at {w:World} {B:Nat} {c:AdrC} (h:c.Own w B):c.At w:=⟨h.1.parsAt,h.2.1.parsAt,h.2.2.parsAt,h.2.2.cap⟩
def OwnA (w:World) (B:Nat) (v:Value) (cs:List AdrC):Prop:=w.ownsRow B 31 8 v cs.length (adrsCells cs)∧∀ c ∈ cs,c.Own w B
theorem OwnA.nil (w:World) (B:Nat):OwnA w B (.slice none 0 0) []:=⟨World.ownsRow_nil _ _ _ _,fun c hc=>by simp at hc⟩
theorem OwnA.below {w w':World} {B:Nat} {v:Value} {cs:List AdrC} (h:OwnA w B v cs) (hb:Below w.heap.size w w'):OwnA w' B v cs:=by
 obtain ⟨⟨h1,h2⟩,h3⟩:=h;refine ⟨⟨h1,?_⟩,fun c hc=>(h3 c hc).below hb⟩
 rcases h2 with h2 | ⟨g,cap,cur,hv,hg,hh,r⟩
 ·exact Or.inl h2
 ·exact Or.inr ⟨g,cap,cur,hv,hg,by rw [hb.block g (Array.getElem?_eq_some_iff.1 hh).1]; exact hh,r⟩
theorem OwnA.mono {w:World} {B C:Nat} {v:Value} {cs:List AdrC} (h:OwnA w B v cs) (hc:C≤B):OwnA w C v cs:=by
 obtain ⟨⟨h1,h2⟩,h3⟩:=h;refine ⟨⟨h1,?_⟩,fun c hc'=>(h3 c hc').mono hc⟩
 rcases h2 with h2 | ⟨g,cap,cur,hv,hg,r⟩
 ·exact Or.inl h2
 ·exact Or.inr ⟨g,cap,cur,hv,Nat.le_trans hc hg,r⟩
theorem OwnA.form {w:World} {B:Nat} {v:Value} {cs:List AdrC} (h:OwnA w B v cs):∃ a cap,v=.slice a cs.length cap:=by
 rcases h.1.2 with ⟨rfl,hn⟩ | ⟨g,cap,cur,rfl,_⟩
 ·exact ⟨none,0,by rw [hn]⟩
 ·exact ⟨_,cap,rfl⟩
theorem OwnA.adrsAt {w:World} {B:Nat} {v:Value} {cs:List AdrC} (h:OwnA w B v cs):AdrsAt w v cs:=by
 refine ⟨?_,fun c hc=>(h.2 c hc).at⟩
 have h0:=h.1
 rcases h.1.2 with ⟨rfl,hn⟩ | ⟨g,cap,cur,rfl,hb,hg,r⟩
 ·exact ⟨none,0,by rw [hn],fun k hk=>by omega⟩
 ·refine ⟨some ⟨g,0,none⟩,cap,rfl,fun k hk=>⟨_,rfl,(Array.getElem?_eq_some_iff.1 hg).1,fun j u hj=>?_⟩⟩
  have a0:=World.ownsRow.cells h0 (g:=g) rfl (k * 8+j) _ (adrsCells_get cs k hk j u hj);have e:∀ j,(⟨g,0,none⟩:Addr).add j=⟨g,j,none⟩:=fun j=>by unfold Addr.add; split <;> simp_all
  rw [e] at a0;rw [e]
  split
  ·rename_i j0; subst j0; exact a0
  ·exact a0
theorem infoAdr:(Tryz.prog.info? 31).map (fun i=>(i.zero,i.size,i.bytes))=some (some (.agg #[.string .empty,.string .empty,.string .empty,.string .empty,.int .i64 0,.slice none 0 0,.slice none 0 0,.slice none 0 0]),8,144):=by kernel_rfl
theorem rows_ne {w:World} {B1 B2 e1 e2 s1 s2 n1 n2:Nat} {v1 v2:Value} {x1 x2:List Value} (h1:w.ownsRow B1 e1 s1 v1 n1 x1) (h2:w.ownsRow B2 e2 s2 v2 n2 x2) (hne:e2 ≠ e1):v2.ownBlock=none∨v2.ownBlock ≠ v1.ownBlock:=by
 rcases h2.2 with ⟨rfl,_⟩ | ⟨g2,c2,u2,rfl,_,hg2,_⟩
 ·exact Or.inl rfl
 ·right
  rcases h1.2 with ⟨rfl,_⟩ | ⟨g1,c1,u1,rfl,_,hg1,_⟩
  ·simp [Value.ownBlock]
  ·simp only [Value.ownBlock];intro e
   injection e with e
   rw [e,hg1] at hg2
   injection hg2 with hg2
   injection hg2 with _ hg2
   exact hne hg2.symm
theorem wp_appA {P:Program} (w:World) {ops:Array Oper} {rest:List Oper} {o:Oper} {a:Act} {Q:Exit → Act → World → Prop} (hgd:o.guard=none)
  (s x:Operand) (t:TypeId) (ho:o.op=Op.call { callee:=Callee.builtin Builtin.append,args:=#[s,x],argTypes:=#[t,t] }) (B:Nat) (i:TypeInfo)
  (z:Value) (ht:P.underlying t=some (TypeDesc.slice 31)) (hi:P.info? 31=some i) (hz:i.zero=some z) (hsize:i.size=8) (hby:i.bytes=144) (hzs:z.cells.size=8)
  (v:Value) (cs:List AdrC) (hs:a.eval s=v) (hown:OwnA w B v cs) (ad:Addr) (k:Nat) (c:AdrC) (hc:c.Own w B) (hx:a.eval x=Value.slice (some ad) 1 k)
  (hnews:∀ (j:Nat) (u:Value),(adrCells c)[j]? = some u → w.cell? (ad.add j)=some u)
  (hlen:cs.length≤2000000) (w0:World) (hb:Below B w0 w) (hB:B≤w.heap.size)
  (h:∀ (v':Value) (w':World),OwnA w' B v' (cs++[c]) → Below B w0 w' → B≤w'.heap.size → wpList P ops Q rest (a.put o.dst v') w'):wpList P ops Q (o :: rest) a w:=by
 obtain ⟨p1,h1,q1⟩:=hc;have one:∀ (ps:List Par) (B:Nat) (v:Value),OwnP w B v ps → v.oneCell'=true:=fun ps B v h=>by
  rcases h.2 with ⟨rfl,_⟩ | ⟨g,cap,cur,rfl,_⟩ <;> rfl
 refine wpList_append_own w hgd s x t ho B 31 i z 8 144 ht hi hz hsize hby hzs (by decide) v cs.length (adrsCells cs) hs hown.1 ad 1 k (adrCells c) hx rfl hnews
  (by intro u hu; simp [adrCells] at hu; rcases hu with rfl | rfl | rfl | rfl | rfl | rfl | rfl | rfl <;> first | rfl | exact one _ _ _ p1 | exact one _ _ _ h1 | exact one _ _ _ q1) (by unfold maxLen; omega) (by omega) hB ?_
 intro v' w' hown' hgr _;have keep:∀ (ps:List Par) (u:Value),OwnP w B u ps → OwnP w' B u ps:=fun ps u hu=>World.ownsRow.kept hu hgr (rows_ne hown.1 hu (by decide));refine h v' w' ⟨?_,?_⟩ (hb.grown hgr hB (fun k hk=>(World.ownsRow.lt hown.1 k hk).1)) (Nat.le_trans hB hgr.size)
 ·have e:adrsCells (cs++[c])=adrsCells cs++adrCells c:=by simp [adrsCells]
  rw [e,List.length_append];exact hown'
 ·intro c' hc'
  rcases List.mem_append.1 hc' with hc' | hc'
  ·obtain ⟨k1,k2,k3⟩:=hown.2 c' hc';exact ⟨keep _ _ k1,keep _ _ k2,keep _ _ k3⟩
  ·simp at hc'; subst hc'
   exact ⟨keep _ _ p1,keep _ _ h1,keep _ _ q1⟩
def rq0:Array Value:=(rqCells noC).toArray
theorem infoR0:(Tryz.prog.info? 37).map (·.size)=some rq0.size:=by kernel_rfl
theorem oneR0:rq0.all (·.oneCell')=true:=Array.all_eq_true_iff_forall_mem.2 fun v hv=>rq_one noC_sl v (by simpa [rq0] using hv)
theorem zeroR0 (u:World):(zeroValue 37).run Tryz.prog u=.ok (.agg rq0) u:=by kernel_rfl
structure RqB (B:Nat) (c:RqC) (w':World):Prop where
 frm:AdrC.Own w' B ⟨c.r.frm,c.fp,c.fh,c.fq⟩
 too:AdrC.Own w' B ⟨c.r.too,c.op,c.oh,c.oq⟩
 tp:c.tp=nilS
 th:c.th=nilS
 eq:c.eq=nilS
 co:c.co=nilS
 ro:c.ro=nilS
 ac:c.ac=nilS
 t:c.r.target=noU
 e:c.r.event=noE
 l:c.r.contact=[]∧c.r.routes=[]∧c.r.accept=[]
theorem list_on {qs:List (List UInt8)} {out:List Adr} {k:Nat} {a:Adr} (hk:k < qs.length) (h:listG [] qs=listG out (qs.drop k)) (hp:parseA qs[k]=(a,0)):listG [] qs=listG (out++[a]) (qs.drop (k+1)):=by
 rw [h,List.drop_eq_getElem_cons hk,listG,hp]; simp
theorem list_bad {qs:List (List UInt8)} {out:List Adr} {k:Nat} {a:Adr} {n:Int} (hk:k < qs.length) (h:listG [] qs=listG out (qs.drop k)) (hp:parseA qs[k]=(a,n)) (hn:n ≠ 0):listG [] qs=([],n):=by
 rw [h,List.drop_eq_getElem_cons hk,listG,hp]; simp [hn]
theorem new_adr (w4:World) (c:AdrC) (t:TypeId):∀ (j:Nat) (u:Value),(adrCells c)[j]? = some u → (w4.alloc (.cells #[.string ⟨c.a.display.toArray⟩,.string ⟨c.a.uri.scheme.toArray⟩,.string ⟨c.a.uri.user.toArray⟩,.string ⟨c.a.uri.host.toArray⟩,.int .i64 c.a.uri.port,c.p,c.h,c.q] t)).cell? ((⟨w4.heap.size,0,none⟩:Addr).add j)=some u:=by
 intro j u hj;have e:(⟨w4.heap.size,0,none⟩:Addr).add j=⟨w4.heap.size,j,none⟩:=by unfold Addr.add; split <;> simp_all
 rw [e];unfold World.cell?;rw [heap_alloc_new]
 simpa [adrCells] using hj
theorem parts_at {l p0:List UInt8} {ps:List (List UInt8)} {c:Int} (h:partsV c l=p0 :: ps) (w:World) (hs:l.length≤1048576) :
  Calls Tryz.prog 109 #[.string ⟨l.toArray⟩,.int .u8 c] w fun e w'=>∃ (a:Addr) (cap:Nat),e=.returned (.slice (some a) (ps.length+1) cap)∧(∀ j (hj:j < (p0 :: ps).length),a.block < w'.heap.size∧w'.cell? (a.add j)=some (.string ⟨((p0 :: ps)[j]).toArray⟩))∧Below w.heap.size w w':=by
 refine (parts_of h w hs).mono ?_
 rintro e w' ⟨g,cap,rfl,_,hg,hc,hb⟩;refine ⟨⟨g,0,none⟩,cap,rfl,fun j hj=>⟨hg,?_⟩,hb⟩
 have e:(⟨g,0,none⟩:Addr).add j=⟨g,j,none⟩:=by unfold Addr.add; split <;> simp_all
 rw [e];exact hc j hj
def ListRes (R:List Adr × Int) (w w':World) (e:Ending):Prop:=∃ v cs,e=.returned (.tuple #[v,.int .i64 R.2])∧cs.map AdrC.a=R.1∧OwnA w' w.heap.size v cs
theorem lres_bad {R:List Adr × Int} {n:Int} {w w':World} (h:R=([],n)):ListRes R w w' (.returned (.tuple #[.slice none 0 0,.int .i64 n])):=⟨_,[],by rw [h],by rw [h]; rfl,OwnA.nil _ _⟩
set_option maxHeartbeats 1000000 in
set_option maxRecDepth 100000 in
theorem alist_any (s:List UInt8) (w:World) (hs:s.length≤1048576) :
  Calls Tryz.prog 131 #[.string ⟨s.toArray⟩] w fun e w'=>ListRes (listA s) w w' e∧Below w.heap.size w w':=by
 obtain ⟨i0,hi,hz0,hz1,hz2⟩:=info_parts infoAdr;obtain ⟨p0,ps0,hpt⟩:=partsG_cons 44 s pl0 [];have hpt2:partsV 44 s=p0 :: ps0:=hpt;have hmem:=parts_mem_len 44 s;rw [hpt2] at hmem;have KP:=hid (fun w'=>parts_at hpt2 w' (by omega));have HM:Hid (∀ l ∈ p0 :: ps0,l.length≤1048576):=fun l hl=>by have:=hmem l hl; omega
 have HLA:Hid (listA s=if 16 < (p0 :: ps0).length then ([],4) else listG [] (p0 :: ps0)):=show _=_ by rw [listA,hpt2]
 generalize listA s=R at HLA ⊢;clear hpt hpt2 hmem;obtain ⟨n,hn⟩:∃ n,n=ps0.length+1:=⟨_,rfl⟩
 have HN:Hid ((p0 :: ps0).length=n):=by show _=_; rw [hn]; rfl
 rw [← hn] at KP;clear hn;generalize p0 :: ps0=qs at KP HM HLA HN
 go_enter Tryz.func131,Tryz.ntmps131
 go_wp2_with fail
 refine (KP.out _).mono ?_
 rintro e w1 ⟨a,cap,rfl,hc,hw1⟩;have HC:=hid hc;clear hc KP;by_cases h16:n≤16
 case neg =>
  have h16':(16:Int) < (n:Int):=by omega
  have HR:Hid (R=([],4)):=show _=_ by rw [HLA.out,if_pos (by rw [HN.out]; omega)]
  clear HLA;go_wp2;go_ret2;exact ⟨lres_bad HR.out,hw1⟩
 have HR:Hid (R=listG [] qs):=show _=_ by rw [HLA.out,if_neg (by rw [HN.out]; omega)]
 clear HLA;go_wp2
 go_loopw [5,17] (fun x i wr=>∃ (k:Nat) (cs:List AdrC),k≤n∧i=.int .i64 k∧Hid (listG [] qs=listG (cs.map AdrC.a) (qs.drop k))∧Hid (cs.length=k)∧Hid (OwnA wr w1.heap.size x cs)∧Below w1.heap.size w1 wr∧w1.heap.size≤wr.heap.size) (fun _ i _=>n - (intOf i).toNat)
 case atStart=>exact ⟨0,[],by omega,rfl,rfl,hid rfl,OwnA.nil _ _,Below.refl _ _,Nat.le_refl _⟩
 case round =>
  obtain ⟨k,cs,hkn,rfl,hps,hpl,hown,hb,hB⟩:=hrel;by_cases hlt:k < n
  ·have hkl:k < qs.length:=by have:=HN.out; omega
   obtain ⟨hab,hcell⟩:=HC.out k hkl;have hcell2:=cell_below hb (by rw [add_block]; exact hab) hcell;have hll:=HM.out _ (List.getElem_mem hkl);clear hcell;have KA:=hid (fun w'=>aparse_any qs[k] w' hll);have hon:=@list_on qs (cs.map AdrC.a) k;have hbad:=@list_bad qs (cs.map AdrC.a) k;obtain ⟨x,er,hpv⟩:∃ x er,parseA qs[k]=(x,er):=⟨_,_,rfl⟩
   rw [hpv] at KA;obtain ⟨xa,xc,hxe⟩:=hown.out.form;subst hxe;by_cases he:er=0
   ·subst he;have hnext:=hid (hon hkl hps.out hpv);clear hon hbad hpv hps;obtain ⟨d,⟨us,uu,uh,up,upp,uhh⟩,ps⟩:=x;unfold ParseRes adrV at KA;simp only at KA;go_wp2_with fail
    refine (KA.out _).mono ?_
    rintro e w2 ⟨⟨p,h,q,rfl,o1,o2,o3⟩,hw2⟩;have HC2:Hid (AdrC.Own w2 w1.heap.size ⟨⟨d,⟨us,uu,uh,up,upp,uhh⟩,ps⟩,p,h,q⟩):=⟨o1.mono hB,o2.mono hB,o3.mono hB⟩
    obtain ⟨a1,k1,e1⟩:=o1.parsAt.form;obtain ⟨a2,k2,e2⟩:=o2.parsAt.form;obtain ⟨a3,k3,e3⟩:=o3.parsAt.form;subst e1 e2 e3;have hown2:=hown.out.below hw2;have hb2:=hb.trans (hw2.mono hB);have hB2:=hb2.size;clear o1 o2 o3 hown hw2 KA hb;have HNW:=hid (fun (wx:World) (t:TypeId)=>new_adr wx ⟨⟨d,⟨us,uu,uh,up,upp,uhh⟩,ps⟩,.slice a1 upp.length k1,.slice a2 uhh.length k2,.slice a3 ps.length k3⟩ t);simp only at HNW;have HNV:=hid (HNW.out (w2.alloc (.cells #[.string ⟨d.toArray⟩,.string ⟨us.toArray⟩,.string ⟨uu.toArray⟩,.string ⟨uh.toArray⟩,.int .i64 up,.slice a1 upp.length k1,.slice a2 uhh.length k2,.slice a3 ps.length k3] 31)));rw [show (w2.alloc (.cells #[.string ⟨d.toArray⟩,.string ⟨us.toArray⟩,.string ⟨uu.toArray⟩,.string ⟨uh.toArray⟩,.int .i64 up,.slice a1 upp.length k1,.slice a2 uhh.length k2,.slice a3 ps.length k3] 31)).heap.size=w2.heap.size+1 by simp] at HNV;clear HNW;have hA:=hid ((Below.refl _ w2).alloc (Nat.le_refl _) (.cells #[.string ⟨d.toArray⟩,.string ⟨us.toArray⟩,.string ⟨uu.toArray⟩,.string ⟨uh.toArray⟩,.int .i64 up,.slice a1 upp.length k1,.slice a2 uhh.length k2,.slice a3 ps.length k3] 31));have hA2:=hid (fun o=>hA.out.trans (((Below.refl _ _).alloc (Nat.le_refl _) o).mono hA.out.size));have hO3:=hid (fun o=>hown2.below (hA2.out o));have hC3:=hid (fun o=>HC2.out.below (hA2.out o));have hb3:=hid (fun o=>hb2.trans ((hA2.out o).mono hB2));clear hown2 HC2 hA hb2;go_wp2_with (at_builtin; refine wp_appA _ rfl (.tmp 29) (.tmp 31) 34 rfl w1.heap.size i0 _ Tryz.underlying34 hi hz0 hz1 hz2 rfl _ cs rfl (hO3.out _) ⟨_,0,none⟩ 1 ⟨⟨d,⟨us,uu,uh,up,upp,uhh⟩,ps⟩,.slice a1 upp.length k1,.slice a2 uhh.length k2,.slice a3 ps.length k3⟩ (hC3.out _) rfl (by exact HNV.out _) (by have:=hpl.out; omega) w1 (hb3.out _) (by simp; omega) ?_; intro v5 w5 hown5 hb5 hB5)
    have HO5:=hid hown5;clear hown5;go_wp2;go_roundw
    case rel=>exact ⟨k+1,cs++[⟨⟨d,⟨us,uu,uh,up,upp,uhh⟩,ps⟩,.slice a1 upp.length k1,.slice a2 uhh.length k2,.slice a3 ps.length k3⟩],by omega,by go_num,hid (by rw [List.map_append]; exact hnext.out),hid (by have:=hpl.out; simp; omega),HO5,hb5,hB5⟩
    case measure=>simp [intOf]; omega
   ·have hn:(er != 0)=true:=by simpa using he
    have hn2:(er==0)=false:=by simpa using he
    have HR2:Hid (R=([],er)):=show _=_ by rw [HR.out]; exact hbad hkl hps.out hpv he
    clear hon hbad hpv hps;obtain ⟨d,⟨us,uu,uh,up,upp,uhh⟩,ps⟩:=x;unfold ParseRes adrV at KA;simp only at KA;go_wp2_with fail
    refine (KA.out _).mono ?_
    rintro e w2 ⟨⟨p,h,q,rfl,o1,o2,o3⟩,hw2⟩;obtain ⟨a1,k1,e1⟩:=o1.parsAt.form;obtain ⟨a2,k2,e2⟩:=o2.parsAt.form;obtain ⟨a3,k3,e3⟩:=o3.parsAt.form;subst e1 e2 e3;have hb2:=hb.trans (hw2.mono hB);have hb3:=fun o=>hb2.alloc hb2.size o;clear o1 o2 o3 hw2 KA hb;go_wp2;go_ret2;exact ⟨lres_bad HR2.out,hw1.trans ((hb3 _).mono hw1.size)⟩
  ·have hend:Hid (R=(cs.map AdrC.a,0)):=show _=_ by
    have h:=hps.out;have e:=HN.out;rw [List.drop_of_length_le (by omega),listG] at h;rw [HR.out,h]
   clear hps;go_wp2;go_ret2;exact ⟨⟨_,cs,by rw [hend.out]; rfl,by rw [hend.out],hown.out.mono hw1.size⟩,hw1.trans (hb.mono hw1.size)⟩
end Go.Proofs.YtiogedceommcoaaGreatDoor
