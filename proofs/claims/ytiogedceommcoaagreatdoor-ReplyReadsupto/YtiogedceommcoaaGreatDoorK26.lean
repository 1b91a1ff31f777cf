/-
  RParseA.
-/
import Derived.Test.YtiogedceommcoaaGreatDoorK24
import Derived.Test.YtiogedceommcoaaGreatDoorK25
set_option linter.unusedVariables false
set_option linter.unusedSimpArgs false
set_option maxRecDepth 20000
namespace Go.Proofs.YtiogedceommcoaaGreatDoor
open Go.RowKit Sc
theorem P3.below {w W W':World} {d:List UInt8} (h:P3 w W d) (hb:Below W.heap.size W W'):P3 w W' d :=
 have hlt:=h.lt
 ⟨h.r.below hb (by omega),h.n.below hb (by omega),h.a.below hb hlt,Nat.lt_of_lt_of_le hlt hb.size,h.b.trans (hb.mono h.b.size)⟩
theorem p3_new (w:World):P3 w (((w.alloc (.cells #[.string ⟨#[]⟩,.string ⟨#[]⟩,.string ⟨#[]⟩,.string ⟨#[]⟩,.int .i64 0,.slice none 0 0,.slice none 0 0,.slice none 0 0] 31)).alloc (.cells #[.string ⟨#[]⟩,.string ⟨#[]⟩,.string ⟨#[]⟩,.string ⟨#[]⟩,.int .i64 0,.slice none 0 0,.slice none 0 0,.slice none 0 0] 31)).alloc (.cells #[.string ⟨#[]⟩,.string ⟨#[]⟩,.string ⟨#[]⟩,.string ⟨#[]⟩,.int .i64 0,.slice none 0 0,.slice none 0 0,.slice none 0 0] 31)) []:=by
 refine ⟨((row8_new w _).alloc _).alloc _,?_,?_,by simp,?_⟩
 ·have:=(row8_new (w.alloc (.cells #[.string ⟨#[]⟩,.string ⟨#[]⟩,.string ⟨#[]⟩,.string ⟨#[]⟩,.int .i64 0,.slice none 0 0,.slice none 0 0,.slice none 0 0] 31)) 31).alloc (.cells #[.string ⟨#[]⟩,.string ⟨#[]⟩,.string ⟨#[]⟩,.string ⟨#[]⟩,.int .i64 0,.slice none 0 0,.slice none 0 0,.slice none 0 0] 31)
  simpa using this
 ·have:=row8_new ((w.alloc (.cells #[.string ⟨#[]⟩,.string ⟨#[]⟩,.string ⟨#[]⟩,.string ⟨#[]⟩,.int .i64 0,.slice none 0 0,.slice none 0 0,.slice none 0 0] 31)).alloc (.cells #[.string ⟨#[]⟩,.string ⟨#[]⟩,.string ⟨#[]⟩,.string ⟨#[]⟩,.int .i64 0,.slice none 0 0,.slice none 0 0,.slice none 0 0] 31)) 31
  simpa using this
 ·exact (((Below.refl _ w).alloc (Nat.le_refl _) _).alloc (by simp) _).alloc (by simp; omega) _
theorem setCell_size (w:World) (p:Addr) (v:Value):(w.setCell p v).heap.size=w.heap.size:=by unfold World.setCell; split <;> simp
theorem P3.disp {w W:World} {d:List UInt8} (h:P3 w W []):P3 w (W.setCell ⟨w.heap.size+1+1,0,none⟩ (.string ⟨d.toArray⟩)) d:=by
 have hlt:=h.lt;have hbw:Below (w.heap.size+1+1) W (W.setCell ⟨w.heap.size+1+1,0,none⟩ (.string ⟨d.toArray⟩)):=(Below.refl _ W).setCell (show w.heap.size+1+1≤(⟨w.heap.size+1+1,0,none⟩:Addr).block from Nat.le_refl _) _;refine ⟨h.r.below hbw (by omega),h.n.below hbw (by omega),?_,by rw [setCell_size]; exact hlt,h.b.setCell (show w.heap.size≤(⟨w.heap.size+1+1,0,none⟩:Addr).block from Nat.le_trans (Nat.le_succ _) (Nat.le_succ _)) _⟩
 have:=h.a.set 0 (.string ⟨d.toArray⟩)
 simpa using this
def set7 (w:World) (b:Nat) (v1 v2 v3 v4 v5 v6 v7:Value):World:=((((((w.setCell ⟨b,1,none⟩ v1).setCell ⟨b,2,none⟩ v2).setCell ⟨b,3,none⟩ v3).setCell ⟨b,4,none⟩ v4).setCell ⟨b,5,none⟩ v5).setCell ⟨b,6,none⟩ v6).setCell ⟨b,7,none⟩ v7
theorem row_store7 {w:World} {b:Nat} {e:TypeId} {u0 u1 u2 u3 u4 u5 u6 u7:Value} (h:RowIs w b e [u0,u1,u2,u3,u4,u5,u6,u7]) (v1 v2 v3 v4 v5 v6 v7:Value) :
  RowIs (set7 w b v1 v2 v3 v4 v5 v6 v7) b e [u0,v1,v2,v3,v4,v5,v6,v7]:=by
 have:=((((((h.set 1 v1).set 2 v2).set 3 v3).set 4 v4).set 5 v5).set 6 v6).set 7 v7
 unfold set7
 simpa using this
theorem store_below7 {B:Nat} {a w:World} (h:Below B a w) (b:Nat) (hb:B≤b) (v1 v2 v3 v4 v5 v6 v7:Value):Below B a (set7 w b v1 v2 v3 v4 v5 v6 v7):=by
 unfold set7;exact ((((((h.setCell hb _).setCell hb _).setCell hb _).setCell hb _).setCell hb _).setCell hb _).setCell hb _
theorem OwnP.store7 {w:World} {B:Nat} {v:Value} {ps:List Par} (h:OwnP w B v ps) {b:Nat} (hb:b < B) (v1 v2 v3 v4 v5 v6 v7:Value):OwnP (set7 w b v1 v2 v3 v4 v5 v6 v7) B v ps:=by
 unfold set7;exact ownsRow_setCell_below (ownsRow_setCell_below (ownsRow_setCell_below (ownsRow_setCell_below (ownsRow_setCell_below (ownsRow_setCell_below (ownsRow_setCell_below h hb _) hb _) hb _) hb _) hb _) hb _) hb _
theorem tail_of2 (d u r:List UInt8) {p0:List UInt8} {ps:List (List UInt8)} (h:partsV 59 r=p0 :: ps):tailV d u r=if (parseV u).2 ≠ 0 then (noA,(parseV u).2) else if trimL p0 ≠ [] then (noA,50) else if (fieldsV ps).2 ≠ 0 then (noA,(fieldsV ps).2) else (⟨d,(parseV u).1,(fieldsV ps).1⟩,0):=by
 have e1:(partsV 59 r).headD []=p0:=by rw [h]; rfl
 have e2:(partsV 59 r).tail=ps:=by rw [h]; rfl
 unfold tailV;rw [e1,e2]
theorem ropen_list (l:List UInt8) (w:World) (h:l.length≤1048576) :
  Calls Tryz.prog 95 #[.string ⟨l.toArray⟩] w fun e w'=>e=.returned (.int .i64 (openI l))∧w'=w:=ropen_any ⟨l.toArray⟩ w (by rw [size_list]; omega)
set_option maxHeartbeats 4000000 in
set_option maxRecDepth 100000 in
theorem rparseA_any (s:List UInt8) (w:World) (hs:s.length≤1048576) :
  Calls Tryz.prog 43 #[.string ⟨s.toArray⟩] w fun e w'=>ParseRes (parseA s) w w' e∧Below w.heap.size w w':=by
 have hts:=trimL_len s;have KT:=hid (fun w'=>reftrim_list s w' (by omega));have KO:=hid (fun w'=>ropen_list (trimL s) w' (by omega));have hv:parseA s=parseT (trimL s):=rfl;generalize parseA s=R at hv ⊢;generalize trimL s=t at KT KO hv hts;unfold parseT at hv;have hp0:=p3_new w;have htl:t.length≤1048576:=by omega
 clear hts
 cases ho:openV false t with
 | some k =>
  have hkl:=(openV_lt t.length t false k (Nat.le_refl _) ho).1;rw [openI_some ho] at KO;rw [ho] at hv;simp only at hv;have KD:=hid (fun w'=>rdisplay_any (t.take k) w' (by rw [List.length_take]; omega));have KH:=hid (fun w'=>has3_l (t.drop k) 62 w' (by rw [List.length_drop]; omega));have hcl:=cutL_len 62 (t.drop (k+1));obtain ⟨u,r,cc,hcut⟩:∃ u r cc,cutL 62 (t.drop (k+1))=(u,r,cc):=⟨_,_,_,rfl⟩
  have KC:=hid (fun w'=>cut3_of hcut w' (by rw [List.length_drop]; omega));rw [hcut] at hv hcl;simp only at hv hcl;have hul:u.length≤1048576:=by rw [List.length_drop] at hcl; omega
  have hrl:r.length≤1048576:=by rw [List.length_drop] at hcl; omega
  clear hcut hcl;rw [← ext_take] at KD;rw [← ext_drop] at KH KC;have z:=size_list t;have hk1:(k:Int)≤((⟨t.toArray⟩:ByteArray).size:Int):=by rw [z]; omega
  have hk2:(k:Int)+1≤((⟨t.toArray⟩:ByteArray).size:Int):=by rw [z]; omega
  have hw1:IntKind.i64.wrap ((k:Int)+1)=((k+1:Nat):Int):=by rw [IntKind.wrap_i64]; omega
  generalize t.take k=ta at KD hv;generalize t.drop k=tb at KH hv;clear z;have HV:=hid hv;clear hv ho
  go_enter Tryz.func43,Tryz.ntmps43
  go_wp2_with fail
  refine (KT.out _).mono ?_
  rintro e w1 ⟨rfl,rfl⟩;clear KT;go_wp2_with fail
  refine (KO.out _).mono ?_
  rintro e w2 ⟨rfl,rfl⟩;clear KO;generalize World.alloc _ _=W0 at hp0 ⊢;go_wp2_with fail
  refine (KD.out _).mono ?_
  rintro e w3 ⟨⟨nm,ok,rfl,hres⟩,hw3⟩;have hp1:=hp0.below hw3;clear hw3 hp0 KD;generalize displayV ta=D at hres HV
  cases D with
  | none =>
   have hok:ok=false:=hres;subst hok;have HR:Hid (R=(noA,50)):=HV.out;clear HV hres;obtain ⟨y0,y1,y2,y3,y4,y5,y6,y7,f0,f1,f2,f3,f4,f5,f6,f7⟩:=hp1.r.eight;obtain ⟨z0,z1,z2,z3,z4,z5,z6,z7,_,_,_,_,_,_,_,_⟩:=hp1.n.eight;have H7:=hid (And.intro (row_store8 hp1.r (.string ⟨#[]⟩) (.string ⟨#[]⟩) (.string ⟨#[]⟩) (.string ⟨#[]⟩) (.int .i64 0) (.slice none 0 0) (.slice none 0 0) (.slice none 0 0)) (store_below8 hp1.b w.heap.size (Nat.le_refl _) (.string ⟨#[]⟩) (.string ⟨#[]⟩) (.string ⟨#[]⟩) (.string ⟨#[]⟩) (.int .i64 0) (.slice none 0 0) (.slice none 0 0) (.slice none 0 0)));go_wp2;unfold set8 at H7;generalize World.setCell _ _ _=w7 at H7 ⊢;obtain ⟨hr7,hb7⟩:=H7.out;obtain ⟨d0,d1,d2,d3,d4,d5,d6,d7,_,_,_,_,_,_,_,_⟩:=hr7.eight
   try simp only [Exit.inBlock,Exit.then]
   refine bodyPost_ret (v:=.tuple #[.agg #[.string ⟨#[]⟩,.string ⟨#[]⟩,.string ⟨#[]⟩,.string ⟨#[]⟩,.int .i64 0,.slice none 0 0,.slice none 0 0,.slice none 0 0],.int .i64 50]) (by simp [results,Tryz.results43,go_sem,d0,d1,d2,d3,d4,d5,d6,d7]; try rfl) rfl ?_
   exact ⟨res_none HR.out,hb7⟩
  | some d =>
   obtain ⟨rfl,rfl⟩:nm=d∧ok=true:=hres;simp only at HV;by_cases h64:nm.length≤64
   case neg =>
    have h64':(64:Int) < (nm.length:Int):=by omega
    have HR:Hid (R=(noA,50)):=show _=_ by rw [HV.out,if_pos (Or.inl (by omega))]
    clear HV;obtain ⟨y0,y1,y2,y3,y4,y5,y6,y7,f0,f1,f2,f3,f4,f5,f6,f7⟩:=hp1.r.eight;obtain ⟨z0,z1,z2,z3,z4,z5,z6,z7,_,_,_,_,_,_,_,_⟩:=hp1.n.eight;have H7:=hid (And.intro (row_store8 hp1.r (.string ⟨#[]⟩) (.string ⟨#[]⟩) (.string ⟨#[]⟩) (.string ⟨#[]⟩) (.int .i64 0) (.slice none 0 0) (.slice none 0 0) (.slice none 0 0)) (store_below8 hp1.b w.heap.size (Nat.le_refl _) (.string ⟨#[]⟩) (.string ⟨#[]⟩) (.string ⟨#[]⟩) (.string ⟨#[]⟩) (.int .i64 0) (.slice none 0 0) (.slice none 0 0) (.slice none 0 0)));go_wp2;unfold set8 at H7;generalize World.setCell _ _ _=w7 at H7 ⊢;obtain ⟨hr7,hb7⟩:=H7.out;obtain ⟨d0,d1,d2,d3,d4,d5,d6,d7,_,_,_,_,_,_,_,_⟩:=hr7.eight
    try simp only [Exit.inBlock,Exit.then]
    refine bodyPost_ret (v:=.tuple #[.agg #[.string ⟨#[]⟩,.string ⟨#[]⟩,.string ⟨#[]⟩,.string ⟨#[]⟩,.int .i64 0,.slice none 0 0,.slice none 0 0,.slice none 0 0],.int .i64 50]) (by simp [results,Tryz.results43,go_sem,d0,d1,d2,d3,d4,d5,d6,d7]; try rfl) rfl ?_
    exact ⟨res_none HR.out,hb7⟩
   have h64':¬ ((64:Int) < (nm.length:Int)):=by omega
   cases hh:hasL 62 tb with
   | false =>
    rw [hh] at KH;have HR:Hid (R=(noA,50)):=show _=_ by rw [HV.out,if_pos (Or.inr hh)]
    clear HV hh;go_wp2_with fail
    refine (KH.out _).mono ?_
    rintro e w4 ⟨rfl,rfl⟩;obtain ⟨y0,y1,y2,y3,y4,y5,y6,y7,f0,f1,f2,f3,f4,f5,f6,f7⟩:=hp1.r.eight;obtain ⟨z0,z1,z2,z3,z4,z5,z6,z7,_,_,_,_,_,_,_,_⟩:=hp1.n.eight;have H7:=hid (And.intro (row_store8 hp1.r (.string ⟨#[]⟩) (.string ⟨#[]⟩) (.string ⟨#[]⟩) (.string ⟨#[]⟩) (.int .i64 0) (.slice none 0 0) (.slice none 0 0) (.slice none 0 0)) (store_below8 hp1.b w.heap.size (Nat.le_refl _) (.string ⟨#[]⟩) (.string ⟨#[]⟩) (.string ⟨#[]⟩) (.string ⟨#[]⟩) (.int .i64 0) (.slice none 0 0) (.slice none 0 0) (.slice none 0 0)));go_wp2;unfold set8 at H7;generalize World.setCell _ _ _=w7 at H7 ⊢;obtain ⟨hr7,hb7⟩:=H7.out;obtain ⟨d0,d1,d2,d3,d4,d5,d6,d7,_,_,_,_,_,_,_,_⟩:=hr7.eight
    try simp only [Exit.inBlock,Exit.then]
    refine bodyPost_ret (v:=.tuple #[.agg #[.string ⟨#[]⟩,.string ⟨#[]⟩,.string ⟨#[]⟩,.string ⟨#[]⟩,.int .i64 0,.slice none 0 0,.slice none 0 0,.slice none 0 0],.int .i64 50]) (by simp [results,Tryz.results43,go_sem,d0,d1,d2,d3,d4,d5,d6,d7]; try rfl) rfl ?_
    exact ⟨res_none HR.out,hb7⟩
   | true =>
    rw [hh] at KH;have HV2:Hid (R=tailV nm u r):=show _=_ by rw [HV.out,if_neg (by rw [hh]; simp; omega)]
    clear HV hh;go_wp2_with fail
    refine (KH.out _).mono ?_
    rintro e w4 ⟨rfl,rfl⟩;clear KH;obtain ⟨z0,z1,z2,z3,z4,z5,z6,z7,g0,g1,g2,g3,g4,g5,g6,g7⟩:=hp1.a.eight;have hp2:=P3.disp (d:=nm) hp1;go_wp2_with fail
    clear z0 z1 z2 z3 z4 z5 z6 z7 g0 g1 g2 g3 g4 g5 g6 g7 hp1;generalize World.setCell _ _ _=W1 at hp2 ⊢;refine (KC.out _).mono ?_
    rintro e w5 ⟨rfl,hw5⟩;have hp:=hp2.below hw5;clear hp2 hw5 KC hk1 hk2 hw1;have HV:=hid HV2.out;clear HV2;generalize nm=d at HV hp h64;obtain ⟨p0',ps0,hpt⟩:=partsG_cons 59 r pl0 [];have hpt2:partsV 59 r=p0' :: ps0:=hpt;have hmem:=parts_mem_len 59 r;rw [hpt2] at hmem;have KU:=hid (fun w'=>refparse_any u w' hul);have KP:=hid (fun w'=>refparts_of hpt2 w' (by omega));have KA:=hid (fun w'=>reftrim_list p0' w' (by have:=hmem p0' (by simp); omega));have HML:Hid (∀ l ∈ ps0,l.length≤1048576):=fun l hl=>by have:=hmem l (by simp [hl]); omega
    have HT:=hid (tail_of2 d u r hpt2);clear hpt hpt2 hmem;generalize parseV u=pu at KU HT;obtain ⟨⟨us,uu,uh,up,upp,uhh⟩,un⟩:=pu;unfold uriV at KU;simp only at KU HT;generalize trimL p0'=tp at KA HT;go_wp2_with fail
    refine (KU.out _).mono ?_
    rintro e w3 ⟨pv,hv,rfl,ho1,ho2,hw3⟩;obtain ⟨a1,k1,hpe⟩:=ho1.parsAt.form;obtain ⟨a2,k2,hhe⟩:=ho2.parsAt.form;subst hpe hhe;have hp3:=hp.below hw3;have HO1:=hid (OwnP.mono ho1 (show w.heap.size+3≤_ by have:=hp.lt; omega));have HO2:=hid (OwnP.mono ho2 (show w.heap.size+3≤_ by have:=hp.lt; omega));clear ho1 ho2 hw3 KU hp;have hA:=(Below.refl _ w3).alloc (Nat.le_refl _) (.cells #[.string ⟨us.toArray⟩,.string ⟨uu.toArray⟩,.string ⟨uh.toArray⟩,.int .i64 up,.slice a1 upp.length k1,.slice a2 uhh.length k2] 29);have hltA:=alloc_lt w3 (.cells #[.string ⟨us.toArray⟩,.string ⟨uu.toArray⟩,.string ⟨uh.toArray⟩,.int .i64 up,.slice a1 upp.length k1,.slice a2 uhh.length k2] 29);have hu4:=hid (box_new w3 ⟨us,uu,uh,up,upp,uhh⟩ (.slice a1 upp.length k1) (.slice a2 uhh.length k2));simp only at hu4;have hp4:=hp3.below hA;have HO1a:=hid (HO1.out.below hA);have HO2a:=hid (HO2.out.below hA);clear hp3 HO1 HO2 hA;by_cases hun:un=0
    ·subst hun;go_wp2_with fail
     refine (KP.out _).mono ?_
     rintro e w5 ⟨g,cap,rfl,hcap,hgl,hcells,hw5⟩;have hg0:=hcells 0 (by simp);simp only [List.getElem_cons_zero] at hg0;have hp5:=hp4.below hw5;have HU5:=hid (BoxU.below hu4.out hw5 hltA);have HO1b:=hid (HO1a.out.below hw5);have HO2b:=hid (HO2a.out.below hw5);have hlt5u:w3.heap.size < w5.heap.size:=Nat.lt_of_lt_of_le hltA hw5.size;have HC:=hid hcells;clear hcells hp4 hu4 HO1a HO2a hw5 KP hltA;go_wp2_with fail
     refine (KA.out _).mono ?_
     rintro e w6 ⟨rfl,rfl⟩;clear KA
     cases hie:tp.isEmpty with
     | false =>
      have hne:tp ≠ []:=by intro h; rw [h] at hie; cases hie
      have HR:Hid (R=(noA,50)):=show _=_ by rw [HV.out,HT.out,if_neg (by simp),if_pos hne]
      clear HV HT HC HU5 HO1b HO2b hg0 hne;obtain ⟨y0,y1,y2,y3,y4,y5,y6,y7,f0,f1,f2,f3,f4,f5,f6,f7⟩:=hp5.r.eight;obtain ⟨z0,z1,z2,z3,z4,z5,z6,z7,_,_,_,_,_,_,_,_⟩:=hp5.n.eight;have H7:=hid (And.intro (row_store8 hp5.r (.string ⟨#[]⟩) (.string ⟨#[]⟩) (.string ⟨#[]⟩) (.string ⟨#[]⟩) (.int .i64 0) (.slice none 0 0) (.slice none 0 0) (.slice none 0 0)) (store_below8 hp5.b w.heap.size (Nat.le_refl _) (.string ⟨#[]⟩) (.string ⟨#[]⟩) (.string ⟨#[]⟩) (.string ⟨#[]⟩) (.int .i64 0) (.slice none 0 0) (.slice none 0 0) (.slice none 0 0)));go_wp2;unfold set8 at H7;generalize World.setCell _ _ _=w7 at H7 ⊢;obtain ⟨hr7,hb7⟩:=H7.out;obtain ⟨d0,d1,d2,d3,d4,d5,d6,d7,_,_,_,_,_,_,_,_⟩:=hr7.eight
      try simp only [Exit.inBlock,Exit.then]
      refine bodyPost_ret (v:=.tuple #[.agg #[.string ⟨#[]⟩,.string ⟨#[]⟩,.string ⟨#[]⟩,.string ⟨#[]⟩,.int .i64 0,.slice none 0 0,.slice none 0 0,.slice none 0 0],.int .i64 50]) (by simp [results,Tryz.results43,go_sem,d0,d1,d2,d3,d4,d5,d6,d7]; try rfl) rfl ?_
      exact ⟨res_none HR.out,hb7⟩
     | true =>
      have hte:tp=[]:=by simpa using hie
      have HT2:Hid (tailV d u r=if (fieldsV ps0).2 ≠ 0 then (noA,(fieldsV ps0).2) else (⟨d,⟨us,uu,uh,up,upp,uhh⟩,(fieldsV ps0).1⟩,0)):=show _=_ by rw [HT.out,if_neg (by simp),if_neg (by simp [hte])]
      have HSA:Hid (StrsAt w6 (.slice (some ⟨g,1,none⟩) ps0.length (cap - 1)) ps0):=strs_tail HC.out hgl (Below.refl _ _);have HSB:Hid (ps0=[] → StrsAt w6 (.slice (some ⟨g,0,none⟩) ps0.length 0) ps0):=fun h=>by subst h; exact strs_none _ _ _
      clear HT HC hg0 hgl hte;go_wp2_with fail
      all_goals (
       refine (reffields_any _ ps0 w6 HML.out ?hstr).mono ?_
       case hstr=>first | with_reducible exact HSA.out | exact HSB.out (List.eq_nil_of_length_eq_zero (by omega))
       rintro e w7 ⟨fv,fn,rfl,⟨hfn,hfo⟩,hw7⟩;generalize fieldsV ps0=fr at HT2 hfn hfo;obtain ⟨fp,fm⟩:=fr;simp only at HT2 hfn hfo;subst hfn;obtain ⟨a3,k3,hfe⟩:=hfo.parsAt.form;subst hfe;have hp8:=hp5.below hw7;have HU8:=hid (BoxU.below HU5.out hw7 hlt5u);have HO1c:=hid (HO1b.out.below hw7);have HO2c:=hid (HO2b.out.below hw7);have HO3c:=hid (OwnP.mono hfo (show w.heap.size+3≤_ by have:=hp5.lt; omega));clear hfo hw7 hp5 HU5 HO1b HO2b;by_cases hfz:fn=0
       ·subst hfz;have HR:Hid (R=(⟨d,⟨us,uu,uh,up,upp,uhh⟩,fp⟩,0)):=show _=_ by rw [HV.out,HT2.out,if_neg (by simp)]
        clear HV HT2;obtain ⟨x0,x1,x2,x3,x4,x5⟩:=HU8.out;simp only at x0 x1 x2 x3 x4 x5;obtain ⟨y0,y1,y2,y3,y4,y5,y6,y7,f0,f1,f2,f3,f4,f5,f6,f7⟩:=hp8.r.eight;obtain ⟨z0,z1,z2,z3,z4,z5,z6,z7,g0,g1,g2,g3,g4,g5,g6,g7⟩:=hp8.a.eight;have hlt8:=hp8.lt;have A1:=row_store7 hp8.a (.string ⟨us.toArray⟩) (.string ⟨uu.toArray⟩) (.string ⟨uh.toArray⟩) (.int .i64 up) (.slice a1 upp.length k1) (.slice a2 uhh.length k2) (.slice a3 fp.length k3);have A2:RowIs (set7 w7 (w.heap.size+1+1) (.string ⟨us.toArray⟩) (.string ⟨uu.toArray⟩) (.string ⟨uh.toArray⟩) (.int .i64 up) (.slice a1 upp.length k1) (.slice a2 uhh.length k2) (.slice a3 fp.length k3)) w.heap.size 31 [.string ⟨#[]⟩,.string ⟨#[]⟩,.string ⟨#[]⟩,.string ⟨#[]⟩,.int .i64 0,.slice none 0 0,.slice none 0 0,.slice none 0 0]:=hp8.r.below (store_below7 (Below.refl _ w7) (w.heap.size+1+1) (Nat.le_refl _) (.string ⟨us.toArray⟩) (.string ⟨uu.toArray⟩) (.string ⟨uh.toArray⟩) (.int .i64 up) (.slice a1 upp.length k1) (.slice a2 uhh.length k2) (.slice a3 fp.length k3)) (by omega);have A3:=store_below7 hp8.b (w.heap.size+1+1) (by omega) (.string ⟨us.toArray⟩) (.string ⟨uu.toArray⟩) (.string ⟨uh.toArray⟩) (.int .i64 up) (.slice a1 upp.length k1) (.slice a2 uhh.length k2) (.slice a3 fp.length k3);have q1:=(OwnP.store8 (OwnP.store7 HO1c.out (show w.heap.size+1+1 < _ by omega) (.string ⟨us.toArray⟩) (.string ⟨uu.toArray⟩) (.string ⟨uh.toArray⟩) (.int .i64 up) (.slice a1 upp.length k1) (.slice a2 uhh.length k2) (.slice a3 fp.length k3)) (show w.heap.size < _ by omega) (.string ⟨d.toArray⟩) (.string ⟨us.toArray⟩) (.string ⟨uu.toArray⟩) (.string ⟨uh.toArray⟩) (.int .i64 up) (.slice a1 upp.length k1) (.slice a2 uhh.length k2) (.slice a3 fp.length k3)).mono (show w.heap.size≤_ by omega);have q2:=(OwnP.store8 (OwnP.store7 HO2c.out (show w.heap.size+1+1 < _ by omega) (.string ⟨us.toArray⟩) (.string ⟨uu.toArray⟩) (.string ⟨uh.toArray⟩) (.int .i64 up) (.slice a1 upp.length k1) (.slice a2 uhh.length k2) (.slice a3 fp.length k3)) (show w.heap.size < _ by omega) (.string ⟨d.toArray⟩) (.string ⟨us.toArray⟩) (.string ⟨uu.toArray⟩) (.string ⟨uh.toArray⟩) (.int .i64 up) (.slice a1 upp.length k1) (.slice a2 uhh.length k2) (.slice a3 fp.length k3)).mono (show w.heap.size≤_ by omega);have q3:=(OwnP.store8 (OwnP.store7 HO3c.out (show w.heap.size+1+1 < _ by omega) (.string ⟨us.toArray⟩) (.string ⟨uu.toArray⟩) (.string ⟨uh.toArray⟩) (.int .i64 up) (.slice a1 upp.length k1) (.slice a2 uhh.length k2) (.slice a3 fp.length k3)) (show w.heap.size < _ by omega) (.string ⟨d.toArray⟩) (.string ⟨us.toArray⟩) (.string ⟨uu.toArray⟩) (.string ⟨uh.toArray⟩) (.int .i64 up) (.slice a1 upp.length k1) (.slice a2 uhh.length k2) (.slice a3 fp.length k3)).mono (show w.heap.size≤_ by omega);have H9:=hid (And.intro (row_store8 A2 (.string ⟨d.toArray⟩) (.string ⟨us.toArray⟩) (.string ⟨uu.toArray⟩) (.string ⟨uh.toArray⟩) (.int .i64 up) (.slice a1 upp.length k1) (.slice a2 uhh.length k2) (.slice a3 fp.length k3)) (And.intro (store_below8 A3 w.heap.size (Nat.le_refl _) (.string ⟨d.toArray⟩) (.string ⟨us.toArray⟩) (.string ⟨uu.toArray⟩) (.string ⟨uh.toArray⟩) (.int .i64 up) (.slice a1 upp.length k1) (.slice a2 uhh.length k2) (.slice a3 fp.length k3)) (And.intro q1 (And.intro q2 q3))));clear A1 A2 A3 q1 q2 q3;go_wp2;unfold set8 set7 at H9;generalize World.setCell _ _ _=w9 at H9 ⊢;obtain ⟨hr9,hb9,q1,q2,q3⟩:=H9.out;obtain ⟨d0,d1,d2,d3,d4,d5,d6,d7,_,_,_,_,_,_,_,_⟩:=hr9.eight
        try simp only [Exit.inBlock,Exit.then]
        refine bodyPost_ret (v:=.tuple #[.agg #[.string ⟨d.toArray⟩,.string ⟨us.toArray⟩,.string ⟨uu.toArray⟩,.string ⟨uh.toArray⟩,.int .i64 up,.slice a1 upp.length k1,.slice a2 uhh.length k2,.slice a3 fp.length k3],.int .i64 0]) (by simp [results,Tryz.results43,go_sem,d0,d1,d2,d3,d4,d5,d6,d7]; try rfl) rfl ?_
        refine ⟨?_,hb9⟩
        rw [HR.out];exact ⟨_,_,_,rfl,q1,q2,q3⟩
       ·have HR:Hid (R=(noA,fn)):=show _=_ by rw [HV.out,HT2.out,if_pos hfz]
        have hne:(fn != 0)=true:=by simpa using hfz
        clear HV HT2 HU8 HO1c HO2c HO3c;obtain ⟨y0,y1,y2,y3,y4,y5,y6,y7,f0,f1,f2,f3,f4,f5,f6,f7⟩:=hp8.r.eight;obtain ⟨z0,z1,z2,z3,z4,z5,z6,z7,_,_,_,_,_,_,_,_⟩:=hp8.n.eight;have H7:=hid (And.intro (row_store8 hp8.r (.string ⟨#[]⟩) (.string ⟨#[]⟩) (.string ⟨#[]⟩) (.string ⟨#[]⟩) (.int .i64 0) (.slice none 0 0) (.slice none 0 0) (.slice none 0 0)) (store_below8 hp8.b w.heap.size (Nat.le_refl _) (.string ⟨#[]⟩) (.string ⟨#[]⟩) (.string ⟨#[]⟩) (.string ⟨#[]⟩) (.int .i64 0) (.slice none 0 0) (.slice none 0 0) (.slice none 0 0)));go_wp2;unfold set8 at H7;generalize World.setCell _ _ _=w7 at H7 ⊢;obtain ⟨hr7,hb7⟩:=H7.out;obtain ⟨d0,d1,d2,d3,d4,d5,d6,d7,_,_,_,_,_,_,_,_⟩:=hr7.eight
        try simp only [Exit.inBlock,Exit.then]
        refine bodyPost_ret (v:=.tuple #[.agg #[.string ⟨#[]⟩,.string ⟨#[]⟩,.string ⟨#[]⟩,.string ⟨#[]⟩,.int .i64 0,.slice none 0 0,.slice none 0 0,.slice none 0 0],.int .i64 fn]) (by simp [results,Tryz.results43,go_sem,d0,d1,d2,d3,d4,d5,d6,d7]; try rfl) rfl ?_
        exact ⟨res_none HR.out,hb7⟩)
    ·have HR:Hid (R=(noA,un)):=show _=_ by rw [HV.out,HT.out,if_pos hun]
     have hne:(un != 0)=true:=by simpa using hun
     clear HV HT HO1a HO2a;obtain ⟨y0,y1,y2,y3,y4,y5,y6,y7,f0,f1,f2,f3,f4,f5,f6,f7⟩:=hp4.r.eight;obtain ⟨z0,z1,z2,z3,z4,z5,z6,z7,_,_,_,_,_,_,_,_⟩:=hp4.n.eight;have H7:=hid (And.intro (row_store8 hp4.r (.string ⟨#[]⟩) (.string ⟨#[]⟩) (.string ⟨#[]⟩) (.string ⟨#[]⟩) (.int .i64 0) (.slice none 0 0) (.slice none 0 0) (.slice none 0 0)) (store_below8 hp4.b w.heap.size (Nat.le_refl _) (.string ⟨#[]⟩) (.string ⟨#[]⟩) (.string ⟨#[]⟩) (.string ⟨#[]⟩) (.int .i64 0) (.slice none 0 0) (.slice none 0 0) (.slice none 0 0)));go_wp2;unfold set8 at H7;generalize World.setCell _ _ _=w7 at H7 ⊢;obtain ⟨hr7,hb7⟩:=H7.out;obtain ⟨d0,d1,d2,d3,d4,d5,d6,d7,_,_,_,_,_,_,_,_⟩:=hr7.eight
     try simp only [Exit.inBlock,Exit.then]
     refine bodyPost_ret (v:=.tuple #[.agg #[.string ⟨#[]⟩,.string ⟨#[]⟩,.string ⟨#[]⟩,.string ⟨#[]⟩,.int .i64 0,.slice none 0 0,.slice none 0 0,.slice none 0 0],.int .i64 un]) (by simp [results,Tryz.results43,go_sem,d0,d1,d2,d3,d4,d5,d6,d7]; try rfl) rfl ?_
     exact ⟨res_none HR.out,hb7⟩
 | none =>
  rw [openI_none ho] at KO;rw [ho] at hv;simp only at hv;have KH:=hid (fun w'=>has3_l t 59 w' (by omega));have hcl:=cutL_len 59 t;have hch:=cutL_has 59 t;obtain ⟨ca,cb,cc,hcut⟩:∃ u r cc,cutL 59 t=(u,r,cc):=⟨_,_,_,rfl⟩
  have KC:=hid (fun w'=>cut3_of hcut w' (by omega));have hdec:cc=true → cb.length+1≤t.length:=fun h=>by have:=@cutL_dec 59 t (by rw [hcut]; exact h); rw [hcut] at this; simp only at this; omega
  unfold plainV at hv;rw [hcut] at hv hcl hch;simp only at hv hcl hch;have HV0:=hid hv;clear hcut hv ho
  go_enter Tryz.func43,Tryz.ntmps43
  go_wp2_with fail
  refine (KT.out _).mono ?_
  rintro e w1 ⟨rfl,rfl⟩;clear KT;go_wp2_with fail
  refine (KO.out _).mono ?_
  rintro e w2 ⟨rfl,rfl⟩;clear KO;generalize World.alloc _ _=W0 at hp0 ⊢;go_wp2_with fail
  refine (KH.out _).mono ?_
  rintro e w3 ⟨rfl,rfl⟩;clear KH
  cases hh:hasL 59 t with
  | true =>
   rw [hh] at HV0;have hcc:cc=true:=by rw [hch,hh]
   have hl2:=hdec hcc;go_wp2_with fail
   refine (KC.out _).mono ?_
   rintro e w5 ⟨rfl,hw5⟩;have hp:=hp0.below hw5;clear hp0 hw5 KC hh hdec hch hcc;obtain ⟨x,hx⟩:∃ x,x=ca:=⟨_,rfl⟩
   obtain ⟨r,hr⟩:∃ r,r=59 :: cb:=⟨_,rfl⟩
   have hrl:r.length≤1048576:=by rw [hr]; simp; omega
   have hxl:x.length≤1048576:=by rw [hx]; omega
   have HV1:Hid (R=if hasL 63 (trimL x)=true∨hasL 44 (trimL x)=true∨hasL 34 (trimL x)=true then (noA,50) else tailV [] (trimL x) r):=show _=_ by rw [HV0.out,hx,hr]; rfl
   have hse:(⟨#[59]⟩:ByteArray)++⟨cb.toArray⟩=⟨r.toArray⟩:=by rw [hr]; exact semi_app cb
   rw [← hx];have hcbl:cb.length≤1048576:=by omega
   clear hx hr HV0 hcl hl2;have hxt:=trimL_len x;have KX:=hid (fun w'=>reftrim_list x w' (by omega));have K63:=hid (fun w'=>has3_l (trimL x) 63 w' (by omega));have K44:=hid (fun w'=>has3_l (trimL x) 44 w' (by omega));have K34:=hid (fun w'=>has3_l (trimL x) 34 w' (by omega));generalize trimL x=u at KX K63 K44 K34 HV1 hxt;have hul:u.length≤1048576:=by omega
   go_wp2_with fail
   refine (KX.out _).mono ?_
   rintro e w6 ⟨rfl,rfl⟩;clear KX hxt;go_wp2_with fail
   refine (K63.out _).mono ?_
   rintro e w7 ⟨rfl,rfl⟩;clear K63
   cases h63:hasL 63 u with
   | true =>
    have HR:Hid (R=(noA,50)):=show _=_ by rw [HV1.out,if_pos (Or.inl h63)]
    clear HV1 h63 K44 K34;obtain ⟨y0,y1,y2,y3,y4,y5,y6,y7,f0,f1,f2,f3,f4,f5,f6,f7⟩:=hp.r.eight;obtain ⟨z0,z1,z2,z3,z4,z5,z6,z7,_,_,_,_,_,_,_,_⟩:=hp.n.eight;have H7:=hid (And.intro (row_store8 hp.r (.string ⟨#[]⟩) (.string ⟨#[]⟩) (.string ⟨#[]⟩) (.string ⟨#[]⟩) (.int .i64 0) (.slice none 0 0) (.slice none 0 0) (.slice none 0 0)) (store_below8 hp.b w.heap.size (Nat.le_refl _) (.string ⟨#[]⟩) (.string ⟨#[]⟩) (.string ⟨#[]⟩) (.string ⟨#[]⟩) (.int .i64 0) (.slice none 0 0) (.slice none 0 0) (.slice none 0 0)));go_wp2;unfold set8 at H7;generalize World.setCell _ _ _=w7 at H7 ⊢;obtain ⟨hr7,hb7⟩:=H7.out;obtain ⟨d0,d1,d2,d3,d4,d5,d6,d7,_,_,_,_,_,_,_,_⟩:=hr7.eight
    try simp only [Exit.inBlock,Exit.then]
    refine bodyPost_ret (v:=.tuple #[.agg #[.string ⟨#[]⟩,.string ⟨#[]⟩,.string ⟨#[]⟩,.string ⟨#[]⟩,.int .i64 0,.slice none 0 0,.slice none 0 0,.slice none 0 0],.int .i64 50]) (by simp [results,Tryz.results43,go_sem,d0,d1,d2,d3,d4,d5,d6,d7]; try rfl) rfl ?_
    exact ⟨res_none HR.out,hb7⟩
   | false =>
    go_wp2_with fail
    refine (K44.out _).mono ?_
    rintro e w8 ⟨rfl,rfl⟩;clear K44
    cases h44:hasL 44 u with
    | true =>
     have HR:Hid (R=(noA,50)):=show _=_ by rw [HV1.out,if_pos (Or.inr (Or.inl h44))]
     clear HV1 h63 h44 K34;obtain ⟨y0,y1,y2,y3,y4,y5,y6,y7,f0,f1,f2,f3,f4,f5,f6,f7⟩:=hp.r.eight;obtain ⟨z0,z1,z2,z3,z4,z5,z6,z7,_,_,_,_,_,_,_,_⟩:=hp.n.eight;have H7:=hid (And.intro (row_store8 hp.r (.string ⟨#[]⟩) (.string ⟨#[]⟩) (.string ⟨#[]⟩) (.string ⟨#[]⟩) (.int .i64 0) (.slice none 0 0) (.slice none 0 0) (.slice none 0 0)) (store_below8 hp.b w.heap.size (Nat.le_refl _) (.string ⟨#[]⟩) (.string ⟨#[]⟩) (.string ⟨#[]⟩) (.string ⟨#[]⟩) (.int .i64 0) (.slice none 0 0) (.slice none 0 0) (.slice none 0 0)));go_wp2;unfold set8 at H7;generalize World.setCell _ _ _=w7 at H7 ⊢;obtain ⟨hr7,hb7⟩:=H7.out;obtain ⟨d0,d1,d2,d3,d4,d5,d6,d7,_,_,_,_,_,_,_,_⟩:=hr7.eight
     try simp only [Exit.inBlock,Exit.then]
     refine bodyPost_ret (v:=.tuple #[.agg #[.string ⟨#[]⟩,.string ⟨#[]⟩,.string ⟨#[]⟩,.string ⟨#[]⟩,.int .i64 0,.slice none 0 0,.slice none 0 0,.slice none 0 0],.int .i64 50]) (by simp [results,Tryz.results43,go_sem,d0,d1,d2,d3,d4,d5,d6,d7]; try rfl) rfl ?_
     exact ⟨res_none HR.out,hb7⟩
    | false =>
     go_wp2_with fail
     refine (K34.out _).mono ?_
     rintro e w9 ⟨rfl,rfl⟩;clear K34
     cases h34:hasL 34 u with
     | true =>
      have HR:Hid (R=(noA,50)):=show _=_ by rw [HV1.out,if_pos (Or.inr (Or.inr h34))]
      clear HV1 h63 h44 h34;obtain ⟨y0,y1,y2,y3,y4,y5,y6,y7,f0,f1,f2,f3,f4,f5,f6,f7⟩:=hp.r.eight;obtain ⟨z0,z1,z2,z3,z4,z5,z6,z7,_,_,_,_,_,_,_,_⟩:=hp.n.eight;have H7:=hid (And.intro (row_store8 hp.r (.string ⟨#[]⟩) (.string ⟨#[]⟩) (.string ⟨#[]⟩) (.string ⟨#[]⟩) (.int .i64 0) (.slice none 0 0) (.slice none 0 0) (.slice none 0 0)) (store_below8 hp.b w.heap.size (Nat.le_refl _) (.string ⟨#[]⟩) (.string ⟨#[]⟩) (.string ⟨#[]⟩) (.string ⟨#[]⟩) (.int .i64 0) (.slice none 0 0) (.slice none 0 0) (.slice none 0 0)));go_wp2;unfold set8 at H7;generalize World.setCell _ _ _=w7 at H7 ⊢;obtain ⟨hr7,hb7⟩:=H7.out;obtain ⟨d0,d1,d2,d3,d4,d5,d6,d7,_,_,_,_,_,_,_,_⟩:=hr7.eight
      try simp only [Exit.inBlock,Exit.then]
      refine bodyPost_ret (v:=.tuple #[.agg #[.string ⟨#[]⟩,.string ⟨#[]⟩,.string ⟨#[]⟩,.string ⟨#[]⟩,.int .i64 0,.slice none 0 0,.slice none 0 0,.slice none 0 0],.int .i64 50]) (by simp [results,Tryz.results43,go_sem,d0,d1,d2,d3,d4,d5,d6,d7]; try rfl) rfl ?_
      exact ⟨res_none HR.out,hb7⟩
     | false =>
      obtain ⟨d,hd⟩:∃ d:List UInt8,d=[]:=⟨_,rfl⟩
      have HV:Hid (R=tailV d u r):=show _=_ by rw [hd,HV1.out,if_neg (by rw [h63,h44,h34]; simp)]
      clear HV1 h63 h44 h34;rw [← hd] at hp;clear hd;obtain ⟨p0',ps0,hpt⟩:=partsG_cons 59 r pl0 [];have hpt2:partsV 59 r=p0' :: ps0:=hpt;have hmem:=parts_mem_len 59 r;rw [hpt2] at hmem;have KU:=hid (fun w'=>refparse_any u w' hul);have KP:=hid (fun w'=>refparts_of hpt2 w' (by omega));have KA:=hid (fun w'=>reftrim_list p0' w' (by have:=hmem p0' (by simp); omega));have HML:Hid (∀ l ∈ ps0,l.length≤1048576):=fun l hl=>by have:=hmem l (by simp [hl]); omega
      have HT:=hid (tail_of2 d u r hpt2);clear hpt hpt2 hmem;generalize parseV u=pu at KU HT;obtain ⟨⟨us,uu,uh,up,upp,uhh⟩,un⟩:=pu;unfold uriV at KU;simp only at KU HT;generalize trimL p0'=tp at KA HT;go_wp2_with fail
      refine (KU.out _).mono ?_
      rintro e w3 ⟨pv,hv,rfl,ho1,ho2,hw3⟩;obtain ⟨a1,k1,hpe⟩:=ho1.parsAt.form;obtain ⟨a2,k2,hhe⟩:=ho2.parsAt.form;subst hpe hhe;have hp3:=hp.below hw3;have HO1:=hid (OwnP.mono ho1 (show w.heap.size+3≤_ by have:=hp.lt; omega));have HO2:=hid (OwnP.mono ho2 (show w.heap.size+3≤_ by have:=hp.lt; omega));clear ho1 ho2 hw3 KU hp;have hA:=(Below.refl _ w3).alloc (Nat.le_refl _) (.cells #[.string ⟨us.toArray⟩,.string ⟨uu.toArray⟩,.string ⟨uh.toArray⟩,.int .i64 up,.slice a1 upp.length k1,.slice a2 uhh.length k2] 29);have hltA:=alloc_lt w3 (.cells #[.string ⟨us.toArray⟩,.string ⟨uu.toArray⟩,.string ⟨uh.toArray⟩,.int .i64 up,.slice a1 upp.length k1,.slice a2 uhh.length k2] 29);have hu4:=hid (box_new w3 ⟨us,uu,uh,up,upp,uhh⟩ (.slice a1 upp.length k1) (.slice a2 uhh.length k2));simp only at hu4;have hp4:=hp3.below hA;have HO1a:=hid (HO1.out.below hA);have HO2a:=hid (HO2.out.below hA);clear hp3 HO1 HO2 hA;by_cases hun:un=0
      ·subst hun;go_wp2_with fail
       refine (KP.out _).mono ?_
       rintro e w5 ⟨g,cap,rfl,hcap,hgl,hcells,hw5⟩;have hg0:=hcells 0 (by simp);simp only [List.getElem_cons_zero] at hg0;have hp5:=hp4.below hw5;have HU5:=hid (BoxU.below hu4.out hw5 hltA);have HO1b:=hid (HO1a.out.below hw5);have HO2b:=hid (HO2a.out.below hw5);have hlt5u:w3.heap.size < w5.heap.size:=Nat.lt_of_lt_of_le hltA hw5.size;have HC:=hid hcells;clear hcells hp4 hu4 HO1a HO2a hw5 KP hltA;go_wp2_with fail
       refine (KA.out _).mono ?_
       rintro e w6 ⟨rfl,rfl⟩;clear KA
       cases hie:tp.isEmpty with
       | false =>
        have hne:tp ≠ []:=by intro h; rw [h] at hie; cases hie
        have HR:Hid (R=(noA,50)):=show _=_ by rw [HV.out,HT.out,if_neg (by simp),if_pos hne]
        clear HV HT HC HU5 HO1b HO2b hg0 hne;obtain ⟨y0,y1,y2,y3,y4,y5,y6,y7,f0,f1,f2,f3,f4,f5,f6,f7⟩:=hp5.r.eight;obtain ⟨z0,z1,z2,z3,z4,z5,z6,z7,_,_,_,_,_,_,_,_⟩:=hp5.n.eight;have H7:=hid (And.intro (row_store8 hp5.r (.string ⟨#[]⟩) (.string ⟨#[]⟩) (.string ⟨#[]⟩) (.string ⟨#[]⟩) (.int .i64 0) (.slice none 0 0) (.slice none 0 0) (.slice none 0 0)) (store_below8 hp5.b w.heap.size (Nat.le_refl _) (.string ⟨#[]⟩) (.string ⟨#[]⟩) (.string ⟨#[]⟩) (.string ⟨#[]⟩) (.int .i64 0) (.slice none 0 0) (.slice none 0 0) (.slice none 0 0)));go_wp2;unfold set8 at H7;generalize World.setCell _ _ _=w7 at H7 ⊢;obtain ⟨hr7,hb7⟩:=H7.out;obtain ⟨d0,d1,d2,d3,d4,d5,d6,d7,_,_,_,_,_,_,_,_⟩:=hr7.eight
        try simp only [Exit.inBlock,Exit.then]
        refine bodyPost_ret (v:=.tuple #[.agg #[.string ⟨#[]⟩,.string ⟨#[]⟩,.string ⟨#[]⟩,.string ⟨#[]⟩,.int .i64 0,.slice none 0 0,.slice none 0 0,.slice none 0 0],.int .i64 50]) (by simp [results,Tryz.results43,go_sem,d0,d1,d2,d3,d4,d5,d6,d7]; try rfl) rfl ?_
        exact ⟨res_none HR.out,hb7⟩
       | true =>
        have hte:tp=[]:=by simpa using hie
        have HT2:Hid (tailV d u r=if (fieldsV ps0).2 ≠ 0 then (noA,(fieldsV ps0).2) else (⟨d,⟨us,uu,uh,up,upp,uhh⟩,(fieldsV ps0).1⟩,0)):=show _=_ by rw [HT.out,if_neg (by simp),if_neg (by simp [hte])]
        have HSA:Hid (StrsAt w6 (.slice (some ⟨g,1,none⟩) ps0.length (cap - 1)) ps0):=strs_tail HC.out hgl (Below.refl _ _);have HSB:Hid (ps0=[] → StrsAt w6 (.slice (some ⟨g,0,none⟩) ps0.length 0) ps0):=fun h=>by subst h; exact strs_none _ _ _
        clear HT HC hg0 hgl hte;go_wp2_with fail
        all_goals (
         refine (reffields_any _ ps0 w6 HML.out ?hstr).mono ?_
         case hstr=>first | with_reducible exact HSA.out | exact HSB.out (List.eq_nil_of_length_eq_zero (by omega))
         rintro e w7 ⟨fv,fn,rfl,⟨hfn,hfo⟩,hw7⟩;generalize fieldsV ps0=fr at HT2 hfn hfo;obtain ⟨fp,fm⟩:=fr;simp only at HT2 hfn hfo;subst hfn;obtain ⟨a3,k3,hfe⟩:=hfo.parsAt.form;subst hfe;have hp8:=hp5.below hw7;have HU8:=hid (BoxU.below HU5.out hw7 hlt5u);have HO1c:=hid (HO1b.out.below hw7);have HO2c:=hid (HO2b.out.below hw7);have HO3c:=hid (OwnP.mono hfo (show w.heap.size+3≤_ by have:=hp5.lt; omega));clear hfo hw7 hp5 HU5 HO1b HO2b;by_cases hfz:fn=0
         ·subst hfz;have HR:Hid (R=(⟨d,⟨us,uu,uh,up,upp,uhh⟩,fp⟩,0)):=show _=_ by rw [HV.out,HT2.out,if_neg (by simp)]
          clear HV HT2;obtain ⟨x0,x1,x2,x3,x4,x5⟩:=HU8.out;simp only at x0 x1 x2 x3 x4 x5;obtain ⟨y0,y1,y2,y3,y4,y5,y6,y7,f0,f1,f2,f3,f4,f5,f6,f7⟩:=hp8.r.eight;obtain ⟨z0,z1,z2,z3,z4,z5,z6,z7,g0,g1,g2,g3,g4,g5,g6,g7⟩:=hp8.a.eight;have hlt8:=hp8.lt;have A1:=row_store7 hp8.a (.string ⟨us.toArray⟩) (.string ⟨uu.toArray⟩) (.string ⟨uh.toArray⟩) (.int .i64 up) (.slice a1 upp.length k1) (.slice a2 uhh.length k2) (.slice a3 fp.length k3);have A2:RowIs (set7 w7 (w.heap.size+1+1) (.string ⟨us.toArray⟩) (.string ⟨uu.toArray⟩) (.string ⟨uh.toArray⟩) (.int .i64 up) (.slice a1 upp.length k1) (.slice a2 uhh.length k2) (.slice a3 fp.length k3)) w.heap.size 31 [.string ⟨#[]⟩,.string ⟨#[]⟩,.string ⟨#[]⟩,.string ⟨#[]⟩,.int .i64 0,.slice none 0 0,.slice none 0 0,.slice none 0 0]:=hp8.r.below (store_below7 (Below.refl _ w7) (w.heap.size+1+1) (Nat.le_refl _) (.string ⟨us.toArray⟩) (.string ⟨uu.toArray⟩) (.string ⟨uh.toArray⟩) (.int .i64 up) (.slice a1 upp.length k1) (.slice a2 uhh.length k2) (.slice a3 fp.length k3)) (by omega);have A3:=store_below7 hp8.b (w.heap.size+1+1) (by omega) (.string ⟨us.toArray⟩) (.string ⟨uu.toArray⟩) (.string ⟨uh.toArray⟩) (.int .i64 up) (.slice a1 upp.length k1) (.slice a2 uhh.length k2) (.slice a3 fp.length k3);have q1:=(OwnP.store8 (OwnP.store7 HO1c.out (show w.heap.size+1+1 < _ by omega) (.string ⟨us.toArray⟩) (.string ⟨uu.toArray⟩) (.string ⟨uh.toArray⟩) (.int .i64 up) (.slice a1 upp.length k1) (.slice a2 uhh.length k2) (.slice a3 fp.length k3)) (show w.heap.size < _ by omega) (.string ⟨d.toArray⟩) (.string ⟨us.toArray⟩) (.string ⟨uu.toArray⟩) (.string ⟨uh.toArray⟩) (.int .i64 up) (.slice a1 upp.length k1) (.slice a2 uhh.length k2) (.slice a3 fp.length k3)).mono (show w.heap.size≤_ by omega);have q2:=(OwnP.store8 (OwnP.store7 HO2c.out (show w.heap.size+1+1 < _ by omega) (.string ⟨us.toArray⟩) (.string ⟨uu.toArray⟩) (.string ⟨uh.toArray⟩) (.int .i64 up) (.slice a1 upp.length k1) (.slice a2 uhh.length k2) (.slice a3 fp.length k3)) (show w.heap.size < _ by omega) (.string ⟨d.toArray⟩) (.string ⟨us.toArray⟩) (.string ⟨uu.toArray⟩) (.string ⟨uh.toArray⟩) (.int .i64 up) (.slice a1 upp.length k1) (.slice a2 uhh.length k2) (.slice a3 fp.length k3)).mono (show w.heap.size≤_ by omega);have q3:=(OwnP.store8 (OwnP.store7 HO3c.out (show w.heap.size+1+1 < _ by omega) (.string ⟨us.toArray⟩) (.string ⟨uu.toArray⟩) (.string ⟨uh.toArray⟩) (.int .i64 up) (.slice a1 upp.length k1) (.slice a2 uhh.length k2) (.slice a3 fp.length k3)) (show w.heap.size < _ by omega) (.string ⟨d.toArray⟩) (.string ⟨us.toArray⟩) (.string ⟨uu.toArray⟩) (.string ⟨uh.toArray⟩) (.int .i64 up) (.slice a1 upp.length k1) (.slice a2 uhh.length k2) (.slice a3 fp.length k3)).mono (show w.heap.size≤_ by omega);have H9:=hid (And.intro (row_store8 A2 (.string ⟨d.toArray⟩) (.string ⟨us.toArray⟩) (.string ⟨uu.toArray⟩) (.string ⟨uh.toArray⟩) (.int .i64 up) (.slice a1 upp.length k1) (.slice a2 uhh.length k2) (.slice a3 fp.length k3)) (And.intro (store_below8 A3 w.heap.size (Nat.le_refl _) (.string ⟨d.toArray⟩) (.string ⟨us.toArray⟩) (.string ⟨uu.toArray⟩) (.string ⟨uh.toArray⟩) (.int .i64 up) (.slice a1 upp.length k1) (.slice a2 uhh.length k2) (.slice a3 fp.length k3)) (And.intro q1 (And.intro q2 q3))));clear A1 A2 A3 q1 q2 q3;go_wp2;unfold set8 set7 at H9;generalize World.setCell _ _ _=w9 at H9 ⊢;obtain ⟨hr9,hb9,q1,q2,q3⟩:=H9.out;obtain ⟨d0,d1,d2,d3,d4,d5,d6,d7,_,_,_,_,_,_,_,_⟩:=hr9.eight
          try simp only [Exit.inBlock,Exit.then]
          refine bodyPost_ret (v:=.tuple #[.agg #[.string ⟨d.toArray⟩,.string ⟨us.toArray⟩,.string ⟨uu.toArray⟩,.string ⟨uh.toArray⟩,.int .i64 up,.slice a1 upp.length k1,.slice a2 uhh.length k2,.slice a3 fp.length k3],.int .i64 0]) (by simp [results,Tryz.results43,go_sem,d0,d1,d2,d3,d4,d5,d6,d7]; try rfl) rfl ?_
          refine ⟨?_,hb9⟩
          rw [HR.out];exact ⟨_,_,_,rfl,q1,q2,q3⟩
         ·have HR:Hid (R=(noA,fn)):=show _=_ by rw [HV.out,HT2.out,if_pos hfz]
          have hne:(fn != 0)=true:=by simpa using hfz
          clear HV HT2 HU8 HO1c HO2c HO3c;obtain ⟨y0,y1,y2,y3,y4,y5,y6,y7,f0,f1,f2,f3,f4,f5,f6,f7⟩:=hp8.r.eight;obtain ⟨z0,z1,z2,z3,z4,z5,z6,z7,_,_,_,_,_,_,_,_⟩:=hp8.n.eight;have H7:=hid (And.intro (row_store8 hp8.r (.string ⟨#[]⟩) (.string ⟨#[]⟩) (.string ⟨#[]⟩) (.string ⟨#[]⟩) (.int .i64 0) (.slice none 0 0) (.slice none 0 0) (.slice none 0 0)) (store_below8 hp8.b w.heap.size (Nat.le_refl _) (.string ⟨#[]⟩) (.string ⟨#[]⟩) (.string ⟨#[]⟩) (.string ⟨#[]⟩) (.int .i64 0) (.slice none 0 0) (.slice none 0 0) (.slice none 0 0)));go_wp2;unfold set8 at H7;generalize World.setCell _ _ _=w7 at H7 ⊢;obtain ⟨hr7,hb7⟩:=H7.out;obtain ⟨d0,d1,d2,d3,d4,d5,d6,d7,_,_,_,_,_,_,_,_⟩:=hr7.eight
          try simp only [Exit.inBlock,Exit.then]
          refine bodyPost_ret (v:=.tuple #[.agg #[.string ⟨#[]⟩,.string ⟨#[]⟩,.string ⟨#[]⟩,.string ⟨#[]⟩,.int .i64 0,.slice none 0 0,.slice none 0 0,.slice none 0 0],.int .i64 fn]) (by simp [results,Tryz.results43,go_sem,d0,d1,d2,d3,d4,d5,d6,d7]; try rfl) rfl ?_
          exact ⟨res_none HR.out,hb7⟩)
      ·have HR:Hid (R=(noA,un)):=show _=_ by rw [HV.out,HT.out,if_pos hun]
       have hne:(un != 0)=true:=by simpa using hun
       clear HV HT HO1a HO2a;obtain ⟨y0,y1,y2,y3,y4,y5,y6,y7,f0,f1,f2,f3,f4,f5,f6,f7⟩:=hp4.r.eight;obtain ⟨z0,z1,z2,z3,z4,z5,z6,z7,_,_,_,_,_,_,_,_⟩:=hp4.n.eight;have H7:=hid (And.intro (row_store8 hp4.r (.string ⟨#[]⟩) (.string ⟨#[]⟩) (.string ⟨#[]⟩) (.string ⟨#[]⟩) (.int .i64 0) (.slice none 0 0) (.slice none 0 0) (.slice none 0 0)) (store_below8 hp4.b w.heap.size (Nat.le_refl _) (.string ⟨#[]⟩) (.string ⟨#[]⟩) (.string ⟨#[]⟩) (.string ⟨#[]⟩) (.int .i64 0) (.slice none 0 0) (.slice none 0 0) (.slice none 0 0)));go_wp2;unfold set8 at H7;generalize World.setCell _ _ _=w7 at H7 ⊢;obtain ⟨hr7,hb7⟩:=H7.out;obtain ⟨d0,d1,d2,d3,d4,d5,d6,d7,_,_,_,_,_,_,_,_⟩:=hr7.eight
       try simp only [Exit.inBlock,Exit.then]
       refine bodyPost_ret (v:=.tuple #[.agg #[.string ⟨#[]⟩,.string ⟨#[]⟩,.string ⟨#[]⟩,.string ⟨#[]⟩,.int .i64 0,.slice none 0 0,.slice none 0 0,.slice none 0 0],.int .i64 un]) (by simp [results,Tryz.results43,go_sem,d0,d1,d2,d3,d4,d5,d6,d7]; try rfl) rfl ?_
       exact ⟨res_none HR.out,hb7⟩
  | false =>
   rw [hh] at HV0;have hp:=hp0;clear hp0 KC hh hdec hch;obtain ⟨x,hx⟩:∃ x,x=t:=⟨_,rfl⟩
   obtain ⟨r,hr⟩:∃ r:List UInt8,r=[]:=⟨_,rfl⟩
   have hrl:r.length≤1048576:=by rw [hr]; simp
   have hxl:x.length≤1048576:=by rw [hx]; omega
   have HV1:Hid (R=if hasL 63 (trimL x)=true∨hasL 44 (trimL x)=true∨hasL 34 (trimL x)=true then (noA,50) else tailV [] (trimL x) r):=show _=_ by rw [HV0.out,hx,hr]; rfl
   subst hr;rw [← hx];clear hx HV0 hcl;have hxt:=trimL_len x;have KX:=hid (fun w'=>reftrim_list x w' (by omega));have K63:=hid (fun w'=>has3_l (trimL x) 63 w' (by omega));have K44:=hid (fun w'=>has3_l (trimL x) 44 w' (by omega));have K34:=hid (fun w'=>has3_l (trimL x) 34 w' (by omega));generalize trimL x=u at KX K63 K44 K34 HV1 hxt;have hul:u.length≤1048576:=by omega
   go_wp2_with fail
   refine (KX.out _).mono ?_
   rintro e w6 ⟨rfl,rfl⟩;clear KX hxt;go_wp2_with fail
   refine (K63.out _).mono ?_
   rintro e w7 ⟨rfl,rfl⟩;clear K63
   cases h63:hasL 63 u with
   | true =>
    have HR:Hid (R=(noA,50)):=show _=_ by rw [HV1.out,if_pos (Or.inl h63)]
    clear HV1 h63 K44 K34;obtain ⟨y0,y1,y2,y3,y4,y5,y6,y7,f0,f1,f2,f3,f4,f5,f6,f7⟩:=hp.r.eight;obtain ⟨z0,z1,z2,z3,z4,z5,z6,z7,_,_,_,_,_,_,_,_⟩:=hp.n.eight;have H7:=hid (And.intro (row_store8 hp.r (.string ⟨#[]⟩) (.string ⟨#[]⟩) (.string ⟨#[]⟩) (.string ⟨#[]⟩) (.int .i64 0) (.slice none 0 0) (.slice none 0 0) (.slice none 0 0)) (store_below8 hp.b w.heap.size (Nat.le_refl _) (.string ⟨#[]⟩) (.string ⟨#[]⟩) (.string ⟨#[]⟩) (.string ⟨#[]⟩) (.int .i64 0) (.slice none 0 0) (.slice none 0 0) (.slice none 0 0)));go_wp2;unfold set8 at H7;generalize World.setCell _ _ _=w7 at H7 ⊢;obtain ⟨hr7,hb7⟩:=H7.out;obtain ⟨d0,d1,d2,d3,d4,d5,d6,d7,_,_,_,_,_,_,_,_⟩:=hr7.eight
    try simp only [Exit.inBlock,Exit.then]
    refine bodyPost_ret (v:=.tuple #[.agg #[.string ⟨#[]⟩,.string ⟨#[]⟩,.string ⟨#[]⟩,.string ⟨#[]⟩,.int .i64 0,.slice none 0 0,.slice none 0 0,.slice none 0 0],.int .i64 50]) (by simp [results,Tryz.results43,go_sem,d0,d1,d2,d3,d4,d5,d6,d7]; try rfl) rfl ?_
    exact ⟨res_none HR.out,hb7⟩
   | false =>
    go_wp2_with fail
    refine (K44.out _).mono ?_
    rintro e w8 ⟨rfl,rfl⟩;clear K44
    cases h44:hasL 44 u with
    | true =>
     have HR:Hid (R=(noA,50)):=show _=_ by rw [HV1.out,if_pos (Or.inr (Or.inl h44))]
     clear HV1 h63 h44 K34;obtain ⟨y0,y1,y2,y3,y4,y5,y6,y7,f0,f1,f2,f3,f4,f5,f6,f7⟩:=hp.r.eight;obtain ⟨z0,z1,z2,z3,z4,z5,z6,z7,_,_,_,_,_,_,_,_⟩:=hp.n.eight;have H7:=hid (And.intro (row_store8 hp.r (.string ⟨#[]⟩) (.string ⟨#[]⟩) (.string ⟨#[]⟩) (.string ⟨#[]⟩) (.int .i64 0) (.slice none 0 0) (.slice none 0 0) (.slice none 0 0)) (store_below8 hp.b w.heap.size (Nat.le_refl _) (.string ⟨#[]⟩) (.string ⟨#[]⟩) (.string ⟨#[]⟩) (.string ⟨#[]⟩) (.int .i64 0) (.slice none 0 0) (.slice none 0 0) (.slice none 0 0)));go_wp2;unfold set8 at H7;generalize World.setCell _ _ _=w7 at H7 ⊢;obtain ⟨hr7,hb7⟩:=H7.out;obtain ⟨d0,d1,d2,d3,d4,d5,d6,d7,_,_,_,_,_,_,_,_⟩:=hr7.eight
     try simp only [Exit.inBlock,Exit.then]
     refine bodyPost_ret (v:=.tuple #[.agg #[.string ⟨#[]⟩,.string ⟨#[]⟩,.string ⟨#[]⟩,.string ⟨#[]⟩,.int .i64 0,.slice none 0 0,.slice none 0 0,.slice none 0 0],.int .i64 50]) (by simp [results,Tryz.results43,go_sem,d0,d1,d2,d3,d4,d5,d6,d7]; try rfl) rfl ?_
     exact ⟨res_none HR.out,hb7⟩
    | false =>
     go_wp2_with fail
     refine (K34.out _).mono ?_
     rintro e w9 ⟨rfl,rfl⟩;clear K34
     cases h34:hasL 34 u with
     | true =>
      have HR:Hid (R=(noA,50)):=show _=_ by rw [HV1.out,if_pos (Or.inr (Or.inr h34))]
      clear HV1 h63 h44 h34;obtain ⟨y0,y1,y2,y3,y4,y5,y6,y7,f0,f1,f2,f3,f4,f5,f6,f7⟩:=hp.r.eight;obtain ⟨z0,z1,z2,z3,z4,z5,z6,z7,_,_,_,_,_,_,_,_⟩:=hp.n.eight;have H7:=hid (And.intro (row_store8 hp.r (.string ⟨#[]⟩) (.string ⟨#[]⟩) (.string ⟨#[]⟩) (.string ⟨#[]⟩) (.int .i64 0) (.slice none 0 0) (.slice none 0 0) (.slice none 0 0)) (store_below8 hp.b w.heap.size (Nat.le_refl _) (.string ⟨#[]⟩) (.string ⟨#[]⟩) (.string ⟨#[]⟩) (.string ⟨#[]⟩) (.int .i64 0) (.slice none 0 0) (.slice none 0 0) (.slice none 0 0)));go_wp2;unfold set8 at H7;generalize World.setCell _ _ _=w7 at H7 ⊢;obtain ⟨hr7,hb7⟩:=H7.out;obtain ⟨d0,d1,d2,d3,d4,d5,d6,d7,_,_,_,_,_,_,_,_⟩:=hr7.eight
      try simp only [Exit.inBlock,Exit.then]
      refine bodyPost_ret (v:=.tuple #[.agg #[.string ⟨#[]⟩,.string ⟨#[]⟩,.string ⟨#[]⟩,.string ⟨#[]⟩,.int .i64 0,.slice none 0 0,.slice none 0 0,.slice none 0 0],.int .i64 50]) (by simp [results,Tryz.results43,go_sem,d0,d1,d2,d3,d4,d5,d6,d7]; try rfl) rfl ?_
      exact ⟨res_none HR.out,hb7⟩
     | false =>
      obtain ⟨d,hd⟩:∃ d:List UInt8,d=[]:=⟨_,rfl⟩
      have HV:Hid (R=tailV d u []):=show _=_ by rw [hd,HV1.out,if_neg (by rw [h63,h44,h34]; simp)]
      clear HV1 h63 h44 h34;rw [← hd] at hp;clear hd;obtain ⟨p0',ps0,hpt⟩:=partsG_cons 59 [] pl0 [];have hpt2:partsV 59 []=p0' :: ps0:=hpt;have hmem:=parts_mem_len 59 [];rw [hpt2] at hmem;have KU:=hid (fun w'=>refparse_any u w' hul);have KP:=hid (fun w'=>refparts_of hpt2 w' (by omega));have KA:=hid (fun w'=>reftrim_list p0' w' (by have:=hmem p0' (by simp); omega));have HML:Hid (∀ l ∈ ps0,l.length≤1048576):=fun l hl=>by have:=hmem l (by simp [hl]); omega
      have HT:=hid (tail_of2 d u [] hpt2);clear hpt hpt2 hmem;generalize parseV u=pu at KU HT;obtain ⟨⟨us,uu,uh,up,upp,uhh⟩,un⟩:=pu;unfold uriV at KU;simp only at KU HT;generalize trimL p0'=tp at KA HT;go_wp2_with fail
      refine (KU.out _).mono ?_
      rintro e w3 ⟨pv,hv,rfl,ho1,ho2,hw3⟩;obtain ⟨a1,k1,hpe⟩:=ho1.parsAt.form;obtain ⟨a2,k2,hhe⟩:=ho2.parsAt.form;subst hpe hhe;have hp3:=hp.below hw3;have HO1:=hid (OwnP.mono ho1 (show w.heap.size+3≤_ by have:=hp.lt; omega));have HO2:=hid (OwnP.mono ho2 (show w.heap.size+3≤_ by have:=hp.lt; omega));clear ho1 ho2 hw3 KU hp;have hA:=(Below.refl _ w3).alloc (Nat.le_refl _) (.cells #[.string ⟨us.toArray⟩,.string ⟨uu.toArray⟩,.string ⟨uh.toArray⟩,.int .i64 up,.slice a1 upp.length k1,.slice a2 uhh.length k2] 29);have hltA:=alloc_lt w3 (.cells #[.string ⟨us.toArray⟩,.string ⟨uu.toArray⟩,.string ⟨uh.toArray⟩,.int .i64 up,.slice a1 upp.length k1,.slice a2 uhh.length k2] 29);have hu4:=hid (box_new w3 ⟨us,uu,uh,up,upp,uhh⟩ (.slice a1 upp.length k1) (.slice a2 uhh.length k2));simp only at hu4;have hp4:=hp3.below hA;have HO1a:=hid (HO1.out.below hA);have HO2a:=hid (HO2.out.below hA);clear hp3 HO1 HO2 hA;by_cases hun:un=0
      ·subst hun;go_wp2_with fail
       refine (KP.out _).mono ?_
       rintro e w5 ⟨g,cap,rfl,hcap,hgl,hcells,hw5⟩;have hg0:=hcells 0 (by simp);simp only [List.getElem_cons_zero] at hg0;have hp5:=hp4.below hw5;have HU5:=hid (BoxU.below hu4.out hw5 hltA);have HO1b:=hid (HO1a.out.below hw5);have HO2b:=hid (HO2a.out.below hw5);have hlt5u:w3.heap.size < w5.heap.size:=Nat.lt_of_lt_of_le hltA hw5.size;have HC:=hid hcells;clear hcells hp4 hu4 HO1a HO2a hw5 KP hltA;go_wp2_with fail
       refine (KA.out _).mono ?_
       rintro e w6 ⟨rfl,rfl⟩;clear KA
       cases hie:tp.isEmpty with
       | false =>
        have hne:tp ≠ []:=by intro h; rw [h] at hie; cases hie
        have HR:Hid (R=(noA,50)):=show _=_ by rw [HV.out,HT.out,if_neg (by simp),if_pos hne]
        clear HV HT HC HU5 HO1b HO2b hg0 hne;obtain ⟨y0,y1,y2,y3,y4,y5,y6,y7,f0,f1,f2,f3,f4,f5,f6,f7⟩:=hp5.r.eight;obtain ⟨z0,z1,z2,z3,z4,z5,z6,z7,_,_,_,_,_,_,_,_⟩:=hp5.n.eight;have H7:=hid (And.intro (row_store8 hp5.r (.string ⟨#[]⟩) (.string ⟨#[]⟩) (.string ⟨#[]⟩) (.string ⟨#[]⟩) (.int .i64 0) (.slice none 0 0) (.slice none 0 0) (.slice none 0 0)) (store_below8 hp5.b w.heap.size (Nat.le_refl _) (.string ⟨#[]⟩) (.string ⟨#[]⟩) (.string ⟨#[]⟩) (.string ⟨#[]⟩) (.int .i64 0) (.slice none 0 0) (.slice none 0 0) (.slice none 0 0)));go_wp2;unfold set8 at H7;generalize World.setCell _ _ _=w7 at H7 ⊢;obtain ⟨hr7,hb7⟩:=H7.out;obtain ⟨d0,d1,d2,d3,d4,d5,d6,d7,_,_,_,_,_,_,_,_⟩:=hr7.eight
        try simp only [Exit.inBlock,Exit.then]
        refine bodyPost_ret (v:=.tuple #[.agg #[.string ⟨#[]⟩,.string ⟨#[]⟩,.string ⟨#[]⟩,.string ⟨#[]⟩,.int .i64 0,.slice none 0 0,.slice none 0 0,.slice none 0 0],.int .i64 50]) (by simp [results,Tryz.results43,go_sem,d0,d1,d2,d3,d4,d5,d6,d7]; try rfl) rfl ?_
        exact ⟨res_none HR.out,hb7⟩
       | true =>
        have hte:tp=[]:=by simpa using hie
        have HT2:Hid (tailV d u []=if (fieldsV ps0).2 ≠ 0 then (noA,(fieldsV ps0).2) else (⟨d,⟨us,uu,uh,up,upp,uhh⟩,(fieldsV ps0).1⟩,0)):=show _=_ by rw [HT.out,if_neg (by simp),if_neg (by simp [hte])]
        have HSA:Hid (StrsAt w6 (.slice (some ⟨g,1,none⟩) ps0.length (cap - 1)) ps0):=strs_tail HC.out hgl (Below.refl _ _);have HSB:Hid (ps0=[] → StrsAt w6 (.slice (some ⟨g,0,none⟩) ps0.length 0) ps0):=fun h=>by subst h; exact strs_none _ _ _
        clear HT HC hg0 hgl hte;go_wp2_with fail
        all_goals (
         refine (reffields_any _ ps0 w6 HML.out ?hstr).mono ?_
         case hstr=>first | with_reducible exact HSA.out | exact HSB.out (List.eq_nil_of_length_eq_zero (by omega))
         rintro e w7 ⟨fv,fn,rfl,⟨hfn,hfo⟩,hw7⟩;generalize fieldsV ps0=fr at HT2 hfn hfo;obtain ⟨fp,fm⟩:=fr;simp only at HT2 hfn hfo;subst hfn;obtain ⟨a3,k3,hfe⟩:=hfo.parsAt.form;subst hfe;have hp8:=hp5.below hw7;have HU8:=hid (BoxU.below HU5.out hw7 hlt5u);have HO1c:=hid (HO1b.out.below hw7);have HO2c:=hid (HO2b.out.below hw7);have HO3c:=hid (OwnP.mono hfo (show w.heap.size+3≤_ by have:=hp5.lt; omega));clear hfo hw7 hp5 HU5 HO1b HO2b;by_cases hfz:fn=0
         ·subst hfz;have HR:Hid (R=(⟨d,⟨us,uu,uh,up,upp,uhh⟩,fp⟩,0)):=show _=_ by rw [HV.out,HT2.out,if_neg (by simp)]
          clear HV HT2;obtain ⟨x0,x1,x2,x3,x4,x5⟩:=HU8.out;simp only at x0 x1 x2 x3 x4 x5;obtain ⟨y0,y1,y2,y3,y4,y5,y6,y7,f0,f1,f2,f3,f4,f5,f6,f7⟩:=hp8.r.eight;obtain ⟨z0,z1,z2,z3,z4,z5,z6,z7,g0,g1,g2,g3,g4,g5,g6,g7⟩:=hp8.a.eight;have hlt8:=hp8.lt;have A1:=row_store7 hp8.a (.string ⟨us.toArray⟩) (.string ⟨uu.toArray⟩) (.string ⟨uh.toArray⟩) (.int .i64 up) (.slice a1 upp.length k1) (.slice a2 uhh.length k2) (.slice a3 fp.length k3);have A2:RowIs (set7 w7 (w.heap.size+1+1) (.string ⟨us.toArray⟩) (.string ⟨uu.toArray⟩) (.string ⟨uh.toArray⟩) (.int .i64 up) (.slice a1 upp.length k1) (.slice a2 uhh.length k2) (.slice a3 fp.length k3)) w.heap.size 31 [.string ⟨#[]⟩,.string ⟨#[]⟩,.string ⟨#[]⟩,.string ⟨#[]⟩,.int .i64 0,.slice none 0 0,.slice none 0 0,.slice none 0 0]:=hp8.r.below (store_below7 (Below.refl _ w7) (w.heap.size+1+1) (Nat.le_refl _) (.string ⟨us.toArray⟩) (.string ⟨uu.toArray⟩) (.string ⟨uh.toArray⟩) (.int .i64 up) (.slice a1 upp.length k1) (.slice a2 uhh.length k2) (.slice a3 fp.length k3)) (by omega);have A3:=store_below7 hp8.b (w.heap.size+1+1) (by omega) (.string ⟨us.toArray⟩) (.string ⟨uu.toArray⟩) (.string ⟨uh.toArray⟩) (.int .i64 up) (.slice a1 upp.length k1) (.slice a2 uhh.length k2) (.slice a3 fp.length k3);have q1:=(OwnP.store8 (OwnP.store7 HO1c.out (show w.heap.size+1+1 < _ by omega) (.string ⟨us.toArray⟩) (.string ⟨uu.toArray⟩) (.string ⟨uh.toArray⟩) (.int .i64 up) (.slice a1 upp.length k1) (.slice a2 uhh.length k2) (.slice a3 fp.length k3)) (show w.heap.size < _ by omega) (.string ⟨d.toArray⟩) (.string ⟨us.toArray⟩) (.string ⟨uu.toArray⟩) (.string ⟨uh.toArray⟩) (.int .i64 up) (.slice a1 upp.length k1) (.slice a2 uhh.length k2) (.slice a3 fp.length k3)).mono (show w.heap.size≤_ by omega);have q2:=(OwnP.store8 (OwnP.store7 HO2c.out (show w.heap.size+1+1 < _ by omega) (.string ⟨us.toArray⟩) (.string ⟨uu.toArray⟩) (.string ⟨uh.toArray⟩) (.int .i64 up) (.slice a1 upp.length k1) (.slice a2 uhh.length k2) (.slice a3 fp.length k3)) (show w.heap.size < _ by omega) (.string ⟨d.toArray⟩) (.string ⟨us.toArray⟩) (.string ⟨uu.toArray⟩) (.string ⟨uh.toArray⟩) (.int .i64 up) (.slice a1 upp.length k1) (.slice a2 uhh.length k2) (.slice a3 fp.length k3)).mono (show w.heap.size≤_ by omega);have q3:=(OwnP.store8 (OwnP.store7 HO3c.out (show w.heap.size+1+1 < _ by omega) (.string ⟨us.toArray⟩) (.string ⟨uu.toArray⟩) (.string ⟨uh.toArray⟩) (.int .i64 up) (.slice a1 upp.length k1) (.slice a2 uhh.length k2) (.slice a3 fp.length k3)) (show w.heap.size < _ by omega) (.string ⟨d.toArray⟩) (.string ⟨us.toArray⟩) (.string ⟨uu.toArray⟩) (.string ⟨uh.toArray⟩) (.int .i64 up) (.slice a1 upp.length k1) (.slice a2 uhh.length k2) (.slice a3 fp.length k3)).mono (show w.heap.size≤_ by omega);have H9:=hid (And.intro (row_store8 A2 (.string ⟨d.toArray⟩) (.string ⟨us.toArray⟩) (.string ⟨uu.toArray⟩) (.string ⟨uh.toArray⟩) (.int .i64 up) (.slice a1 upp.length k1) (.slice a2 uhh.length k2) (.slice a3 fp.length k3)) (And.intro (store_below8 A3 w.heap.size (Nat.le_refl _) (.string ⟨d.toArray⟩) (.string ⟨us.toArray⟩) (.string ⟨uu.toArray⟩) (.string ⟨uh.toArray⟩) (.int .i64 up) (.slice a1 upp.length k1) (.slice a2 uhh.length k2) (.slice a3 fp.length k3)) (And.intro q1 (And.intro q2 q3))));clear A1 A2 A3 q1 q2 q3;go_wp2;unfold set8 set7 at H9;generalize World.setCell _ _ _=w9 at H9 ⊢;obtain ⟨hr9,hb9,q1,q2,q3⟩:=H9.out;obtain ⟨d0,d1,d2,d3,d4,d5,d6,d7,_,_,_,_,_,_,_,_⟩:=hr9.eight
          try simp only [Exit.inBlock,Exit.then]
          refine bodyPost_ret (v:=.tuple #[.agg #[.string ⟨d.toArray⟩,.string ⟨us.toArray⟩,.string ⟨uu.toArray⟩,.string ⟨uh.toArray⟩,.int .i64 up,.slice a1 upp.length k1,.slice a2 uhh.length k2,.slice a3 fp.length k3],.int .i64 0]) (by simp [results,Tryz.results43,go_sem,d0,d1,d2,d3,d4,d5,d6,d7]; try rfl) rfl ?_
          refine ⟨?_,hb9⟩
          rw [HR.out];exact ⟨_,_,_,rfl,q1,q2,q3⟩
         ·have HR:Hid (R=(noA,fn)):=show _=_ by rw [HV.out,HT2.out,if_pos hfz]
          have hne:(fn != 0)=true:=by simpa using hfz
          clear HV HT2 HU8 HO1c HO2c HO3c;obtain ⟨y0,y1,y2,y3,y4,y5,y6,y7,f0,f1,f2,f3,f4,f5,f6,f7⟩:=hp8.r.eight;obtain ⟨z0,z1,z2,z3,z4,z5,z6,z7,_,_,_,_,_,_,_,_⟩:=hp8.n.eight;have H7:=hid (And.intro (row_store8 hp8.r (.string ⟨#[]⟩) (.string ⟨#[]⟩) (.string ⟨#[]⟩) (.string ⟨#[]⟩) (.int .i64 0) (.slice none 0 0) (.slice none 0 0) (.slice none 0 0)) (store_below8 hp8.b w.heap.size (Nat.le_refl _) (.string ⟨#[]⟩) (.string ⟨#[]⟩) (.string ⟨#[]⟩) (.string ⟨#[]⟩) (.int .i64 0) (.slice none 0 0) (.slice none 0 0) (.slice none 0 0)));go_wp2;unfold set8 at H7;generalize World.setCell _ _ _=w7 at H7 ⊢;obtain ⟨hr7,hb7⟩:=H7.out;obtain ⟨d0,d1,d2,d3,d4,d5,d6,d7,_,_,_,_,_,_,_,_⟩:=hr7.eight
          try simp only [Exit.inBlock,Exit.then]
          refine bodyPost_ret (v:=.tuple #[.agg #[.string ⟨#[]⟩,.string ⟨#[]⟩,.string ⟨#[]⟩,.string ⟨#[]⟩,.int .i64 0,.slice none 0 0,.slice none 0 0,.slice none 0 0],.int .i64 fn]) (by simp [results,Tryz.results43,go_sem,d0,d1,d2,d3,d4,d5,d6,d7]; try rfl) rfl ?_
          exact ⟨res_none HR.out,hb7⟩)
      ·have HR:Hid (R=(noA,un)):=show _=_ by rw [HV.out,HT.out,if_pos hun]
       have hne:(un != 0)=true:=by simpa using hun
       clear HV HT HO1a HO2a;obtain ⟨y0,y1,y2,y3,y4,y5,y6,y7,f0,f1,f2,f3,f4,f5,f6,f7⟩:=hp4.r.eight;obtain ⟨z0,z1,z2,z3,z4,z5,z6,z7,_,_,_,_,_,_,_,_⟩:=hp4.n.eight;have H7:=hid (And.intro (row_store8 hp4.r (.string ⟨#[]⟩) (.string ⟨#[]⟩) (.string ⟨#[]⟩) (.string ⟨#[]⟩) (.int .i64 0) (.slice none 0 0) (.slice none 0 0) (.slice none 0 0)) (store_below8 hp4.b w.heap.size (Nat.le_refl _) (.string ⟨#[]⟩) (.string ⟨#[]⟩) (.string ⟨#[]⟩) (.string ⟨#[]⟩) (.int .i64 0) (.slice none 0 0) (.slice none 0 0) (.slice none 0 0)));go_wp2;unfold set8 at H7;generalize World.setCell _ _ _=w7 at H7 ⊢;obtain ⟨hr7,hb7⟩:=H7.out;obtain ⟨d0,d1,d2,d3,d4,d5,d6,d7,_,_,_,_,_,_,_,_⟩:=hr7.eight
       try simp only [Exit.inBlock,Exit.then]
       refine bodyPost_ret (v:=.tuple #[.agg #[.string ⟨#[]⟩,.string ⟨#[]⟩,.string ⟨#[]⟩,.string ⟨#[]⟩,.int .i64 0,.slice none 0 0,.slice none 0 0,.slice none 0 0],.int .i64 un]) (by simp [results,Tryz.results43,go_sem,d0,d1,d2,d3,d4,d5,d6,d7]; try rfl) rfl ?_
       exact ⟨res_none HR.out,hb7⟩
end Go.Proofs.YtiogedceommcoaaGreatDoor
