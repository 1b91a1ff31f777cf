/-
  PC3, PC4, PtA, PtB, PtC.
-/
import Derived.Test.YtbmjodlbkgblpaaGreatDoorPO21
set_option linter.unusedVariables false
set_option linter.unusedSimpArgs false
set_option maxRecDepth 20000
namespace Go.Proofs.YtbmjodlbkgblpaaGreatDoor
open Go.RowKit Go.Sort Go.Lib Sc
set_option maxHeartbeats 2000000 in
set_option maxRecDepth 100000 in
theorem ptups_any (v:Value) (ts:List Tu) (w:World) (hz:ts.length≤140737488355328) (hst:∀ t ∈ ts,SmallT 140737488355328 t) (hcp:CapTu v) (hv:TusAt w v ts) :
  Calls Tryz.prog 55 #[v] w fun e w'=>e=.returned (.bool (decide (ts.length≤16) && tupsOk ts))∧Below w.heap.size w w':=by
 have HV:=hid (fun w' (hb:Below w.heap.size w w')=>hv.below hb);obtain ⟨ao,cap,hvf,hc⟩:=hv;have HC:=hid hc;have HST:=hid hst;obtain ⟨tn,htn⟩:∃ tn,tn=ts.length:=⟨_,rfl⟩
 rw [← htn] at hz hvf ⊢;subst hvf;have hcap:tn≤cap:=hcp _ _ _ rfl;have HTN:=hid htn;by_cases h16:16 < tn
 ·have q2:(16:Int) < (tn:Int):=by omega
  rw [decide_eq_false (p:=tn≤16) (by omega),Bool.false_and];clear HC HST HV hc hst hcp htn
  go_enter Tryz.func55,Tryz.ntmps55
  go_wp2;go_ret;exact ⟨rfl,Below.refl _ _⟩
 have q2:¬ (16:Int) < (tn:Int):=by omega
 rw [decide_eq_true (p:=tn≤16) (by omega),Bool.true_and];have HBT:Hid (∀ j (hj:j < ts.length),tupP ts[j]=false → tupsOk ts=false):=fun j hj h=>tups_bad hj h
 have HTW:Hid (∀ j (hj:j < ts.length),hasT ts[j].id (ts.take j)=true → tupsOk ts=false):=fun j hj h=>by
  unfold hasT at h;obtain ⟨q,hq,he⟩:=List.any_eq_true.1 h;obtain ⟨m,hm,rfl⟩:=List.mem_iff_getElem.1 hq;rw [List.length_take] at hm;rw [List.getElem_take] at he;exact tups_twice hj (m:=m) (by omega) he
 have HSN:Hid (∀ j (hj:j < ts.length),tupsOk (ts.take j)=true → tupP ts[j]=true → hasT ts[j].id (ts.take j)=false → tupsOk (ts.take (j+1))=true):=fun j hj h1 h2 h3=>tups_snoc hj h1 h2 (by rw [hasT_not,h3]; rfl);have HT:Hid (∀ j,tn≤j → tupsOk (ts.take j)=true → tupsOk ts=true):=fun j hj h=>by rw [List.take_of_length_le (by omega)] at h; exact h
 generalize tupsOk ts=R at HBT HTW HT ⊢;clear hc hst hcp htn
 go_enter Tryz.func55,Tryz.ntmps55
 go_wp2
 go_loopw [10] (fun i wr=>∃ j:Nat,j≤tn∧i=.int .i64 j∧Hid (tupsOk (ts.take j)=true)∧Below w.heap.size w wr) (fun i _=>tn - (RowKit.intOf i).toNat)
 case atStart=>exact ⟨0,Nat.zero_le _,rfl,show _=_ from rfl,Below.refl _ _⟩
 case round =>
  obtain ⟨j,hjn,rfl,ha,hb⟩:=hrel;by_cases hlt:j < tn
  ·have hjl:j < ts.length:=by have:=HTN.out; omega
   obtain ⟨ad,hao,hab,c⟩:=HC.out j hjl;subst hao;have c:=c.below hb hab;have hsm:=HST.out ts[j] (List.getElem_mem hjl);have HVj:=hid (fun w' (hb':Below w.heap.size w w')=>tusAt_take HTN.out (HV.out w' hb') j cap (by omega));have h1:=hid (HBT.out j hjl);have h2:=hid (HTW.out j hjl);have h3:=hid (HSN.out j hjl ha.out);have hpr:=i64_of hsm.2.2.2;have hpl:(ts.take j).length≤1000:=by rw [List.length_take]; omega
   clear HBT HTW HSN HT HC HST ha HV;generalize ts.take j=P at HVj h2 h3 hpl;have KM0:=hid (fun w'=>pmay_any ts[j] w' hsm);have KH0:=hid (fun w' (hb':Below w.heap.size w w')=>phas_any _ P ts[j].id w' hpl (HVj.out w' hb'));generalize ts[j]=T at c h1 h2 h3 hpr KM0 KH0;clear hsm HVj;obtain ⟨ti,tb,tk,tp,tnn⟩:=T;obtain ⟨c0,c1,c2,c3,c4⟩:=c;unfold tuV at KM0;simp only at c0 c1 c2 c3 c4 h1 h2 h3 hpr KM0 KH0;have q6:(j:Int) < (tn:Int):=by omega
   have q7:(j:Int)≤(cap:Int):=by omega
   have q8:¬ (j:Int) < 0:=by omega
   obtain ⟨W2,hW2⟩:∃ W2,W2=wr.alloc (.cells #[.string ⟨ti.toArray⟩,.bool tb,.string ⟨tk.toArray⟩,.int .i64 tp,.string ⟨tnn.toArray⟩] 89):=⟨_,rfl⟩
   have hbW:Below w.heap.size w W2:=by rw [hW2]; exact hb.alloc hb.size _
   have hrT:RowIs W2 wr.heap.size 89 [.string ⟨ti.toArray⟩,.bool tb,.string ⟨tk.toArray⟩,.int .i64 tp,.string ⟨tnn.toArray⟩]:=by rw [hW2]; exact rc_row5 _ _ _ _ _ _ _
   go_wp2;clear c0 c1 c2 c3 c4;rw [← hW2];clear hW2;obtain ⟨b0,b1,b2,b3,b4,_,_,_,_,_⟩:=hrT.rc5;replace b0:=cell_regrown b0;replace b1:=cell_regrown b1;replace b2:=cell_regrown b2;replace b3:=cell_regrown b3;replace b4:=cell_regrown b4;have cM:=hid (fun (d:Nat) (os:Array Obj)=>Calls.regrown_of (KM0.out (grow (redrawn W2 d) os)));have cH:=hid (fun (d:Nat) (os:Array Obj)=>Calls.regrown_of (KH0.out (grow (redrawn W2 d) os) (below_re5 hbW d os)));clear KM0 KH0
   cases hM:tupP ⟨ti,tb,tk,tp,tnn⟩ with
   | false =>
    rw [hM] at cM;have hR:Hid (R=false):=h1.out hM;clear h1 h2 h3 cH;refine wp_region_quiet_below followsMixed5 (by kernel_rfl) ?_
    repeat (go_big_quiet_step (with_reducible exact cM.out _ _))
    refine wpQuiet_nil ?_
    intro _ hw';obtain ⟨⟨dq,osq⟩,hw''⟩:=hw';subst hw'';have hb1:=below_re5 hbW dq osq;clear cM b0 b1 b2 b3 b4;go_wp2;go_ret;exact ⟨ret_bool hR.out.symm,hb1⟩
   | true =>
    rw [hM] at cM
    cases hH:hasT ti P with
    | true =>
     rw [hH] at cH;have hR:Hid (R=false):=h2.out hH;clear h1 h2 h3;refine wp_region_quiet_below followsMixed5 (by kernel_rfl) ?_
     repeat (go_big_quiet_step (first | with_reducible exact cM.out _ _ | with_reducible exact cH.out _ _))
     refine wpQuiet_nil ?_
     intro _ hw';obtain ⟨⟨dq,osq⟩,hw''⟩:=hw';subst hw'';have hb1:=below_re5 hbW dq osq;clear cM cH b0 b1 b2 b3 b4;go_wp2;go_ret;exact ⟨ret_bool hR.out.symm,hb1⟩
    | false =>
     rw [hH] at cH;have hA:Hid (tupsOk (ts.take (j+1))=true):=h3.out hM hH;clear h1 h2 h3;refine wp_region_quiet_below followsMixed5 (by kernel_rfl) ?_
     repeat (go_big_quiet_step (first | with_reducible exact cM.out _ _ | with_reducible exact cH.out _ _))
     refine wpQuiet_nil ?_
     intro _ hw';obtain ⟨⟨dq,osq⟩,hw''⟩:=hw';subst hw'';have hb1:=below_re5 hbW dq osq;clear cM cH b0 b1 b2 b3 b4;go_wp2;go_roundw
     case rel=>exact ⟨j+1,by omega,by go_num,hA,hb1⟩
     case measure=>simp [RowKit.intOf]; omega
  ·have hR:Hid (R=true):=HT.out j (by omega) ha.out;have q6:¬ (j:Int) < (tn:Int):=by omega
   clear HBT HTW HSN HT HC HST ha HV;go_wp2;go_ret;exact ⟨ret_bool hR.out.symm,hb⟩
set_option maxHeartbeats 2000000 in
set_option maxRecDepth 100000 in
theorem pnotes_any (v:Value) (ns:List (List UInt8)) (w:World) (hz:ns.length≤140737488355328) (hsn:∀ s ∈ ns,s.length≤140737488355328) (hv:StrsAt w v ns) :
  Calls Tryz.prog 56 #[v] w fun e w'=>e=.returned (.bool (decide (ns.length≤16) && ns.all noteP))∧Below w.heap.size w w':=by
 obtain ⟨ao,cap,hvf,hc⟩:=hv;have HC:=hid hc;have HSN:=hid hsn;obtain ⟨nn,hnn⟩:∃ nn,nn=ns.length:=⟨_,rfl⟩
 rw [← hnn] at hz hvf ⊢;subst hvf;have HNN:=hid hnn;by_cases h16:16 < nn
 ·have q2:(16:Int) < (nn:Int):=by omega
  rw [decide_eq_false (p:=nn≤16) (by omega),Bool.false_and];clear HC HSN hc hsn hnn
  go_enter Tryz.func56,Tryz.ntmps56
  go_wp2;go_ret;exact ⟨rfl,Below.refl _ _⟩
 have q2:¬ (16:Int) < (nn:Int):=by omega
 rw [decide_eq_true (p:=nn≤16) (by omega),Bool.true_and]
 have HB:Hid (∀ j (hj:j < ns.length),noteP ns[j]=false → ns.all noteP=false):=fun j hj h=>by
  rw [List.all_eq_false];exact ⟨_,List.getElem_mem hj,by rw [h]; simp⟩
 have HS:Hid (∀ j (hj:j < ns.length),(ns.take j).all noteP=true → noteP ns[j]=true → (ns.take (j+1)).all noteP=true):=fun j hj h1 h2=>by
  rw [List.take_succ_eq_append_getElem hj,List.all_append,h1]
  simp [h2]
 have HT:Hid (∀ j,nn≤j → (ns.take j).all noteP=true → ns.all noteP=true):=fun j hj h=>by rw [List.take_of_length_le (by omega)] at h; exact h
 generalize ns.all noteP=R at HB HT ⊢;clear hc hsn hnn
 go_enter Tryz.func56,Tryz.ntmps56
 go_wp2
 go_loopw [10] (fun i wr=>∃ j:Nat,j≤nn∧i=.int .i64 j∧Hid ((ns.take j).all noteP=true)∧Below w.heap.size w wr) (fun i _=>nn - (RowKit.intOf i).toNat)
 case atStart=>exact ⟨0,Nat.zero_le _,rfl,show _=_ from rfl,Below.refl _ _⟩
 case round =>
  obtain ⟨j,hjn,rfl,ha,hb⟩:=hrel;by_cases hlt:j < nn
  ·have hjl:j < ns.length:=by have:=HNN.out; omega
   obtain ⟨ad,hao,hab,c⟩:=HC.out j hjl;subst hao;have c:=cell_below hb (by rw [add_block]; exact hab) c;have KT:=hid (fun w'=>ptext_any ns[j] w' (HSN.out _ (List.getElem_mem hjl)));have hnv:noteP ns[j]=(!ns[j].isEmpty && textP ns[j]):=rfl;have h1:=hid (HB.out j hjl);have h2:=hid (HS.out j hjl ha.out);clear HB HS HT HC HSN ha;generalize ns[j]=s at c KT hnv h1 h2;generalize noteP s=NP at hnv h1 h2;have q6:(j:Int) < (nn:Int):=by omega
   cases hE:s.isEmpty with
   | true =>
    have e:s=[]:=by cases s <;> simp_all
    have hR:Hid (R=false):=h1.out (by rw [hnv,hE]; rfl);subst e;clear h1 h2 KT hnv;go_wp2;go_ret;exact ⟨ret_bool hR.out.symm,hb⟩
   | false =>
    have hne:(s==[])=false:=by cases s <;> simp_all
    rw [hE] at hnv;go_wp2_with fail
    refine (KT.out _).mono ?_
    rintro e w1 ⟨rfl,hw1⟩;have hb1:=hb.trans (hw1.mono hb.size);clear c KT hb hw1
    cases hT:textP s with
    | false =>
     have hR:Hid (R=false):=h1.out (by rw [hnv,hT]; rfl);clear h1 h2 hnv;go_wp2;go_ret;exact ⟨ret_bool hR.out.symm,hb1⟩
    | true =>
     have hA:Hid ((ns.take (j+1)).all noteP=true):=h2.out (by rw [hnv,hT]; rfl);clear h1 h2 hnv;go_wp2;go_roundw
     case rel=>exact ⟨j+1,by omega,by go_num,hA,hb1⟩
     case measure=>simp [RowKit.intOf]; omega
  ·have hR:Hid (R=true):=HT.out j (by omega) ha.out;have q6:¬ (j:Int) < (nn:Int):=by omega
   clear HB HS HT HC HSN ha;go_wp2;go_ret;exact ⟨ret_bool hR.out.symm,hb⟩
theorem checkD_is (d:Dc):checkD d=if (hostV d.entity).2 ≠ 0 then 140 else if (decide (d.tuples.length≤16) && tupsOk d.tuples)=false then 140 else if (decide (d.notes.length≤16) && d.notes.all noteP)=false then 140 else 0:=by
 by_cases h1:(hostV d.entity).2=0
 case neg =>
  rw [if_pos h1];unfold checkD;rw [if_pos (.inl h1)]
 rw [if_neg (by simp [h1])];by_cases h2:d.tuples.length≤16
 case neg =>
  rw [decide_eq_false h2,Bool.false_and,if_pos rfl];unfold checkD;rw [if_pos (.inr (.inl (by omega)))]
 rw [decide_eq_true h2,Bool.true_and];by_cases h3:d.notes.length≤16
 case neg =>
  rw [decide_eq_false h3,Bool.false_and];unfold checkD;rw [if_pos (.inr (.inr (by omega)))]
  simp
 rw [decide_eq_true h3,Bool.true_and,chkD_is h1 h2 h3]
 cases tupsOk d.tuples <;> cases d.notes.all noteP <;> simp
set_option maxHeartbeats 2000000 in
set_option maxRecDepth 100000 in
theorem pcheck_any (d:Dc) (ts ns:Value) (w:World) (hsm:SmallD 140737488355328 d) (hen:d.entity.length+4≤1048576) (hcp:CapTu ts) (hts:TusAt w ts d.tuples) (hns:StrsAt w ns d.notes) :
  Calls Tryz.prog 32 #[docV d ts ns] w fun e w'=>e=.returned (.int .i64 (checkD d))∧Below w.heap.size w w':=by
 have hv:=checkD_is d;generalize checkD d=R at hv ⊢;obtain ⟨en,tl,nl⟩:=d;obtain ⟨_,hz1,hz2,hst,hsn⟩:=hsm;simp only at hz1 hz2 hst hsn hen hts hns hv;have KH:=hid (fun w'=>samehost_any en w' hen);have KT:=hid (fun w' (hb:Below w.heap.size w w')=>ptups_any ts tl w' hz1 hst hcp (hts.below hb));have KN:=hid (fun w' (hb:Below w.heap.size w w')=>pnotes_any ns nl w' hz2 hsn (hns.below hb));unfold docV
 simp only
 obtain ⟨ta,tc,hf1,htc⟩:=hts;obtain ⟨na,nc,hf2,hnc⟩:=hns;obtain ⟨tn,htn⟩:∃ tn,tn=tl.length:=⟨_,rfl⟩
 obtain ⟨nn,hnn⟩:∃ nn,nn=nl.length:=⟨_,rfl⟩
 rw [← htn] at hf1;rw [← hnn] at hf2;subst hf1 hf2;clear htc hnc hst hsn htn hnn hz1 hz2 hcp;generalize (decide (tl.length≤16) && tupsOk tl)=T at KT hv;generalize (decide (nl.length≤16) && nl.all noteP)=N at KN hv;generalize hostV en=HV at KH hv;obtain ⟨hs,he⟩:=HV;simp only at KH hv;have HR:=hid hv;clear hv;have hbn:Below w.heap.size w (w.alloc (.cells #[.string ⟨en.toArray⟩,.slice ta tn tc,.slice na nn nc] 35)):=(Below.refl _ w).alloc (Nat.le_refl _) _;have hbr:=rc_row3 w (.string ⟨en.toArray⟩) (.slice ta tn tc) (.slice na nn nc) 35;have hlt0:=alloc_lt w (.cells #[.string ⟨en.toArray⟩,.slice ta tn tc,.slice na nn nc] 35)
 go_enter Tryz.func32,Tryz.ntmps32
 go_wp2_with fail
 generalize World.alloc w _=W0 at hbn hbr hlt0 ⊢;refine (KH.out _).mono ?_
 rintro e w1 ⟨rfl,hw1⟩;have hb1:=hbn.trans (hw1.mono hbn.size);have hr1:=hbr.below hw1 hlt0;have hlt1:=Nat.lt_of_lt_of_le hlt0 hw1.size;clear KH hbn hbr hlt0 hw1;obtain ⟨y0,y1,y2,_,_,_⟩:=hr1.rc3;by_cases h1:he=0
 case neg =>
  have q1:(he != 0)=true:=by simpa using h1
  have hR:Hid (R=140):=show _=_ by rw [HR.out,if_pos h1]
  clear HR h1;go_wp2;go_ret;exact ⟨ret_int hR.out.symm,hb1⟩
 subst h1;go_wp2_with fail
 refine (KT.out _ hb1).mono ?_
 rintro e w2 ⟨rfl,hw2⟩;have hb2:=hb1.trans (hw2.mono hb1.size);have hr2:=hr1.below hw2 hlt1;clear KT hb1 hr1 hlt1 hw2 y0 y1 y2;obtain ⟨y0,y1,y2,_,_,_⟩:=hr2.rc3
 cases T with
 | false =>
  have hR:Hid (R=140):=show _=_ by rw [HR.out,if_neg (by simp),if_pos rfl]
  clear HR;go_wp2;go_ret;exact ⟨ret_int hR.out.symm,hb2⟩
 | true =>
  go_wp2_with fail
  refine (KN.out _ hb2).mono ?_
  rintro e w3 ⟨rfl,hw3⟩;have hb3:=hb2.trans (hw3.mono hb2.size)
  cases N with
  | false =>
   have hR:Hid (R=140):=show _=_ by rw [HR.out,if_neg (by simp),if_neg (by simp),if_pos rfl]
   clear HR;go_wp2;go_ret;exact ⟨ret_int hR.out.symm,hb3⟩
  | true =>
   have hR:Hid (R=0):=show _=_ by rw [HR.out,if_neg (by simp),if_neg (by simp),if_neg (by simp)]
   clear HR;go_wp2;go_ret;exact ⟨ret_int hR.out.symm,hb3⟩
end Go.Proofs.YtbmjodlbkgblpaaGreatDoor
namespace Go.Proofs.YtbmjodlbkgblpaaGreatDoor
open Go.RowKit Go.Maps Go.WideMaps Sc
theorem own_chgP {w w':World} {B e e' sz n b:Nat} {v:Value} {xs us:List Value} (h:w.ownsRow B e sz v n xs) (hc:Chg (fun k=>k=b) w w') (hr:RowIs w b e' us) (hne:e ≠ e'):w'.ownsRow B e sz v n xs:=by
 obtain ⟨h1,h2⟩:=h;refine ⟨h1,?_⟩
 rcases h2 with h2 | ⟨g,cap,cur,hv,hg,hh,r⟩
 ·exact .inl h2
 ·refine .inr ⟨g,cap,cur,hv,hg,?_,r⟩
  have hgb:g ≠ b:=by
   intro e1;subst e1;unfold RowIs at hr;rw [hr] at hh;simp only [Option.some.injEq,Obj.cells.injEq] at hh;exact hne hh.2.1.symm
  rw [hc.block g (Array.getElem?_eq_some_iff.1 hh).1 hgb];exact hh
structure DoF (B bt:Nat) (s:Sto) (a:Pa) (ts ns:Value) (w u:World):Prop where
 ask:RowIs u w.heap.size 69 (pskL a ts ns)
 td:RowIs u (w.heap.size+1) 66 [.int .i64 0,.int .i64 0,.string ⟨#[]⟩,.bool false]
 fr:FrP B w u
 tab:TabP B bt u s
section
variable {B bt : Nat} {w u u' : World} {s s' : Sto} {a : Pa} {ts ns : Value} {now : Int}
theorem DoF.start (h:TabP B bt w s):DoF B bt s a ts ns w ((w.alloc (.cells #[.string ⟨a.who.toArray⟩,.string ⟨a.mt.toArray⟩,.int .i64 a.exp,.bool a.has,.string ⟨a.doc.entity.toArray⟩,ts,ns,.string ⟨a.tag.toArray⟩] 69)).alloc (.cells #[.int .i64 0,.int .i64 0,.string ⟨#[]⟩,.bool false] 66)):=by
 obtain ⟨mn,ma,be,mw,cs,r,e1,h2,h3,h4,h5⟩:=h.has;have hF:=BgF.start (a:=a) (ts:=ts) (ns:=ns) h4;exact ⟨hF.ask,hF.td,FrP.of hF.bel h.lo,h.below hF.bel⟩
theorem DoF.step (h:DoF B bt s a ts ns w u) (hb:Below u.heap.size u u'):DoF B bt s a ts ns w u' :=
 ⟨h.ask.below hb h.ask.bl,h.td.below hb h.td.bl,h.fr.trans (FrP.of hb h.tab.lo),h.tab.below hb⟩
theorem DoF.did (h:DoF B bt s a ts ns w u) (hs:TabP B bt u' s') (hf:FrP B u u'):DoF B bt s' a ts ns w u' :=
 ⟨hf.row h.ask (by decide) (by decide) (by decide) (by decide),hf.row h.td (by decide) (by decide) (by decide) (by decide),h.fr.trans hf,hs⟩
theorem TabP.put {b:Nat} {us:List Value} (h:TabP B bt u s) (hr:RowIs u b 66 us) (hc:Chg (fun k=>k=b) u u'):TabP B bt u' s:=by
 obtain ⟨mn,ma,be,mw,cs,r,h1,h2,h3,h4,h5⟩:=h.has;exact ⟨h.right,h.ok,mn,ma,be,mw,cs,r,h1,h2,fun x hx=>⟨own_chgP (h3 x hx).1 hc hr (by decide),own_chgP (h3 x hx).2 hc hr (by decide)⟩,h4.put hr (by decide) (by decide) (by decide) (by decide) hc,h5⟩
theorem DoF.keep (h:DoF B bt s a ts ns w u) (hB:B≤w.heap.size) (v0 v1 v2 v3:Value):RowC4 ((((u.setCell ⟨w.heap.size+1,0,none⟩ v0).setCell ⟨w.heap.size+1,1,none⟩ v1).setCell ⟨w.heap.size+1,2,none⟩ v2).setCell ⟨w.heap.size+1,3,none⟩ v3) (w.heap.size+1) v0 v1 v2 v3∧FrP B w ((((u.setCell ⟨w.heap.size+1,0,none⟩ v0).setCell ⟨w.heap.size+1,1,none⟩ v1).setCell ⟨w.heap.size+1,2,none⟩ v2).setCell ⟨w.heap.size+1,3,none⟩ v3)∧TabP B bt ((((u.setCell ⟨w.heap.size+1,0,none⟩ v0).setCell ⟨w.heap.size+1,1,none⟩ v1).setCell ⟨w.heap.size+1,2,none⟩ v2).setCell ⟨w.heap.size+1,3,none⟩ v3) s :=
 ⟨(rc_store4 h.td v0 v1 v2 v3).rc4,(((h.fr.setn hB (by omega) _).setn hB (by omega) _).setn hB (by omega) _).setn hB (by omega) _,h.tab.put h.td (chg4 u (w.heap.size+1) v0 v1 v2 v3)⟩
theorem TabP.made (h:TabP B bt w s):Calls Tryz.prog 12 #[.pointer (some ⟨bt,0,none⟩)] w fun e w'=>e=.returned (.bool true)∧w'=w:=by
 obtain ⟨mn,ma,be,mw,cs,r,e1,h2,h3,h4,h5⟩:=h.has;exact pmade_any h4
def nextB (s:Sto) (tag:List UInt8):Bool:=tokenB tag && decide (placeP s.l tag < 0)
theorem TabP.next (h:TabP B bt w s) {tag:List UInt8} (ht:tag.length≤140737488355328):Calls Tryz.prog 31 #[.pointer (some ⟨bt,0,none⟩),.string ⟨tag.toArray⟩] w fun e w'=>e=.returned (.bool (nextB s tag))∧w'=w:=by
 obtain ⟨mn,ma,be,mw,cs,r,e1,h2,h3,h4,h5⟩:=h.has;unfold nextB
 rcases idx_two s.l tag with ⟨i1,i2,i3⟩ | ⟨k,hk,i1,i2,i3,_⟩
 ·rw [i2]
  have:=ptag_no h4 ht (fun x hx=>i3 _ (by rw [e1]; exact List.mem_map_of_mem hx))
  simpa using this
 ·have hkc:k < cs.length:=by rw [← pbsL_len cs,← e1]; exact hk
  have hck:cs[k].p=s.l[k]:=by simp only [e1]; rw [pbsL_get cs hkc]
  have:=ptag_yes h4 (List.getElem_mem hkc) (h2 _ (List.getElem_mem hkc)).tag
  rw [hck,i3] at this;rw [i2,decide_eq_false (by omega),Bool.and_false];exact this
theorem badA_next (s:Sto) (now:Int) (a:Pa):badA s now a=(decide (now < 0) || (decide (549755813888 < now) || (!nextB s a.tag || (a.has && !decide (checkD a.doc=0))))):=by
 unfold badA nextB
 have:decide (0≤placeP s.l a.tag)=!decide (placeP s.l a.tag < 0):=by
  by_cases h:placeP s.l a.tag < 0
  ·rw [decide_eq_true h,decide_eq_false (by omega)]; rfl
  ·rw [decide_eq_false h,decide_eq_true (by omega)]; rfl
 rw [this]
 cases decide (now < 0) <;> cases decide (549755813888 < now) <;> cases tokenB a.tag <;> cases decide (placeP s.l a.tag < 0) <;> rfl
set_option maxHeartbeats 4000000 in
set_option maxRecDepth 100000 in
theorem pdo_b1 (h:TabP B bt w s) (hn:decide (now < 0)=true) :
  Calls Tryz.prog 19 #[.pointer (some ⟨bt,0,none⟩),.int .i64 now,askV a ts ns] w fun e w'=>e=.returned (.tuple #[tdV noTd,.int .i64 1])∧TabP B bt w' s∧FrP B w w':=by
 have hB:=h.lo;have HI:=hid (DoF.start (a:=a) (ts:=ts) (ns:=ns) h);clear h
 go_enter Tryz.func19,Tryz.ntmps19
 unfold askV
 go_upto_region 1 with fail
 generalize World.alloc (World.alloc _ _) _=W at HI ⊢;obtain ⟨a0,a1,a2,a3,a4,a5,a6,a7⟩:=bgA_of HI.out.ask;obtain ⟨z0,z1,z2,z3,f0,f1,f2,f3⟩:=HI.out.td.rc4;have KM:=hid HI.out.tab.made;go_wp2_with fail
 refine KM.out.mono ?_
 rintro e w2 ⟨rfl,hw2⟩;rw [hw2];clear hw2 KM w2;have KEEP:=hid (HI.out.keep hB (.int .i64 0) (.int .i64 0) (.string ⟨#[]⟩) (.bool false));go_wp2;generalize World.setCell _ _ _=wA at KEEP ⊢;obtain ⟨⟨d0,d1,d2,d3,_,_,_,_⟩,hFA,hTA⟩:=KEEP.out
 try simp only [Exit.inBlock,Exit.then]
 refine bodyPost_ret (v:=.tuple #[.agg #[.int .i64 0,.int .i64 0,.string ⟨#[]⟩,.bool false],.int .i64 1]) (by simp [results,Tryz.results19,go_sem,d0,d1,d2,d3]; try rfl) rfl ?_
 exact ⟨rfl,hTA,hFA⟩
set_option maxHeartbeats 4000000 in
set_option maxRecDepth 100000 in
theorem pdo_b2 (h:TabP B bt w s) (hn:decide (now < 0)=false) (hm:decide (549755813888 < now)=true) :
  Calls Tryz.prog 19 #[.pointer (some ⟨bt,0,none⟩),.int .i64 now,askV a ts ns] w fun e w'=>e=.returned (.tuple #[tdV noTd,.int .i64 1])∧TabP B bt w' s∧FrP B w w':=by
 have hB:=h.lo;have HI:=hid (DoF.start (a:=a) (ts:=ts) (ns:=ns) h);clear h
 go_enter Tryz.func19,Tryz.ntmps19
 unfold askV
 go_upto_region 1 with fail
 generalize World.alloc (World.alloc _ _) _=W at HI ⊢;obtain ⟨a0,a1,a2,a3,a4,a5,a6,a7⟩:=bgA_of HI.out.ask;obtain ⟨z0,z1,z2,z3,f0,f1,f2,f3⟩:=HI.out.td.rc4;have KM:=hid HI.out.tab.made;go_wp2_with fail
 refine KM.out.mono ?_
 rintro e w2 ⟨rfl,hw2⟩;rw [hw2];clear hw2 KM w2;have KEEP:=hid (HI.out.keep hB (.int .i64 0) (.int .i64 0) (.string ⟨#[]⟩) (.bool false));go_wp2;generalize World.setCell _ _ _=wA at KEEP ⊢;obtain ⟨⟨d0,d1,d2,d3,_,_,_,_⟩,hFA,hTA⟩:=KEEP.out
 try simp only [Exit.inBlock,Exit.then]
 refine bodyPost_ret (v:=.tuple #[.agg #[.int .i64 0,.int .i64 0,.string ⟨#[]⟩,.bool false],.int .i64 1]) (by simp [results,Tryz.results19,go_sem,d0,d1,d2,d3]; try rfl) rfl ?_
 exact ⟨rfl,hTA,hFA⟩
set_option maxHeartbeats 4000000 in
set_option maxRecDepth 100000 in
theorem pdo_b3 (h:TabP B bt w s) (hn:decide (now < 0)=false) (hm:decide (549755813888 < now)=false) (ht:a.tag.length≤140737488355328) (hx:nextB s a.tag=false) :
  Calls Tryz.prog 19 #[.pointer (some ⟨bt,0,none⟩),.int .i64 now,askV a ts ns] w fun e w'=>e=.returned (.tuple #[tdV noTd,.int .i64 1])∧TabP B bt w' s∧FrP B w w':=by
 have hB:=h.lo;have HI:=hid (DoF.start (a:=a) (ts:=ts) (ns:=ns) h);clear h
 go_enter Tryz.func19,Tryz.ntmps19
 unfold askV
 go_upto_region 1 with fail
 generalize World.alloc (World.alloc _ _) _=W at HI ⊢;obtain ⟨a0,a1,a2,a3,a4,a5,a6,a7⟩:=bgA_of HI.out.ask;obtain ⟨z0,z1,z2,z3,f0,f1,f2,f3⟩:=HI.out.td.rc4;have KM:=hid HI.out.tab.made;go_wp2_with fail
 refine KM.out.mono ?_
 rintro e w2 ⟨rfl,hw2⟩;rw [hw2];clear hw2 KM w2;have KT:=hid (HI.out.tab.next (tag:=a.tag) ht);rw [hx] at KT;go_wp2_with fail
 refine KT.out.mono ?_
 rintro e w3 ⟨rfl,hw3⟩;rw [hw3];clear hw3 KT w3;have KEEP:=hid (HI.out.keep hB (.int .i64 0) (.int .i64 0) (.string ⟨#[]⟩) (.bool false));go_wp2;generalize World.setCell _ _ _=wA at KEEP ⊢;obtain ⟨⟨d0,d1,d2,d3,_,_,_,_⟩,hFA,hTA⟩:=KEEP.out
 try simp only [Exit.inBlock,Exit.then]
 refine bodyPost_ret (v:=.tuple #[.agg #[.int .i64 0,.int .i64 0,.string ⟨#[]⟩,.bool false],.int .i64 1]) (by simp [results,Tryz.results19,go_sem,d0,d1,d2,d3]; try rfl) rfl ?_
 exact ⟨rfl,hTA,hFA⟩
set_option maxHeartbeats 4000000 in
set_option maxRecDepth 100000 in
theorem pdo_b4 (h:TabP B bt w s) (hn:decide (now < 0)=false) (hm:decide (549755813888 < now)=false) (ht:a.tag.length≤140737488355328) (hx:nextB s a.tag=true) (hh:a.has=true) {cd:Int} (hc:checkD a.doc=cd) (hc0:(cd != 0)=true) (hsm:SmallD 140737488355328 a.doc) (hen:a.doc.entity.length+4≤1048576) (hcp:CapTu ts) (hts:∀ u,Below B w u → TusAt u ts a.doc.tuples∧StrsAt u ns a.doc.notes) :
  Calls Tryz.prog 19 #[.pointer (some ⟨bt,0,none⟩),.int .i64 now,askV a ts ns] w fun e w'=>e=.returned (.tuple #[tdV noTd,.int .i64 1])∧TabP B bt w' s∧FrP B w w':=by
 have HH:=hid hh;clear hh;have hB:=h.lo;have HI:=hid (DoF.start (a:=a) (ts:=ts) (ns:=ns) h);clear h
 go_enter Tryz.func19,Tryz.ntmps19
 unfold askV
 go_upto_region 1 with fail
 generalize World.alloc (World.alloc _ _) _=W at HI ⊢;obtain ⟨a0,a1,a2,a3,a4,a5,a6,a7⟩:=bgA_of HI.out.ask;obtain ⟨z0,z1,z2,z3,f0,f1,f2,f3⟩:=HI.out.td.rc4;have KM:=hid HI.out.tab.made;go_wp2_with fail
 refine KM.out.mono ?_
 rintro e w2 ⟨rfl,hw2⟩;rw [hw2];clear hw2 KM w2;have KT:=hid (HI.out.tab.next (tag:=a.tag) ht);rw [hx] at KT;go_wp2_with fail
 refine KT.out.mono ?_
 rintro e w3 ⟨rfl,hw3⟩;rw [hw3];clear hw3 KT w3;have KC:=hid (pcheck_any a.doc ts ns W hsm hen hcp (hts _ HI.out.fr.below).1 (hts _ HI.out.fr.below).2);unfold docV at KC;rw [hc] at KC;have hh:=HH.out;rw [hh] at a3;go_wp2_with fail
 refine KC.out.mono ?_
 rintro e w4 ⟨rfl,hb4⟩;replace HI:=hid (HI.out.step hb4);clear KC hb4;clear a0 a1 a2 a3 a4 a5 a6 a7 z0 z1 z2 z3 f0 f1 f2 f3;obtain ⟨a0,a1,a2,a3,a4,a5,a6,a7⟩:=bgA_of HI.out.ask;obtain ⟨z0,z1,z2,z3,f0,f1,f2,f3⟩:=HI.out.td.rc4;have KEEP:=hid (HI.out.keep hB (.int .i64 0) (.int .i64 0) (.string ⟨#[]⟩) (.bool false));go_wp2;generalize World.setCell _ _ _=wA at KEEP ⊢;obtain ⟨⟨d0,d1,d2,d3,_,_,_,_⟩,hFA,hTA⟩:=KEEP.out
 try simp only [Exit.inBlock,Exit.then]
 refine bodyPost_ret (v:=.tuple #[.agg #[.int .i64 0,.int .i64 0,.string ⟨#[]⟩,.bool false],.int .i64 1]) (by simp [results,Tryz.results19,go_sem,d0,d1,d2,d3]; try rfl) rfl ?_
 exact ⟨rfl,hTA,hFA⟩
set_option maxHeartbeats 4000000 in
set_option maxRecDepth 100000 in
theorem pdo_g0b (h:TabP B bt w s) (hn:decide (now < 0)=false) (hm:decide (549755813888 < now)=false) (ht:a.tag.length≤140737488355328) (hx:nextB s a.tag=true) (hmt:a.mt=[]) (hh:a.has=false) {s1:Sto} {td:Td} (hgo:∀ u,Below B w u → TabP B bt u s → Calls Tryz.prog 33 #[.pointer (some ⟨bt,0,none⟩),.int .i64 now,askV a ts ns] u fun e w'=>e=.returned (tdV td)∧TabP B bt w' s1∧FrP B u w') :
  Calls Tryz.prog 19 #[.pointer (some ⟨bt,0,none⟩),.int .i64 now,askV a ts ns] w fun e w'=>e=.returned (.tuple #[tdV td,.int .i64 0])∧TabP B bt w' s1∧FrP B w w':=by
 have HH:=hid hh;clear hh;have HM:=hid hmt;clear hmt;have hB:=h.lo;have HI:=hid (DoF.start (a:=a) (ts:=ts) (ns:=ns) h);clear h
 go_enter Tryz.func19,Tryz.ntmps19
 unfold askV
 go_upto_region 1 with fail
 generalize World.alloc (World.alloc _ _) _=W at HI ⊢;obtain ⟨a0,a1,a2,a3,a4,a5,a6,a7⟩:=bgA_of HI.out.ask;obtain ⟨z0,z1,z2,z3,f0,f1,f2,f3⟩:=HI.out.td.rc4;have KM:=hid HI.out.tab.made;go_wp2_with fail
 refine KM.out.mono ?_
 rintro e w2 ⟨rfl,hw2⟩;rw [hw2];clear hw2 KM w2;have KT:=hid (HI.out.tab.next (tag:=a.tag) ht);rw [hx] at KT;go_wp2_with fail
 refine KT.out.mono ?_
 rintro e w3 ⟨rfl,hw3⟩;rw [hw3];clear hw3 KT w3;have hh:=HH.out;rw [hh] at a3;have hmt:=HM.out;rw [hmt] at a1;have KG:=hid (hgo _ HI.out.fr.below HI.out.tab);unfold askV at KG;rw [hmt,HH.out] at KG;go_wp2_with fail
 refine KG.out.mono ?_
 rintro e w5 ⟨rfl,hT5,hF5⟩;replace HI:=hid (HI.out.did hT5 hF5);clear a0 a1 a2 a3 a4 a5 a6 a7 z0 z1 z2 z3 f0 f1 f2 f3 hT5 hF5 KG;obtain ⟨z0,z1,z2,z3,f0,f1,f2,f3⟩:=HI.out.td.rc4;have KEEP:=hid (HI.out.keep hB (.int .i64 td.status) (.int .i64 td.expires) (.string ⟨td.tag.toArray⟩) (.bool td.changed));unfold tdV;go_wp2;generalize World.setCell _ _ _=wA at KEEP ⊢;obtain ⟨⟨d0,d1,d2,d3,_,_,_,_⟩,hFA,hTA⟩:=KEEP.out
 try simp only [Exit.inBlock,Exit.then]
 refine bodyPost_ret (v:=.tuple #[.agg #[.int .i64 td.status,.int .i64 td.expires,.string ⟨td.tag.toArray⟩,.bool td.changed],.int .i64 0]) (by simp [results,Tryz.results19,go_sem,d0,d1,d2,d3]; try rfl) rfl ?_
 exact ⟨rfl,hTA,hFA⟩
set_option maxHeartbeats 4000000 in
set_option maxRecDepth 100000 in
theorem pdo_g0c (h:TabP B bt w s) (hn:decide (now < 0)=false) (hm:decide (549755813888 < now)=false) (ht:a.tag.length≤140737488355328) (hx:nextB s a.tag=true) {m0:UInt8} {mr:List UInt8} (hmt:a.mt=m0 :: mr) (hh:a.has=false) {s1:Sto} {td:Td} (hgo:∀ u,Below B w u → TabP B bt u s → Calls Tryz.prog 34 #[.pointer (some ⟨bt,0,none⟩),.int .i64 now,askV a ts ns] u fun e w'=>e=.returned (tdV td)∧TabP B bt w' s1∧FrP B u w') :
  Calls Tryz.prog 19 #[.pointer (some ⟨bt,0,none⟩),.int .i64 now,askV a ts ns] w fun e w'=>e=.returned (.tuple #[tdV td,.int .i64 0])∧TabP B bt w' s1∧FrP B w w':=by
 have HH:=hid hh;clear hh;have HM:=hid hmt;clear hmt;have hB:=h.lo;have HI:=hid (DoF.start (a:=a) (ts:=ts) (ns:=ns) h);clear h
 go_enter Tryz.func19,Tryz.ntmps19
 unfold askV
 go_upto_region 1 with fail
 generalize World.alloc (World.alloc _ _) _=W at HI ⊢;obtain ⟨a0,a1,a2,a3,a4,a5,a6,a7⟩:=bgA_of HI.out.ask;obtain ⟨z0,z1,z2,z3,f0,f1,f2,f3⟩:=HI.out.td.rc4;have KM:=hid HI.out.tab.made;go_wp2_with fail
 refine KM.out.mono ?_
 rintro e w2 ⟨rfl,hw2⟩;rw [hw2];clear hw2 KM w2;have KT:=hid (HI.out.tab.next (tag:=a.tag) ht);rw [hx] at KT;go_wp2_with fail
 refine KT.out.mono ?_
 rintro e w3 ⟨rfl,hw3⟩;rw [hw3];clear hw3 KT w3;have hh:=HH.out;rw [hh] at a3;have hmt:=HM.out;rw [hmt] at a1;have KG:=hid (hgo _ HI.out.fr.below HI.out.tab);unfold askV at KG;rw [hmt,HH.out] at KG;go_wp2_with fail
 refine KG.out.mono ?_
 rintro e w5 ⟨rfl,hT5,hF5⟩;replace HI:=hid (HI.out.did hT5 hF5);clear a0 a1 a2 a3 a4 a5 a6 a7 z0 z1 z2 z3 f0 f1 f2 f3 hT5 hF5 KG;obtain ⟨z0,z1,z2,z3,f0,f1,f2,f3⟩:=HI.out.td.rc4;have KEEP:=hid (HI.out.keep hB (.int .i64 td.status) (.int .i64 td.expires) (.string ⟨td.tag.toArray⟩) (.bool td.changed));unfold tdV;go_wp2;generalize World.setCell _ _ _=wA at KEEP ⊢;obtain ⟨⟨d0,d1,d2,d3,_,_,_,_⟩,hFA,hTA⟩:=KEEP.out
 try simp only [Exit.inBlock,Exit.then]
 refine bodyPost_ret (v:=.tuple #[.agg #[.int .i64 td.status,.int .i64 td.expires,.string ⟨td.tag.toArray⟩,.bool td.changed],.int .i64 0]) (by simp [results,Tryz.results19,go_sem,d0,d1,d2,d3]; try rfl) rfl ?_
 exact ⟨rfl,hTA,hFA⟩
set_option maxHeartbeats 4000000 in
set_option maxRecDepth 100000 in
theorem pdo_g1b (h:TabP B bt w s) (hn:decide (now < 0)=false) (hm:decide (549755813888 < now)=false) (ht:a.tag.length≤140737488355328) (hx:nextB s a.tag=true) (hmt:a.mt=[]) (hh:a.has=true) (hsm:SmallD 140737488355328 a.doc) (hen:a.doc.entity.length+4≤1048576) (hcp:CapTu ts) (hts:∀ u,Below B w u → TusAt u ts a.doc.tuples∧StrsAt u ns a.doc.notes) {cd:Int} (hc:checkD a.doc=cd) (hc0:(cd != 0)=false) {s1:Sto} {td:Td} (hgo:∀ u,Below B w u → TabP B bt u s → Calls Tryz.prog 33 #[.pointer (some ⟨bt,0,none⟩),.int .i64 now,askV a ts ns] u fun e w'=>e=.returned (tdV td)∧TabP B bt w' s1∧FrP B u w') :
  Calls Tryz.prog 19 #[.pointer (some ⟨bt,0,none⟩),.int .i64 now,askV a ts ns] w fun e w'=>e=.returned (.tuple #[tdV td,.int .i64 0])∧TabP B bt w' s1∧FrP B w w':=by
 have HH:=hid hh;clear hh;have HM:=hid hmt;clear hmt;have hB:=h.lo;have HI:=hid (DoF.start (a:=a) (ts:=ts) (ns:=ns) h);clear h
 go_enter Tryz.func19,Tryz.ntmps19
 unfold askV
 go_upto_region 1 with fail
 generalize World.alloc (World.alloc _ _) _=W at HI ⊢;obtain ⟨a0,a1,a2,a3,a4,a5,a6,a7⟩:=bgA_of HI.out.ask;obtain ⟨z0,z1,z2,z3,f0,f1,f2,f3⟩:=HI.out.td.rc4;have KM:=hid HI.out.tab.made;go_wp2_with fail
 refine KM.out.mono ?_
 rintro e w2 ⟨rfl,hw2⟩;rw [hw2];clear hw2 KM w2;have KT:=hid (HI.out.tab.next (tag:=a.tag) ht);rw [hx] at KT;go_wp2_with fail
 refine KT.out.mono ?_
 rintro e w3 ⟨rfl,hw3⟩;rw [hw3];clear hw3 KT w3;have KC:=hid (pcheck_any a.doc ts ns W hsm hen hcp (hts _ HI.out.fr.below).1 (hts _ HI.out.fr.below).2);unfold docV at KC;rw [hc] at KC;have hh:=HH.out;rw [hh] at a3;go_wp2_with fail
 refine KC.out.mono ?_
 rintro e w4 ⟨rfl,hb4⟩;replace HI:=hid (HI.out.step hb4);clear KC hb4;clear a0 a1 a2 a3 a4 a5 a6 a7 z0 z1 z2 z3 f0 f1 f2 f3;obtain ⟨a0,a1,a2,a3,a4,a5,a6,a7⟩:=bgA_of HI.out.ask;obtain ⟨z0,z1,z2,z3,f0,f1,f2,f3⟩:=HI.out.td.rc4;rw [hh] at a3;have hmt:=HM.out;rw [hmt] at a1;have KG:=hid (hgo _ HI.out.fr.below HI.out.tab);unfold askV at KG;rw [hmt,HH.out] at KG;go_wp2_with fail
 refine KG.out.mono ?_
 rintro e w5 ⟨rfl,hT5,hF5⟩;replace HI:=hid (HI.out.did hT5 hF5);clear a0 a1 a2 a3 a4 a5 a6 a7 z0 z1 z2 z3 f0 f1 f2 f3 hT5 hF5 KG;obtain ⟨z0,z1,z2,z3,f0,f1,f2,f3⟩:=HI.out.td.rc4;have KEEP:=hid (HI.out.keep hB (.int .i64 td.status) (.int .i64 td.expires) (.string ⟨td.tag.toArray⟩) (.bool td.changed));unfold tdV;go_wp2;generalize World.setCell _ _ _=wA at KEEP ⊢;obtain ⟨⟨d0,d1,d2,d3,_,_,_,_⟩,hFA,hTA⟩:=KEEP.out
 try simp only [Exit.inBlock,Exit.then]
 refine bodyPost_ret (v:=.tuple #[.agg #[.int .i64 td.status,.int .i64 td.expires,.string ⟨td.tag.toArray⟩,.bool td.changed],.int .i64 0]) (by simp [results,Tryz.results19,go_sem,d0,d1,d2,d3]; try rfl) rfl ?_
 exact ⟨rfl,hTA,hFA⟩
set_option maxHeartbeats 4000000 in
set_option maxRecDepth 100000 in
theorem pdo_g1c (h:TabP B bt w s) (hn:decide (now < 0)=false) (hm:decide (549755813888 < now)=false) (ht:a.tag.length≤140737488355328) (hx:nextB s a.tag=true) {m0:UInt8} {mr:List UInt8} (hmt:a.mt=m0 :: mr) (hh:a.has=true) (hsm:SmallD 140737488355328 a.doc) (hen:a.doc.entity.length+4≤1048576) (hcp:CapTu ts) (hts:∀ u,Below B w u → TusAt u ts a.doc.tuples∧StrsAt u ns a.doc.notes) {cd:Int} (hc:checkD a.doc=cd) (hc0:(cd != 0)=false) {s1:Sto} {td:Td} (hgo:∀ u,Below B w u → TabP B bt u s → Calls Tryz.prog 34 #[.pointer (some ⟨bt,0,none⟩),.int .i64 now,askV a ts ns] u fun e w'=>e=.returned (tdV td)∧TabP B bt w' s1∧FrP B u w') :
  Calls Tryz.prog 19 #[.pointer (some ⟨bt,0,none⟩),.int .i64 now,askV a ts ns] w fun e w'=>e=.returned (.tuple #[tdV td,.int .i64 0])∧TabP B bt w' s1∧FrP B w w':=by
 have HH:=hid hh;clear hh;have HM:=hid hmt;clear hmt;have hB:=h.lo;have HI:=hid (DoF.start (a:=a) (ts:=ts) (ns:=ns) h);clear h
 go_enter Tryz.func19,Tryz.ntmps19
 unfold askV
 go_upto_region 1 with fail
 generalize World.alloc (World.alloc _ _) _=W at HI ⊢;obtain ⟨a0,a1,a2,a3,a4,a5,a6,a7⟩:=bgA_of HI.out.ask;obtain ⟨z0,z1,z2,z3,f0,f1,f2,f3⟩:=HI.out.td.rc4;have KM:=hid HI.out.tab.made;go_wp2_with fail
 refine KM.out.mono ?_
 rintro e w2 ⟨rfl,hw2⟩;rw [hw2];clear hw2 KM w2;have KT:=hid (HI.out.tab.next (tag:=a.tag) ht);rw [hx] at KT;go_wp2_with fail
 refine KT.out.mono ?_
 rintro e w3 ⟨rfl,hw3⟩;rw [hw3];clear hw3 KT w3;have KC:=hid (pcheck_any a.doc ts ns W hsm hen hcp (hts _ HI.out.fr.below).1 (hts _ HI.out.fr.below).2);unfold docV at KC;rw [hc] at KC;have hh:=HH.out;rw [hh] at a3;go_wp2_with fail
 refine KC.out.mono ?_
 rintro e w4 ⟨rfl,hb4⟩;replace HI:=hid (HI.out.step hb4);clear KC hb4;clear a0 a1 a2 a3 a4 a5 a6 a7 z0 z1 z2 z3 f0 f1 f2 f3;obtain ⟨a0,a1,a2,a3,a4,a5,a6,a7⟩:=bgA_of HI.out.ask;obtain ⟨z0,z1,z2,z3,f0,f1,f2,f3⟩:=HI.out.td.rc4;rw [hh] at a3;have hmt:=HM.out;rw [hmt] at a1;have KG:=hid (hgo _ HI.out.fr.below HI.out.tab);unfold askV at KG;rw [hmt,HH.out] at KG;go_wp2_with fail
 refine KG.out.mono ?_
 rintro e w5 ⟨rfl,hT5,hF5⟩;replace HI:=hid (HI.out.did hT5 hF5);clear a0 a1 a2 a3 a4 a5 a6 a7 z0 z1 z2 z3 f0 f1 f2 f3 hT5 hF5 KG;obtain ⟨z0,z1,z2,z3,f0,f1,f2,f3⟩:=HI.out.td.rc4;have KEEP:=hid (HI.out.keep hB (.int .i64 td.status) (.int .i64 td.expires) (.string ⟨td.tag.toArray⟩) (.bool td.changed));unfold tdV;go_wp2;generalize World.setCell _ _ _=wA at KEEP ⊢;obtain ⟨⟨d0,d1,d2,d3,_,_,_,_⟩,hFA,hTA⟩:=KEEP.out
 try simp only [Exit.inBlock,Exit.then]
 refine bodyPost_ret (v:=.tuple #[.agg #[.int .i64 td.status,.int .i64 td.expires,.string ⟨td.tag.toArray⟩,.bool td.changed],.int .i64 0]) (by simp [results,Tryz.results19,go_sem,d0,d1,d2,d3]; try rfl) rfl ?_
 exact ⟨rfl,hTA,hFA⟩
end
theorem doS_bad {s:Sto} {now:Int} {a:Pa} (hb:badA s now a=true):doS s now a=(s,noTd,1):=by unfold doS; rw [if_pos hb]
theorem doS_code {s:Sto} {now:Int} {a:Pa} (hb:badA s now a=false):(doS s now a).2.2=0:=by
 unfold doS;rw [if_neg (by rw [hb]; simp)]
 repeat' split
 all_goals rfl
section
variable {B bt : Nat} {w w' : World} {s : Sto} {a : Pa} {ts ns : Value} {now : Int}
theorem pdo_any (h:TabP B bt w s) (hs:SmA a) (ht:a.tag.length≤140737488355328) (hl9:s.last≤1000000000)
  (hd:a.has=true → a.doc.entity.length+4≤1048576∧CapTu ts∧∀ u,Below B w u → TusAt u ts a.doc.tuples∧StrsAt u ns a.doc.notes) :
  Calls Tryz.prog 19 #[.pointer (some ⟨bt,0,none⟩),.int .i64 now,askV a ts ns] w fun e w'=>e=.returned (.tuple #[tdV (doS s now a).2.1,.int .i64 (doS s now a).2.2])∧TabP B bt w' (doS s now a).1∧FrP B w w':=by
 have hbn:=badA_next s now a
 have hgb:badA s now a=false → a.mt=[] → ∀ u,Below B w u → TabP B bt u s → Calls Tryz.prog 33 #[.pointer (some ⟨bt,0,none⟩),.int .i64 now,askV a ts ns] u fun e w'=>e=.returned (tdV (doS s now a).2.1)∧TabP B bt w' (doS s now a).1∧FrP B u w' :=
  fun hb hm u hu hT=>pbegin_did hT hs hb hm hl9 fun hh u' hu'=>(hd hh).2.2 u' (hu.trans hu')
 have hgc:badA s now a=false → a.mt ≠ [] → ∀ u,Below B w u → TabP B bt u s → Calls Tryz.prog 34 #[.pointer (some ⟨bt,0,none⟩),.int .i64 now,askV a ts ns] u fun e w'=>e=.returned (tdV (doS s now a).2.1)∧TabP B bt w' (doS s now a).1∧FrP B u w' :=
  fun hb hm u hu hT=>pchange_did hT hs hb hm fun hh u' hu'=>(hd hh).2.2 u' (hu.trans hu')
 cases h1:decide (now < 0) with
 | true =>
  rw [h1] at hbn;rw [doS_bad (show badA s now a=true by rw [hbn]; rfl)];exact pdo_b1 h h1
 | false =>
  cases h2:decide (549755813888 < now) with
  | true =>
   rw [h1,h2] at hbn;rw [doS_bad (show badA s now a=true by rw [hbn]; rfl)];exact pdo_b2 h h1 h2
  | false =>
   cases h3:nextB s a.tag with
   | false =>
    rw [h1,h2,h3] at hbn;rw [doS_bad (show badA s now a=true by rw [hbn]; rfl)];exact pdo_b3 h h1 h2 ht h3
   | true =>
    cases hh:a.has with
    | false =>
     rw [h1,h2,h3,hh] at hbn;have hb:badA s now a=false:=by rw [hbn]; rfl
     rw [doS_code hb]
     cases hm:a.mt with
     | nil=>exact pdo_g0b h h1 h2 ht h3 hm hh (hgb hb hm)
     | cons m0 mr=>exact pdo_g0c h h1 h2 ht h3 hm hh (hgc hb (by rw [hm]; simp))
    | true =>
     obtain ⟨hen,hcp,hts⟩:=hd hh;by_cases hc:checkD a.doc=0
     ·rw [h1,h2,h3,hh,decide_eq_true hc] at hbn;have hb:badA s now a=false:=by rw [hbn]; rfl
      rw [doS_code hb]
      cases hm:a.mt with
      | nil=>exact pdo_g1b h h1 h2 ht h3 hm hh hs.doc hen hcp hts hc rfl (hgb hb hm)
      | cons m0 mr=>exact pdo_g1c h h1 h2 ht h3 hm hh hs.doc hen hcp hts hc rfl (hgc hb (by rw [hm]; simp))
     ·rw [h1,h2,h3,hh,decide_eq_false hc] at hbn;rw [doS_bad (show badA s now a=true by rw [hbn]; rfl)];exact pdo_b4 h h1 h2 ht h3 hh rfl (by simpa using hc) hs.doc hen hcp hts
end
theorem makeNp (u:World):(Instr.makeMap 53 none).run Tryz.prog u=.ok (.map (some u.heap.size)) (u.alloc (.map #[] 0)):=by kernel_rfl
theorem makeAp (u:World):(Instr.makeMap 54 none).run Tryz.prog u=.ok (.map (some u.heap.size)) (u.alloc (.map #[] 0)):=by kernel_rfl
theorem HQ.lowerp {bw m B B':Nat} {v:Value} {w:World} {f:Nat → It} {n:Nat} (h:HQ bw m B v w f n) (hB:B'≤B):HQ bw m B' v w f n :=
 ⟨h.wheel,sv_mono h.own hB,h.item,h.inj,fun i hi=>Nat.le_trans hB (h.lo i hi)⟩
theorem WWm.lowerp {m bw B B':Nat} {w:World} {l:List Tm} (h:WWm m B bw w l) (hB:B'≤B):WWm m B' bw w l:=by
 obtain ⟨v,f,n,D,h,h4⟩:=h;exact ⟨v,f,n,D,⟨h.q.lowerp hB,h.k,h.mp,h.has,h.at',h.size,Nat.le_trans hB h.wlo,Nat.le_trans hB h.mlo,h.wf⟩,h4⟩
structure NewN (B:Nat) (u:World) (mn:Nat):Prop where
 lo:B≤mn
 own:u.ownsMap Tryz.prog 9 numP mn 0 (.map [])
theorem NewN.new {B mn:Nat} {u:World} (hk:mn=u.heap.size) (hB:B≤u.heap.size):NewN B (u.alloc (.map #[] 0)) mn:=⟨by omega,by rw [hk]; exact World.ownsMap_made u _ _ _⟩
theorem NewN.alloc {B mn:Nat} {u:World} (h:NewN B u mn) (o:Obj):NewN B (u.alloc o) mn:=⟨h.lo,h.own.alloc o⟩
structure NewA (B:Nat) (u:World) (ma:Nat):Prop where
 lo:B≤ma
 own:u.ownsMap Tryz.prog 3 pbE ma 0 (.map [])
theorem NewA.new {B mn:Nat} {u:World} (hk:mn=u.heap.size) (hB:B≤u.heap.size):NewA B (u.alloc (.map #[] 0)) mn:=⟨by omega,by rw [hk]; exact World.ownsMap_made u _ _ _⟩
theorem NewA.alloc {B mn:Nat} {u:World} (h:NewA B u mn) (o:Obj):NewA B (u.alloc o) mn:=⟨h.lo,h.own.alloc o⟩
theorem WWm.new1 {B be mw:Nat} {u:World} (hk:mw=u.heap.size) (hb:be=mw+1) (hB:B≤u.heap.size):WWm mw B be ((u.alloc (.map #[] 0)).alloc (.cells #[.slice none 0 0,.map (some mw)] 106)) []:=by
 subst hb hk;exact (WWm.begin u).lowerp hB
theorem WWm.alloc1 {B be mw:Nat} {u:World} (h:WWm mw B be u []) (o:Obj):WWm mw B be (u.alloc o) [] :=
 h.chg (S:=fun _=>False) (chg_below ((Below.refl _ u).alloc (Nat.le_refl _) o)) fun _ _ x=>x.elim
theorem pnew_fin {B b mn ma be mw:Nat} {u:World} {c:Cf} (hr:rightC c=true) (h1:NewN B u mn) (h2:NewA B u ma) (h3:WWm mw B be u []) (hb:b=u.heap.size) (n1:mn ≠ ma) (n2:mn ≠ mw) (n3:ma ≠ mw) (hB:B≤u.heap.size) :
  TabP B b (u.alloc (.cells #[.string ⟨#[]⟩,.int .i64 c.calls,.int .i64 c.pubs,.int .i64 c.subs,.int .i64 c.least,.int .i64 c.most,.int .i64 c.usual,.int .i64 0,.map (some mn),.map (some ma),.pointer (some ⟨be,0,none⟩)] 57)).drew ⟨c,0,[]⟩:=by
 generalize hO:(Obj.cells _ 57)=O;have hbl:Below u.heap.size u (u.alloc O).drew:=((Below.refl _ u).alloc (Nat.le_refl _) O).drew;have bel:∀ {k:TypeId} {R:Value → Option (DataW Unit × List MemPlace)} {b n:Nat} {D:DataW Unit},u.ownsMap Tryz.prog k R b n D → (u.alloc O).drew.ownsMap Tryz.prog k R b n D:=fun h=>own_chg h (chg_below (S:=fun _=>False) hbl) (fun x=>x);refine ⟨hr,StOK.nil hr,mn,ma,be,mw,[],[],rfl,fun x hx=>by simp at hx,fun x hx=>by simp at hx,⟨?_,⟨_,bel h1.own,MpG.nil _ _⟩,⟨_,bel h2.own,MpG.nil _ _⟩,?_,n1,n2,n3,by omega,h1.lo,h2.lo⟩,List.Perm.refl _⟩
 ·show RowIs (u.alloc O) b 57 _
  unfold RowIs;rw [hb,heap_alloc_new,← hO]
  rfl
 ·exact h3.chg (S:=fun _=>False) (chg_below hbl) fun _ _ x=>x.elim
theorem belowA {a w:World} (h:Below a.heap.size a w) (o:Obj):Below a.heap.size a (w.alloc o):=h.alloc h.size o
end Go.Proofs.YtbmjodlbkgblpaaGreatDoor
