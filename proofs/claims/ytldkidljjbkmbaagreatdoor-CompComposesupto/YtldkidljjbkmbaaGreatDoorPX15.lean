/-
  PC3, PC4, CpC, OpenPb.
-/
import Derived.Test.YtldkidljjbkmbaaGreatDoorPX14
set_option linter.unusedVariables false
set_option linter.unusedSimpArgs false
set_option maxRecDepth 20000
namespace Go.Proofs.YtldkidljjbkmbaaGreatDoor
open Go.RowKit Go.Sort Go.Lib Sc
set_option maxHeartbeats 2000000 in
set_option maxRecDepth 100000 in
theorem ptups_any (v:Value) (ts:List Tu) (w:World) (hz:ts.length≤140737488355328) (hst:∀ t ∈ ts,SmallT 140737488355328 t) (hcp:CapTu v) (hv:TusAt w v ts) :
  Calls Tryz.prog 32 #[v] w fun e w'=>e=.returned (.bool (decide (ts.length≤16) && tupsOk ts))∧Below w.heap.size w w':=by
 have HV:=hid (fun w' (hb:Below w.heap.size w w')=>hv.below hb);obtain ⟨ao,cap,hvf,hc⟩:=hv;have HC:=hid hc;have HST:=hid hst;obtain ⟨tn,htn⟩:∃ tn,tn=ts.length:=⟨_,rfl⟩
 rw [← htn] at hz hvf ⊢;subst hvf;have hcap:tn≤cap:=hcp _ _ _ rfl;have HTN:=hid htn;by_cases h16:16 < tn
 ·have q2:(16:Int) < (tn:Int):=by omega
  rw [decide_eq_false (p:=tn≤16) (by omega),Bool.false_and];clear HC HST HV hc hst hcp htn
  go_enter Tryz.func32,Tryz.ntmps32
  go_wp2;go_ret;exact ⟨rfl,Below.refl _ _⟩
 have q2:¬ (16:Int) < (tn:Int):=by omega
 rw [decide_eq_true (p:=tn≤16) (by omega),Bool.true_and];have HBT:Hid (∀ j (hj:j < ts.length),tupP ts[j]=false → tupsOk ts=false):=fun j hj h=>tups_bad hj h
 have HTW:Hid (∀ j (hj:j < ts.length),hasT ts[j].id (ts.take j)=true → tupsOk ts=false):=fun j hj h=>by
  unfold hasT at h;obtain ⟨q,hq,he⟩:=List.any_eq_true.1 h;obtain ⟨m,hm,rfl⟩:=List.mem_iff_getElem.1 hq;rw [List.length_take] at hm;rw [List.getElem_take] at he;exact tups_twice hj (m:=m) (by omega) he
 have HSN:Hid (∀ j (hj:j < ts.length),tupsOk (ts.take j)=true → tupP ts[j]=true → hasT ts[j].id (ts.take j)=false → tupsOk (ts.take (j+1))=true):=fun j hj h1 h2 h3=>tups_snoc hj h1 h2 (by rw [hasT_not,h3]; rfl);have HT:Hid (∀ j,tn≤j → tupsOk (ts.take j)=true → tupsOk ts=true):=fun j hj h=>by rw [List.take_of_length_le (by omega)] at h; exact h
 generalize tupsOk ts=R at HBT HTW HT ⊢;clear hc hst hcp htn
 go_enter Tryz.func32,Tryz.ntmps32
 go_wp2
 go_loopw [10] (fun i wr=>∃ j:Nat,j≤tn∧i=.int .i64 j∧Hid (tupsOk (ts.take j)=true)∧Below w.heap.size w wr) (fun i _=>tn - (RowKit.intOf i).toNat)
 case atStart=>exact ⟨0,Nat.zero_le _,rfl,show _=_ from rfl,Below.refl _ _⟩
 case round =>
  obtain ⟨j,hjn,rfl,ha,hb⟩:=hrel;by_cases hlt:j < tn
  ·have hjl:j < ts.length:=by have:=HTN.out; omega
   obtain ⟨ad,hao,hab,c⟩:=HC.out j hjl;subst hao;have c:=c.below hb hab;have hsm:=HST.out ts[j] (List.getElem_mem hjl);have HVj:=hid (fun w' (hb':Below w.heap.size w w')=>tusAt_take HTN.out (HV.out w' hb') j cap (by omega));have h1:=hid (HBT.out j hjl);have h2:=hid (HTW.out j hjl);have h3:=hid (HSN.out j hjl ha.out);have hpr:=i64_of hsm.2.2.2;have hpl:(ts.take j).length≤1000:=by rw [List.length_take]; omega
   clear HBT HTW HSN HT HC HST ha HV;generalize ts.take j=P at HVj h2 h3 hpl;have KM0:=hid (fun w'=>pmay_any ts[j] w' hsm);have KH0:=hid (fun w' (hb':Below w.heap.size w w')=>phas_any _ P ts[j].id w' hpl (HVj.out w' hb'));generalize ts[j]=T at c h1 h2 h3 hpr KM0 KH0;clear hsm HVj;obtain ⟨ti,tb,tk,tp,tnn⟩:=T;obtain ⟨c0,c1,c2,c3,c4⟩:=c;unfold tuV at KM0;simp only at c0 c1 c2 c3 c4 h1 h2 h3 hpr KM0 KH0;have q6:(j:Int) < (tn:Int):=by omega
   have q7:(j:Int)≤(cap:Int):=by omega
   have q8:¬ (j:Int) < 0:=by omega
   obtain ⟨W2,hW2⟩:∃ W2,W2=wr.alloc (.cells #[.string ⟨ti.toArray⟩,.bool tb,.string ⟨tk.toArray⟩,.int .i64 tp,.string ⟨tnn.toArray⟩] 48):=⟨_,rfl⟩
   have hbW:Below w.heap.size w W2:=by rw [hW2]; exact hb.alloc hb.size _
   have hrT:RowIs W2 wr.heap.size 48 [.string ⟨ti.toArray⟩,.bool tb,.string ⟨tk.toArray⟩,.int .i64 tp,.string ⟨tnn.toArray⟩]:=by rw [hW2]; exact rc_row5 _ _ _ _ _ _ _
   go_wp2;clear c0 c1 c2 c3 c4;rw [← hW2];clear hW2;obtain ⟨b0,b1,b2,b3,b4,_,_,_,_,_⟩:=hrT.rc5;replace b0:=cell_regrown b0;replace b1:=cell_regrown b1;replace b2:=cell_regrown b2;replace b3:=cell_regrown b3;replace b4:=cell_regrown b4;have cM:=hid (fun (d:Nat) (os:Array Obj)=>Calls.regrown_of (KM0.out (grow (redrawn W2 d) os)));have cH:=hid (fun (d:Nat) (os:Array Obj)=>Calls.regrown_of (KH0.out (grow (redrawn W2 d) os) (below_re5 hbW d os)));clear KM0 KH0
   cases hM:tupP ⟨ti,tb,tk,tp,tnn⟩ with
   | false =>
    rw [hM] at cM;have hR:Hid (R=false):=h1.out hM;clear h1 h2 h3 cH;refine wp_region_quiet_below followsMixed5 (by kernel_rfl) ?_
    repeat (go_big_quiet_step (with_reducible exact cM.out _ _))
    refine wpQuiet_nil ?_
    intro _ hw';obtain ⟨⟨dq,osq⟩,hw''⟩:=hw';subst hw'';have hb1:=below_re5 hbW dq osq;clear cM b0 b1 b2 b3 b4;go_wp2;go_ret;exact ⟨ret_bool hR.out.symm,hb1⟩
   | true =>
    rw [hM] at cM
    cases hH:hasT ti P with
    | true =>
     rw [hH] at cH;have hR:Hid (R=false):=h2.out hH;clear h1 h2 h3;refine wp_region_quiet_below followsMixed5 (by kernel_rfl) ?_
     repeat (go_big_quiet_step (first | with_reducible exact cM.out _ _ | with_reducible exact cH.out _ _))
     refine wpQuiet_nil ?_
     intro _ hw';obtain ⟨⟨dq,osq⟩,hw''⟩:=hw';subst hw'';have hb1:=below_re5 hbW dq osq;clear cM cH b0 b1 b2 b3 b4;go_wp2;go_ret;exact ⟨ret_bool hR.out.symm,hb1⟩
    | false =>
     rw [hH] at cH;have hA:Hid (tupsOk (ts.take (j+1))=true):=h3.out hM hH;clear h1 h2 h3;refine wp_region_quiet_below followsMixed5 (by kernel_rfl) ?_
     repeat (go_big_quiet_step (first | with_reducible exact cM.out _ _ | with_reducible exact cH.out _ _))
     refine wpQuiet_nil ?_
     intro _ hw';obtain ⟨⟨dq,osq⟩,hw''⟩:=hw';subst hw'';have hb1:=below_re5 hbW dq osq;clear cM cH b0 b1 b2 b3 b4;go_wp2;go_roundw
     case rel=>exact ⟨j+1,by omega,by go_num,hA,hb1⟩
     case measure=>simp [RowKit.intOf]; omega
  ·have hR:Hid (R=true):=HT.out j (by omega) ha.out;have q6:¬ (j:Int) < (tn:Int):=by omega
   clear HBT HTW HSN HT HC HST ha HV;go_wp2;go_ret;exact ⟨ret_bool hR.out.symm,hb⟩
set_option maxHeartbeats 2000000 in
set_option maxRecDepth 100000 in
theorem pnotes_any (v:Value) (ns:List (List UInt8)) (w:World) (hz:ns.length≤140737488355328) (hsn:∀ s ∈ ns,s.length≤140737488355328) (hv:StrsAt w v ns) :
  Calls Tryz.prog 33 #[v] w fun e w'=>e=.returned (.bool (decide (ns.length≤16) && ns.all noteP))∧Below w.heap.size w w':=by
 obtain ⟨ao,cap,hvf,hc⟩:=hv;have HC:=hid hc;have HSN:=hid hsn;obtain ⟨nn,hnn⟩:∃ nn,nn=ns.length:=⟨_,rfl⟩
 rw [← hnn] at hz hvf ⊢;subst hvf;have HNN:=hid hnn;by_cases h16:16 < nn
 ·have q2:(16:Int) < (nn:Int):=by omega
  rw [decide_eq_false (p:=nn≤16) (by omega),Bool.false_and];clear HC HSN hc hsn hnn
  go_enter Tryz.func33,Tryz.ntmps33
  go_wp2;go_ret;exact ⟨rfl,Below.refl _ _⟩
 have q2:¬ (16:Int) < (nn:Int):=by omega
 rw [decide_eq_true (p:=nn≤16) (by omega),Bool.true_and]
 have HB:Hid (∀ j (hj:j < ns.length),noteP ns[j]=false → ns.all noteP=false):=fun j hj h=>by
  rw [List.all_eq_false];exact ⟨_,List.getElem_mem hj,by rw [h]; simp⟩
 have HS:Hid (∀ j (hj:j < ns.length),(ns.take j).all noteP=true → noteP ns[j]=true → (ns.take (j+1)).all noteP=true):=fun j hj h1 h2=>by
  rw [List.take_succ_eq_append_getElem hj,List.all_append,h1]
  simp [h2]
 have HT:Hid (∀ j,nn≤j → (ns.take j).all noteP=true → ns.all noteP=true):=fun j hj h=>by rw [List.take_of_length_le (by omega)] at h; exact h
 generalize ns.all noteP=R at HB HT ⊢;clear hc hsn hnn
 go_enter Tryz.func33,Tryz.ntmps33
 go_wp2
 go_loopw [10] (fun i wr=>∃ j:Nat,j≤nn∧i=.int .i64 j∧Hid ((ns.take j).all noteP=true)∧Below w.heap.size w wr) (fun i _=>nn - (RowKit.intOf i).toNat)
 case atStart=>exact ⟨0,Nat.zero_le _,rfl,show _=_ from rfl,Below.refl _ _⟩
 case round =>
  obtain ⟨j,hjn,rfl,ha,hb⟩:=hrel;by_cases hlt:j < nn
  ·have hjl:j < ns.length:=by have:=HNN.out; omega
   obtain ⟨ad,hao,hab,c⟩:=HC.out j hjl;subst hao;have c:=cell_below hb (by rw [add_block]; exact hab) c;have KT:=hid (fun w'=>ptext_any ns[j] w' (HSN.out _ (List.getElem_mem hjl)));have hnv:noteP ns[j]=(!ns[j].isEmpty && textP ns[j]):=rfl;have h1:=hid (HB.out j hjl);have h2:=hid (HS.out j hjl ha.out);clear HB HS HT HC HSN ha;generalize ns[j]=s at c KT hnv h1 h2;generalize noteP s=NP at hnv h1 h2;have q6:(j:Int) < (nn:Int):=by omega
   cases hE:s.isEmpty with
   | true =>
    have e:s=[]:=by cases s <;> simp_all
    have hR:Hid (R=false):=h1.out (by rw [hnv,hE]; rfl);subst e;clear h1 h2 KT hnv;go_wp2;go_ret;exact ⟨ret_bool hR.out.symm,hb⟩
   | false =>
    have hne:(s==[])=false:=by cases s <;> simp_all
    rw [hE] at hnv;go_wp2_with fail
    refine (KT.out _).mono ?_
    rintro e w1 ⟨rfl,hw1⟩;have hb1:=hb.trans (hw1.mono hb.size);clear c KT hb hw1
    cases hT:textP s with
    | false =>
     have hR:Hid (R=false):=h1.out (by rw [hnv,hT]; rfl);clear h1 h2 hnv;go_wp2;go_ret;exact ⟨ret_bool hR.out.symm,hb1⟩
    | true =>
     have hA:Hid ((ns.take (j+1)).all noteP=true):=h2.out (by rw [hnv,hT]; rfl);clear h1 h2 hnv;go_wp2;go_roundw
     case rel=>exact ⟨j+1,by omega,by go_num,hA,hb1⟩
     case measure=>simp [RowKit.intOf]; omega
  ·have hR:Hid (R=true):=HT.out j (by omega) ha.out;have q6:¬ (j:Int) < (nn:Int):=by omega
   clear HB HS HT HC HSN ha;go_wp2;go_ret;exact ⟨ret_bool hR.out.symm,hb⟩
theorem checkD_is (d:Dc):checkD d=if (hostV d.entity).2 ≠ 0 then 140 else if (decide (d.tuples.length≤16) && tupsOk d.tuples)=false then 140 else if (decide (d.notes.length≤16) && d.notes.all noteP)=false then 140 else 0:=by
 by_cases h1:(hostV d.entity).2=0
 case neg =>
  rw [if_pos h1];unfold checkD;rw [if_pos (.inl h1)]
 rw [if_neg (by simp [h1])];by_cases h2:d.tuples.length≤16
 case neg =>
  rw [decide_eq_false h2,Bool.false_and,if_pos rfl];unfold checkD;rw [if_pos (.inr (.inl (by omega)))]
 rw [decide_eq_true h2,Bool.true_and];by_cases h3:d.notes.length≤16
 case neg =>
  rw [decide_eq_false h3,Bool.false_and];unfold checkD;rw [if_pos (.inr (.inr (by omega)))]
  simp
 rw [decide_eq_true h3,Bool.true_and,chkD_is h1 h2 h3]
 cases tupsOk d.tuples <;> cases d.notes.all noteP <;> simp
set_option maxHeartbeats 2000000 in
set_option maxRecDepth 100000 in
theorem pcheck_any (d:Dc) (ts ns:Value) (w:World) (hsm:SmallD 140737488355328 d) (hen:d.entity.length+4≤1048640) (hcp:CapTu ts) (hts:TusAt w ts d.tuples) (hns:StrsAt w ns d.notes) :
  Calls Tryz.prog 17 #[docV d ts ns] w fun e w'=>e=.returned (.int .i64 (checkD d))∧Below w.heap.size w w':=by
 have hv:=checkD_is d;generalize checkD d=R at hv ⊢;obtain ⟨en,tl,nl⟩:=d;obtain ⟨_,hz1,hz2,hst,hsn⟩:=hsm;simp only at hz1 hz2 hst hsn hen hts hns hv;have KH:=hid (fun w'=>samehost_any en w' hen);have KT:=hid (fun w' (hb:Below w.heap.size w w')=>ptups_any ts tl w' hz1 hst hcp (hts.below hb));have KN:=hid (fun w' (hb:Below w.heap.size w w')=>pnotes_any ns nl w' hz2 hsn (hns.below hb));unfold docV
 simp only
 obtain ⟨ta,tc,hf1,htc⟩:=hts;obtain ⟨na,nc,hf2,hnc⟩:=hns;obtain ⟨tn,htn⟩:∃ tn,tn=tl.length:=⟨_,rfl⟩
 obtain ⟨nn,hnn⟩:∃ nn,nn=nl.length:=⟨_,rfl⟩
 rw [← htn] at hf1;rw [← hnn] at hf2;subst hf1 hf2;clear htc hnc hst hsn htn hnn hz1 hz2 hcp;generalize (decide (tl.length≤16) && tupsOk tl)=T at KT hv;generalize (decide (nl.length≤16) && nl.all noteP)=N at KN hv;generalize hostV en=HV at KH hv;obtain ⟨hs,he⟩:=HV;simp only at KH hv;have HR:=hid hv;clear hv;have hbn:Below w.heap.size w (w.alloc (.cells #[.string ⟨en.toArray⟩,.slice ta tn tc,.slice na nn nc] 28)):=(Below.refl _ w).alloc (Nat.le_refl _) _;have hbr:=rc_row3 w (.string ⟨en.toArray⟩) (.slice ta tn tc) (.slice na nn nc) 28;have hlt0:=alloc_lt w (.cells #[.string ⟨en.toArray⟩,.slice ta tn tc,.slice na nn nc] 28)
 go_enter Tryz.func17,Tryz.ntmps17
 go_wp2_with fail
 generalize World.alloc w _=W0 at hbn hbr hlt0 ⊢;refine (KH.out _).mono ?_
 rintro e w1 ⟨rfl,hw1⟩;have hb1:=hbn.trans (hw1.mono hbn.size);have hr1:=hbr.below hw1 hlt0;have hlt1:=Nat.lt_of_lt_of_le hlt0 hw1.size;clear KH hbn hbr hlt0 hw1;obtain ⟨y0,y1,y2,_,_,_⟩:=hr1.rc3;by_cases h1:he=0
 case neg =>
  have q1:(he != 0)=true:=by simpa using h1
  have hR:Hid (R=140):=show _=_ by rw [HR.out,if_pos h1]
  clear HR h1;go_wp2;go_ret;exact ⟨ret_int hR.out.symm,hb1⟩
 subst h1;go_wp2_with fail
 refine (KT.out _ hb1).mono ?_
 rintro e w2 ⟨rfl,hw2⟩;have hb2:=hb1.trans (hw2.mono hb1.size);have hr2:=hr1.below hw2 hlt1;clear KT hb1 hr1 hlt1 hw2 y0 y1 y2;obtain ⟨y0,y1,y2,_,_,_⟩:=hr2.rc3
 cases T with
 | false =>
  have hR:Hid (R=140):=show _=_ by rw [HR.out,if_neg (by simp),if_pos rfl]
  clear HR;go_wp2;go_ret;exact ⟨ret_int hR.out.symm,hb2⟩
 | true =>
  go_wp2_with fail
  refine (KN.out _ hb2).mono ?_
  rintro e w3 ⟨rfl,hw3⟩;have hb3:=hb2.trans (hw3.mono hb2.size)
  cases N with
  | false =>
   have hR:Hid (R=140):=show _=_ by rw [HR.out,if_neg (by simp),if_neg (by simp),if_pos rfl]
   clear HR;go_wp2;go_ret;exact ⟨ret_int hR.out.symm,hb3⟩
  | true =>
   have hR:Hid (R=0):=show _=_ by rw [HR.out,if_neg (by simp),if_neg (by simp),if_neg (by simp)]
   clear HR;go_wp2;go_ret;exact ⟨ret_int hR.out.symm,hb3⟩
end Go.Proofs.YtldkidljjbkmbaaGreatDoor
namespace Go.Proofs.YtldkidljjbkmbaaGreatDoor
open Go.RowKit Sc
def chkAll (who:List UInt8) (l:List Pb):Int:=if checkD ⟨who,[],[]⟩ ≠ 0 then checkD ⟨who,[],[]⟩ else chkC 0 l
structure PbsOk (w:World) (cs:List PbC):Prop where
 docs:DocsAt w cs
 cap:∀ c ∈ cs,CapTu c.ts
 small:∀ c ∈ cs,SmallD 140737488355328 c.p.doc∧c.p.doc.entity.length+4≤1048640
theorem PbsOk.below {w w':World} {cs:List PbC} (h:PbsOk w cs) (hb:Below w.heap.size w w'):PbsOk w' cs:=⟨h.docs.below hb,h.cap,h.small⟩
theorem chk_drop {cs:List PbC} {k:Nat} (hk:k < cs.length) (last:Int):chkC last (pbsL (cs.drop k))=if cs[k].p.num≤last then 1 else if checkD cs[k].p.doc ≠ 0 then checkD cs[k].p.doc else chkC cs[k].p.num (pbsL (cs.drop (k+1))):=by
 rw [List.drop_eq_getElem_cons hk]
 rfl
set_option maxHeartbeats 4000000 in
set_option maxRecDepth 100000 in
theorem ccheck_any {w:World} {who:List UInt8} {v:Value} {cs:List PbC} (hv:PbsAt w v cs) (ho:PbsOk w cs) (hw:who.length+4≤1048640) (hn:cs.length≤2000000) :
  Calls Tryz.prog 19 #[.string ⟨who.toArray⟩,v] w fun e w'=>e=.returned (.int .i64 (chkAll who (pbsL cs)))∧Below w.heap.size w w':=by
 have KD:=hid (fun (u:World)=>pcheck_any ⟨who,[],[]⟩ (.slice none 0 0) (.slice none 0 0) u ⟨by show who.length≤_; omega,by simp,by simp,by simp,by simp⟩ hw (fun a n c e=>by injection e; omega) ⟨none,0,rfl,fun k hk=>by simp at hk⟩ ⟨none,0,rfl,fun k hk=>by simp at hk⟩);have HV:=hid hv;have HO:=hid ho;obtain ⟨oa,cap,rfl,_⟩:=hv;obtain ⟨n,hnn⟩:∃ n,n=cs.length:=⟨_,rfl⟩
 have HN:=hid hnn;rw [← hnn] at hn ⊢;unfold chkAll;unfold docV at KD;simp only at KD;generalize hR:checkD ⟨who,[],[]⟩=R at KD ⊢;clear hR ho hnn;by_cases h0:R ≠ 0
 ·rw [if_pos h0];have h0':(R != 0)=true:=by simpa using h0
  go_enter Tryz.func19,Tryz.ntmps19
  go_wp2_with fail
  refine (KD.out _).mono ?_
  rintro e w1 ⟨rfl,hb1⟩;go_wp2;go_ret;exact ⟨rfl,hb1⟩
 ·have h0':R=0:=Classical.byContradiction h0;subst h0';rw [if_neg h0];have KC:=hid (fun (u:World) (c:PbC) (hc:c ∈ cs) (hb:Below w.heap.size w u)=>pcheck_any c.p.doc c.ts c.ns u (HO.out.small c hc).1 (HO.out.small c hc).2 (HO.out.cap c hc) ((HO.out.docs.below hb) c hc).1 ((HO.out.docs.below hb) c hc).2);unfold docV at KC
  go_enter Tryz.func19,Tryz.ntmps19
  go_wp2_with fail
  refine (KD.out _).mono ?_
  rintro e w1 ⟨rfl,hb1⟩;have HB:=hid hb1;clear KD hb1 h0;go_wp2
  go_loopw [18,6] (fun i l wr=>∃ (k:Nat) (last:Int),k≤n∧i=.int .i64 k∧l=.int .i64 last∧Hid (chkC 0 (pbsL cs)=chkC last (pbsL (cs.drop k)))∧Hid (Below w.heap.size w wr)) (fun i _ _=>n - (intOf i).toNat)
  case atStart=>exact ⟨0,0,by omega,rfl,rfl,rfl,HB⟩
  case round =>
   clear HB;obtain ⟨k,last,hk,rfl,rfl,HC,HB⟩:=hrel;by_cases hlt:k < n
   ·have hlt':(k:Int) < (n:Int):=by omega
    have hkl:k < cs.length:=by rw [← HN.out]; exact hlt
    obtain ⟨oa',cap',hv',_,hat⟩:=HV.out;obtain ⟨ad,hoa,hab,hpb⟩:=hat k hkl
    injection hv' with g1 g2 g3
    subst g1;subst hoa;obtain ⟨c0,c1,c2,c3,c4,c5,c6⟩:=(hpb.below HB.out hab).seven;have HS:=hid (chk_drop hkl last);have hm:=List.getElem_mem hkl;have HDC:=hid (HO.out.docs _ hm);have KCk:=hid (fun (u:World) (hb:Below w.heap.size w u)=>KC.out u cs[k] hm hb);generalize cs[k]=c at c0 c1 c2 c3 c4 c5 c6 HS HDC KCk;obtain ⟨⟨ta,tc,hts,_⟩,⟨na,nc,hns,_⟩⟩:=HDC.out;rw [hts] at c5 KCk;rw [hns] at c6 KCk;have b2:Below wr.heap.size wr (wr.alloc (.cells #[.int .i64 c.p.num,.string ⟨c.p.who.toArray⟩,.string ⟨c.p.tag.toArray⟩,.int .i64 c.p.til,.string ⟨c.p.doc.entity.toArray⟩,.slice ta c.p.doc.tuples.length tc,.slice na c.p.doc.notes.length nc] 43)):=(Below.refl _ wr).alloc (Nat.le_refl _) _;have RX:=hid (rp_row7 wr (.int .i64 c.p.num) (.string ⟨c.p.who.toArray⟩) (.string ⟨c.p.tag.toArray⟩) (.int .i64 c.p.til) (.string ⟨c.p.doc.entity.toArray⟩) (.slice ta c.p.doc.tuples.length tc) (.slice na c.p.doc.notes.length nc) 43);have HB2:=hid (HB.out.trans (b2.mono HB.out.size));clear hat hpb hab b2 g2 g3 HDC hm HB
    go_upto_region 8 with fail
    clear c0 c1 c2 c3 c4 c5 c6;generalize wr.heap.size=gx at RX ⊢;generalize World.alloc _ _=w2 at RX HB2 ⊢;obtain ⟨x0,x1,x2,x3,x4,x5,x6,_⟩:=RX.out.rp7;by_cases hle:c.p.num≤last
    ·have hle':decide (c.p.num≤last)=true:=decide_eq_true hle;have HE:=hid (show chkC 0 (pbsL cs)=1 by rw [HC.out,HS.out,if_pos hle]);clear HS HC;go_wp2;go_ret;exact ⟨by rw [HE.out]; rfl,HB2.out⟩
    ·have hle':decide (c.p.num≤last)=false:=decide_eq_false hle;have KCx:=hid (KCk.out w2 HB2.out);clear KCk;generalize hck:checkD c.p.doc=ck at HS KCx;by_cases h1:ck ≠ 0
     ·have h1':(ck != 0)=true:=by simpa using h1
      have HE:=hid (show chkC 0 (pbsL cs)=ck by rw [HC.out,HS.out,if_neg hle,if_pos h1]);clear HS HC hck;go_wp2_with fail
      refine KCx.out.mono ?_
      rintro e w3 ⟨rfl,hb3⟩;have HB3:=hid (HB2.out.trans (hb3.mono HB2.out.size));clear hb3 x0 x1 x2 x3 x4 x5 x6 KCx;go_wp2;go_ret;exact ⟨by rw [HE.out]; rfl,HB3.out⟩
     ·have h1':ck=0:=Classical.byContradiction h1;have HE:=hid (show chkC 0 (pbsL cs)=chkC c.p.num (pbsL (cs.drop (k+1))) by rw [HC.out,HS.out,if_neg hle,if_neg h1]);clear HS HC hck;subst h1';go_wp2_with fail
      refine KCx.out.mono ?_
      rintro e w3 ⟨rfl,hb3⟩;have HB3:=hid (HB2.out.trans (hb3.mono HB2.out.size));have RX3:=RX.out.below hb3 RX.out.bl;clear hb3 x0 x1 x2 x3 x4 x5 x6 KCx;obtain ⟨x0,x1,x2,x3,x4,x5,x6,_⟩:=RX3.rp7;clear RX3;go_wp2;go_roundw
      case rel=>exact ⟨k+1,c.p.num,by omega,by go_num,rfl,HE,HB3⟩
      case measure=>simp [intOf]; omega
   ·have hlt':¬ (k:Int) < (n:Int):=by omega
    have HE:=hid (show chkC 0 (pbsL cs)=0 by
     have hkn:k=cs.length:=by have:=HN.out; omega
     rw [HC.out,hkn,List.drop_length]
     rfl)
    clear HC;go_wp2;go_ret;exact ⟨by rw [HE.out]; rfl,HB.out⟩
end Go.Proofs.YtldkidljjbkmbaaGreatDoor
namespace Go.Proofs.YtldkidljjbkmbaaGreatDoor
open Go.RowKit Go.ChangeShapes Go.WideShapes Go.Deep
theorem cellsDocB:Tryz.prog.cellsOf 28=3:=by kernel_rfl
theorem cellsPubB:Tryz.prog.cellsOf 43=7:=by kernel_rfl
section
variable {H : Type} {enc : TypeId × Value → H} {W : World} {sp : Nat → Bool}
def TusDb (d:DataW H) (ts:List Tu):Prop:=(d=.nil∧ts=[])∨∃ ds sp,d=.slice ds sp∧ds.length=ts.length∧∀ k (hk:k < ts.length) (hd:k < ds.length),TuD ds[k] ts[k]
def StrsDb (d:DataW H) (ls:List (List UInt8)):Prop:=(d=.nil∧ls=[])∨∃ sp,d=.slice (ls.map fun l=>.lit (.string l)) sp
def DocDb (d:DataW H) (dc:Dc):Prop:=∃ d1 d2,d=.agg [.lit (.string dc.entity),d1,d2]∧TusDb d1 dc.tuples∧StrsDb d2 dc.notes
def PbDb (d:DataW H) (p:Pb):Prop:=∃ dd,d=.agg [.lit (.int .i64 p.num),.lit (.string p.who),.lit (.string p.tag),.lit (.int .i64 p.til),dd]∧DocDb dd p.doc
theorem open_docB {fuel:Nat} {cs:List Value} {x:DataW H × List MemPlace} (h:DataW.trod enc Tryz.prog W 0 sp true fuel 28 cs=some x) :
  ∃ (d:Dc) (ts ns:Value),cs=[.string ⟨d.entity.toArray⟩,ts,ns]∧(TusAt W ts d.tuples∧StrsAt W ns d.notes∧CapTu ts)∧DocDb x.1 d∧∀ t ∈ d.tuples,(Lit.int .i64 t.prio).wf=true:=by
 obtain ⟨xs,n,_,hx,hl,hlen,hf⟩:=DataW.trod_struct Tryz.underlying28 h;rw [cellsDocB] at hl
 match cs,hl,xs,hlen with
 | [c0,c1,c2],_,[y0,y1,y2],_ =>
  have f0:=hf 0 _ rfl;have f1:=hf 1 _ rfl;have f2:=hf 2 _ rfl
  simp [cellsStr,cellsTups,cellsStrsD] at f0 f1 f2
  obtain ⟨s0,e0,rfl,_⟩:=DataW.trod_string Tryz.underlying9 f0
  have hcap:CapTu c1:=by
   rcases open_slice Tryz.underlying25 f1 with ⟨h1,_⟩ | ⟨a,len,cap,m,n,D,Pl,h1,_,hlc,_⟩
   ·simp only [List.cons.injEq,and_true] at h1;subst h1;intro b k c e
    injection e with _ q1 q2
    omega
   ·simp only [List.cons.injEq,and_true] at h1;subst h1;intro b k c e
    injection e with _ q1 q2
    omega
  obtain ⟨v1,ts,e1,a1,w1,d1⟩:=open_tups f1;obtain ⟨v2,ns,e2,a2,d2⟩:=open_strs f2;simp only [List.cons.injEq,and_true] at e0 e1 e2;subst e0 e1 e2;subst hx;exact ⟨⟨s0.data.toList,ts,ns⟩,c1,c2,by simp,⟨a1,a2,hcap⟩,⟨y1.1,y2.1,by simp,d1,d2⟩,w1⟩
structure PbGot (W:World) (c:PbC):Prop where
 tus:TusAt W c.ts c.p.doc.tuples
 strs:StrsAt W c.ns c.p.doc.notes
 cap:CapTu c.ts
 wf:∀ t ∈ c.p.doc.tuples,(Lit.int .i64 t.prio).wf=true
 num:(Lit.int .i64 c.p.num).wf=true
theorem open_pb {fuel:Nat} {cs:List Value} {x:DataW H × List MemPlace} (h:DataW.trod enc Tryz.prog W 0 sp true fuel 43 cs=some x) :
  ∃ c:PbC,cs=pbCells c∧PbDb x.1 c.p∧PbGot W c:=by
 obtain ⟨xs,n,_,hx,hl,hlen,hf⟩:=DataW.trod_struct Tryz.underlying43 h;rw [cellsPubB] at hl
 match cs,hl,xs,hlen with
 | [c0,c1,c2,c3,c4,c5,c6],_,[y0,y1,y2,y3,y4],_ =>
  have f0:=hf 0 _ rfl;have f1:=hf 1 _ rfl;have f2:=hf 2 _ rfl;have f3:=hf 3 _ rfl;have f4:=hf 4 _ rfl
  simp [cellsStr,cellsInt,cellsDocB] at f0 f1 f2 f3 f4
  obtain ⟨i0,e0,rfl,w0⟩:=DataW.trod_int Tryz.underlying3 f0;obtain ⟨s1,e1,rfl,_⟩:=DataW.trod_string Tryz.underlying9 f1;obtain ⟨s2,e2,rfl,_⟩:=DataW.trod_string Tryz.underlying9 f2;obtain ⟨i3,e3,rfl,w3⟩:=DataW.trod_int Tryz.underlying3 f3;obtain ⟨d,ts,ns,e4,⟨k1,k2,k3⟩,d4,w4⟩:=open_docB f4;simp only [List.cons.injEq,and_true] at e0 e1 e2 e3 e4;obtain ⟨e4a,e4b,e4c⟩:=e4;subst e0 e1 e2 e3 e4a e4b e4c;subst hx;exact ⟨⟨⟨i0,s1.data.toList,s2.data.toList,i3,d⟩,c5,c6⟩,by simp [pbCells],⟨y4.1,by simp,d4⟩,k1,k2,k3,w4,w0⟩
end
end Go.Proofs.YtldkidljjbkmbaaGreatDoor
