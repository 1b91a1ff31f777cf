/-
  PtV, WPubPlays.
-/
import Derived.Test.YteicmbhilambpaaGreatDoorPV39
set_option linter.unusedVariables false
set_option linter.unusedSimpArgs false
set_option maxRecDepth 20000
namespace Go.Proofs.YteicmbhilambpaaGreatDoor
open Go.RowKit Go.Maps Go.WideMaps Sc
section
variable {w wr w' : World} {bt br : Nat} {S S' : Sto} {v v' : Value} {cs cs' : List PbC} {l l' : List (Nat × TypeId × List Value)}
theorem Bag.swap {x y:Nat × TypeId × List Value} (h:Bag w wr bt S v cs (x :: y :: l)):Bag w wr bt S v cs (y :: x :: l):=h.sub fun q hq=>by
 rcases List.mem_cons.1 hq with rfl | hq
 ·exact .tail _ (.head _)
 ·rcases List.mem_cons.1 hq with rfl | hq
  ·exact .head _
  ·exact .tail _ (.tail _ hq)
theorem Bag.lt (h:Bag w wr bt S v cs l):∀ x ∈ l,x.1 < wr.heap.size:=fun x hx=>(h.rows x hx).1.bl
theorem plen_got (h:Bag w wr bt S v cs l) {ds:List PbC} (hs:S.l=pbsL ds):Calls Tryz.prog 24 #[.pointer (some ⟨bt,0,none⟩)] wr fun e w'=>e=.returned (.int .i64 ds.length)∧w'=wr:=by
 refine (plen_tab h.tab).mono ?_
 rintro e w' ⟨rfl,h2⟩;exact ⟨by rw [hs,pbsL_len],h2⟩
structure PlI (w wr:World) (bt br bc:Nat) (c:Cf) (S:Sto) (v:Value) (cs:List PbC):Prop where
 bag:Bag w wr bt S v cs [(br,31,stoL S v),(bc,23,cfL c)]
 docs:∀ u,Below w.heap.size w u → DocsAt u cs
 is:S.l=pbsL cs
 cf:S.c=c
 lr:w.heap.size≤br
 ne:bc ≠ br
end
end Go.Proofs.YteicmbhilambpaaGreatDoor
namespace Go.Proofs.YteicmbhilambpaaGreatDoor.pubPlays
open Go.RowKit Go.Maps Go.WideMaps Sc
set_option maxHeartbeats 16000000 in
set_option maxRecDepth 100000 in
theorem law_walk (w:World) (v0 v1:Value) (k0:CfIn 140737488351232 w v0) (k1:AcpsIn 140737488351232 w v1) :
  Calls Tryz.prog 3 #[v0,v1] w fun e w'=>e=.returned (.bool true)∧Below w.heap.size w w':=by
 obtain ⟨c,rfl,hch,_⟩:=k0;obtain ⟨acts,hat,hal,hao⟩:=k1;have HI:=hid hat;have HO:=hid hao;have KW:=hid awake16_any;obtain ⟨ao,cap,rfl,_⟩:=hat;obtain ⟨n,hnn⟩:∃ n,n=acts.length:=⟨_,rfl⟩
 rw [← hnn] at HI hal ⊢;have HN:=hid hnn;have RC:=hid (rp_row7 w (.string ⟨c.host.toArray⟩) (.int .i64 c.calls) (.int .i64 c.pubs) (.int .i64 c.subs) (.int .i64 c.least) (.int .i64 c.most) (.int .i64 c.usual) 23);have BC:=hid (show Below w.heap.size w (w.alloc (.cells #[.string ⟨c.host.toArray⟩,.int .i64 c.calls,.int .i64 c.pubs,.int .i64 c.subs,.int .i64 c.least,.int .i64 c.most,.int .i64 c.usual] 23)) from (Below.refl _ w).alloc (Nat.le_refl _) _);have KR1:=hid (fun (u:World)=>pright_any c u);have KR2:=hid (fun (u:World)=>rright16_any c u);clear hao hnn
 cases hr:rightC c
 ·have KB:=hid (fun (u:World)=>begun16_bad u c hr);unfold cfV at KB KR1 KR2 ⊢;rw [hr] at KR1 KR2
  go_enter Tryz.func3,Tryz.ntmps3
  go_upto_region 1 with fail
  generalize World.alloc _ _=u1 at RC BC ⊢;obtain ⟨x0,x1,x2,x3,x4,x5,x6,_⟩:=RC.out.rp7;go_wp2_with fail
  refine (KB.out _).mono ?_
  rintro e u2 ⟨rfl,hb2⟩;have RC:=hid (RC.out.below hb2 RC.out.bl);have bel:=hid (BC.out.trans (hb2.mono BC.out.size));clear hb2 BC;have cP:=hid (fun (d:Nat) (os:Array Obj)=>Calls.regrown_of (KR1.out (Sort.grow (redrawn u2 d) os)));have cR:=hid (fun (d:Nat) (os:Array Obj)=>Calls.regrown_of (KR2.out (Sort.grow (redrawn u2 d) os)));clear x0 x1 x2 x3 x4 x5 x6 KB;obtain ⟨x0,x1,x2,x3,x4,x5,x6,_⟩:=RC.out.rp7;replace x0:=cell_regrown x0;replace x1:=cell_regrown x1;replace x2:=cell_regrown x2;replace x3:=cell_regrown x3;replace x4:=cell_regrown x4;replace x5:=cell_regrown x5;replace x6:=cell_regrown x6
  go_upto_region 2 with fail
  refine wp_region_quiet_below followsMixed5 (by kernel_rfl) ?_
  repeat (go_big_quiet_step (first | with_reducible exact cP.out _ _ | with_reducible exact cR.out _ _))
  refine wpQuiet_nil ?_
  intro _ hw';obtain ⟨⟨dq,osq⟩,hw''⟩:=hw';subst hw'';clear x0 x1 x2 x3 x4 x5 x6 cP cR KR1 KR2;have bel:=hid (bel.out.trans ((below_regrown u2 dq osq).mono bel.out.size));clear RC;generalize Sort.grow (redrawn u2 dq) osq=u3 at bel ⊢;go_wp2_with fail
  refine (KW.out _).mono ?_
  rintro e w9 ⟨rfl,hw9⟩;go_wp2;go_ret;exact ⟨rfl,bel.out.trans (hw9.mono bel.out.size)⟩
 ·have KB:=hid (fun (u:World)=>begun16_ok u c hr);unfold cfV at KB KR1 KR2 ⊢;rw [hr] at KR1 KR2
  go_enter Tryz.func3,Tryz.ntmps3
  go_upto_region 1 with fail
  generalize World.alloc _ _=u1 at RC BC ⊢;obtain ⟨x0,x1,x2,x3,x4,x5,x6,_⟩:=RC.out.rp7;go_wp2_with fail
  refine (KB.out _).mono ?_
  rintro e u2 ⟨bt,rfl,hT,hb2⟩;have hlc:w.heap.size < u1.heap.size:=RC.out.bl;have RC:=hid (RC.out.below hb2 RC.out.bl);have BG:=hid ((⟨hT.lower BC.out.size,fun x hx=>by simp at hx,BC.out.trans (hb2.mono BC.out.size),OwnPb.nil _ _⟩:Bag w u2 bt ⟨c,0,[]⟩ (.slice none 0 0) [] []).add (us:=cfL c) RC.out tyCfg);clear hb2 BC hT;have cP:=hid (fun (d:Nat) (os:Array Obj)=>Calls.regrown_of (KR1.out (Sort.grow (redrawn u2 d) os)));have cR:=hid (fun (d:Nat) (os:Array Obj)=>Calls.regrown_of (KR2.out (Sort.grow (redrawn u2 d) os)));clear x0 x1 x2 x3 x4 x5 x6 KB;obtain ⟨x0,x1,x2,x3,x4,x5,x6,_⟩:=RC.out.rp7;replace x0:=cell_regrown x0;replace x1:=cell_regrown x1;replace x2:=cell_regrown x2;replace x3:=cell_regrown x3;replace x4:=cell_regrown x4;replace x5:=cell_regrown x5;replace x6:=cell_regrown x6
  go_upto_region 2 with fail
  refine wp_region_quiet_below followsMixed5 (by kernel_rfl) ?_
  repeat (go_big_quiet_step (first | with_reducible exact cP.out _ _ | with_reducible exact cR.out _ _))
  refine wpQuiet_nil ?_
  intro _ hw';obtain ⟨⟨dq,osq⟩,hw''⟩:=hw';subst hw'';clear x0 x1 x2 x3 x4 x5 x6 cP cR KR1 KR2;have BG:=hid (BG.out.below (below_regrown u2 dq osq));clear RC;generalize Sort.grow (redrawn u2 dq) osq=u3 at BG ⊢;obtain ⟨x0,x1,x2,x3,x4,x5,x6,_⟩:=BG.out.r0.rp7;have hb3:=BG.out.lt _ (List.mem_cons_self ..);simp only at hb3;have PI:=hid (⟨BG.out.new (stoL ⟨c,0,[]⟩ (.slice none 0 0)) 31 tySto,fun u _ x hx=>by simp at hx,rfl,rfl,BG.out.bel.size,by omega⟩:PlI w (u3.alloc (.cells (stoL ⟨c,0,[]⟩ (.slice none 0 0)).toArray 31)) bt u3.heap.size w.heap.size c ⟨c,0,[]⟩ (.slice none 0 0) []);clear BG;unfold stoL at PI
  go_upto_region 7 with fail
  clear x0 x1 x2 x3 x4 x5 x6 hb3;generalize u3.heap.size=br at PI ⊢;generalize World.alloc _ _=W at PI ⊢;go_wp2
  go_loopw [7] (fun i wr=>∃ k:Nat,k≤n∧k≤40∧i=.int .i64 k∧Hid (∃ S v cs,PlI w wr bt br w.heap.size c S v cs∧S.last≤k)) (fun i _=>n - (intOf i).toNat)
  case atStart=>exact ⟨0,by omega,by omega,rfl,⟨_,_,_,PI.out,by show (0:Int)≤0; decide⟩⟩
  case round =>
   clear PI;obtain ⟨k,hk,hk2,rfl,HF⟩:=hrel;by_cases hlt:k < n
   case neg =>
    have hlt':decide ((k:Int) < (n:Int))=false:=decide_eq_false (by omega)
    have bel:Hid (Below w.heap.size w wr):=by
     obtain ⟨S,v,cs,h,_⟩:=HF.out;exact h.bag.bel
    clear HF;go_wp2_with fail
    refine (KW.out _).mono ?_
    rintro e w9 ⟨rfl,hw9⟩;go_wp2;go_ret;exact ⟨rfl,bel.out.trans (hw9.mono bel.out.size)⟩
   have hlt':(k:Int) < (n:Int):=by omega
   by_cases h5:k < 40
   case neg =>
    have h5':decide ((k:Int) < 40)=false:=decide_eq_false (by omega)
    have bel:Hid (Below w.heap.size w wr):=by
     obtain ⟨S,v,cs,h,_⟩:=HF.out;exact h.bag.bel
    clear HF;go_wp2_with fail
    refine (KW.out _).mono ?_
    rintro e w9 ⟨rfl,hw9⟩;go_wp2;go_ret;exact ⟨rfl,bel.out.trans (hw9.mono bel.out.size)⟩
   have h5':(k:Int) < 40:=by omega
   have hkl:k < acts.length:=by rw [← HN.out]; exact hlt
   obtain ⟨S,v,cs,hF,hSl⟩:=HF.out;obtain ⟨ad,rfl,hab,hc⟩:=HI.out.one (Below.refl _ w) hkl;obtain ⟨hdoc,hsm,hwf⟩:=HO.out _ (List.getElem_mem hkl);generalize acts[k]=x at hc hdoc hsm hwf;obtain ⟨ex,now,a,ts,ns⟩:=x;simp only at hc hdoc hsm hwf;have HDC:=hid hdoc;have HSM:=hid hsm;obtain ⟨ta,tc,rfl,_⟩:=hdoc.t;obtain ⟨na,nc,rfl,_⟩:=hdoc.n;have hbk:(ad.add (k * 10)).block < w.heap.size:=by rw [add_block]; exact hab
   obtain ⟨c0,c1,c2,c3,c4,c5,c6,c7,c8,c9⟩:=hc.below hF.bag.bel hbk;simp only at c0 c1 c2 c3 c4 c5 c6 c7 c8 c9;have hent:a.doc.entity.length≤281474976710656:=by have:=hsm.doc.ent; omega
   have PF:=hid (And.intro hF.docs (And.intro hF.is (And.intro hF.cf (And.intro hF.lr (And.intro hF.ne hSl)))));have BG:=hid (hF.bag.new (acL ex now a (.slice ta a.doc.tuples.length tc) (.slice na a.doc.notes.length nc)) 39 tyAct);have hlts:=hF.bag.lt;have h81:br < wr.heap.size:=hlts _ (List.mem_cons_self ..);have h82:w.heap.size < wr.heap.size:=hlts _ (List.mem_cons_of_mem _ (List.mem_cons_self ..));obtain ⟨oa,oc,hv⟩:=hF.bag.own.form;subst hv;clear HF hF hc hdoc hsm hbk hlts hab;unfold acL at BG
   go_upto_region 11 with fail
   clear c0 c1 c2 c3 c4 c5 c6 c7 c8 c9;have h83:wr.heap.size ≠ br:=by omega
   have h84:wr.heap.size ≠ w.heap.size:=by omega
   have h85:w.heap.size≤wr.heap.size:=by omega
   generalize wr.heap.size=b8 at BG h81 h82 h83 h84 h85 ⊢;generalize World.alloc _ _=W1 at BG ⊢;have KS:=hid (small16_any W1 a (ta:=ta) (tc:=tc) (na:=na) (nc:=nc) hent);unfold askV at KS;obtain ⟨c0,c1,c2,c3,c4,c5,c6,c7,c8,c9⟩:=acR_of BG.out.r0;have FIN:∀ (S':Sto) (u:World) (v':Value) (cs':List PbC),True:=fun _ _ _ _=>trivial;clear FIN
   cases hsa:smallA a
   ·rw [hsa] at KS;go_wp2_with fail
    refine KS.out.mono ?_
    rintro e u1 ⟨rfl,hu1⟩;have BF:=hid (BG.out.below hu1);go_wp2;go_roundw
    case rel=>exact ⟨k+1,by omega,by omega,by go_num,⟨S,_,cs,⟨BF.out.tl,PF.out.1,PF.out.2.1,PF.out.2.2.1,PF.out.2.2.2.1,PF.out.2.2.2.2.1⟩,by have:=PF.out.2.2.2.2.2; omega⟩⟩
    case measure=>simp [intOf]; omega
   rw [hsa] at KS;obtain ⟨q1,q2,q3⟩:=acts_sma HSM.out (by decide) hsa;go_wp2_with fail
   refine KS.out.mono ?_
   rintro e u1 ⟨rfl,hu1⟩;have BG:=hid (BG.out.below hu1);clear c0 c1 c2 c3 c4 c5 c6 c7 c8 c9 KS hu1 hsa;obtain ⟨c0,c1,c2,c3,c4,c5,c6,c7,c8,c9⟩:=acR_of BG.out.r0;obtain ⟨x0,x1,x2,x3,x4,x5,x6,x7,x8,_⟩:=BG.out.tl.r0.rc9
   cases ex
   case true =>
    have hfew:cs.length≤200:=by
     have:=few_pubs BG.out.tab.right BG.out.tab.ok
     rw [PF.out.2.1,pbsL_len] at this;omega
    have KX:=hid (rexp_got (S':=S) BG.out (PF.out.1 _ BG.out.bel) PF.out.2.1 hfew now);unfold stoV at KX;go_wp2_with fail
    refine KX.out.mono ?_
    rintro e u2 ⟨v1,v2,rfl,ho2,hst2,hb2,hs2⟩;obtain ⟨oa1,oc1,rfl⟩:=ho2.form;have hal:Below u2.heap.size u2 (u2.alloc (.cells (stoL S (.slice oa1 (leftP cs now).length oc1)).toArray 31)):=(Below.refl _ u2).alloc (Nat.le_refl _) _;have HS:=hid (hst2.below hal);obtain ⟨sa,sc,rfl⟩:=own_formP hst2;have hb2s:=hb2.size;have hlts:=BG.out.lt;have h91:br < u2.heap.size:=by have:=hlts _ (List.mem_cons_of_mem _ (List.mem_cons_self ..)); simp only at this; omega
    have BG2:=hid (((BG.out.below hb2).reown ho2).new (stoL S (.slice oa1 (leftP cs now).length oc1)) 31 tySto);have HQ:=hid hs2;clear ho2 hst2 hb2 hs2 KX BG x0 x1 x2 x3 x4 x5 x6 x7 x8 c0 c1 c2 c3 c4 c5 c6 c7 c8 c9 hlts hb2s hal;unfold stoL at BG2 HS
    go_upto_region 14 with fail
    have h92:u2.heap.size ≠ br:=by omega
    generalize u2.heap.size=b9 at BG2 h91 h92 ⊢;generalize World.alloc _ _=W2 at BG2 HS ⊢;obtain ⟨x0,x1,x2,x3,x4,x5,x6,x7,x8,f0,f1,f2,f3,f4,f5,f6,f7,f8⟩:=BG2.out.tl.tl.r0.rc9;obtain ⟨n0,n1,n2,n3,n4,n5,n6,n7,n8,_⟩:=BG2.out.r0.rc9
    have KEEP:=hid (And.intro (BG2.out.up2.put9 (fun x hx=>by
     rcases List.mem_cons.1 hx with rfl | hx
     ·exact h92
     ·rcases List.mem_cons.1 hx with rfl | hx
      ·exact h83
      ·rcases List.mem_cons.1 hx with rfl | hx
       ·exact PF.out.2.2.2.2.1
       ·cases hx) PF.out.2.2.2.1 rfl (.string ⟨S.c.host.toArray⟩) (.int .i64 S.c.calls) (.int .i64 S.c.pubs) (.int .i64 S.c.subs) (.int .i64 S.c.least) (.int .i64 S.c.most) (.int .i64 S.c.usual) (.int .i64 S.last) (.slice oa1 (leftP cs now).length oc1)) (own_chgP HS.out (chg9 W2 br (.string ⟨S.c.host.toArray⟩) (.int .i64 S.c.calls) (.int .i64 S.c.pubs) (.int .i64 S.c.subs) (.int .i64 S.c.least) (.int .i64 S.c.most) (.int .i64 S.c.usual) (.int .i64 S.last) (.slice oa1 (leftP cs now).length oc1)) BG2.out.tl.tl.r0 (show 9 ≠ 31 by decide)))
    clear BG2 HS
    go_upto_region 15 with fail
    generalize World.setCell _ _ _=W3 at KEEP ⊢;clear x0 x1 x2 x3 x4 x5 x6 x7 x8 f0 f1 f2 f3 f4 f5 f6 f7 f8 n0 n1 n2 n3 n4 n5 n6 n7 n8;have c1:=(acR_of KEEP.out.1.tl.tl.r0).c1;have KY:=hid (exp_got KEEP.out.1 now);go_wp2_with fail
    refine KY.out.mono ?_
    rintro e u4 ⟨v3,rfl,hst4,BG4,hF4⟩;have HV:=hid (own_strsAtO (hF4.own KEEP.out.2 (by decide) (by decide) (by decide) (by decide)));have HV3:=hid hst4;have BG4:=hid BG4;clear hst4 hF4 KY KEEP c1;obtain ⟨s3a,s3c,rfl,_⟩:=HV3.out
    have htl:(expS S now).2.length≤281474976710656:=by
     have h1:=gone_ln cs now cs.length;rw [List.take_length,gone_is,← PF.out.2.1] at h1;have h2:(expS S now).2=((S.l.filter (overP now)).map Pb.who).foldl riseV []:=rfl;rw [h2];omega
    have KT:=hid (rtexts_same _ _ _ _ HV3.out HV.out htl);clear HV HV3 htl;go_wp2_with fail
    refine KT.out.mono ?_
    rintro e u5 ⟨rfl,qd,hu5⟩;have BG4:=hid (show Bag w u5 bt _ _ _ _ from by rw [hu5]; exact BG4.out.below (below_drewN _ qd));clear KT hu5;have BT:Hid (Bag w u5 bt (expS S now).1 (Value.slice oa1 (leftP cs now).length oc1) (leftP cs now) [(b8,39,acL true now a (.slice ta a.doc.tuples.length tc) (.slice na a.doc.notes.length nc)),(br,31,stoL (expS S now).1 (Value.slice oa1 (leftP cs now).length oc1)),(w.heap.size,23,cfL c)]):=hid (BG4.out.swap.tl.swap);have PT:Hid ((∀ u,Below w.heap.size w u → DocsAt u (leftP cs now))∧(expS S now).1.l=pbsL (leftP cs now)∧(expS S now).1.c=c∧(expS S now).1.last≤(k:Int)+1):=⟨fun u hu=>(PF.out.1 u hu).sub fun x hx=>(List.mem_filter.1 hx).1,HQ.out,PF.out.2.2.1,by have:=PF.out.2.2.2.2.2; show S.last≤(k:Int)+1; omega⟩
    clear BG4 HQ;generalize (expS S now).1=ST at BT PT;generalize (leftP cs now)=CT at BT PT ⊢;obtain ⟨c0,c1,c2,c3,c4,c5,c6,c7,c8,c9⟩:=acR_of BT.out.r0;obtain ⟨z0,z1,z2,z3,z4,z5,z6,_⟩:=BT.out.tl.tl.r0.rp7;have KP1:=hid (fun (u:World)=>psec_any c a.exp u);have KP2:=hid (fun (u:World)=>rsec16_any c a.exp u);unfold cfV at KP1 KP2;generalize secC c a.exp=sx at KP1 KP2;obtain ⟨nn,lo⟩:=sx;simp only at KP1 KP2;go_wp2_with fail
    refine (KP1.out _).mono ?_
    rintro e ua ⟨rfl,hba⟩;have BT:=hid (BT.out.below hba);clear c0 c1 c2 c3 c4 c5 c6 c7 c8 c9 z0 z1 z2 z3 z4 z5 z6 hba;obtain ⟨c0,c1,c2,c3,c4,c5,c6,c7,c8,c9⟩:=acR_of BT.out.r0;obtain ⟨z0,z1,z2,z3,z4,z5,z6,_⟩:=BT.out.tl.tl.r0.rp7;go_wp2_with fail
    refine (KP2.out _).mono ?_
    rintro e ub ⟨rfl,hbb⟩;have BT:=hid (BT.out.below hbb);clear c0 c1 c2 c3 c4 c5 c6 c7 c8 c9 z0 z1 z2 z3 z4 z5 z6 hbb KP1 KP2;have hn1:(nn != nn)=false:=by simp
    have hn2:(lo != lo)=false:=by simp
    have hn3:((CT.length:Int) != (CT.length:Int))=false:=by simp
    have hfew9:CT.length≤200:=by
     have:=few_pubs BT.out.tab.right BT.out.tab.ok
     rw [PT.out.2.1,pbsL_len] at this;omega
    have KL:=hid (fun (u:World) (b:Bag w u bt ST (.slice oa1 CT.length oc1) CT [(b8,39,acL true now a (.slice ta a.doc.tuples.length tc) (.slice na a.doc.notes.length nc)),(br,31,stoL ST (.slice oa1 CT.length oc1)),(w.heap.size,23,cfL c)])=>live_got b a.who);have KQ:=hid (fun (u:World) (b:Bag w u bt ST (.slice oa1 CT.length oc1) CT [(b8,39,acL true now a (.slice ta a.doc.tuples.length tc) (.slice na a.doc.notes.length nc)),(br,31,stoL ST (.slice oa1 CT.length oc1)),(w.heap.size,23,cfL c)])=>rlive_got b (PT.out.1 _ b.bel) PT.out.2.1 hfew9 a.who)
    have KE:=hid (fun (u:World) (v1 v2:Value) (ds es:List PbC) (h1:GotP u v1 ds (liveS ST.l a.who)) (h2:GotP u v2 es (liveS ST.l a.who))=>same_got h1 h2 (fun p hp=>(BT.out.small p (List.mem_filter.1 hp).1).1) (by
     have h:=live_len_le ST.l a.who;have e:=few_pubs BT.out.tab.right BT.out.tab.ok;omega))
    have KN:=hid (fun (u:World) (b:Bag w u bt ST (.slice oa1 CT.length oc1) CT [(b8,39,acL true now a (.slice ta a.doc.tuples.length tc) (.slice na a.doc.notes.length nc)),(br,31,stoL ST (.slice oa1 CT.length oc1)),(w.heap.size,23,cfL c)])=>plen_got b PT.out.2.1);unfold stoV at KQ;have BD:=hid (BT.out.below (Below.refl _ ub).drew);clear BT;obtain ⟨x0,x1,x2,x3,x4,x5,x6,x7,x8,_⟩:=BD.out.tl.r0.rc9;have y1:=(acR_of BD.out.r0).c2;go_wp2
    go_region_held3 (fun u=>u.cell? ⟨br,0,none⟩=some (.string ⟨ST.c.host.toArray⟩)∧u.cell? ⟨br,1,none⟩=some (.int .i64 ST.c.calls)∧u.cell? ⟨br,2,none⟩=some (.int .i64 ST.c.pubs)∧u.cell? ⟨br,3,none⟩=some (.int .i64 ST.c.subs)∧u.cell? ⟨br,4,none⟩=some (.int .i64 ST.c.least)∧u.cell? ⟨br,5,none⟩=some (.int .i64 ST.c.most)∧u.cell? ⟨br,6,none⟩=some (.int .i64 ST.c.usual)∧u.cell? ⟨br,7,none⟩=some (.int .i64 ST.last)∧u.cell? ⟨br,8,none⟩=some (.slice oa1 CT.length oc1)∧u.cell? ⟨b8,2,none⟩=some (.string ⟨a.who.toArray⟩)) (go_keep) (first
     | (go_at_call 22; refine (KL.out _ BD.out).mono ?_; rintro e y9 ⟨lv,ds,rfl,hg1,hb1⟩; have HA:=hid hg1; (try (have HB:=hid (HB.out.below hb1))); have BD:=hid (BD.out.below hb1); clear hg1 hb1 x0 x1 x2 x3 x4 x5 x6 x7 x8 y1; obtain ⟨x0,x1,x2,x3,x4,x5,x6,x7,x8,_⟩:=BD.out.tl.r0.rc9; have y1:=(acR_of BD.out.r0).c2)
     | (go_at_call 23; refine (KQ.out _ BD.out).mono ?_; rintro e y9 ⟨lw,es,rfl,hg1,hb1⟩; have HB:=hid hg1; (try (have HA:=hid (HA.out.below hb1))); have BD:=hid (BD.out.below hb1); clear hg1 hb1 x0 x1 x2 x3 x4 x5 x6 x7 x8 y1; obtain ⟨x0,x1,x2,x3,x4,x5,x6,x7,x8,_⟩:=BD.out.tl.r0.rc9; have y1:=(acR_of BD.out.r0).c2)
     | (go_at_call 21; refine (KE.out _ _ _ _ _ HA.out HB.out).mono ?_; rintro e y9 ⟨rfl,hb1⟩; have BD:=hid (BD.out.below hb1); clear hb1 x0 x1 x2 x3 x4 x5 x6 x7 x8 y1; obtain ⟨x0,x1,x2,x3,x4,x5,x6,x7,x8,_⟩:=BD.out.tl.r0.rc9; have y1:=(acR_of BD.out.r0).c2)
     | (go_at_call 24; refine (KN.out _ BD.out).mono ?_; rintro e y9 ⟨rfl,hy9⟩; rw [hy9]; clear hy9))
    all_goals (
     have BF:=hid BD.out;clear x0 x1 x2 x3 x4 x5 x6 x7 x8 y1 KL KQ KE KN BD;go_wp2;go_roundw
     case rel=>exact ⟨k+1,by omega,by omega,by go_num,⟨ST,_,CT,⟨BF.out.tl,PT.out.1,PT.out.2.1,PT.out.2.2.1,PF.out.2.2.2.1,PF.out.2.2.2.2.1⟩,by have:=PT.out.2.2.2; omega⟩⟩
     case measure=>simp [intOf]; omega)
   obtain ⟨R,hR⟩:∃ R,R=doS S now a:=⟨_,rfl⟩
   have hfew:cs.length≤200:=by
    have:=few_pubs BG.out.tab.right BG.out.tab.ok
    rw [PF.out.2.1,pbsL_len] at this;omega
   have KD:=hid (rdo_got (S':=S) BG.out (PF.out.1 _ BG.out.bel) PF.out.2.1 hfew BG.out.tab.right BG.out.tab.ok.last (by have:=PF.out.2.2.2.2.2; omega) now a (.slice ta a.doc.tuples.length tc) (.slice na a.doc.notes.length nc) q2 (by
    have:=HDC.out.below BG.out.bel
    exact ⟨this.t,this.n⟩) (smallD_up HSM.out.doc (by decide)) q3)
   rw [← hR] at KD;have HR:=hid hR;have HRC:=hid (show R.1.c=c∧R.1.last≤(k:Int)+1 from ⟨by rw [hR,doS_c]; exact PF.out.2.2.1,by have:=PF.out.2.2.2.2.2; rcases doS_last S now a with h | h <;> (rw [hR,h]; omega)⟩);clear hR;obtain ⟨S',⟨st,exx,tg,ch⟩,er⟩:=R;unfold askV tdV stoV at KD;simp only at KD HRC;go_wp2_with fail
   refine KD.out.mono ?_
   rintro e u2 ⟨v1,cs1,rfl,ho2,hD2,hs2,hb2⟩;obtain ⟨oa1,oc1,rfl⟩:=ho2.form;have HQ:=hid (And.intro hD2 hs2);have BG2:=hid ((BG.out.below hb2).reown ho2);have hb2z:=hb2.size;clear ho2 hb2 hD2 hs2 KD BG x0 x1 x2 x3 x4 x5 x6 x7 x8 c0 c1 c2 c3 c4 c5 c6 c7 c8 c9;have hb2s:=hb2z;have hz1:(u2.alloc (.cells (stoL S' (.slice oa1 cs1.length oc1)).toArray 31)).heap.size=u2.heap.size+1:=by simp
   have BG3:=(BG2.out.new (stoL S' (.slice oa1 cs1.length oc1)) 31 tySto).new [.int .i64 st,.int .i64 exx,.string ⟨tg.toArray⟩,.bool ch] 46 tyTold;rw [hz1] at BG3;have BG3:=hid BG3;have h91:br < u2.heap.size:=by have:=BG2.out.lt _ (List.mem_cons_of_mem _ (List.mem_cons_self ..)); simpa only using this
   clear BG2 hz1;unfold stoL at BG3
   go_upto_region 18 with fail
   have h92:u2.heap.size ≠ br:=by omega
   have h93:u2.heap.size+1 ≠ br:=by omega
   generalize u2.heap.size+1=b12 at BG3 h93 ⊢;generalize u2.heap.size=b11 at BG3 h91 h92 ⊢;generalize World.alloc _ _=W2 at BG3 ⊢;obtain ⟨x0,x1,x2,x3,x4,x5,x6,x7,x8,f0,f1,f2,f3,f4,f5,f6,f7,f8⟩:=BG3.out.tl.tl.tl.r0.rc9;obtain ⟨n0,n1,n2,n3,n4,n5,n6,n7,n8,_⟩:=BG3.out.tl.r0.rc9
   have KEEP:=hid (BG3.out.up3.put9 (fun x hx=>by
    rcases List.mem_cons.1 hx with rfl | hx
    ·exact h93
    ·rcases List.mem_cons.1 hx with rfl | hx
     ·exact h92
     ·rcases List.mem_cons.1 hx with rfl | hx
      ·exact h83
      ·rcases List.mem_cons.1 hx with rfl | hx
       ·exact PF.out.2.2.2.2.1
       ·cases hx) PF.out.2.2.2.1 rfl (.string ⟨S'.c.host.toArray⟩) (.int .i64 S'.c.calls) (.int .i64 S'.c.pubs) (.int .i64 S'.c.subs) (.int .i64 S'.c.least) (.int .i64 S'.c.most) (.int .i64 S'.c.usual) (.int .i64 S'.last) (.slice oa1 cs1.length oc1))
   clear BG3
   go_upto_region 19 with fail
   generalize World.setCell _ _ _=W3 at KEEP ⊢;clear x0 x1 x2 x3 x4 x5 x6 x7 x8 f0 f1 f2 f3 f4 f5 f6 f7 f8 n0 n1 n2 n3 n4 n5 n6 n7 n8;obtain ⟨c0,c1,c2,c3,c4,c5,c6,c7,c8,c9⟩:=acR_of KEEP.out.tl.tl.tl.r0
   have KY:=hid (does16_any KEEP.out.tab q1 q2 (by have:=PF.out.2.2.2.2.2; omega) (now:=now) (ts:=.slice ta a.doc.tuples.length tc) (ns:=.slice na a.doc.notes.length nc) (fun _=>⟨q3,HDC.out.c,fun u hu=>by
    have:=HDC.out.below (KEEP.out.bel.trans hu)
    exact ⟨this.t,this.n⟩⟩))
   rw [← HR.out] at KY;unfold askV tdV at KY;simp only at KY;go_wp2_with fail
   refine KY.out.mono ?_
   rintro e u4 ⟨rfl,hT4,hF4⟩;have BG4:=hid ((KEEP.out.call hT4 hF4).new [.int .i64 st,.int .i64 exx,.string ⟨tg.toArray⟩,.bool ch] 46 tyTold);clear hT4 hF4 KY KEEP c0 c1 c2 c3 c4 c5 c6 c7 c8 c9
   go_upto_region 20 with fail
   generalize u4.heap.size=b14 at BG4 ⊢;generalize World.alloc _ _=u5 at BG4 ⊢;obtain ⟨t0,t1,t2,t3,_⟩:=BG4.out.r0.rc4;obtain ⟨r0,r1,r2,r3,_⟩:=BG4.out.tl.tl.r0.rc4;have hn8:(er != er)=false:=by simp
   go_upto_region 22 with fail
   have BT:Hid (Bag w u5 bt S' (Value.slice oa1 cs1.length oc1) cs1 [(b8,39,acL false now a (.slice ta a.doc.tuples.length tc) (.slice na a.doc.notes.length nc)),(br,31,stoL S' (Value.slice oa1 cs1.length oc1)),(w.heap.size,23,cfL c)]):=hid (BG4.out.tl.swap.tl.swap.tl.swap);have PT:Hid ((∀ u,Below w.heap.size w u → DocsAt u cs1)∧S'.l=pbsL cs1∧S'.c=c∧S'.last≤(k:Int)+1):=⟨fun u hu=>HQ.out.1 u (PF.out.1 u hu) ⟨(HDC.out.below hu).t,(HDC.out.below hu).n⟩,HQ.out.2,HRC.out.1,HRC.out.2⟩
   clear BG4 HQ HRC HR t0 t1 t2 t3 r0 r1 r2 r3;generalize S'=ST at BT PT;generalize cs1=CT at BT PT ⊢;obtain ⟨c0,c1,c2,c3,c4,c5,c6,c7,c8,c9⟩:=acR_of BT.out.r0;obtain ⟨z0,z1,z2,z3,z4,z5,z6,_⟩:=BT.out.tl.tl.r0.rp7;have KP1:=hid (fun (u:World)=>psec_any c a.exp u);have KP2:=hid (fun (u:World)=>rsec16_any c a.exp u);unfold cfV at KP1 KP2;generalize secC c a.exp=sx at KP1 KP2;obtain ⟨nn,lo⟩:=sx;simp only at KP1 KP2;go_wp2_with fail
   refine (KP1.out _).mono ?_
   rintro e ua ⟨rfl,hba⟩;have BT:=hid (BT.out.below hba);clear c0 c1 c2 c3 c4 c5 c6 c7 c8 c9 z0 z1 z2 z3 z4 z5 z6 hba;obtain ⟨c0,c1,c2,c3,c4,c5,c6,c7,c8,c9⟩:=acR_of BT.out.r0;obtain ⟨z0,z1,z2,z3,z4,z5,z6,_⟩:=BT.out.tl.tl.r0.rp7;go_wp2_with fail
   refine (KP2.out _).mono ?_
   rintro e ub ⟨rfl,hbb⟩;have BT:=hid (BT.out.below hbb);clear c0 c1 c2 c3 c4 c5 c6 c7 c8 c9 z0 z1 z2 z3 z4 z5 z6 hbb KP1 KP2;have hn1:(nn != nn)=false:=by simp
   have hn2:(lo != lo)=false:=by simp
   have hn3:((CT.length:Int) != (CT.length:Int))=false:=by simp
   have hfew9:CT.length≤200:=by
    have:=few_pubs BT.out.tab.right BT.out.tab.ok
    rw [PT.out.2.1,pbsL_len] at this;omega
   have KL:=hid (fun (u:World) (b:Bag w u bt ST (.slice oa1 CT.length oc1) CT [(b8,39,acL false now a (.slice ta a.doc.tuples.length tc) (.slice na a.doc.notes.length nc)),(br,31,stoL ST (.slice oa1 CT.length oc1)),(w.heap.size,23,cfL c)])=>live_got b a.who);have KQ:=hid (fun (u:World) (b:Bag w u bt ST (.slice oa1 CT.length oc1) CT [(b8,39,acL false now a (.slice ta a.doc.tuples.length tc) (.slice na a.doc.notes.length nc)),(br,31,stoL ST (.slice oa1 CT.length oc1)),(w.heap.size,23,cfL c)])=>rlive_got b (PT.out.1 _ b.bel) PT.out.2.1 hfew9 a.who)
   have KE:=hid (fun (u:World) (v1 v2:Value) (ds es:List PbC) (h1:GotP u v1 ds (liveS ST.l a.who)) (h2:GotP u v2 es (liveS ST.l a.who))=>same_got h1 h2 (fun p hp=>(BT.out.small p (List.mem_filter.1 hp).1).1) (by
    have h:=live_len_le ST.l a.who;have e:=few_pubs BT.out.tab.right BT.out.tab.ok;omega))
   have KN:=hid (fun (u:World) (b:Bag w u bt ST (.slice oa1 CT.length oc1) CT [(b8,39,acL false now a (.slice ta a.doc.tuples.length tc) (.slice na a.doc.notes.length nc)),(br,31,stoL ST (.slice oa1 CT.length oc1)),(w.heap.size,23,cfL c)])=>plen_got b PT.out.2.1);unfold stoV at KQ;have BD:=hid (BT.out.below (Below.refl _ ub).drew);clear BT;obtain ⟨x0,x1,x2,x3,x4,x5,x6,x7,x8,_⟩:=BD.out.tl.r0.rc9;have y1:=(acR_of BD.out.r0).c2;go_wp2
   go_region_held3 (fun u=>u.cell? ⟨br,0,none⟩=some (.string ⟨ST.c.host.toArray⟩)∧u.cell? ⟨br,1,none⟩=some (.int .i64 ST.c.calls)∧u.cell? ⟨br,2,none⟩=some (.int .i64 ST.c.pubs)∧u.cell? ⟨br,3,none⟩=some (.int .i64 ST.c.subs)∧u.cell? ⟨br,4,none⟩=some (.int .i64 ST.c.least)∧u.cell? ⟨br,5,none⟩=some (.int .i64 ST.c.most)∧u.cell? ⟨br,6,none⟩=some (.int .i64 ST.c.usual)∧u.cell? ⟨br,7,none⟩=some (.int .i64 ST.last)∧u.cell? ⟨br,8,none⟩=some (.slice oa1 CT.length oc1)∧u.cell? ⟨b8,2,none⟩=some (.string ⟨a.who.toArray⟩)) (go_keep) (first
    | (go_at_call 22; refine (KL.out _ BD.out).mono ?_; rintro e y9 ⟨lv,ds,rfl,hg1,hb1⟩; have HA:=hid hg1; (try (have HB:=hid (HB.out.below hb1))); have BD:=hid (BD.out.below hb1); clear hg1 hb1 x0 x1 x2 x3 x4 x5 x6 x7 x8 y1; obtain ⟨x0,x1,x2,x3,x4,x5,x6,x7,x8,_⟩:=BD.out.tl.r0.rc9; have y1:=(acR_of BD.out.r0).c2)
    | (go_at_call 23; refine (KQ.out _ BD.out).mono ?_; rintro e y9 ⟨lw,es,rfl,hg1,hb1⟩; have HB:=hid hg1; (try (have HA:=hid (HA.out.below hb1))); have BD:=hid (BD.out.below hb1); clear hg1 hb1 x0 x1 x2 x3 x4 x5 x6 x7 x8 y1; obtain ⟨x0,x1,x2,x3,x4,x5,x6,x7,x8,_⟩:=BD.out.tl.r0.rc9; have y1:=(acR_of BD.out.r0).c2)
    | (go_at_call 21; refine (KE.out _ _ _ _ _ HA.out HB.out).mono ?_; rintro e y9 ⟨rfl,hb1⟩; have BD:=hid (BD.out.below hb1); clear hb1 x0 x1 x2 x3 x4 x5 x6 x7 x8 y1; obtain ⟨x0,x1,x2,x3,x4,x5,x6,x7,x8,_⟩:=BD.out.tl.r0.rc9; have y1:=(acR_of BD.out.r0).c2)
    | (go_at_call 24; refine (KN.out _ BD.out).mono ?_; rintro e y9 ⟨rfl,hy9⟩; rw [hy9]; clear hy9))
   all_goals (
    have BF:=hid BD.out;clear x0 x1 x2 x3 x4 x5 x6 x7 x8 y1 KL KQ KE KN BD;go_wp2;go_roundw
    case rel=>exact ⟨k+1,by omega,by omega,by go_num,⟨ST,_,CT,⟨BF.out.tl,PT.out.1,PT.out.2.1,PT.out.2.2.1,PF.out.2.2.2.1,PF.out.2.2.2.2.1⟩,by have:=PT.out.2.2.2; omega⟩⟩
    case measure=>simp [intOf]; omega)
end Go.Proofs.YteicmbhilambpaaGreatDoor.pubPlays
