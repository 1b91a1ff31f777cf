/-
  PQ3, PQ4, PP4, P14Awake, P14All.
-/
import Derived.Test.YtdnekampnkhmfaaGreatDoorPM34
set_option linter.unusedVariables false
set_option linter.unusedSimpArgs false
set_option maxRecDepth 20000
namespace Go.Proofs.YtdnekampnkhmfaaGreatDoor
open Go.RowKit Sc
set_option maxHeartbeats 4000000 in
set_option maxRecDepth 100000 in
theorem pdoc_any (v2:Value) (cs:List NdC) (t:XT) (w:World) (hs:SubAt (ndsL cs) 0 0 t) (hr:RowD w v2 cs) :
  Calls Tryz.prog 34 #[v2] w fun e w'=>DcR (docR t) w e w':=by
 have KK:=hid (fun nm (hnm:nm.length≤1000) w' (hb:Below w.heap.size w w')=>pnamed_any v2 cs 0 0 t nm w' hs (hr.below hb) hnm);have KTu:=hid (fun q k (hq:SubAt (ndsL cs) q 1 k) w' (hb:Below w.heap.size w w')=>ptuple_any v2 cs q 1 k w' hq (hr.below hb));have HND:=hid (fun q dq k (hq:SubAt (ndsL cs) q dq k)=>hr.node hq);have HSM:=hid (fun q k (hq:SubAt (ndsL cs) q 1 k) x (hx:tupleT k=some x)=>hr.tup hq hx);have HNS:=hid (fun nm=>namedP_sub (nm:=nm) hs);have HS:=hid hs;obtain ⟨ad,cap,a,hvf,hab,hpl,c0,c1,c2,c3,hpa,hsp,htl⟩:=hr.node hs;have hnl2:(nameT t).length≤1048576:=by
  obtain ⟨hp2,hnd2⟩:=sub_at hs
  have:=(hr.small _ (List.getElem_mem hp2)).1
  rw [hnd2] at this;exact this
 have hlen:=hr.len;have hentl:((attG entityK (attrsOf t)).getD []).length≤1048576:=by
  cases hP:attG entityK (attrsOf t) with
  | none=>simp
  | some v=>exact attG_small hsp hP
 have hen:entU t=parseV ((attG entityK (attrsOf t)).getD []):=rfl;have hv:docR t=if localX (nameT t) ≠ presenceK∨(entU t).2 ≠ 0 then none else match tuplesT (namedX tupleK (kidsOf t)) with | none=>none | some ts=>some ⟨(whoV (entU t).1).1,ts,notesT (kidsOf t)⟩:=rfl
 generalize docR t=R at hv ⊢;have HV:=hid hv;clear hv;have KA:=hid (fun w' (hb:Below w.heap.size w w')=>xatt_any ⟨((0:Nat):Int),nameT t,attrsOf t,textOf t⟩ a entityK w' (smallP_up hsp (by decide)) (hpa.below hb));simp only [ndV] at KA;rw [show ((0:Nat):Int)=0 from rfl] at KA;have KL:=hid (fun w'=>xlocal_any (nameT t) w' (by omega));have KU:=hid (fun w'=>parse_any ((attG entityK (attrsOf t)).getD []) w' hentl);rw [← hen] at KU;obtain ⟨pa,pc,hpf⟩:=hpa.form;obtain ⟨pn,hpn⟩:∃ pn,pn=(attrsOf t).length:=⟨_,rfl⟩
 rw [← hpn] at hpf;obtain ⟨cn,hcn⟩:∃ cn,cn=cs.length:=⟨_,rfl⟩
 rw [← hcn] at hvf hpl hlen;have HCN:=hid hcn;subst hvf hpf;have y0:w.cell? ad=some (.int .i64 0):=by simpa [Addr.add] using c0
 have y1:w.cell? ⟨ad.block,ad.off+1,none⟩=some (.string ⟨(nameT t).toArray⟩):=by simpa [Addr.add] using c1
 have y2:w.cell? ⟨ad.block,ad.off+2,none⟩=some (.slice pa pn pc):=by simpa [Addr.add] using c2
 have y3:w.cell? ⟨ad.block,ad.off+3,none⟩=some (.string ⟨(textOf t).toArray⟩):=by simpa [Addr.add] using c3
 have HY0:=hid (fun w' (hb:Below w.heap.size w w')=>cell_below hb hab y0);have HY1:=hid (fun w' (hb:Below w.heap.size w w')=>cell_below hb (show (⟨ad.block,ad.off+1,none⟩:Addr).block < w.heap.size from hab) y1);have HY2:=hid (fun w' (hb:Below w.heap.size w w')=>cell_below hb (show (⟨ad.block,ad.off+2,none⟩:Addr).block < w.heap.size from hab) y2);have HY3:=hid (fun w' (hb:Below w.heap.size w w')=>cell_below hb (show (⟨ad.block,ad.off+3,none⟩:Addr).block < w.heap.size from hab) y3);have HEN:=hid (fun (h:(entU t).2=0)=>parse_checked (show parseV ((attG entityK (attrsOf t)).getD [])=((entU t).1,0) by rw [← hen,← h]));have hq0:(0:Int) < (cn:Int):=by omega
 clear hpn hcn hpa hsp c0 c1 c2 c3 y0 y1 y2 y3 hen hr hs;generalize (attG entityK (attrsOf t)).getD []=EN at KA KU hentl HEN;generalize (attG entityK (attrsOf t)).isSome=ES at KA;generalize entU t=UE at HV KU HEN;obtain ⟨u,ue⟩:=UE;simp only at HV KU HEN;have HPB1:=hid (pe_new w);have x1:=HY1.out _ HPB1.out.bel
 go_enter Tryz.func34,Tryz.ntmps34
 go_wp2_with fail
 generalize World.alloc w _=W1 at HPB1 x1 ⊢;refine (KL.out _).mono ?_
 rintro e w2 ⟨rfl,hw2⟩;have HPB2:=hid (HPB1.out.below hw2);clear HPB1 x1 hw2;by_cases hnm:localX (nameT t)=presenceK
 case neg =>
  have hR:Hid (R=none):=show _=_ by rw [HV.out,if_pos (.inl hnm)]
  have q1:(localX (nameT t)==[112,114,101,115,101,110,99,101])=false:=by rw [beq_eq_false_iff_ne]; exact hnm
  have q2:(localX (nameT t) != [112,114,101,115,101,110,99,101])=true:=by rw [bne,q1]; rfl
  have HPB:=HPB2;clear HV hnm;generalize localX (nameT t)=LN at q1 q2 ⊢;obtain ⟨d0,d1,d2,g0,g1,g2⟩:=HPB.out.d3;go_wp2;have hr5:=rc_store3 (show RowIs _ w.heap.size 25 [.string ⟨#[]⟩,.slice none 0 0,.slice none 0 0] from HPB.out.r2) (.string ⟨#[]⟩) (.slice none 0 0) (.slice none 0 0);have hb5:=rc_below3 HPB.out.bel w.heap.size (Nat.le_refl _) (.string ⟨#[]⟩) (.slice none 0 0) (.slice none 0 0);generalize World.setCell _ _ _=w99 at hr5 hb5 ⊢;obtain ⟨e0,e1,e2,_,_,_⟩:=hr5.rc3
  try simp only [Exit.inBlock,Exit.then]
  refine bodyPost_ret (v:=.tuple #[docV noD (.slice none 0 0) (.slice none 0 0),.bool false]) (by simp [results,Tryz.results34,go_sem,e0,e1,e2,docV,noD]; try rfl) rfl ?_
  exact ⟨noD,_,_,false,rfl,by rw [hR.out]; rfl,OwnT.nil _ _,Own.nil _ _ _,hb5,fun h=>by cases h⟩
 have q1:(localX (nameT t)==[112,114,101,115,101,110,99,101])=true:=by rw [beq_iff_eq]; exact hnm
 have q2:(localX (nameT t) != [112,114,101,115,101,110,99,101])=false:=by rw [bne,q1]; rfl
 have hV1:=HV.out;rw [hnm] at hV1;have HV1:=hid hV1;clear HV hV1 hnm;generalize localX (nameT t)=LN at q1 q2 ⊢;have x0:=HY0.out _ HPB2.out.bel;have x1:=HY1.out _ HPB2.out.bel;have x2:=HY2.out _ HPB2.out.bel;have x3:=HY3.out _ HPB2.out.bel;go_wp2_with fail
 refine (KA.out _ HPB2.out.bel).mono ?_
 rintro e w3 ⟨rfl,hw3⟩;have HPB3:=hid (HPB2.out.below hw3);clear HPB2 KA x0 x1 x2 x3 hw3 HY0 HY1 HY2 HY3 q1 q2;go_wp2_with fail
 refine (KU.out _).mono ?_
 rintro e w4 ⟨up,uh,rfl,hup,huh,hw4⟩;have hpp:=hup.parsAt;have hph:=huh.parsAt;obtain ⟨ua,uc,e1⟩:=hpp.form;obtain ⟨va,vc,e2⟩:=hph.form;obtain ⟨un,hun⟩:∃ un,un=u.params.length:=⟨_,rfl⟩
 obtain ⟨vn,hvn⟩:∃ vn,vn=u.headers.length:=⟨_,rfl⟩
 rw [← hun] at e1;rw [← hvn] at e2;subst e1 e2;have HPB4:=hid (HPB3.out.below hw4);have KW:=hid (fun (h:ue=0) w' (hb:Below w4.heap.size w4 w')=>who_any u (.slice ua un uc) (.slice va vn vc) w' (small_of_check (HEN.out h)) (hpp.below hb) (hph.below hb));unfold uriV at KW;have hrU:=rc_row6 w4 (.string ⟨u.scheme.toArray⟩) (.string ⟨u.user.toArray⟩) (.string ⟨u.host.toArray⟩) (.int .i64 u.port) (.slice ua un uc) (.slice va vn vc) 73;have hbU:Below w4.heap.size w4 (w4.alloc (.cells #[.string ⟨u.scheme.toArray⟩,.string ⟨u.user.toArray⟩,.string ⟨u.host.toArray⟩,.int .i64 u.port,.slice ua un uc,.slice va vn vc] 73)):=(Below.refl _ w4).alloc (Nat.le_refl _) _;have HPB5:=hid (HPB4.out.below hbU);clear hup huh hpp hph hun hvn KU HPB3 HPB4 HEN hw4;unfold uriV;by_cases hue:ue=0
 case neg =>
  have hR:Hid (R=none):=show _=_ by rw [HV1.out,if_pos (.inr hue)]
  have q1:(ue != 0)=true:=by simpa using hue
  have HPB:=HPB5;clear HV1 hue KW;obtain ⟨d0,d1,d2,g0,g1,g2⟩:=HPB.out.d3;go_wp2;have hr5:=rc_store3 (show RowIs _ w.heap.size 25 [.string ⟨#[]⟩,.slice none 0 0,.slice none 0 0] from HPB.out.r2) (.string ⟨#[]⟩) (.slice none 0 0) (.slice none 0 0);have hb5:=rc_below3 HPB.out.bel w.heap.size (Nat.le_refl _) (.string ⟨#[]⟩) (.slice none 0 0) (.slice none 0 0);generalize World.setCell _ _ _=w99 at hr5 hb5 ⊢;obtain ⟨e0,e1,e2,_,_,_⟩:=hr5.rc3
  try simp only [Exit.inBlock,Exit.then]
  refine bodyPost_ret (v:=.tuple #[docV noD (.slice none 0 0) (.slice none 0 0),.bool false]) (by simp [results,Tryz.results34,go_sem,e0,e1,e2,docV,noD]; try rfl) rfl ?_
  exact ⟨noD,_,_,false,rfl,by rw [hR.out]; rfl,OwnT.nil _ _,Own.nil _ _ _,hb5,fun h=>by cases h⟩
 subst hue;have KW2:=hid (KW.out rfl);have hV2:=HV1.out;rw [if_neg (by simp)] at hV2;have HV2:=hid hV2;clear KW hV2 HV1;obtain ⟨z0,z1,z2,z3,z4,z5,_,_,_,_,_,_⟩:=hrU.rc6;go_wp2_with fail
 generalize World.alloc w4 _=w5 at HPB5 hrU hbU z0 z1 z2 z3 z4 z5 ⊢;refine (KW2.out _ hbU).mono ?_
 rintro e w7 ⟨rfl,hw7⟩;have hWHl:(whoV u).1.length≤257:=who_len u;generalize (whoV u).2=WE;generalize (whoV u).1=WH at HV2 hWHl ⊢;have HPB7:=hid (HPB5.out.below hw7);have hr13:=rc_row3 w7 (.string ⟨WH.toArray⟩) (.slice none 0 0) (.slice none 0 0) 25;have hbD:Below w7.heap.size w7 (w7.alloc (.cells #[.string ⟨WH.toArray⟩,.slice none 0 0,.slice none 0 0] 25)):=(Below.refl _ w7).alloc (Nat.le_refl _) _;have hltD:=alloc_lt w7 (.cells #[.string ⟨WH.toArray⟩,.slice none 0 0,.slice none 0 0] 25);have HPB8:=hid (HPB7.out.below hbD);have hb28:=HPB8.out.bel;clear z0 z1 z2 z3 z4 z5 hrU HPB5 KW2 hbU hw7;go_wp2_with fail
 have hlt7:=HPB7.out.lt;obtain ⟨b,hbe⟩:∃ b,b=w7.heap.size:=⟨_,rfl⟩
 rw [← hbe] at hr13 hltD hlt7 ⊢;clear HPB7 hbD hbe;generalize World.alloc w7 _=w8 at HPB8 hr13 hltD hb28 ⊢;refine (KK.out tupleK (by decide) w8 hb28).mono ?_
 rintro e w9 ⟨kv,rfl,hownK,hw9⟩;have HPB9:=hid (HPB8.out.below hw9);have HR13:=hid (hr13.below hw9 hltD);have hb29:=HPB9.out.bel;have h2b:w.heap.size≤b:=Nat.le_of_lt hlt7;have hlt9:b < w9.heap.size:=Nat.lt_of_lt_of_le hltD hw9.size;have hg8:b < w8.heap.size:=hltD;clear HPB8 hr13 hb28 hltD;obtain ⟨P,hP⟩:∃ P,P=placesN tupleK 0 t 0:=⟨_,rfl⟩
 have hPs:P.map Prod.snd=namedX tupleK (kidsOf t):=by rw [hP]; exact namedP_kids _ _ _ _
 have hPsub:∀ y ∈ P,SubAt (ndsL cs) y.1 1 y.2:=by rw [hP]; exact HNS.out tupleK
 have hPl:=places_bd (nm:=tupleK) HS.out;rw [← hP] at hownK hPl;obtain ⟨ka,kc,hkf⟩:=own_form hownK;rw [List.length_map] at hkf;obtain ⟨pN,hpN⟩:∃ pN,pN=P.length:=⟨_,rfl⟩
 rw [← hpN] at hkf hPl;have hPl2:pN≤1000:=by have:=HCN.out; omega
 subst hkf;have HOWK:=hid hownK;have HPS:=hid hPsub;have HPN:=hid hpN;rw [← hPs] at HV2;obtain ⟨i1,hj,hy0,hy1,hy2⟩:=info_parts infoTup;clear hownK hPsub hpN hPs hP hPl hw9;go_wp2
 go_loopw [49] (fun i wr=>∃ (j:Nat) (acc:List Tu) (tv:Value),j≤pN∧i=.int .i64 (j:Int)∧Hid (tuplesT ((P.take j).map Prod.snd)=some acc)∧acc.length=j∧Hid (RowIs wr b 25 [.string ⟨WH.toArray⟩,tv,.slice none 0 0])∧Hid (OwnT wr w9.heap.size tv acc)∧Hid (FrR b w9 wr)∧Hid (∀ x ∈ acc,SmallT 1048576 x)) (fun i _=>pN - (intOf i).toNat)
 case atStart=>exact ⟨0,[],.slice none 0 0,Nat.zero_le _,rfl,show _=_ from rfl,rfl,HR13,hid (OwnT.nil _ _),hid (FrR.refl _ _),fun x hx=>by simp at hx⟩
 case round =>
  obtain ⟨j,acc,tv,hjn,rfl,hacc,hal,hrow,hot,hfr,hsma⟩:=hrel;have hbr:Below w.heap.size w wr:=hb29.trans (hfr.out.under h2b hb29.size);have HPBr:=hid (HPB9.out.fr hfr.out (by omega) (Nat.le_of_lt hlt9));obtain ⟨ta,tc,htf⟩:=hot.out.form;rw [hal] at htf;subst htf;by_cases hlt:j < pN
  ·have hjl:j < P.length:=by have:=HPN.out; omega
   obtain ⟨g,hka,cj⟩:=own_pos HOWK.out j (by simp; exact hjl);subst hka;rw [List.getElem_map] at cj;have hgb:g ≠ b:=fun e=>by have:=(World.ownsRow.lt HOWK.out g rfl).1; omega
   have cj:=hfr.out.cell cj hgb;have KT:=hid (KTu.out P[j].1 P[j].2 (HPS.out _ (List.getElem_mem hjl)) wr hbr);have HFail:Hid (tupleT P[j].2=none → R=none):=fun h=>by rw [HV2.out,tups_fail hjl h]
   have HNext:Hid (∀ x,tupleT P[j].2=some x → tuplesT ((P.take (j+1)).map Prod.snd)=some (acc++[x])):=fun x h=>tups_take hjl hacc.out h;have HSX:Hid (∀ x,tupleT P[j].2=some x → SmallT 1048576 x):=fun x h=>HSM.out P[j].1 P[j].2 (HPS.out _ (List.getElem_mem hjl)) x h;have q6:(j:Int) < (pN:Int):=by omega
   generalize P[j]=Y at cj KT HFail HNext HSX;obtain ⟨yp,yt⟩:=Y;simp only [TupP] at cj KT HFail HNext HSX;clear HV2 hacc HOWK HPS;go_wp2_with fail
   refine KT.out.mono ?_
   rintro e wa ⟨x,ok,rfl,hRx,hwa⟩;have HPBa:=hid (HPBr.out.below hwa);have hrowa:=hrow.out.below hwa (by have:=hfr.out.size; omega);have hota:=hot.out.below hwa;have hfra:=hfr.out.trans (FrR.below hwa);obtain ⟨xi,xo,xc,xp,xn⟩:=x;unfold tuV
   try simp only at hRx HNext
   have hbx:Below wa.heap.size wa (wa.alloc (.cells #[.string ⟨xi.toArray⟩,.bool xo,.string ⟨xc.toArray⟩,.int .i64 xp,.string ⟨xn.toArray⟩] 56)):=(Below.refl _ wa).alloc (Nat.le_refl _) _;have hrx:=rc_row5 wa (.string ⟨xi.toArray⟩) (.bool xo) (.string ⟨xc.toArray⟩) (.int .i64 xp) (.string ⟨xn.toArray⟩) 56;have HPBx:=hid (HPBa.out.below hbx);clear cj KT HPBr hrow hot hfr hwa
   cases ok with
   | false =>
    have hR:=hid (HFail.out (by rw [hRx]; rfl));have HPB:=HPBx;clear HFail HNext hRx;obtain ⟨d0,d1,d2,g0,g1,g2⟩:=HPB.out.d3;go_wp2;have hr5:=rc_store3 (show RowIs _ w.heap.size 25 [.string ⟨#[]⟩,.slice none 0 0,.slice none 0 0] from HPB.out.r2) (.string ⟨#[]⟩) (.slice none 0 0) (.slice none 0 0);have hb5:=rc_below3 HPB.out.bel w.heap.size (Nat.le_refl _) (.string ⟨#[]⟩) (.slice none 0 0) (.slice none 0 0);generalize World.setCell _ _ _=w99 at hr5 hb5 ⊢;obtain ⟨e0,e1,e2,_,_,_⟩:=hr5.rc3
    try simp only [Exit.inBlock,Exit.then]
    refine bodyPost_ret (v:=.tuple #[docV noD (.slice none 0 0) (.slice none 0 0),.bool false]) (by simp [results,Tryz.results34,go_sem,e0,e1,e2,docV,noD]; try rfl) rfl ?_
    exact ⟨noD,_,_,false,rfl,by rw [hR.out]; rfl,OwnT.nil _ _,Own.nil _ _ _,hb5,fun h=>by cases h⟩
   | true =>
    have HN:=hid (HNext.out ⟨xi,xo,xc,xp,xn⟩ (by rw [hRx]; rfl));have HSA:Hid (∀ x ∈ acc++[(⟨xi,xo,xc,xp,xn⟩:Tu)],SmallT 1048576 x):=fun x hx=>by
     rcases List.mem_append.1 hx with h | h
     ·exact hsma.out x h
     ·simp only [List.mem_singleton] at h; subst h; exact HSX.out _ (by rw [hRx]; rfl)
    have hrowx:=hrowa.below hbx (by have:=hfra.size; omega);have hotx:=hota.below hbx;have hfrx:=hfra.trans (FrR.below hbx);clear HFail HNext hRx HPBa HPBx hrowa hota hfra
    go_upto_region 15 with fail
    clear hbx;generalize World.alloc wa _=wx at hrx hrowx hotx hfrx ⊢;obtain ⟨p0,p1,p2,p3,p4,_,_,_,_,_⟩:=hrx.rc5;obtain ⟨r0,r1,r2,fr0,fr1,fr2⟩:=hrowx.rc3;have hnewT:=hid (fun (W:World) (g:Nat) (hg:g=W.heap.size)=>tu_newW W ⟨xi,xo,xc,xp,xn⟩ g hg);have HROW:=hid hrowx;have HFR:=hid hfrx;have hsx:=hfrx.size;clear hrx hrowx hfrx;go_wp2_with (at_builtin; refine wp_appTu _ rfl (.tmp 63) (.tmp 65) 22 rfl w9.heap.size i1 _ Tryz.underlying22 hj hy0 hy1 hy2 rfl (.slice ta j tc) acc rfl (by exact OwnT.alloc hotx _) ⟨_,0,none⟩ 1 ⟨xi,xo,xc,xp,xn⟩ rfl (by exact hnewT.out _ _ rfl) (by omega) _ (Below.refl _ _) (by simp; omega) ?_; intro v5 w5 hown5 hb5 hB5 hgr; have hrow5:=(HROW.out.below ((Below.refl _ wx).alloc (Nat.le_refl _) _) (by omega)).below hb5 hlt9; obtain ⟨o0,o1,o2,k0,k1,k2⟩:=hrow5.rc3; obtain ⟨xa,xk,e5⟩:=hown5.form; rw [show (acc++[(⟨xi,xo,xc,xp,xn⟩:Tu)]).length=j+1 by rw [List.length_append,hal]; rfl] at e5; subst e5; clear p0 p1 p2 p3 p4 r0 r1 r2 fr0 fr1 fr2)
    go_roundw
    case rel =>
     have hfr5:=(HFR.out.trans (FrR.below ((Below.refl _ wx).alloc (Nat.le_refl _) _))).low hb5;have hrow6:RowIs (w5.setCell ⟨b,1,none⟩ (.slice xa (j+1) xk)) b 25 [.string ⟨WH.toArray⟩,.slice xa (j+1) xk,.slice none 0 0]:=by simpa using hrow5.set 1 (.slice xa (j+1) xk)
     have hown6:OwnT (w5.setCell ⟨b,1,none⟩ (.slice xa (j+1) xk)) w9.heap.size (.slice xa (j+1) xk) (acc++[⟨xi,xo,xc,xp,xn⟩]):=ownsRow_setCell_below (a:=⟨b,1,none⟩) hown5 hlt9 _;have hfr6:FrR b w9 (w5.setCell ⟨b,1,none⟩ (.slice xa (j+1) xk)):=hfr5.setCell 1 _;exact ⟨j+1,acc++[⟨xi,xo,xc,xp,xn⟩],.slice xa (j+1) xk,by omega,by go_num,HN,by rw [List.length_append,hal]; rfl,hid hrow6,hid hown6,hid hfr6,HSA⟩
    case measure=>simp [intOf]; omega
  ·have hjp:j=pN:=by omega
   subst hjp;have hT:tuplesT (P.map Prod.snd)=some acc:=by have:=hacc.out; rwa [List.take_of_length_le (by have:=HPN.out; omega)] at this
   have hV3:=HV2.out;rw [hT] at hV3;simp only at hV3;have HV3:=hid hV3;have q6:¬ (j:Int) < (j:Int):=by omega
   clear hV3 hT HV2 hacc HOWK HPS HPN KTu;go_wp2_with fail
   refine (KK.out noteK (by decide) wr hbr).mono ?_
   rintro e wn ⟨kv2,rfl,hownK,hwn⟩;have hltr:b < wr.heap.size:=by have:=hfr.out.size; omega
   have HPBn:=hid (HPBr.out.below hwn);have HRn:=hid (hrow.out.below hwn hltr);have HTn:=hid (hot.out.below hwn);have hltn:b < wn.heap.size:=Nat.lt_of_lt_of_le hltr hwn.size;have hbn:=hbr.trans (hwn.mono hbr.size);have htb:(Value.slice ta j tc).ownBlock ≠ some b:=fun e=>by have:=(World.ownsRow.lt hot.out _ e).1; omega
   obtain ⟨Q,hQ⟩:∃ Q,Q=placesN noteK 0 t 0:=⟨_,rfl⟩
   have hQs:notesP Q=notesT (kidsOf t):=by unfold notesP notesT; rw [hQ]; unfold placesN; rw [namedP_kids]
   have hQsub:∀ y ∈ Q,SubAt (ndsL cs) y.1 1 y.2:=by rw [hQ]; exact HNS.out noteK
   have hQl:=places_bd (nm:=noteK) HS.out;rw [← hQ] at hownK hQl;obtain ⟨ka2,kc2,hkf2⟩:=own_form hownK;rw [List.length_map] at hkf2;obtain ⟨qN,hqN⟩:∃ qN,qN=Q.length:=⟨_,rfl⟩
   rw [← hqN] at hkf2 hQl;have hQl2:qN≤1000:=by have:=HCN.out; omega
   subst hkf2;have HOWQ:=hid hownK;have HQS:=hid hQsub;have HQN:=hid hqN;rw [← hQs] at HV3;obtain ⟨i2,hi2,hv0,hv1,hv2⟩:=info_parts infoStrD;clear hownK hQsub hqN hQs hQ hQl HPBr hrow hot hfr;go_wp2
   go_loopw [72] (fun i wr2=>∃ (m:Nat) (acc2:List (List UInt8)) (nv:Value),m≤qN∧i=.int .i64 (m:Int)∧Hid (notesP (Q.take m)=acc2)∧acc2.length≤m∧Hid (RowIs wr2 b 25 [.string ⟨WH.toArray⟩,.slice ta j tc,nv])∧Hid (Own wr2 wn.heap.size 9 nv (strs acc2))∧Hid (FrR b wn wr2)∧Hid (∀ s ∈ acc2,s.length≤1048576)) (fun i _=>qN - (intOf i).toNat)
   case atStart=>exact ⟨0,[],.slice none 0 0,Nat.zero_le _,rfl,show _=_ from rfl,Nat.zero_le _,HRn,hid (Own.nil _ _ _),hid (FrR.refl _ _),fun x hx=>by simp at hx⟩
   case round =>
    obtain ⟨m,acc2,nv,hmn,rfl,hacc2,hal2,hrow,hon,hfr,hsmn⟩:=hrel;have hbr2:Below w.heap.size w wr:=hbn.trans (hfr.out.under h2b hbn.size);have HPBr:=hid (HPBn.out.fr hfr.out (by omega) (Nat.le_of_lt hltn));have HT2:=hid (hfr.out.owns HTn.out htb);obtain ⟨na,nc,hnf⟩:∃ na nc,nv=.slice na acc2.length nc:=by
     rcases hon.out.2 with ⟨rfl,hn⟩ | ⟨g,cap2,cur,rfl,_⟩
     ·rw [strs_length] at hn; exact ⟨none,0,by rw [hn]⟩
     ·exact ⟨some ⟨g,0,none⟩,cap2,by rw [strs_length]⟩
    obtain ⟨an,han⟩:∃ an,an=acc2.length:=⟨_,rfl⟩
    rw [← han] at hnf;subst hnf;have HAN:=hid han;clear han;by_cases hlt:m < qN
    ·have hml:m < Q.length:=by have:=HQN.out; omega
     obtain ⟨g,hka,cj⟩:=own_pos HOWQ.out m (by simp; exact hml);subst hka;rw [List.getElem_map] at cj;have hgb:g ≠ b:=fun e=>by have:=(World.ownsRow.lt HOWQ.out g rfl).1; omega
     have cj:=hfr.out.cell cj hgb;obtain ⟨ad2,cap2,a2,hvf2,_,hpl2,_,_,_,t3,_,_,htl2⟩:=HND.out Q[m].1 1 Q[m].2 (HQS.out _ (List.getElem_mem hml));simp only [Value.slice.injEq,Option.some.injEq] at hvf2;obtain ⟨rfl,hcnx,rfl⟩:=hvf2;clear hcnx;have t3:=cell_below hbr2 (by simp only [add_block]; exact hab) t3;have hsnoc:=notesP_snoc hml;have hqi:((Q[m].1:Nat):Int) < (cn:Int):=by have:=HCN.out; omega
     have q6:(m:Int) < (qN:Int):=by omega
     generalize Q[m]=Y at cj t3 hsnoc hqi htl2 hpl2;obtain ⟨yp,yt⟩:=Y;simp only at cj t3 hsnoc hqi htl2;rw [hacc2.out] at hsnoc;generalize textOf yt=TX at t3 hsnoc htl2;obtain ⟨r0,r1,r2,fr0,fr1,fr2⟩:=hrow.out.rc3;clear HV3 hacc2 HOWQ HQS hpl2
     cases hTX:TX with
     | nil =>
      subst hTX;rw [if_pos (show ([]:List UInt8).isEmpty=true from rfl),List.append_nil] at hsnoc;have HN:=hid hsnoc;clear hsnoc r0 r1 r2 fr0 fr1 fr2;go_wp2;go_roundw
      case rel=>exact ⟨m+1,acc2,_,by omega,by go_num,HN,by omega,hrow,hon,hfr,hsmn⟩
      case measure=>simp [intOf]; omega
     | cons y0 y1 =>
      have pe:(TX==[])=false:=by rw [hTX]; rfl
      have pn2:(TX != [])=true:=by rw [bne,pe]; rfl
      rw [if_neg (by rw [hTX]; simp)] at hsnoc;have HN:=hid hsnoc;have HSN:Hid (∀ s ∈ acc2++[TX],s.length≤1048576):=fun s hs=>by
       rcases List.mem_append.1 hs with h | h
       ·exact hsmn.out s h
       ·simp only [List.mem_singleton] at h; subst h; exact htl2
      have hpl3:(strs acc2).length=acc2.length:=strs_length _;have HON:=hon;have HROW:=hrow;have HFR:=hfr;have hszr:=hfr.out.size;clear hsnoc hTX hsmn
      go_upto_region 21 with fail
      have hnb:∀ W',Below wr.heap.size wr W' → RowIs W' b 25 [.string ⟨WH.toArray⟩,.slice ta j tc,.slice na an nc]∧Own W' wn.heap.size 9 (.slice na an nc) (strs acc2)∧FrR b wn W'∧wn.heap.size≤W'.heap.size:=fun W' h=>⟨HROW.out.below h (by omega),HON.out.below h,HFR.out.trans (FrR.below h),Nat.le_trans hszr h.size⟩
      have HNB:=hid hnb;clear hnb;obtain ⟨ra0,ra1,ra2,fa0,fa1,fa2⟩:=(HNB.out _ ((Below.refl _ wr).alloc (Nat.le_refl _) (.cells #[.string ⟨TX.toArray⟩] 9))).1.rc3
      go_region_law ((refine step_app rfl (.tmp 83) (.tmp 89) 23 rfl wn.heap.size 9 i2 _ 16 Tryz.underlying23 hi2 hv0 hv1 hv2 rfl (.slice na an nc) (strs acc2) rfl (by exact (HON.out.alloc _).drew) ⟨_,0,none⟩ 1 1 [.string ⟨TX.toArray⟩] rfl rfl (by intro j2 u2 hj2; exact one_new wr _ _ j2 u2 hj2) (by intro u hu; simp at hu; subst hu; rfl) (by rw [hpl3]; unfold maxLen; omega) (by rw [hpl3]; omega) _ (Below.refl _ _) (by simp; omega) ?_; intro v5 w5 hown5 hb5 hB5; have hrow5:=(HNB.out _ ((Below.refl _ wr).alloc (Nat.le_refl _) _).drew).1.below hb5 hltn; have hfr5:=(HNB.out _ ((Below.refl _ wr).alloc (Nat.le_refl _) _).drew).2.2.1.low hb5; obtain ⟨o0,o1,o2,k0,k1,k2⟩:=hrow5.rc3; obtain ⟨xa,xk,e5⟩:=own_sform hown5; subst e5))
      all_goals
       have e1:strs acc2++[Value.string ⟨TX.toArray⟩]=strs (acc2++[TX]):=by simp [strs]
       have e2:(strs (acc2++[TX])).length=acc2.length+1:=by rw [strs_length]; simp
       rw [e1,e2] at hown5;have hrow6:RowIs (w5.setCell ⟨b,2,none⟩ (.slice xa (acc2.length+1) xk)) b 25 [.string ⟨WH.toArray⟩,.slice ta j tc,.slice xa (acc2.length+1) xk]:=by simpa using hrow5.set 2 (.slice xa (acc2.length+1) xk)
       have hown6:Own (w5.setCell ⟨b,2,none⟩ (.slice xa (acc2.length+1) xk)) wn.heap.size 9 (.slice xa (acc2.length+1) xk) (strs (acc2++[TX])):=ownsRow_setCell_below (a:=⟨b,2,none⟩) hown5 hltn _;have hfr6:FrR b wn (w5.setCell ⟨b,2,none⟩ (.slice xa (acc2.length+1) xk)):=hfr5.setCell 2 _;go_wp2;go_roundw
       case rel=>exact ⟨m+1,acc2++[TX],.slice xa (acc2.length+1) xk,by omega,by go_num,HN,by simp; omega,hid hrow6,hid hown6,hid hfr6,HSN⟩
       case measure=>simp [intOf]; omega
    ·have hmq:m=qN:=by omega
     subst hmq;have hA:notesP Q=acc2:=by have:=hacc2.out; rwa [List.take_of_length_le (by have:=HQN.out; omega)] at this
     rw [hA] at HV3;have q6:¬ (m:Int) < (m:Int):=by omega
     have hsd:SmallD 1048576 ⟨WH,acc,acc2⟩:=⟨by simp only; omega,by simp only; omega,by simp only; omega,hsma.out,hsmn.out⟩
     obtain ⟨r0,r1,r2,fr0,fr1,fr2⟩:=hrow.out.rc3;have hw9l:=HPB9.out.lt;have hwnl:=HPBn.out.lt;have HTc:=HT2;have HPB:=HPBr;obtain ⟨d0,d1,d2,g0,g1,g2⟩:=HPB.out.d3;have HR5:=hid (rc_store3 (show RowIs _ w.heap.size 25 [.string ⟨#[]⟩,.slice none 0 0,.slice none 0 0] from HPB.out.r2) (.string ⟨WH.toArray⟩) (.slice ta j tc) (.slice na an nc));have HB5:=hid (rc_below3 HPB.out.bel w.heap.size (Nat.le_refl _) (.string ⟨WH.toArray⟩) (.slice ta j tc) (.slice na an nc));have HT5:=hid (show OwnT (((wr.setCell ⟨w.heap.size,0,none⟩ (.string ⟨WH.toArray⟩)).setCell ⟨w.heap.size,1,none⟩ (.slice ta j tc)).setCell ⟨w.heap.size,2,none⟩ (.slice na an nc)) w9.heap.size (.slice ta j tc) acc from ownsRow_setCell_below (a:=⟨w.heap.size,2,none⟩) (ownsRow_setCell_below (a:=⟨w.heap.size,1,none⟩) (ownsRow_setCell_below (a:=⟨w.heap.size,0,none⟩) HTc.out (show w.heap.size < w9.heap.size by omega) _) (show w.heap.size < w9.heap.size by omega) _) (show w.heap.size < w9.heap.size by omega) _);have HO5:=hid (show Own (((wr.setCell ⟨w.heap.size,0,none⟩ (.string ⟨WH.toArray⟩)).setCell ⟨w.heap.size,1,none⟩ (.slice ta j tc)).setCell ⟨w.heap.size,2,none⟩ (.slice na an nc)) wn.heap.size 9 (.slice na an nc) (strs acc2) from ownsRow_setCell_below (a:=⟨w.heap.size,2,none⟩) (ownsRow_setCell_below (a:=⟨w.heap.size,1,none⟩) (ownsRow_setCell_below (a:=⟨w.heap.size,0,none⟩) hon.out (show w.heap.size < wn.heap.size by omega) _) (show w.heap.size < wn.heap.size by omega) _) (show w.heap.size < wn.heap.size by omega) _);clear hacc2 HOWQ HQS hA HND HNS HSM KK HT2 hrow hon HPBr;go_wp2;generalize World.setCell _ _ _=w99 at HR5 HB5 HT5 HO5 ⊢;obtain ⟨e0,e1,e2,_,_,_⟩:=HR5.out.rc3
     try simp only [Exit.inBlock,Exit.then]
     refine bodyPost_ret (v:=.tuple #[docV ⟨WH,acc,acc2⟩ (.slice ta j tc) (.slice na an nc),.bool true]) (by simp [results,Tryz.results34,go_sem,e0,e1,e2,docV]; try rfl) rfl ?_
     exact ⟨⟨WH,acc,acc2⟩,_,_,true,rfl,by rw [HV3.out]; rfl,ownT_lower HT5.out (by omega),own_lower HO5.out (by omega),HB5.out,fun _=>⟨hsd,hWHl⟩⟩
theorem ownT_cap {w:World} {B:Nat} {v:Value} {ts:List Tu} (h:OwnT w B v ts):CapTu v:=by
 intro a n c e
 rcases h.2 with ⟨rfl,hn⟩ | ⟨g,cap,cur,rfl,_,_,hc,_⟩
 ·injection e with _ h1 h2; omega
 ·injection e with _ h1 h2; omega
theorem SmallD.up {B C:Nat} {d:Dc} (h:SmallD B d) (hc:B≤C):SmallD C d :=
 ⟨Nat.le_trans h.ent hc,Nat.le_trans h.tl hc,Nat.le_trans h.nl hc,fun t ht=>⟨Nat.le_trans (h.ts t ht).1 hc,Nat.le_trans (h.ts t ht).2.1 hc,Nat.le_trans (h.ts t ht).2.2.1 hc,(h.ts t ht).2.2.2⟩,fun s hs=>Nat.le_trans (h.ns s hs) hc⟩
set_option maxHeartbeats 2000000 in
set_option maxRecDepth 100000 in
theorem pparse_ok (l:List UInt8) (nl:List Nd) (t:XT) (w:World) (hl:l.length≤140737488355328) (hx:parseX l=(nl,0)) (hf:flatX 0 t=nl) :
  Calls Tryz.prog 15 #[.string ⟨l.toArray⟩] w fun e w'=>DcP (docT t) w e w':=by
 have K:=hid (fun w'=>xparse_any l w' hl);rw [hx] at K;simp only [ParP] at K;have HPB:=hid (pe_new w);have HRD:=hid (fun w' B v cs (h:OwnN w' B v cs) (hk:ndsL cs=nl)=>rowD_of h hx hk);have HSB:Hid (∀ cs:List NdC,ndsL cs=nl → SubAt (ndsL cs) 0 0 t):=fun cs hk=>by rw [hk]; exact sub_root hf
 have hv:=docT_is t;generalize docT t=R at hv ⊢;have HV:=hid hv;clear hv hx hf
 go_enter Tryz.func15,Tryz.ntmps15
 go_wp2_with fail
 generalize World.alloc w _=W1 at HPB ⊢;refine (K.out _).mono ?_
 rintro e w2 ⟨v2,cs,rfl,hk2,hown2,hw2⟩;have HPB2:=hid (HPB.out.below hw2);have KD:=hid (pdoc_any v2 cs t w2 (HSB.out cs hk2) (HRD.out _ _ _ _ hown2 hk2));simp only [DcR] at KD;obtain ⟨va,vc,hvf⟩:=hown2.form;obtain ⟨n2,hn2⟩:∃ n2,n2=cs.length:=⟨_,rfl⟩
 rw [← hn2] at hvf;subst hvf;clear HPB HRD HSB K hown2 hk2 hn2 hw2;generalize docR t=RR at KD HV;go_wp2_with fail
 refine KD.out.mono ?_
 rintro e w3 ⟨d,ts,ns,ok,rfl,hRR,hot,hon,hw3,hsm⟩;have HPB3:=hid (HPB2.out.below hw3);have hb0:=HPB2.out.lt;obtain ⟨ta,tc,htf⟩:=hot.form;obtain ⟨na,nc,hnf⟩:=own_sform hon;rw [strs_length] at hnf;have hcap:=ownT_cap hot;have hta:=OwnT.tusAt hot;have hna:=own_strsAt hon;have HOT:=hid hot;have HON:=hid hon;have HSM:=hid hsm;clear hot hon hsm KD hw3 HPB2;have KC:=hid (fun (h:ok=true) w' (hb:Below w3.heap.size w3 w')=>pcheck_any d ts ns w' ((HSM.out h).1.up (by decide)) (by have:=(HSM.out h).2; omega) hcap (hta.below hb) (hna.below hb));obtain ⟨tn,htn⟩:∃ tn,tn=d.tuples.length:=⟨_,rfl⟩
 obtain ⟨nn,hnn⟩:∃ nn,nn=d.notes.length:=⟨_,rfl⟩
 rw [← htn] at htf;rw [← hnn] at hnf;subst htf hnf;clear hcap hta hna htn hnn;have hrD:=rc_row3 w3 (.string ⟨d.entity.toArray⟩) (.slice ta tn tc) (.slice na nn nc) 25;have hbD:Below w3.heap.size w3 (w3.alloc (.cells #[.string ⟨d.entity.toArray⟩,.slice ta tn tc,.slice na nn nc] 25)):=(Below.refl _ w3).alloc (Nat.le_refl _) _;have hltD:=alloc_lt w3 (.cells #[.string ⟨d.entity.toArray⟩,.slice ta tn tc,.slice na nn nc] 25);have HPB4:=hid (HPB3.out.below hbD);have HOT4:=hid (HOT.out.below hbD);have HON4:=hid (HON.out.below hbD);unfold docV at KC ⊢;simp only at KC ⊢
 cases ok with
 | false =>
  have hR:Hid (R=(noD,140)):=show _=_ by rw [HV.out,hRR]; rfl
  have HPB:=HPB4;clear HV hRR HOT4 HON4 HOT HON KC HPB3;obtain ⟨d0,d1,d2,g0,g1,g2⟩:=HPB.out.d3;go_wp2;have hr5:=rc_store3 (show RowIs _ w.heap.size 25 [.string ⟨#[]⟩,.slice none 0 0,.slice none 0 0] from HPB.out.r2) (.string ⟨#[]⟩) (.slice none 0 0) (.slice none 0 0);have hb5:=rc_below3 HPB.out.bel w.heap.size (Nat.le_refl _) (.string ⟨#[]⟩) (.slice none 0 0) (.slice none 0 0);generalize World.setCell _ _ _=w99 at hr5 hb5 ⊢;obtain ⟨e0,e1,e2,_,_,_⟩:=hr5.rc3
  try simp only [Exit.inBlock,Exit.then]
  refine bodyPost_ret (v:=.tuple #[docV noD (.slice none 0 0) (.slice none 0 0),.int .i64 140]) (by simp [results,Tryz.results15,go_sem,e0,e1,e2,docV,noD]; try rfl) rfl ?_
  rw [hR.out];exact ⟨_,_,rfl,OwnT.nil _ _,Own.nil _ _ _,hb5⟩
 | true =>
  have hV2:R=if checkD d ≠ 0 then (noD,checkD d) else (d,0):=by rw [HV.out,hRR]; rfl
  have HV2:=hid hV2;have KC2:=hid (KC.out rfl);clear HV hV2 hRR HOT HON KC HPB3;obtain ⟨p0,p1,p2,_,_,_⟩:=hrD.rc3;go_wp2_with fail
  generalize World.alloc w3 _=w4 at hrD hbD hltD HPB4 HOT4 HON4 p0 p1 p2 ⊢;refine (KC2.out _ hbD).mono ?_
  rintro e w5 ⟨rfl,hw5⟩;have HPB:=hid (HPB4.out.below hw5);have hrD5:=hrD.below hw5 hltD;have HOT5:=hid (HOT4.out.below hw5);have HON5:=hid (HON4.out.below hw5);clear p0 p1 p2 hrD hbD hltD HPB4 HOT4 HON4 KC2 hw5;obtain ⟨p0,p1,p2,_,_,_⟩:=hrD5.rc3;obtain ⟨d0,d1,d2,g0,g1,g2⟩:=HPB.out.d3;generalize checkD d=ck at HV2 ⊢;by_cases hck:ck=0
  ·subst hck;have HRS:Hid (R=(d,0)):=show _=_ by rw [HV2.out,if_neg (by simp)]
   have HR5:=hid (rc_store3 (show RowIs _ w.heap.size 25 [.string ⟨#[]⟩,.slice none 0 0,.slice none 0 0] from HPB.out.r2) (.string ⟨d.entity.toArray⟩) (.slice ta tn tc) (.slice na nn nc));have HB5:=hid (rc_below3 HPB.out.bel w.heap.size (Nat.le_refl _) (.string ⟨d.entity.toArray⟩) (.slice ta tn tc) (.slice na nn nc));have HT5:=hid (show OwnT (((w5.setCell ⟨w.heap.size,0,none⟩ (.string ⟨d.entity.toArray⟩)).setCell ⟨w.heap.size,1,none⟩ (.slice ta tn tc)).setCell ⟨w.heap.size,2,none⟩ (.slice na nn nc)) w2.heap.size (.slice ta tn tc) d.tuples from ownsRow_setCell_below (a:=⟨w.heap.size,2,none⟩) (ownsRow_setCell_below (a:=⟨w.heap.size,1,none⟩) (ownsRow_setCell_below (a:=⟨w.heap.size,0,none⟩) HOT5.out hb0 _) hb0 _) hb0 _);have HO5:=hid (show Own (((w5.setCell ⟨w.heap.size,0,none⟩ (.string ⟨d.entity.toArray⟩)).setCell ⟨w.heap.size,1,none⟩ (.slice ta tn tc)).setCell ⟨w.heap.size,2,none⟩ (.slice na nn nc)) w2.heap.size 9 (.slice na nn nc) (strs d.notes) from ownsRow_setCell_below (a:=⟨w.heap.size,2,none⟩) (ownsRow_setCell_below (a:=⟨w.heap.size,1,none⟩) (ownsRow_setCell_below (a:=⟨w.heap.size,0,none⟩) HON5.out hb0 _) hb0 _) hb0 _);clear HPB HOT5 HON5 HV2 hrD5;go_wp2;generalize World.setCell _ _ _=w99 at HR5 HB5 HT5 HO5 ⊢;obtain ⟨e0,e1,e2,_,_,_⟩:=HR5.out.rc3
   try simp only [Exit.inBlock,Exit.then]
   refine bodyPost_ret (v:=.tuple #[docV d (.slice ta tn tc) (.slice na nn nc),.int .i64 0]) (by simp [results,Tryz.results15,go_sem,e0,e1,e2,docV]; try rfl) rfl ?_
   rw [HRS.out];exact ⟨_,_,rfl,ownT_lower HT5.out (by omega),own_lower HO5.out (by omega),HB5.out⟩
  ·have HRS:Hid (R=(noD,ck)):=show _=_ by rw [HV2.out,if_pos hck]
   have q9:(ck != 0)=true:=by simpa using hck
   have hr5:=hid (rc_store3 (show RowIs _ w.heap.size 25 [.string ⟨#[]⟩,.slice none 0 0,.slice none 0 0] from HPB.out.r2) (.string ⟨#[]⟩) (.slice none 0 0) (.slice none 0 0));have hb5:=hid (rc_below3 HPB.out.bel w.heap.size (Nat.le_refl _) (.string ⟨#[]⟩) (.slice none 0 0) (.slice none 0 0));clear HPB HOT5 HON5 HV2 hrD5 hck;go_wp2;generalize World.setCell _ _ _=w99 at hr5 hb5 ⊢;obtain ⟨e0,e1,e2,_,_,_⟩:=hr5.out.rc3
   try simp only [Exit.inBlock,Exit.then]
   refine bodyPost_ret (v:=.tuple #[docV noD (.slice none 0 0) (.slice none 0 0),.int .i64 ck]) (by simp [results,Tryz.results15,go_sem,e0,e1,e2,docV,noD]; try rfl) rfl ?_
   rw [HRS.out];exact ⟨_,_,rfl,OwnT.nil _ _,Own.nil _ _ _,hb5.out⟩
set_option maxHeartbeats 2000000 in
set_option maxRecDepth 100000 in
theorem pprint_ok (d:Dc) (ts ns:Value) (w:World) (hcp:CapTu ts) (hts:TusAt w ts d.tuples) (hns:StrsAt w ns d.notes) (hc:checkD d=0) :
  Calls Tryz.prog 11 #[docV d ts ns] w fun e w'=>e=.returned (.tuple #[.string ⟨(prologK++printX (treeD d)).toArray⟩,.int .i64 0])∧Below w.heap.size w w':=by
 have hel:=ent_len hc;have hsm:=small_checked hc;obtain ⟨_,hT16,hN16,_,_,_⟩:=checkD_ok hc;have KC:=hid (fun w' (h:Below w.heap.size w w')=>pcheck_any d ts ns w' (hsm.up (by decide)) (by omega) hcp (hts.below h) (hns.below h));rw [hc] at KC;have KE:=hid (fun w' (h:Below w.heap.size w w')=>pelems_any d ts ns w' (by omega) hT16 hN16 (fun t ht=>(hsm.ts t ht).2.2.2) (hts.below h) (hns.below h));have KP:Hid (∀ (w':World) (v:Value) (cs:List NdC) (B:Nat),ndsL cs=flatX 0 (treeD d) → OwnN w' B v cs → Calls Tryz.prog 24 #[v] w' fun e w2=>e=.returned (.tuple #[.string ⟨(prologK++printX (treeD d)).toArray⟩,.int .i64 0])∧Below w'.heap.size w' w2):=fun w' v cs B hk ho =>
  xprint_ok v cs (treeD d) w' (fun c hcc=>(tree_sm hc c.nd (by rw [← hk]; exact List.mem_map.2 ⟨c,hcc,rfl⟩)).small (by decide)) ho.ndsAt (by rw [hk]; exact tree_check hc) hk.symm (by have:=print_sm hc; omega)
 generalize prologK++printX (treeD d)=Z at KP ⊢;generalize flatX 0 (treeD d)=F at KP KE;obtain ⟨en,tl,nl⟩:=d;unfold docV at KC KE ⊢;simp only at KC KE ⊢;clear hc hsm hel hts hns hcp hT16 hN16;have hbn:Below w.heap.size w (w.alloc (.cells #[.string ⟨en.toArray⟩,ts,ns] 25)):=(Below.refl _ w).alloc (Nat.le_refl _) _;have hbr:=rc_row3 w (.string ⟨en.toArray⟩) ts ns 25;have hlt0:=alloc_lt w (.cells #[.string ⟨en.toArray⟩,ts,ns] 25);obtain ⟨x0,x1,x2,_,_,_⟩:=hbr.rc3
 go_enter Tryz.func11,Tryz.ntmps11
 go_wp2_with fail
 generalize World.alloc w _=W0 at x0 x1 x2 hbn hbr hlt0 ⊢;refine (KC.out _ hbn).mono ?_
 rintro e w1 ⟨rfl,hw1⟩;have hb1:=hbn.trans (hw1.mono hbn.size);obtain ⟨y0,y1,y2,_,_,_⟩:=(hbr.below hw1 hlt0).rc3;clear x0 x1 x2;go_wp2_with fail
 refine (KE.out _ hb1).mono ?_
 rintro e w2 ⟨v2,cs2,rfl,hF2,hown2,hw2⟩;have hb2:=hb1.trans (hw2.mono hb1.size);have KQ:=hid (KP.out w2 v2 cs2 _ hF2 hown2);obtain ⟨a2,k2,hv2⟩:=hown2.form;obtain ⟨n2,hn2⟩:∃ n2,n2=cs2.length:=⟨_,rfl⟩
 rw [← hn2] at hv2;subst hv2;clear hn2 hF2 hown2 KP KE KC y0 y1 y2;go_wp2_with fail
 refine KQ.out.mono ?_
 rintro e w3 ⟨rfl,hw3⟩;go_wp2;go_ret2;exact ⟨rfl,hb2.trans (hw3.mono hb2.size)⟩
def awkD:Dc:=⟨[97,64,98],[⟨[116],true,[],-1,[]⟩],[]⟩
def awkT1:List UInt8:=[48,46,48,53,48]
def awkT2:List UInt8:=[49,46,48,48,49]
theorem awkT1_is:thouC awkT1=(50,true):=by decide +kernel
theorem awkT2_is:thouC awkT2=(0,false):=by decide +kernel
theorem awkD_is:checkD awkD=0:=by decide +kernel
theorem awkD_len:(prologK++printX (treeD awkD)).length≤4096:=by decide +kernel
theorem awkDec_is:decL 500=[48,46,53]:=by decide +kernel
theorem tus_one (W:World) (x:Tu) (g:Nat) (hg:g=W.heap.size):TusAt (W.alloc (.cells #[.string ⟨x.id.toArray⟩,.bool x.opn,.string ⟨x.contact.toArray⟩,.int .i64 x.prio,.string ⟨x.note.toArray⟩] 56)) (.slice (some ⟨g,0,none⟩) 1 1) [x]:=by
 have h:=tu_newW W x g hg;have e:∀ j,(⟨g,0,none⟩:Addr).add j=⟨g,j,none⟩:=fun j=>by unfold Addr.add; split <;> simp_all
 refine ⟨_,1,rfl,fun k hk=>⟨_,rfl,by subst hg; simp,?_⟩⟩
 obtain rfl:k=0:=by simpa using hk
 have h0:=h 0 _ rfl;have h1:=h 1 _ rfl;have h2:=h 2 _ rfl;have h3:=h 3 _ rfl;have h4:=h 4 _ rfl;rw [e] at h0 h1 h2 h3 h4;refine ⟨?_,?_,?_,?_,?_⟩
 ·rw [e]; exact h0
 ·rw [e]; exact h1
 ·rw [e]; exact h2
 ·rw [e]; exact h3
 ·rw [e]; exact h4
theorem sNoneD (w:World):StrsAt w (.slice none 0 0) []:=⟨none,0,rfl,fun k hk=>by simp at hk⟩
theorem cap_one (a:Option Addr) (n:Nat):CapTu (.slice a n n):=fun b m c e=>by injection e with _ h1 h2; omega
theorem pback_any (d:Dc) (w:World) (hc:checkD d=0) (hl:(prologK++printX (treeD d)).length≤4096) :
  Calls Tryz.prog 15 #[.string ⟨(prologK++printX (treeD d)).toArray⟩] w fun e w'=>DcP (d,0) w e w':=by
 have h:=pparse_ok (prologK++printX (treeD d)) (flatX 0 (treeD d)) (treeD d) w (by omega) (pidf_back hc hl) rfl;rw [doc_said hc] at h;exact h
set_option maxHeartbeats 2000000 in
set_option maxRecDepth 100000 in
theorem awake14_any (w:World):Calls Tryz.prog 10 #[] w fun e w'=>e=.returned (.bool true)∧Below w.heap.size w w':=by
 have K1:=hid (fun w'=>pthou_any awkT1 w' (by decide));have K2:=hid (fun w'=>pthou_any awkT2 w' (by decide));rw [awkT1_is] at K1;rw [awkT2_is] at K2;have E1:Hid ((⟨#[48,46,48,53,48]⟩:ByteArray)=⟨awkT1.toArray⟩):=rfl;have E2:Hid ((⟨#[49,46,48,48,49]⟩:ByteArray)=⟨awkT2.toArray⟩):=rfl;have K3:=hid (fun w' ts ns (hcp:CapTu ts) (h1:TusAt w' ts awkD.tuples) (h2:StrsAt w' ns awkD.notes)=>pprint_ok awkD ts ns w' hcp h1 h2 awkD_is);have K4:=hid (fun w'=>pback_any awkD w' awkD_is awkD_len);have K5:=hid (fun w'=>pdec_any 500 w');rw [awkDec_is] at K5;generalize prologK++printX (treeD awkD)=Z at K3 K4
 go_enter Tryz.func10,Tryz.ntmps10
 go_wp2_with fail
 rw [E1.out];refine (K1.out _).mono ?_
 rintro e w1 ⟨rfl,q1,rfl⟩;go_wp2_with fail
 rw [E2.out];refine (K2.out _).mono ?_
 rintro e w2 ⟨rfl,q2,hw2⟩;have hb2:Below w.heap.size w w2:=by rw [hw2]; exact (below_drewN w q1).trans ((below_drewN _ q2).mono (Nat.le_refl _))
 clear hw2 K1 K2;have hT:=tus_one w2 ⟨[116],true,[],-1,[]⟩ _ rfl;have hb3:=hb2.alloc hb2.size (.cells #[.string ⟨#[116]⟩,.bool true,.string ⟨#[]⟩,.int .i64 (-1),.string ⟨#[]⟩] 56);go_wp2_with fail
 generalize hW3:World.alloc w2 _=W3;have hT3:TusAt W3 (.slice (some ⟨w2.heap.size,0,none⟩) 1 1) awkD.tuples:=by rw [← hW3]; exact hT
 have hB3:Below w.heap.size w W3:=by rw [← hW3]; exact hb3
 clear hT hb3 hW3;refine (K3.out W3 (.slice (some ⟨w2.heap.size,0,none⟩) 1 1) (.slice none 0 0) (cap_one _ _) hT3 (sNoneD _)).mono ?_
 rintro e w4 ⟨rfl,hw4⟩;have hb4:=hB3.trans (hw4.mono hB3.size);clear hT3 hB3 hw4 K3;go_wp2_with fail
 refine (K4.out _).mono ?_
 rintro e w5 ⟨ts,ns,rfl,ht5,hn5,hw5⟩;have hb5:=hb4.trans (hw5.mono hb4.size);have hta:=hid ht5.tusAt;obtain ⟨na,nk,hnf⟩:=own_sform hn5;clear ht5 hn5 hw5 hb4 K4;obtain ⟨ta,tk,htf,hcT⟩:=hta.out;obtain ⟨ad,rfl,hab,hcx⟩:=hcT 0 (by decide);rw [show awkD.tuples.length=1 from rfl] at htf;rw [show (strs awkD.notes).length=0 from rfl] at hnf;subst htf hnf;have hr6:=rc_row3 w5 (.string ⟨#[97,64,98]⟩) (.slice (some ad) 1 tk) (.slice na 0 nk) 25;have hbb:Below w5.heap.size w5 (w5.alloc (.cells #[.string ⟨#[97,64,98]⟩,.slice (some ad) 1 tk,.slice na 0 nk] 25)):=(Below.refl _ w5).alloc (Nat.le_refl _) _;have hlt6:=alloc_lt w5 (.cells #[.string ⟨#[97,64,98]⟩,.slice (some ad) 1 tk,.slice na 0 nk] 25);unfold docV;simp only [awkD];clear hta hcT;go_wp2_with fail
 generalize hW6:World.alloc w5 _=W6;have hR6:RowIs W6 w5.heap.size 25 [.string ⟨#[97,64,98]⟩,.slice (some ad) 1 tk,.slice na 0 nk]:=by rw [← hW6]; exact hr6
 have hB6:Below w5.heap.size w5 W6:=by rw [← hW6]; exact hbb
 have hL6:w5.heap.size < W6.heap.size:=by rw [← hW6]; exact hlt6
 clear hr6 hbb hlt6 hW6;refine (K5.out _).mono ?_
 rintro e w7 ⟨rfl,hw7⟩;obtain ⟨y0,y1,y2,_,_,_⟩:=(hR6.below hw7 hL6).rc3;have hb57:=hB6.trans (hw7.mono (Nat.le_of_lt hL6));have c1:=(hcx.below hb57 hab).c1;have hb7:=hb5.trans (hb57.mono hb5.size);clear hcx hR6 hB6 hw7 hb57 K5;rw [show (awkD.tuples[0]).opn=true from rfl] at c1;have c1:w7.cell? ⟨ad.block,ad.off+1,none⟩=some (.bool true):=by
  have e:ad.add (0 * 5)=ad:=by cases ad; unfold Addr.add; split <;> simp_all
  rw [e] at c1; exact c1
 go_wp2;go_ret;exact ⟨rfl,hb7⟩
structure DocAt (w:World) (d:Dc) (ts ns:Value):Prop where
 t:TusAt w ts d.tuples
 n:StrsAt w ns d.notes
 c:CapTu ts
theorem DocAt.below {w w':World} {d:Dc} {ts ns:Value} (h:DocAt w d ts ns) (hb:Below w.heap.size w w'):DocAt w' d ts ns:=⟨h.t.below hb,h.n.below hb,h.c⟩
theorem DocAt.alloc {w:World} {d:Dc} {ts ns:Value} (h:DocAt w d ts ns) (o:Obj):DocAt (w.alloc o) d ts ns:=h.below ((Below.refl _ w).alloc (Nat.le_refl _) o)
end Go.Proofs.YtdnekampnkhmfaaGreatDoor
