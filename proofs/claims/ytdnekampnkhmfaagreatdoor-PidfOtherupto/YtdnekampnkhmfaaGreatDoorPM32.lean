/-
  PR10, PQ4, PR9, P14All, WPidfParses.
-/
import Derived.Test.YtdnekampnkhmfaaGreatDoorPM35
import Derived.Test.YtdnekampnkhmfaaGreatDoorPM23
import Derived.Test.YtdnekampnkhmfaaGreatDoorPM31
set_option linter.unusedVariables false
set_option linter.unusedSimpArgs false
set_option maxRecDepth 20000
namespace Go.Proofs.YtdnekampnkhmfaaGreatDoor
open Go.RowKit Sc
set_option maxHeartbeats 4000000 in
set_option maxRecDepth 100000 in
theorem rparse14_ok (s:ByteArray) (l:List Nd) (t:XT) (w:World) (hs:s.size≤140737488355328) (hx:parseX s.data.toList=(l,0)) (hf:flatX 0 t=l) :
  Calls Tryz.prog 16 #[.string s] w fun e w'=>DcP (docT t) w e w':=by
 have K:=hid (fun w'=>rparse13_any s w' hs);rw [hx] at K;simp only [ParP] at K;have HPB:=hid (pb_new w);have HRD:=hid (fun w' B v cs (h:OwnN w' B v cs) (hk:ndsL cs=l)=>rowD_of h hx hk);have HSB:Hid (∀ cs:List NdC,ndsL cs=l → SubAt (ndsL cs) 0 0 t):=fun cs hk=>by rw [hk]; exact sub_root hf
 have hv:docT t=if (entU t).2 ≠ 0∨localX (nameT t) ≠ presenceK then (noD,140) else match tuplesT (namedX tupleK (kidsOf t)) with | none=>(noD,140) | some ts=>if checkD ⟨(whoV (entU t).1).1,ts,notesT (kidsOf t)⟩ ≠ 0 then (noD,checkD ⟨(whoV (entU t).1).1,ts,notesT (kidsOf t)⟩) else (⟨(whoV (entU t).1).1,ts,notesT (kidsOf t)⟩,0):=rfl
 have hen:entU t=parseV ((attG entityK (attrsOf t)).getD []):=rfl;generalize docT t=R at hv ⊢;have HV:=hid hv;clear hv hx hf
 go_enter Tryz.func16,Tryz.ntmps16
 go_wp2_with fail
 generalize World.alloc (World.alloc w _) _=W1 at HPB ⊢;refine (K.out _).mono ?_
 rintro e w2 ⟨v2,cs,rfl,hk2,hown2,hw2⟩;have HPB2:=hid (HPB.out.below hw2);have HR:=hid (HRD.out _ _ _ _ hown2 hk2);have HS:=hid (HSB.out cs hk2);clear HPB HRD HSB K hown2 hk2;have KK:=hid (fun nm (hnm:nm.length≤1000) w' (hb:Below w2.heap.size w2 w')=>rkids14_any v2 cs 0 0 t nm w' HS.out (HR.out.below hb) hnm);have KTu:=hid (fun q k (hq:SubAt (ndsL cs) q 1 k) w' (hb:Below w2.heap.size w2 w')=>rtuple_any v2 cs q 1 k w' hq (HR.out.below hb));have HND:=hid (fun q dq k (hq:SubAt (ndsL cs) q dq k)=>HR.out.node hq);have HSM:=hid (fun q k (hq:SubAt (ndsL cs) q 1 k) x (hx:tupleT k=some x)=>HR.out.tup hq hx);have HNS:=hid (fun nm=>namedP_sub (nm:=nm) HS.out);obtain ⟨ad,cap,a,hvf,hab,hpl,c0,c1,c2,c3,hpa,hsp,htl⟩:=HR.out.node HS.out;have hnl:=(HR.out.small _ (List.getElem_mem hpl))
 have hnl2:(nameT t).length≤1048576:=by
  obtain ⟨hp2,hnd2⟩:=sub_at HS.out
  have:=(HR.out.small _ (List.getElem_mem hp2)).1
  rw [hnd2] at this;exact this
 have hlen:=HR.out.len;have hentl:((attG entityK (attrsOf t)).getD []).length≤1048576:=by
  cases hP:attG entityK (attrsOf t) with
  | none=>simp
  | some v=>exact attG_small hsp hP
 have KA:=hid (fun w' (hb:Below w2.heap.size w2 w')=>rattG_any ⟨((0:Nat):Int),nameT t,attrsOf t,textOf t⟩ a entityK w' (by have:=hsp.1; simp only; omega) (hpa.below hb));simp only [ndV,attV_is] at KA;rw [show ((0:Nat):Int)=0 from rfl] at KA;have KL:=hid (fun w'=>rlocal_any (nameT t) w' (by omega));have KU:=hid (fun w'=>refparse_any ((attG entityK (attrsOf t)).getD []) w' hentl);rw [← hen] at KU;obtain ⟨pa,pc,hpf⟩:=hpa.form;obtain ⟨pn,hpn⟩:∃ pn,pn=(attrsOf t).length:=⟨_,rfl⟩
 rw [← hpn] at hpf;obtain ⟨cn,hcn⟩:∃ cn,cn=cs.length:=⟨_,rfl⟩
 rw [← hcn] at hvf hpl hlen;have HCN:=hid hcn;subst hvf hpf;have y0:w2.cell? ad=some (.int .i64 0):=by simpa [Addr.add] using c0
 have y1:w2.cell? ⟨ad.block,ad.off+1,none⟩=some (.string ⟨(nameT t).toArray⟩):=by simpa [Addr.add] using c1
 have y2:w2.cell? ⟨ad.block,ad.off+2,none⟩=some (.slice pa pn pc):=by simpa [Addr.add] using c2
 have y3:w2.cell? ⟨ad.block,ad.off+3,none⟩=some (.string ⟨(textOf t).toArray⟩):=by simpa [Addr.add] using c3
 have HEN:=hid (fun (h:(entU t).2=0)=>parse_checked (show parseV ((attG entityK (attrsOf t)).getD [])=((entU t).1,0) by rw [← hen,← h]));have hq0:(0:Int) < (cn:Int):=by omega
 clear hpn hcn hpa hsp c0 c1 c2 c3 hnl hen hw2 HR;generalize (attG entityK (attrsOf t)).getD []=EN at KA KU hentl HEN;generalize (attG entityK (attrsOf t)).isSome=ES at KA;generalize entU t=UE at HV KU HEN;obtain ⟨u,ue⟩:=UE;simp only at HV KU HEN;go_wp2_with fail
 refine (KA.out _ (Below.refl _ _)).mono ?_
 rintro e w3 ⟨rfl,hw3⟩;have HPB3:=hid (HPB2.out.below hw3);clear HPB2 KA y0 y2 y3;go_wp2_with fail
 refine (KU.out _).mono ?_
 rintro e w4 ⟨up,uh,rfl,hup,huh,hw4⟩;have hpp:=hup.parsAt;have hph:=huh.parsAt;obtain ⟨ua,uc,e1⟩:=hpp.form;obtain ⟨va,vc,e2⟩:=hph.form;obtain ⟨un,hun⟩:∃ un,un=u.params.length:=⟨_,rfl⟩
 obtain ⟨vn,hvn⟩:∃ vn,vn=u.headers.length:=⟨_,rfl⟩
 rw [← hun] at e1;rw [← hvn] at e2;subst e1 e2;have HPB4:=hid (HPB3.out.below hw4);have hb4:Below w2.heap.size w2 w4:=hw3.trans (hw4.mono hw3.size);have KW:=hid (fun (h:ue=0) w' (hb:Below w4.heap.size w4 w')=>refwho_any u (.slice ua un uc) (.slice va vn vc) w' (small_of_check (HEN.out h)) (hpp.below hb) (hph.below hb));unfold uriV at KW;have hrU:=rc_row6 w4 (.string ⟨u.scheme.toArray⟩) (.string ⟨u.user.toArray⟩) (.string ⟨u.host.toArray⟩) (.int .i64 u.port) (.slice ua un uc) (.slice va vn vc) 73;have hltU:=alloc_lt w4 (.cells #[.string ⟨u.scheme.toArray⟩,.string ⟨u.user.toArray⟩,.string ⟨u.host.toArray⟩,.int .i64 u.port,.slice ua un uc,.slice va vn vc] 73);have hbU:Below w4.heap.size w4 (w4.alloc (.cells #[.string ⟨u.scheme.toArray⟩,.string ⟨u.user.toArray⟩,.string ⟨u.host.toArray⟩,.int .i64 u.port,.slice ua un uc,.slice va vn vc] 73)):=(Below.refl _ w4).alloc (Nat.le_refl _) _;have HPB5:=hid (HPB4.out.below hbU);have hbU2:=hb4.trans (hbU.mono hb4.size);have x1:=cell_below hbU2 (show (⟨ad.block,ad.off+1,none⟩:Addr).block < w2.heap.size from hab) y1;clear hup huh hpp hph hun hvn KU HPB3 HPB4 y1 HEN hw3 hw4;unfold uriV;by_cases hue:ue=0
 case neg =>
  have hR:Hid (R=(noD,140)):=show _=_ by rw [HV.out,if_pos (.inl hue)]
  have q1:(ue != 0)=true:=by simpa using hue
  have HPB:=HPB5;clear HV hue KW;obtain ⟨c0,c1,c2,f0,f1,f2⟩:=HPB.out.c3;obtain ⟨d0,d1,d2,g0,g1,g2⟩:=HPB.out.d3;go_wp2;have hr5:=rc_store3 (show RowIs _ w.heap.size 25 [.string ⟨#[]⟩,.slice none 0 0,.slice none 0 0] from HPB.out.r2) (.string ⟨#[]⟩) (.slice none 0 0) (.slice none 0 0);have hb5:=rc_below3 HPB.out.bel w.heap.size (Nat.le_refl _) (.string ⟨#[]⟩) (.slice none 0 0) (.slice none 0 0);generalize World.setCell _ _ _=w99 at hr5 hb5 ⊢;obtain ⟨e0,e1,e2,_,_,_⟩:=hr5.rc3
  try simp only [Exit.inBlock,Exit.then]
  refine bodyPost_ret (v:=.tuple #[docV noD (.slice none 0 0) (.slice none 0 0),.int .i64 140]) (by simp [results,Tryz.results16,go_sem,e0,e1,e2,docV,noD]; try rfl) rfl ?_
  rw [hR.out];exact ⟨_,_,rfl,OwnT.nil _ _,Own.nil _ _ _,hb5⟩
 subst hue;have KW2:=hid (KW.out rfl);go_wp2_with fail
 clear KW;generalize World.alloc w4 _=w5 at HPB5 hrU hltU hbU hbU2 x1 ⊢;refine (KL.out _).mono ?_
 rintro e w6 ⟨rfl,hw6⟩;have HPB6:=hid (HPB5.out.below hw6);have hrU6:=hrU.below hw6 hltU;have hb46:=hbU.trans (hw6.mono hbU.size);have hb26:=hbU2.trans (hw6.mono hbU2.size);clear HPB5 x1 hrU hbU hbU2 hltU hw6;by_cases hnm:localX (nameT t)=presenceK
 case neg =>
  have hR:Hid (R=(noD,140)):=show _=_ by rw [HV.out,if_pos (.inr hnm)]
  have q1:(localX (nameT t)==[112,114,101,115,101,110,99,101])=false:=by rw [beq_eq_false_iff_ne]; exact hnm
  have q2:(localX (nameT t) != [112,114,101,115,101,110,99,101])=true:=by rw [bne,q1]; rfl
  have HPB:=HPB6;clear HV hnm;generalize localX (nameT t)=LN at q1 q2 ⊢;obtain ⟨c0,c1,c2,f0,f1,f2⟩:=HPB.out.c3;obtain ⟨d0,d1,d2,g0,g1,g2⟩:=HPB.out.d3;go_wp2;have hr5:=rc_store3 (show RowIs _ w.heap.size 25 [.string ⟨#[]⟩,.slice none 0 0,.slice none 0 0] from HPB.out.r2) (.string ⟨#[]⟩) (.slice none 0 0) (.slice none 0 0);have hb5:=rc_below3 HPB.out.bel w.heap.size (Nat.le_refl _) (.string ⟨#[]⟩) (.slice none 0 0) (.slice none 0 0);generalize World.setCell _ _ _=w99 at hr5 hb5 ⊢;obtain ⟨e0,e1,e2,_,_,_⟩:=hr5.rc3
  try simp only [Exit.inBlock,Exit.then]
  refine bodyPost_ret (v:=.tuple #[docV noD (.slice none 0 0) (.slice none 0 0),.int .i64 140]) (by simp [results,Tryz.results16,go_sem,e0,e1,e2,docV,noD]; try rfl) rfl ?_
  rw [hR.out];exact ⟨_,_,rfl,OwnT.nil _ _,Own.nil _ _ _,hb5⟩
 have q1:(localX (nameT t)==[112,114,101,115,101,110,99,101])=true:=by rw [beq_iff_eq]; exact hnm
 have q2:(localX (nameT t) != [112,114,101,115,101,110,99,101])=false:=by rw [bne,q1]; rfl
 have hV2:=HV.out;rw [if_neg (by rw [hnm]; simp)] at hV2;have HV2:=hid hV2;clear HV hV2 hnm;generalize localX (nameT t)=LN at q1 q2 ⊢;obtain ⟨z0,z1,z2,z3,z4,z5,_,_,_,_,_,_⟩:=hrU6.rc6;go_wp2_with fail
 refine (KW2.out _ hb46).mono ?_
 rintro e w7 ⟨rfl,hw7⟩;have hWHl:(whoV u).1.length≤257:=who_len u;generalize (whoV u).2=WE;generalize (whoV u).1=WH at HV2 hWHl ⊢;have HPB7:=hid (HPB6.out.below hw7);have hb27:=hb26.trans (hw7.mono hb26.size);have hr13:=rc_row3 w7 (.string ⟨WH.toArray⟩) (.slice none 0 0) (.slice none 0 0) 25;have hbD:Below w7.heap.size w7 (w7.alloc (.cells #[.string ⟨WH.toArray⟩,.slice none 0 0,.slice none 0 0] 25)):=(Below.refl _ w7).alloc (Nat.le_refl _) _;have hltD:=alloc_lt w7 (.cells #[.string ⟨WH.toArray⟩,.slice none 0 0,.slice none 0 0] 25);have HPB8:=hid (HPB7.out.below hbD);have hb28:=hb27.trans (hbD.mono hb27.size);clear z0 z1 z2 z3 z4 z5 hrU6 HPB6 KW2 hb46 hb26 q1 q2;go_wp2_with fail
 have hlt7:=HPB7.out.lt;obtain ⟨b,hbe⟩:∃ b,b=w7.heap.size:=⟨_,rfl⟩
 rw [← hbe] at hr13 hltD hlt7 ⊢;have h2b:w2.heap.size≤b:=by rw [hbe]; exact hb27.size
 clear HPB7 hbD hbe;generalize World.alloc w7 _=w8 at HPB8 hr13 hltD hb28 ⊢;refine (KK.out tupleK (by decide) w8 hb28).mono ?_
 rintro e w9 ⟨kv,rfl,hownK,hw9⟩;have HPB9:=hid (HPB8.out.below hw9);have HR13:=hid (hr13.below hw9 hltD);have hb29:=hb28.trans (hw9.mono hb28.size);have hlt9:b < w9.heap.size:=Nat.lt_of_lt_of_le hltD hw9.size;have hg8:b < w8.heap.size:=hltD;clear HPB8 hr13 hb28 hltD;obtain ⟨P,hP⟩:∃ P,P=placesN tupleK 0 t 0:=⟨_,rfl⟩
 have hPs:P.map Prod.snd=namedX tupleK (kidsOf t):=by rw [hP]; exact namedP_kids _ _ _ _
 have hPsub:∀ y ∈ P,SubAt (ndsL cs) y.1 1 y.2:=by rw [hP]; exact HNS.out tupleK
 have hPl:=places_bd (nm:=tupleK) HS.out;rw [← hP] at hownK hPl;obtain ⟨ka,kc,hkf⟩:=own_form hownK;rw [List.length_map] at hkf;obtain ⟨pN,hpN⟩:∃ pN,pN=P.length:=⟨_,rfl⟩
 rw [← hpN] at hkf hPl;have hPl2:pN≤1000:=by have:=HCN.out; omega
 subst hkf;have HOWK:=hid hownK;have HPS:=hid hPsub;have HPN:=hid hpN;rw [← hPs] at HV2;obtain ⟨i1,hj,hy0,hy1,hy2⟩:=info_parts infoTup;clear hownK hPsub hpN hPs hP hPl hw9;go_wp2
 go_loopw [15] (fun i wr=>∃ (j:Nat) (acc:List Tu) (tv:Value),j≤pN∧i=.int .i64 (j:Int)∧Hid (tuplesT ((P.take j).map Prod.snd)=some acc)∧acc.length=j∧Hid (RowIs wr b 25 [.string ⟨WH.toArray⟩,tv,.slice none 0 0])∧Hid (OwnT wr w9.heap.size tv acc)∧Hid (FrR b w9 wr)∧Hid (∀ x ∈ acc,SmallT 1048576 x)) (fun i _=>pN - (intOf i).toNat)
 case atStart=>exact ⟨0,[],.slice none 0 0,Nat.zero_le _,rfl,show _=_ from rfl,rfl,HR13,hid (OwnT.nil _ _),hid (FrR.refl _ _),fun x hx=>by simp at hx⟩
 case round =>
  obtain ⟨j,acc,tv,hjn,rfl,hacc,hal,hrow,hot,hfr,hsma⟩:=hrel;have hbr:Below w2.heap.size w2 wr:=hb29.trans (hfr.out.under h2b hb29.size);have HPBr:=hid (HPB9.out.fr hfr.out (by omega) (Nat.le_of_lt hlt9));obtain ⟨ta,tc,htf⟩:=hot.out.form;rw [hal] at htf;subst htf;by_cases hlt:j < pN
  ·have hjl:j < P.length:=by have:=HPN.out; omega
   obtain ⟨g,hka,cj⟩:=own_pos HOWK.out j (by simp; exact hjl);subst hka;rw [List.getElem_map] at cj;have hgb:g ≠ b:=fun e=>by have:=(World.ownsRow.lt HOWK.out g rfl).1; omega
   have cj:=hfr.out.cell cj hgb;have KT:=hid (KTu.out P[j].1 P[j].2 (HPS.out _ (List.getElem_mem hjl)) wr hbr);have HFail:Hid (tupleT P[j].2=none → R=(noD,140)):=fun h=>by rw [HV2.out,tups_fail hjl h]
   have HNext:Hid (∀ x,tupleT P[j].2=some x → tuplesT ((P.take (j+1)).map Prod.snd)=some (acc++[x])):=fun x h=>tups_take hjl hacc.out h;have HSX:Hid (∀ x,tupleT P[j].2=some x → SmallT 1048576 x):=fun x h=>HSM.out P[j].1 P[j].2 (HPS.out _ (List.getElem_mem hjl)) x h;have q6:(j:Int) < (pN:Int):=by omega
   generalize P[j]=Y at cj KT HFail HNext HSX;obtain ⟨yp,yt⟩:=Y;simp only [TupP] at cj KT HFail HNext HSX;clear HV2 hacc HOWK HPS;go_wp2_with fail
   refine KT.out.mono ?_
   rintro e wa ⟨x,ok,rfl,hRx,hwa⟩;have HPBa:=hid (HPBr.out.below hwa);have hrowa:=hrow.out.below hwa (by have:=hfr.out.size; omega);have hota:=hot.out.below hwa;have hfra:=hfr.out.trans (FrR.below hwa);obtain ⟨xi,xo,xc,xp,xn⟩:=x;unfold tuV
   try simp only at hRx HNext
   have hbx:Below wa.heap.size wa (wa.alloc (.cells #[.string ⟨xi.toArray⟩,.bool xo,.string ⟨xc.toArray⟩,.int .i64 xp,.string ⟨xn.toArray⟩] 56)):=(Below.refl _ wa).alloc (Nat.le_refl _) _;have hrx:=rc_row5 wa (.string ⟨xi.toArray⟩) (.bool xo) (.string ⟨xc.toArray⟩) (.int .i64 xp) (.string ⟨xn.toArray⟩) 56;have HPBx:=hid (HPBa.out.below hbx);clear cj KT HPBr hrow hot hfr hwa
   cases ok with
   | false =>
    have hR:=hid (HFail.out (by rw [hRx]; rfl));have HPB:=HPBx;clear HFail HNext hRx;obtain ⟨c0,c1,c2,f0,f1,f2⟩:=HPB.out.c3;obtain ⟨d0,d1,d2,g0,g1,g2⟩:=HPB.out.d3;go_wp2;have hr5:=rc_store3 (show RowIs _ w.heap.size 25 [.string ⟨#[]⟩,.slice none 0 0,.slice none 0 0] from HPB.out.r2) (.string ⟨#[]⟩) (.slice none 0 0) (.slice none 0 0);have hb5:=rc_below3 HPB.out.bel w.heap.size (Nat.le_refl _) (.string ⟨#[]⟩) (.slice none 0 0) (.slice none 0 0);generalize World.setCell _ _ _=w99 at hr5 hb5 ⊢;obtain ⟨e0,e1,e2,_,_,_⟩:=hr5.rc3
    try simp only [Exit.inBlock,Exit.then]
    refine bodyPost_ret (v:=.tuple #[docV noD (.slice none 0 0) (.slice none 0 0),.int .i64 140]) (by simp [results,Tryz.results16,go_sem,e0,e1,e2,docV,noD]; try rfl) rfl ?_
    rw [hR.out];exact ⟨_,_,rfl,OwnT.nil _ _,Own.nil _ _ _,hb5⟩
   | true =>
    have HN:=hid (HNext.out ⟨xi,xo,xc,xp,xn⟩ (by rw [hRx]; rfl));have HSA:Hid (∀ x ∈ acc++[(⟨xi,xo,xc,xp,xn⟩:Tu)],SmallT 1048576 x):=fun x hx=>by
     rcases List.mem_append.1 hx with h | h
     ·exact hsma.out x h
     ·simp only [List.mem_singleton] at h; subst h; exact HSX.out _ (by rw [hRx]; rfl)
    have hrowx:=hrowa.below hbx (by have:=hfra.size; omega);have hotx:=hota.below hbx;have hfrx:=hfra.trans (FrR.below hbx);clear HFail HNext hRx HPBa HPBx hrowa hota hfra
    go_upto_region 18 with fail
    clear hbx;generalize World.alloc wa _=wx at hrx hrowx hotx hfrx ⊢;obtain ⟨p0,p1,p2,p3,p4,_,_,_,_,_⟩:=hrx.rc5;obtain ⟨r0,r1,r2,fr0,fr1,fr2⟩:=hrowx.rc3;have hnewT:=hid (fun (W:World) (g:Nat) (hg:g=W.heap.size)=>tu_newW W ⟨xi,xo,xc,xp,xn⟩ g hg);have HROW:=hid hrowx;have HFR:=hid hfrx;have hsx:=hfrx.size;clear hrx hrowx hfrx;go_wp2_with (at_builtin; refine wp_appTu _ rfl (.tmp 81) (.tmp 83) 22 rfl w9.heap.size i1 _ Tryz.underlying22 hj hy0 hy1 hy2 rfl (.slice ta j tc) acc rfl (by exact OwnT.alloc hotx _) ⟨_,0,none⟩ 1 ⟨xi,xo,xc,xp,xn⟩ rfl (by exact hnewT.out _ _ rfl) (by omega) _ (Below.refl _ _) (by simp; omega) ?_; intro v5 w5 hown5 hb5 hB5 hgr; have hrow5:=(HROW.out.below ((Below.refl _ wx).alloc (Nat.le_refl _) _) (by omega)).below hb5 hlt9; obtain ⟨o0,o1,o2,k0,k1,k2⟩:=hrow5.rc3; obtain ⟨xa,xk,e5⟩:=hown5.form; rw [show (acc++[(⟨xi,xo,xc,xp,xn⟩:Tu)]).length=j+1 by rw [List.length_append,hal]; rfl] at e5; subst e5; clear p0 p1 p2 p3 p4 r0 r1 r2 fr0 fr1 fr2)
    go_roundw
    case rel =>
     have hfr5:=(HFR.out.trans (FrR.below ((Below.refl _ wx).alloc (Nat.le_refl _) _))).low hb5;have hrow6:RowIs (w5.setCell ⟨b,1,none⟩ (.slice xa (j+1) xk)) b 25 [.string ⟨WH.toArray⟩,.slice xa (j+1) xk,.slice none 0 0]:=by simpa using hrow5.set 1 (.slice xa (j+1) xk)
     have hown6:OwnT (w5.setCell ⟨b,1,none⟩ (.slice xa (j+1) xk)) w9.heap.size (.slice xa (j+1) xk) (acc++[⟨xi,xo,xc,xp,xn⟩]):=ownsRow_setCell_below (a:=⟨b,1,none⟩) hown5 hlt9 _;have hfr6:FrR b w9 (w5.setCell ⟨b,1,none⟩ (.slice xa (j+1) xk)):=hfr5.setCell 1 _;exact ⟨j+1,acc++[⟨xi,xo,xc,xp,xn⟩],.slice xa (j+1) xk,by omega,by go_num,HN,by rw [List.length_append,hal]; rfl,hid hrow6,hid hown6,hid hfr6,HSA⟩
    case measure=>simp [intOf]; omega
  ·have hjp:j=pN:=by omega
   subst hjp;have hT:tuplesT (P.map Prod.snd)=some acc:=by have:=hacc.out; rwa [List.take_of_length_le (by have:=HPN.out; omega)] at this
   have hV3:=HV2.out;rw [hT] at hV3;simp only at hV3;have HV3:=hid hV3;have q6:¬ (j:Int) < (j:Int):=by omega
   clear hV3 hT HV2 hacc HOWK HPS HPN KTu;go_wp2_with fail
   refine (KK.out noteK (by decide) wr hbr).mono ?_
   rintro e wn ⟨kv2,rfl,hownK,hwn⟩;have hltr:b < wr.heap.size:=by have:=hfr.out.size; omega
   have HPBn:=hid (HPBr.out.below hwn);have HRn:=hid (hrow.out.below hwn hltr);have HTn:=hid (hot.out.below hwn);have hltn:b < wn.heap.size:=Nat.lt_of_lt_of_le hltr hwn.size;have hbn:=hbr.trans (hwn.mono hbr.size);have htb:(Value.slice ta j tc).ownBlock ≠ some b:=fun e=>by have:=(World.ownsRow.lt hot.out _ e).1; omega
   obtain ⟨Q,hQ⟩:∃ Q,Q=placesN noteK 0 t 0:=⟨_,rfl⟩
   have hQs:notesP Q=notesT (kidsOf t):=by unfold notesP notesT; rw [hQ]; unfold placesN; rw [namedP_kids]
   have hQsub:∀ y ∈ Q,SubAt (ndsL cs) y.1 1 y.2:=by rw [hQ]; exact HNS.out noteK
   have hQl:=places_bd (nm:=noteK) HS.out;rw [← hQ] at hownK hQl;obtain ⟨ka2,kc2,hkf2⟩:=own_form hownK;rw [List.length_map] at hkf2;obtain ⟨qN,hqN⟩:∃ qN,qN=Q.length:=⟨_,rfl⟩
   rw [← hqN] at hkf2 hQl;have hQl2:qN≤1000:=by have:=HCN.out; omega
   subst hkf2;have HOWQ:=hid hownK;have HQS:=hid hQsub;have HQN:=hid hqN;rw [← hQs] at HV3;obtain ⟨i2,hi2,hv0,hv1,hv2⟩:=info_parts infoStrD;clear hownK hQsub hqN hQs hQ hQl HPBr hrow hot hfr;go_wp2
   go_loopw [19] (fun i wr2=>∃ (m:Nat) (acc2:List (List UInt8)) (nv:Value),m≤qN∧i=.int .i64 (m:Int)∧Hid (notesP (Q.take m)=acc2)∧acc2.length≤m∧Hid (RowIs wr2 b 25 [.string ⟨WH.toArray⟩,.slice ta j tc,nv])∧Hid (Own wr2 wn.heap.size 9 nv (strs acc2))∧Hid (FrR b wn wr2)∧Hid (∀ s ∈ acc2,s.length≤1048576)) (fun i _=>qN - (intOf i).toNat)
   case atStart=>exact ⟨0,[],.slice none 0 0,Nat.zero_le _,rfl,show _=_ from rfl,Nat.zero_le _,HRn,hid (Own.nil _ _ _),hid (FrR.refl _ _),fun x hx=>by simp at hx⟩
   case round =>
    obtain ⟨m,acc2,nv,hmn,rfl,hacc2,hal2,hrow,hon,hfr,hsmn⟩:=hrel;have hbr2:Below w2.heap.size w2 wr:=hbn.trans (hfr.out.under h2b hbn.size);have HPBr:=hid (HPBn.out.fr hfr.out (by omega) (Nat.le_of_lt hltn));have HT2:=hid (hfr.out.owns HTn.out htb);obtain ⟨na,nc,hnf⟩:∃ na nc,nv=.slice na acc2.length nc:=by
     rcases hon.out.2 with ⟨rfl,hn⟩ | ⟨g,cap2,cur,rfl,_⟩
     ·rw [strs_length] at hn; exact ⟨none,0,by rw [hn]⟩
     ·exact ⟨some ⟨g,0,none⟩,cap2,by rw [strs_length]⟩
    obtain ⟨an,han⟩:∃ an,an=acc2.length:=⟨_,rfl⟩
    rw [← han] at hnf;subst hnf;have HAN:=hid han;clear han;by_cases hlt:m < qN
    ·have hml:m < Q.length:=by have:=HQN.out; omega
     obtain ⟨g,hka,cj⟩:=own_pos HOWQ.out m (by simp; exact hml);subst hka;rw [List.getElem_map] at cj;have hgb:g ≠ b:=fun e=>by have:=(World.ownsRow.lt HOWQ.out g rfl).1; omega
     have cj:=hfr.out.cell cj hgb;obtain ⟨ad2,cap2,a2,hvf2,_,hpl2,_,_,_,t3,_,_,htl2⟩:=HND.out Q[m].1 1 Q[m].2 (HQS.out _ (List.getElem_mem hml));simp only [Value.slice.injEq,Option.some.injEq] at hvf2;obtain ⟨rfl,hcnx,rfl⟩:=hvf2;clear hcnx;have t3:=cell_below hbr2 (by simp only [add_block]; exact hab) t3;have hsnoc:=notesP_snoc hml;have hqi:((Q[m].1:Nat):Int) < (cn:Int):=by have:=HCN.out; omega
     have q6:(m:Int) < (qN:Int):=by omega
     generalize Q[m]=Y at cj t3 hsnoc hqi htl2 hpl2;obtain ⟨yp,yt⟩:=Y;simp only at cj t3 hsnoc hqi htl2;rw [hacc2.out] at hsnoc;generalize textOf yt=TX at t3 hsnoc htl2;obtain ⟨r0,r1,r2,fr0,fr1,fr2⟩:=hrow.out.rc3;clear HV3 hacc2 HOWQ HQS hpl2
     cases hTX:TX with
     | nil =>
      subst hTX;rw [if_pos (show ([]:List UInt8).isEmpty=true from rfl),List.append_nil] at hsnoc;have HN:=hid hsnoc;clear hsnoc r0 r1 r2 fr0 fr1 fr2;go_wp2;go_roundw
      case rel=>exact ⟨m+1,acc2,_,by omega,by go_num,HN,by omega,hrow,hon,hfr,hsmn⟩
      case measure=>simp [intOf]; omega
     | cons y0 y1 =>
      have pe:(TX==[])=false:=by rw [hTX]; rfl
      have pn2:(TX != [])=true:=by rw [bne,pe]; rfl
      rw [if_neg (by rw [hTX]; simp)] at hsnoc;have HN:=hid hsnoc;have HSN:Hid (∀ s ∈ acc2++[TX],s.length≤1048576):=fun s hs=>by
       rcases List.mem_append.1 hs with h | h
       ·exact hsmn.out s h
       ·simp only [List.mem_singleton] at h; subst h; exact htl2
      have hpl3:(strs acc2).length=acc2.length:=strs_length _;have HON:=hon;have HROW:=hrow;have HFR:=hfr;have hszr:=hfr.out.size;clear hsnoc hTX hsmn
      go_upto_region 24 with fail
      have hnb:∀ W',Below wr.heap.size wr W' → RowIs W' b 25 [.string ⟨WH.toArray⟩,.slice ta j tc,.slice na an nc]∧Own W' wn.heap.size 9 (.slice na an nc) (strs acc2)∧FrR b wn W'∧wn.heap.size≤W'.heap.size:=fun W' h=>⟨HROW.out.below h (by omega),HON.out.below h,HFR.out.trans (FrR.below h),Nat.le_trans hszr h.size⟩
      have HNB:=hid hnb;clear hnb;obtain ⟨ra0,ra1,ra2,fa0,fa1,fa2⟩:=(HNB.out _ ((Below.refl _ wr).alloc (Nat.le_refl _) (.cells #[.string ⟨TX.toArray⟩] 9))).1.rc3
      go_region_law ((refine step_app rfl (.tmp 104) (.tmp 113) 23 rfl wn.heap.size 9 i2 _ 16 Tryz.underlying23 hi2 hv0 hv1 hv2 rfl (.slice na an nc) (strs acc2) rfl (by exact (HON.out.alloc _).drew) ⟨_,0,none⟩ 1 1 [.string ⟨TX.toArray⟩] rfl rfl (by intro j2 u2 hj2; exact one_new wr _ _ j2 u2 hj2) (by intro u hu; simp at hu; subst hu; rfl) (by rw [hpl3]; unfold maxLen; omega) (by rw [hpl3]; omega) _ (Below.refl _ _) (by simp; omega) ?_; intro v5 w5 hown5 hb5 hB5; have hrow5:=(HNB.out _ ((Below.refl _ wr).alloc (Nat.le_refl _) _).drew).1.below hb5 hltn; have hfr5:=(HNB.out _ ((Below.refl _ wr).alloc (Nat.le_refl _) _).drew).2.2.1.low hb5; obtain ⟨o0,o1,o2,k0,k1,k2⟩:=hrow5.rc3; obtain ⟨xa,xk,e5⟩:=own_sform hown5; subst e5))
      all_goals
       have e1:strs acc2++[Value.string ⟨TX.toArray⟩]=strs (acc2++[TX]):=by simp [strs]
       have e2:(strs (acc2++[TX])).length=acc2.length+1:=by rw [strs_length]; simp
       rw [e1,e2] at hown5;have hrow6:RowIs (w5.setCell ⟨b,2,none⟩ (.slice xa (acc2.length+1) xk)) b 25 [.string ⟨WH.toArray⟩,.slice ta j tc,.slice xa (acc2.length+1) xk]:=by simpa using hrow5.set 2 (.slice xa (acc2.length+1) xk)
       have hown6:Own (w5.setCell ⟨b,2,none⟩ (.slice xa (acc2.length+1) xk)) wn.heap.size 9 (.slice xa (acc2.length+1) xk) (strs (acc2++[TX])):=ownsRow_setCell_below (a:=⟨b,2,none⟩) hown5 hltn _;have hfr6:FrR b wn (w5.setCell ⟨b,2,none⟩ (.slice xa (acc2.length+1) xk)):=hfr5.setCell 2 _;go_wp2;go_roundw
       case rel=>exact ⟨m+1,acc2++[TX],.slice xa (acc2.length+1) xk,by omega,by go_num,HN,by simp; omega,hid hrow6,hid hown6,hid hfr6,HSN⟩
       case measure=>simp [intOf]; omega
    ·have hmq:m=qN:=by omega
     subst hmq;have hA:notesP Q=acc2:=by have:=hacc2.out; rwa [List.take_of_length_le (by have:=HQN.out; omega)] at this
     rw [hA] at HV3;have q6:¬ (m:Int) < (m:Int):=by omega
     have hsd:SmallD 140737488355328 ⟨WH,acc,acc2⟩:=⟨by simp only; omega,by simp only; omega,by simp only; omega,fun x hx=>by obtain ⟨h1,h2,h3,h4⟩:=hsma.out x hx; exact ⟨by omega,by omega,by omega,h4⟩,fun x hx=>by have:=hsmn.out x hx; omega⟩
     have hna:=own_strsAt hon.out;have KC:=hid (fun w' (hb:Below wr.heap.size wr w')=>rcheck14_any ⟨WH,acc,acc2⟩ (.slice ta j tc) (.slice na an nc) w' hsd (by simp only; omega) ((OwnT.tusAt HT2.out).below hb) (hna.below hb));unfold docV at KC;simp only at KC;obtain ⟨r0,r1,r2,fr0,fr1,fr2⟩:=hrow.out.rc3;clear hacc2 HOWQ HQS hA hsd hna HND HNS HSM KK;go_wp2_with fail
     refine (KC.out _ (Below.refl _ _)).mono ?_
     rintro e wc ⟨rfl,hwc⟩;have HPBc:=hid (HPBr.out.below hwc);have hrowc:=hrow.out.below hwc (by have:=hfr.out.size; omega);obtain ⟨s0,s1,s2,_,_,_⟩:=hrowc.rc3;have HTc:=hid ((show OwnT _ _ _ _ from HT2.out).below hwc);have HOc:=hid (hon.out.below hwc);have hw9l:=HPB9.out.lt;have hwnl:=HPBn.out.lt;clear r0 r1 r2 fr0 fr1 fr2 HPBr hrow HT2 hon;generalize checkD ⟨WH,acc,acc2⟩=ck at KC HV3 ⊢;by_cases hck:ck=0
     ·subst hck;have HRS:Hid (R=(⟨WH,acc,acc2⟩,0)):=show _=_ by rw [HV3.out,if_neg (by simp)]
      have HPB:=HPBc;obtain ⟨d0,d1,d2,g0,g1,g2⟩:=HPB.out.d3;have hr5:=rc_store3 (show RowIs _ w.heap.size 25 [.string ⟨#[]⟩,.slice none 0 0,.slice none 0 0] from HPB.out.r2) (.string ⟨WH.toArray⟩) (.slice ta j tc) (.slice na an nc);have hb5:=rc_below3 HPB.out.bel w.heap.size (Nat.le_refl _) (.string ⟨WH.toArray⟩) (.slice ta j tc) (.slice na an nc);have hT5:OwnT (((wc.setCell ⟨w.heap.size,0,none⟩ (.string ⟨WH.toArray⟩)).setCell ⟨w.heap.size,1,none⟩ (.slice ta j tc)).setCell ⟨w.heap.size,2,none⟩ (.slice na an nc)) w9.heap.size (.slice ta j tc) acc:=ownsRow_setCell_below (a:=⟨w.heap.size,2,none⟩) (ownsRow_setCell_below (a:=⟨w.heap.size,1,none⟩) (ownsRow_setCell_below (a:=⟨w.heap.size,0,none⟩) HTc.out (show w.heap.size < w9.heap.size by omega) _) (show w.heap.size < w9.heap.size by omega) _) (show w.heap.size < w9.heap.size by omega) _;have hO5:Own (((wc.setCell ⟨w.heap.size,0,none⟩ (.string ⟨WH.toArray⟩)).setCell ⟨w.heap.size,1,none⟩ (.slice ta j tc)).setCell ⟨w.heap.size,2,none⟩ (.slice na an nc)) wn.heap.size 9 (.slice na an nc) (strs acc2):=ownsRow_setCell_below (a:=⟨w.heap.size,2,none⟩) (ownsRow_setCell_below (a:=⟨w.heap.size,1,none⟩) (ownsRow_setCell_below (a:=⟨w.heap.size,0,none⟩) HOc.out (show w.heap.size < wn.heap.size by omega) _) (show w.heap.size < wn.heap.size by omega) _) (show w.heap.size < wn.heap.size by omega) _;have HR5:=hid hr5;have HB5:=hid hb5;have HT5:=hid hT5;have HO5:=hid hO5;clear hr5 hb5 hT5 hO5 HPBc HTc HOc KC HV3;go_wp2;generalize World.setCell _ _ _=w99 at HR5 HB5 HT5 HO5 ⊢;obtain ⟨e0,e1,e2,_,_,_⟩:=HR5.out.rc3
      try simp only [Exit.inBlock,Exit.then]
      refine bodyPost_ret (v:=.tuple #[docV ⟨WH,acc,acc2⟩ (.slice ta j tc) (.slice na an nc),.int .i64 0]) (by simp [results,Tryz.results16,go_sem,e0,e1,e2,docV]; try rfl) rfl ?_
      rw [HRS.out];exact ⟨_,_,rfl,ownT_lower HT5.out (by omega),own_lower HO5.out (by omega),HB5.out⟩
     ·have HRS:Hid (R=(noD,ck)):=show _=_ by rw [HV3.out,if_pos hck]
      have q9:(ck != 0)=true:=by simpa using hck
      clear HV3 hck HTc HOc
      go_upto_region 26 with fail
      have HRC:=hid hrowc;obtain ⟨c0,c1,c2,f0,f1,f2⟩:=HPBc.out.c3
      go_region_law ((go_simp; go_at_call 14; refine (KC.out _ (by first | exact hwc | exact hwc.drew | exact hwc.drew.drew)).mono ?_; rintro e wd ⟨rfl,hwd⟩; have hPBd:=PB.below (by first | exact HPBc.out | exact HPBc.out.below ((Below.refl _ wc).drew) | exact HPBc.out.below ((Below.refl _ wc).drew.drew)) hwd; obtain ⟨cc0,cc1,cc2,ff0,ff1,ff2⟩:=hPBd.c3; obtain ⟨dd0,dd1,dd2,gg0,gg1,gg2⟩:=hPBd.d3))
      all_goals
       have hr5:=rc_store3 (show RowIs _ w.heap.size 25 [.string ⟨#[]⟩,.slice none 0 0,.slice none 0 0] from hPBd.r2) (.string ⟨#[]⟩) (.slice none 0 0) (.slice none 0 0);have hb5:=rc_below3 hPBd.bel w.heap.size (Nat.le_refl _) (.string ⟨#[]⟩) (.slice none 0 0) (.slice none 0 0);generalize World.setCell _ _ _=w99 at hr5 hb5 ⊢;obtain ⟨e0,e1,e2,_,_,_⟩:=hr5.rc3;go_wp2
       try simp only [Exit.inBlock,Exit.then]
       refine bodyPost_ret (v:=.tuple #[docV noD (.slice none 0 0) (.slice none 0 0),.int .i64 ck]) (by simp [results,Tryz.results16,go_sem,e0,e1,e2,docV,noD]; try rfl) rfl ?_
       rw [HRS.out];exact ⟨_,_,rfl,OwnT.nil _ _,Own.nil _ _ _,by first | exact hb5 | exact hb5.drew | exact hb5.drew.drew⟩
set_option maxHeartbeats 1000000 in
set_option maxRecDepth 100000 in
theorem pparse_bad (l:List UInt8) (w:World) (hl:l.length≤140737488355328) (he:(parseX l).2 ≠ 0) :
  Calls Tryz.prog 15 #[.string ⟨l.toArray⟩] w fun e w'=>DcP (noD,(parseX l).2) w e w':=by
 have K:=hid (fun w'=>xparse_any l w' hl);have HPB:=hid (pe_new w);generalize parseX l=X at K he ⊢;obtain ⟨nl,er⟩:=X;simp only [ParP] at K he ⊢;have q1:(er != 0)=true:=by simpa using he
 go_enter Tryz.func15,Tryz.ntmps15
 go_wp2_with fail
 generalize World.alloc w _=W1 at HPB ⊢;refine (K.out _).mono ?_
 rintro e w2 ⟨v2,cs2,rfl,hk2,hown2,hw2⟩;obtain ⟨va,vc,hvf⟩:=hown2.form;obtain ⟨n2,hn2⟩:∃ n2,n2=cs2.length:=⟨_,rfl⟩
 rw [← hn2] at hvf;subst hvf;have HPB:=hid (HPB.out.below hw2);clear hown2 hk2 hn2 he;obtain ⟨d0,d1,d2,g0,g1,g2⟩:=HPB.out.d3;go_wp2;have hr5:=rc_store3 (show RowIs _ w.heap.size 25 [.string ⟨#[]⟩,.slice none 0 0,.slice none 0 0] from HPB.out.r2) (.string ⟨#[]⟩) (.slice none 0 0) (.slice none 0 0);have hb5:=rc_below3 HPB.out.bel w.heap.size (Nat.le_refl _) (.string ⟨#[]⟩) (.slice none 0 0) (.slice none 0 0);generalize World.setCell _ _ _=w99 at hr5 hb5 ⊢;obtain ⟨e0,e1,e2,_,_,_⟩:=hr5.rc3
 try simp only [Exit.inBlock,Exit.then]
 refine bodyPost_ret (v:=.tuple #[docV noD (.slice none 0 0) (.slice none 0 0),.int .i64 er]) (by simp [results,Tryz.results15,go_sem,e0,e1,e2,docV,noD]; try rfl) rfl ?_
 exact ⟨_,_,rfl,OwnT.nil _ _,Own.nil _ _ _,hb5⟩
set_option maxHeartbeats 1000000 in
set_option maxRecDepth 100000 in
theorem rtexts_same (v1 v2:Value) (ps:List (List UInt8)) (w:World) (h1:StrsAt w v1 ps) (h2:StrsAt w v2 ps) (hl:ps.length≤281474976710656) :
  Calls Tryz.prog 42 #[v1,v2] w fun e w'=>e=.returned (.bool true)∧∃ q,w'=w.drewN q:=by
 obtain ⟨a1,c1,rfl,k1⟩:=h1;obtain ⟨a2,c2,rfl,k2⟩:=h2;have K1:=hid k1;have K2:=hid k2;obtain ⟨n,hn⟩:∃ n,n=ps.length:=⟨_,rfl⟩
 rw [← hn] at hl ⊢;have HN:=hid hn;clear k1 k2 hn
 go_enter Tryz.func42,Tryz.ntmps42
 go_wp2
 go_loopw [5] (fun i wr=>∃ (k q:Nat),k≤n∧i=.int .i64 k∧wr=w.drewN q) (fun i _=>n - (intOf i).toNat)
 case atStart=>exact ⟨0,0,Nat.zero_le _,rfl,rfl⟩
 case round =>
  obtain ⟨k,q,hk,rfl,rfl⟩:=hrel;by_cases hlt:k < n
  ·obtain ⟨d1,rfl,_,f1⟩:=K1.out k (by have:=HN.out; omega);obtain ⟨d2,rfl,_,f2⟩:=K2.out k (by have:=HN.out; omega);have q6:(k:Int) < (n:Int):=by omega
   generalize ps[k]=P at f1 f2;clear K1 K2;go_wp2
   go_quiet (fail)
   go_wp2;go_roundw
   case rel=>exact ⟨k+1,q+nq,by omega,by go_num,by first | rfl | rw [World.drewN_drewN]⟩
   case measure=>simp [intOf]; omega
  ·have q6:¬ (k:Int) < (n:Int):=by omega
   go_wp2;go_ret;exact ⟨rfl,q,rfl⟩
set_option maxHeartbeats 2000000 in
set_option maxRecDepth 100000 in
theorem rsame14_any (d:Dc) (ts ns ts' ns':Value) (w:World) (hsm:SmallD 140737488355328 d) (h1:TusAt w ts d.tuples) (h2:StrsAt w ns d.notes) (h3:TusAt w ts' d.tuples) (h4:StrsAt w ns' d.notes) :
  Calls Tryz.prog 17 #[docV d ts ns,docV d ts' ns'] w fun e w'=>e=.returned (.bool true)∧Below w.heap.size w w':=by
 obtain ⟨en,tl,nl⟩:=d;simp only at h1 h2 h3 h4;have hz1:=hsm.tl;have hz2:=hsm.nl;simp only at hz1 hz2;unfold docV
 simp only
 have KT:=hid (fun w' (hb:Below w.heap.size w w')=>rtexts_same ns ns' nl w' (h2.below hb) (h4.below hb) (by omega));obtain ⟨ta,tc,rfl,htc⟩:=h1;obtain ⟨ta',tc',rfl,htc'⟩:=h3;obtain ⟨na,nc,rfl,_⟩:=h2;obtain ⟨na',nc',rfl,_⟩:=h4;have HTC:=hid htc;have HTC2:=hid htc';obtain ⟨tn,htn⟩:∃ tn,tn=tl.length:=⟨_,rfl⟩
 obtain ⟨nn,hnn⟩:∃ nn,nn=nl.length:=⟨_,rfl⟩
 rw [← htn] at hz1 ⊢;rw [← hnn] at hz2 KT ⊢;have HTN:=hid htn;clear htc htc' htn hnn hsm;have r1:=rc_row3 w (.string ⟨en.toArray⟩) (.slice ta tn tc) (.slice na nn nc) 25;have b1:Below w.heap.size w (w.alloc (.cells #[.string ⟨en.toArray⟩,.slice ta tn tc,.slice na nn nc] 25)):=(Below.refl _ w).alloc (Nat.le_refl _) _;have l1:=alloc_lt w (.cells #[.string ⟨en.toArray⟩,.slice ta tn tc,.slice na nn nc] 25);have s1:(w.alloc (.cells #[.string ⟨en.toArray⟩,.slice ta tn tc,.slice na nn nc] 25)).heap.size=w.heap.size+1:=by simp
 have hR:RowIs ((w.alloc (.cells #[.string ⟨en.toArray⟩,.slice ta tn tc,.slice na nn nc] 25)).alloc (.cells #[.string ⟨en.toArray⟩,.slice ta' tn tc',.slice na' nn nc'] 25)) w.heap.size 25 [.string ⟨en.toArray⟩,.slice ta tn tc,.slice na nn nc]:=r1.below ((Below.refl _ _).alloc (Nat.le_refl _) _) l1;have hR2:=rc_row3 (w.alloc (.cells #[.string ⟨en.toArray⟩,.slice ta tn tc,.slice na nn nc] 25)) (.string ⟨en.toArray⟩) (.slice ta' tn tc') (.slice na' nn nc') 25;rw [s1] at hR2;have hB:Below w.heap.size w ((w.alloc (.cells #[.string ⟨en.toArray⟩,.slice ta tn tc,.slice na nn nc] 25)).alloc (.cells #[.string ⟨en.toArray⟩,.slice ta' tn tc',.slice na' nn nc'] 25)):=b1.alloc b1.size _;obtain ⟨x0,x1,x2,_,_,_⟩:=hR.rc3;obtain ⟨y0,y1,y2,_,_,_⟩:=hR2.rc3;clear r1 b1 l1 s1 hR hR2
 go_enter Tryz.func17,Tryz.ntmps17
 go_wp2_with fail
 generalize World.alloc (World.alloc w _) _=W at x0 x1 x2 y0 y1 y2 hB ⊢;refine (KT.out _ hB).mono ?_
 rintro e w1 ⟨rfl,q0,rfl⟩;go_wp2
 go_loopw [5] (fun i wr=>∃ (k q:Nat),k≤tn∧i=.int .i64 k∧wr=W.drewN q) (fun i _=>tn - (intOf i).toNat)
 case atStart=>exact ⟨0,q0,Nat.zero_le _,rfl,rfl⟩
 case round =>
  obtain ⟨k,q,hk,rfl,rfl⟩:=hrel;by_cases hlt:k < tn
  ·obtain ⟨d1,rfl,m1,f⟩:=HTC.out k (by have:=HTN.out; omega);obtain ⟨d2,rfl,m2,g⟩:=HTC2.out k (by have:=HTN.out; omega);have f:=f.below hB m1;have g:=g.below hB m2;have q6:(k:Int) < (tn:Int):=by omega
   generalize tl[k]=P at f g;obtain ⟨p0,p1,p2,p3,p4⟩:=P;obtain ⟨f0,f1,f2,f3,f4⟩:=f;obtain ⟨g0,g1,g2,g3,g4⟩:=g;simp only at f0 f1 f2 f3 f4 g0 g1 g2 g3 g4;have e0:(p0==p0)=true:=by simp
   have e2:(p2==p2)=true:=by simp
   have e3:(p3==p3)=true:=by simp
   have e4:(p4==p4)=true:=by simp
   clear HTC HTC2;go_wp2
   go_quiet (fail)
   go_wp2;go_roundw
   case rel=>exact ⟨k+1,q+nq,by omega,by go_num,by first | rfl | rw [World.drewN_drewN]⟩
   case measure=>simp [intOf]; omega
  ·have q6:¬ (k:Int) < (tn:Int):=by omega
   go_wp2;go_ret;exact ⟨rfl,hB.trans (below_drewN W q |>.mono hB.size)⟩
theorem small_none (B:Nat):SmallD B noD:=⟨Nat.zero_le _,Nat.zero_le _,Nat.zero_le _,fun t ht=>by simp [noD] at ht,fun t ht=>by simp [noD] at ht⟩
theorem docT_two (t:XT):((docT t).2=0 → checkD (docT t).1=0)∧((docT t).2 ≠ 0 → (docT t).1=noD):=by
 unfold docT
 split
 ·exact ⟨fun h=>by simp at h,fun _=>rfl⟩
 ·split
  ·exact ⟨fun h=>by simp at h,fun _=>rfl⟩
  ·split
   ·next hc=>exact ⟨fun h=>absurd h hc,fun _=>rfl⟩
   ·next hc=>exact ⟨fun _=>Classical.not_not.1 hc,fun h=>absurd rfl h⟩
theorem DcP.forms {R:Dc × Int} {w:World} {e:Ending} {w':World} (h:DcP R w e w'):∃ ta tk na nk,e=.returned (.tuple #[.agg #[.string ⟨R.1.entity.toArray⟩,.slice ta R.1.tuples.length tk,.slice na R.1.notes.length nk],.int .i64 R.2])∧DocAt w' R.1 (.slice ta R.1.tuples.length tk) (.slice na R.1.notes.length nk)∧Below w.heap.size w w':=by
 obtain ⟨ts,ns,rfl,h1,h2,h3⟩:=h;have hc:=ownT_cap h1;have ht:=h1.tusAt;have hn:=own_strsAt h2;obtain ⟨ta,tk,rfl⟩:=h1.form;obtain ⟨na,nk,hnf⟩:=own_sform h2;rw [strs_length] at hnf;subst hnf;exact ⟨ta,tk,na,nk,rfl,⟨ht,hn,hc⟩,h3⟩
theorem parse14b (s:ByteArray) (hs:s.size≤140737488351232):∃ R:Dc × Int,(∀ w,Calls Tryz.prog 15 #[.string s] w fun e w'=>DcP R w e w')∧(∀ w,Calls Tryz.prog 16 #[.string s] w fun e w'=>DcP R w e w')∧SmallD 140737488355328 R.1:=by
 have hs0:s=⟨s.data.toList.toArray⟩:=by apply ByteArray.ext; simp
 have hl:=len_data s;by_cases he:(parseX s.data.toList).2=0
 ·obtain ⟨nl,er,hpv⟩:∃ x er,parseX s.data.toList=(x,er):=⟨_,_,rfl⟩
  rw [hpv] at he;simp only at he;subst he;obtain ⟨t,hf,hok⟩:=tree_of (parseX_ok hpv);refine ⟨docT t,fun w=>?_,fun w=>rparse14_ok s nl t w (by omega) hpv hf,?_⟩
  ·have h:=pparse_ok s.data.toList nl t w (by omega) hpv hf;rw [← hs0] at h;exact h
  ·by_cases h0:(docT t).2=0
   ·exact (small_checked ((docT_two t).1 h0)).up (by decide)
   ·rw [(docT_two t).2 h0]; exact small_none _
 ·refine ⟨(noD,(parseX s.data.toList).2),fun w=>?_,fun w=>rparse14_bad s w (by omega) he,small_none _⟩
  have h:=pparse_bad s.data.toList w (by omega) he;rw [← hs0] at h;exact h
end Go.Proofs.YtdnekampnkhmfaaGreatDoor
namespace Go.Proofs.YtdnekampnkhmfaaGreatDoor.pidfParses
open Go.RowKit Sc
set_option maxHeartbeats 2000000 in
set_option maxRecDepth 100000 in
theorem law_walk (a0:ByteArray) (b0:a0.size≤140737488351232) (w:World) :
  Calls Tryz.prog 4 #[.string a0] w fun e w'=>e=.returned (.bool true)∧Below w.heap.size w w':=by
 obtain ⟨R,h1,h2,hsm⟩:=parse14b a0 b0;have K1:=hid h1;have K2:=hid h2;have KS:=hid (fun w' ts ns ts' ns' (k:DocAt w' R.1 ts ns) (k':DocAt w' R.1 ts' ns')=>rsame14_any R.1 ts ns ts' ns' w' hsm k.t k.n k'.t k'.n);have KF:Hid (∀ w e w',DcP R w e w' → ∃ ta tk na nk,e=.returned (.tuple #[.agg #[.string ⟨R.1.entity.toArray⟩,.slice ta R.1.tuples.length tk,.slice na R.1.notes.length nk],.int .i64 R.2])∧DocAt w' R.1 (.slice ta R.1.tuples.length tk) (.slice na R.1.notes.length nk)∧Below w.heap.size w w'):=fun w e w' h=>h.forms;clear h1 h2 hsm;unfold docV at KS;generalize R.1.entity=en at KS KF;obtain ⟨tn,htn⟩:∃ tn,tn=R.1.tuples.length:=⟨_,rfl⟩
 obtain ⟨nn,hnn⟩:∃ nn,nn=R.1.notes.length:=⟨_,rfl⟩
 rw [← htn,← hnn] at KF;clear htn hnn;generalize hd:R.1=d at KF KS;generalize hx:R.2=x at KF;clear hd hx
 go_enter Tryz.func4,Tryz.ntmps4
 go_wp2_with fail
 refine (K1.out _).mono ?_
 intro e w1 hP1;obtain ⟨ta,tk,na,nk,rfl,hD1,hw1⟩:=KF.out _ _ _ hP1;have HD1:=hid (hD1.alloc (.cells #[.string ⟨en.toArray⟩,.slice ta tn tk,.slice na nn nk] 25));have hr1:=hid (rc_row3 w1 (.string ⟨en.toArray⟩) (.slice ta tn tk) (.slice na nn nk) 25);have hb1:=hid (hw1.alloc hw1.size (.cells #[.string ⟨en.toArray⟩,.slice ta tn tk,.slice na nn nk] 25));have hl1:=hid (alloc_lt w1 (.cells #[.string ⟨en.toArray⟩,.slice ta tn tk,.slice na nn nk] 25));clear hP1 hD1 hw1 K1;go_wp2_with fail
 generalize World.alloc w1 _=W1 at HD1 hr1 hb1 hl1 ⊢;refine (K2.out _).mono ?_
 intro e w2 hP2;obtain ⟨ta2,tk2,na2,nk2,rfl,hD2,hw2⟩:=KF.out _ _ _ hP2;have HE2:=hid (HD1.out.below hw2);have hr2:=hid (hr1.out.below hw2 hl1.out);have hl2:=hid (Nat.lt_of_lt_of_le hl1.out hw2.size);have hb2:=hid (hb1.out.trans (hw2.mono hb1.out.size));have HD3:=hid (hD2.alloc (.cells #[.string ⟨en.toArray⟩,.slice ta2 tn tk2,.slice na2 nn nk2] 25));have HE3:=hid (HE2.out.alloc (.cells #[.string ⟨en.toArray⟩,.slice ta2 tn tk2,.slice na2 nn nk2] 25));have hr3:=hid (hr2.out.below ((Below.refl _ w2).alloc (Nat.le_refl _) (.cells #[.string ⟨en.toArray⟩,.slice ta2 tn tk2,.slice na2 nn nk2] 25)) hl2.out);have hs3:=hid (rc_row3 w2 (.string ⟨en.toArray⟩) (.slice ta2 tn tk2) (.slice na2 nn nk2) 25);have hb3:=hid (hb2.out.alloc hb2.out.size (.cells #[.string ⟨en.toArray⟩,.slice ta2 tn tk2,.slice na2 nn nk2] 25));clear hP2 hD2 hw2 K2 HD1 hr1 hb1 hl1 HE2 hr2 hl2 hb2 KF
 go_upto_region 3 with fail
 generalize World.alloc w2 _=W2 at HD3 HE3 hr3 hs3 hb3 ⊢;obtain ⟨y0,y1,y2,_,_,_⟩:=hr3.out.rc3;obtain ⟨z0,z1,z2,_,_,_⟩:=hs3.out.rc3;go_wp2_with fail
 refine (KS.out _ _ _ _ _ HE3.out HD3.out).mono ?_
 rintro e w4 ⟨rfl,hw4⟩;clear y0 y1 y2 z0 z1 z2;have hb4:=hb3.out.trans (hw4.mono hb3.out.size);go_wp2_with (go_at_call 10; refine (awake14_any _).mono ?_; rintro e w7 ⟨rfl,hw7⟩)
 go_ret;exact ⟨rfl,hb4.trans (hw7.mono hb4.size)⟩
end Go.Proofs.YtdnekampnkhmfaaGreatDoor.pidfParses
