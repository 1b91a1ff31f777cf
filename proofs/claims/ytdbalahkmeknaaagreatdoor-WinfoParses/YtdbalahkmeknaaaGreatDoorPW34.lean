/-
  RX12, RX13L, RX13.
-/
import Derived.Test.YtdbalahkmeknaaaGreatDoorPW30
set_option linter.unusedVariables false
set_option linter.unusedSimpArgs false
set_option maxRecDepth 20000
namespace Go.Proofs.YtdbalahkmeknaaaGreatDoor
open Go.RowKit Sc
set_option maxHeartbeats 1500000 in
set_option maxRecDepth 100000 in
theorem relem_step (s:ByteArray) (n:Nat) (hs:s.size≤1048576) (hco:CoRes s n):ElRes s (n+1):=by
 intro k d v cs B w hv hB hk hd hcs hF;have HV:=hid hv;obtain ⟨vo,vcap,hvf⟩:=hv.form;have hl:=len_data s;have HBad:Hid ((8≤d∨200≤cs.length∨s.data.toList[k]? ≠ some 60) → elemX (n+1) d cs.length (s.data.toList.drop k)=none):=elem_bad;have HGo:Hid (¬ 8≤d → ¬ 200≤cs.length → (h:k < s.data.toList.length) → s.data.toList[k]=60 → elemX (n+1) d cs.length (s.data.toList.drop k)=if runL (fun b=>!endc b) s.data.toList (k+1)=s.data.toList.length then none else elemT n d cs.length ((s.data.toList.drop (k+1)).take (runL (fun b=>!endc b) s.data.toList (k+1) - (k+1))) (attrsX (s.data.toList.length - (k+1)) [] (s.data.toList.drop (runL (fun b=>!endc b) s.data.toList (k+1))))):=fun h1 h2 h3 h4=>elem_go h1 h2 h3 h4;generalize elemX (n+1) d cs.length (s.data.toList.drop k)=R at HBad HGo ⊢;subst hvf;obtain ⟨cn,hcn⟩:∃ cn,cn=cs.length:=⟨_,rfl⟩
 rw [← hcn] at hcs HV ⊢;have KI:=hid (fun w'=>ris_at s k #[60] (k:Int) rfl w' (by omega) (by decide) (by decide) hk);rw [show isAt s.data.toList k (#[60]:Array UInt8).toList=decide (s.data.toList[k]? = some 60) from isAt_one] at KI;have HCN:=hid hcn;clear hv;by_cases h8:8≤d
 ·have hR:=hid (HBad.out (.inl h8));have r8:(8:Int)≤(d:Int):=by omega
  have r8d:decide ((8:Int)≤(d:Int))=true:=decide_eq_true r8;clear HBad HGo HV hcn
  go_enter Tryz.func60,Tryz.ntmps60
  go_wp2;go_ret2;exact el_none hR.out (Below.refl _ _)
 have r8:¬ (8:Int)≤(d:Int):=by omega
 have r8d:decide ((8:Int)≤(d:Int))=false:=decide_eq_false r8;by_cases h2:200≤cn
 ·have hR:=hid (HBad.out (.inr (.inl (by omega))));have r2:(200:Int)≤(cn:Int):=by omega
  have r2d:decide ((200:Int)≤(cn:Int))=true:=decide_eq_true r2;clear HBad HGo HV hcn
  go_enter Tryz.func60,Tryz.ntmps60
  go_wp2;go_ret2;exact el_none hR.out (Below.refl _ _)
 have r2:¬ (200:Int)≤(cn:Int):=by omega
 have r2d:decide ((200:Int)≤(cn:Int))=false:=decide_eq_false r2;by_cases h60:s.data.toList[k]? ≠ some 60
 ·have hR:=hid (HBad.out (.inr (.inr h60)));rw [decide_eq_false h60] at KI;clear HBad HGo HV hcn h60
  go_enter Tryz.func60,Tryz.ntmps60
  go_wp2_with (go_at_call 58; refine (KI.out _).mono ?_; rintro e w' ⟨rfl,rfl⟩)
  go_ret2;exact el_none hR.out (Below.refl _ _)
 have h60':s.data.toList[k]? = some 60:=Classical.not_not.1 h60;rw [decide_eq_true h60'] at KI;obtain ⟨hkl,hk60⟩:=List.getElem?_eq_some_iff.1 h60';have HG2:=hid (HGo.out h8 (by omega) hkl hk60);have hks:k < s.size:=by omega
 have KU:=hid (fun w'=>ruptoE s k w' hs (by omega));have ht:=run_le (p:=fun b=>!endc b) (l:=s.data.toList) (k:=k+1) (by omega);rw [hl] at ht HG2;clear HBad HGo h60 h60' hkl hk60;generalize runL (fun b=>!endc b) s.data.toList (k+1)=t at KU ht HG2;have hwk:IntKind.i64.wrap ((k:Int)+1)=(k:Int)+1:=by rw [IntKind.wrap_i64]; omega
 by_cases hts:t=s.size
 ·have hR:Hid (R=none):=show _=_ by rw [HG2.out,if_pos hts]
  have q0:((t:Int)==(s.size:Int))=true:=by rw [beq_iff_eq]; omega
  clear HG2 HV hcn
  go_enter Tryz.func60,Tryz.ntmps60
  go_wp2_with first | (go_at_call 58; refine (KI.out _).mono ?_; rintro e w' ⟨rfl,rfl⟩) | (go_at_call 59; refine (KU.out _).mono ?_; rintro e w' ⟨rfl,rfl⟩)
  go_ret2;exact el_none hR.out (Below.refl _ _)
 have q0:((t:Int)==(s.size:Int))=false:=by rw [beq_eq_false_iff_ne]; omega
 have HT:Hid (R=elemT n d cs.length ((s.data.toList.drop (k+1)).take (t - (k+1))) (attrsX (s.size - (k+1)) [] (s.data.toList.drop t))):=show _=_ by rw [HG2.out,if_neg hts]
 have hname:s.extract (k+1) t=⟨((s.data.toList.drop (k+1)).take (t - (k+1))).toArray⟩:=ext_list s (k+1) t;obtain ⟨nm,hnm⟩:∃ nm,nm=(s.data.toList.drop (k+1)).take (t - (k+1)):=⟨_,rfl⟩
 rw [← hnm] at HT hname;have hnl:nm.length≤s.size:=by rw [hnm,List.length_take,List.length_drop]; omega
 have hn1:((k:Int)+1).toNat=k+1:=by omega
 have hb1:(k:Int)+1≤(t:Int):=by omega
 have hb2:(t:Int)≤(s.size:Int):=by omega
 have KO:=hid (fun w'=>rover_at s t (t:Int) rfl w' (by omega) ht.2);have hao:=run_le (p:=xblk) (l:=s.data.toList) (k:=t) (by omega);rw [hl] at hao;have hr0':=rc_row4 w (.int .i64 (d:Int)) (.string ⟨nm.toArray⟩) (.slice none 0 0) (.string ⟨#[]⟩) 49;have hb0:Below w.heap.size w (w.alloc (.cells #[.int .i64 (d:Int),.string ⟨nm.toArray⟩,.slice none 0 0,.string ⟨#[]⟩] 49)):=(Below.refl _ w).alloc (Nat.le_refl _) _;have hlt0:=alloc_lt w (.cells #[.int .i64 (d:Int),.string ⟨nm.toArray⟩,.slice none 0 0,.string ⟨#[]⟩] 49);clear HG2 hnm hts;obtain ⟨i0,hi,hz0,hz1,hz2⟩:=info_parts infoPar;obtain ⟨i1,hj,hy0,hy1,hy2⟩:=info_parts infoNodeB
 go_enter Tryz.func60,Tryz.ntmps60
 clear hcn;go_wp2_with first | (go_at_call 58; refine (KI.out _).mono ?_; rintro e w' ⟨rfl,hw'⟩; rw [hw']; clear hw' w') | (go_at_call 59; refine (KU.out _).mono ?_; rintro e w' ⟨rfl,hw'⟩; rw [hw']; clear hw' w') | (go_at_call 61; refine (KO.out _).mono ?_; rintro e w' ⟨rfl,hw'⟩; rw [hw']; clear hw' w')
 clear KI KU KO hname;generalize World.alloc _ _=W0 at hr0' hb0 hlt0 ⊢;have HR0:=hid hr0';clear hr0';obtain ⟨AX,hAX⟩:∃ AX,AX=attrsX (s.size - (k+1)) [] (s.data.toList.drop t):=⟨_,rfl⟩
 rw [← hAX] at HT;have HAX:=hid hAX;clear hAX
 go_loopw [1,10] (fun av tv wr=>∃ (a tq m:Nat) (acc:List Par) (pv:Value),av=.int .i64 (a:Int)∧tv=.int .i64 (tq:Int)∧tq≤s.size∧Hid (a=runL xblk s.data.toList tq)∧t≤tq∧tq≤a∧a≤s.size∧Hid (AX=attrsX m acc (s.data.toList.drop tq))∧s.size - tq≤m∧acc.length≤tq∧Below w.heap.size w wr∧w.heap.size < wr.heap.size∧Hid (RowIs wr w.heap.size 49 [.int .i64 (d:Int),.string ⟨nm.toArray⟩,pv,.string ⟨#[]⟩])∧OwnP wr (w.heap.size+1) pv acc) (fun av _ _=>s.size - (intOf av).toNat)
 case atStart=>exact ⟨_,t,s.size - (k+1),[],.slice none 0 0,rfl,rfl,ht.2,show _=_ from rfl,Nat.le_refl _,hao.1,hao.2,HAX,by omega,by simp,hb0,hlt0,HR0,OwnP.nil _ _⟩
 case round =>
  obtain ⟨a,tq,m,acc,pv,rfl,rfl,htq,hae,htt,hta,has,hax,hm,hacc,hb,hlt,hrow,hown⟩:=hrel;clear HR0 hb0 hlt0 HAX hao;obtain ⟨po,pc,rfl⟩:=ownP_form hown;have KI1:=hid (fun w'=>ris_at s a #[47,62] (a:Int) rfl w' (by omega) (by decide) (by decide) has);have KI2:=hid (fun w'=>ris_at s a #[62] (a:Int) rfl w' (by omega) (by decide) (by decide) has);rw [show isAt s.data.toList a (#[62]:Array UInt8).toList=decide (s.data.toList[a]? = some 62) from isAt_one] at KI2;rw [show (#[47,62]:Array UInt8).toList=[47,62] from rfl] at KI1;by_cases hal:a < s.size
  ·have hbd:=u8_bd s[a];have hal2:a < s.data.toList.length:=by omega
   have ega:s.data.toList[a]'hal2=s[a]:=getB s a hal;by_cases h47:s[a]=47
   ·obtain ⟨m',rfl⟩:∃ m',m=m'+1:=⟨m - 1,by omega⟩
    have hend:=ax_end (m:=m') (acc:=acc) (by omega) hae.out hal2 (.inl (by rw [ega]; exact h47));rw [← hax.out] at hend;have hR0:Hid (R=elemT n d cs.length nm (some (acc,s.data.toList.drop a))):=show _=_ by rw [HT.out,hend]
    have p47:((s[a].toNat:Int)==47)=true:=u8_eq (b:=47) h47;have p47n:((s[a].toNat:Int) != 47)=false:=by rw [bne,p47]; rfl
    have h62n:¬ s.data.toList[a]? = some 62:=by rw [List.getElem?_eq_getElem hal2,ega,h47]; decide
    rw [decide_eq_false h62n] at KI2;obtain ⟨b0,b1,b2,b3,_,_,_,_⟩:=hrow.out.rc4
    cases hi2:isAt s.data.toList a [47,62] with
    | false =>
     rw [hi2] at KI1;have hR:Hid (R=none):=show _=_ by rw [hR0.out]; exact elemT_no hi2 h62n
     clear hR0 hend hax hae HT h47 HV hi2 h62n ega;go_wp2_with fail
     refine (KI1.out _).mono ?_
     rintro e w' ⟨rfl,hw'⟩; rw [hw']; clear hw' w'
     go_wp2_with fail
     refine (KI2.out _).mono ?_
     rintro e w' ⟨rfl,hw'⟩; rw [hw']; clear hw' w'
     go_wp2;go_ret2;exact el_none hR.out hb
    | true =>
     rw [hi2] at KI1
     have ha2:a+2≤s.size:=by
      apply Classical.byContradiction
      intro hh
      have:=isAt_long (l:=s.data.toList) (k:=a) (t:=[47,62]) (by simp; omega) (.inl (by simp))
      rw [this] at hi2; cases hi2
     have hR:Hid (R=some ([⟨d,nm,acc,[]⟩],s.data.toList.drop (a+2))):=show _=_ by rw [hR0.out]; exact elemT_one hi2
     clear hR0 hend hax hae HT h47 hi2 h62n ega;have hwa:IntKind.i64.wrap ((a:Int)+2)=(a:Int)+2:=by rw [IntKind.wrap_i64]; omega
     have hvr:=hid (HV.out.below hb);have hop:=hid (ownP_mono hown (show B≤w.heap.size+1 by omega));have hnewN:=hid (fun (W:World) (g:Nat) (hg:g=W.heap.size)=>nd_newW W ⟨⟨d,nm,acc,[]⟩,.slice po acc.length pc⟩ g hg);have hBr:=hb.size;have hcl:cs.length≤2000000:=by have:=HCN.out; omega
     clear hown HV KI2;go_wp2_with fail
     refine (KI1.out _).mono ?_
     rintro e w' ⟨rfl,hw'⟩; rw [hw']; clear hw' w'
     go_wp2_with (at_builtin; refine wp_appN2 _ rfl (.tmp 83) (.tmp 85) 40 rfl B i1 _ Tryz.underlying40 hj hy0 hy1 hy2 rfl (.slice vo cn vcap) cs rfl (by exact OwnN.alloc hvr.out _) ⟨_,0,none⟩ 1 ⟨⟨d,nm,acc,[]⟩,.slice po acc.length pc⟩ (by exact OwnP.alloc hop.out _) rfl (by exact hnewN.out _ _ rfl) hcl (by simp; omega) ?_; intro v5 w5 hown5 hf5; obtain ⟨xa,xc,e5⟩:=hown5.form; subst e5)
     go_ret2;have hff:=(FrN.below (v:=.slice vo cn vcap) (hb.alloc hb.size _)).trans hf5;rw [hR.out];have hls:((s.size - (s.data.toList.drop (a+2)).length:Nat):Int)=(a:Int)+2:=by rw [List.length_drop,hl]; omega
     refine ⟨.slice xa (cs.length+1) xc,[⟨⟨d,nm,acc,[]⟩,.slice po acc.length pc⟩],?_,rfl,by simpa using hown5,by simpa using hff⟩
     rw [hls]
     rfl
   have p47:((s[a].toNat:Int)==47)=false:=u8_ne (b:=47) h47;have p47n:((s[a].toNat:Int) != 47)=true:=by rw [bne,p47]; rfl
   by_cases h62:s[a]=62
   ·obtain ⟨m',rfl⟩:∃ m',m=m'+1:=⟨m - 1,by omega⟩
    have h62g:s.data.toList[a]? = some 62:=by rw [List.getElem?_eq_getElem hal2,ega,h62]
    have hend:=ax_end (m:=m') (acc:=acc) (by omega) hae.out hal2 (.inr (by rw [ega]; exact h62));rw [← hax.out] at hend;have hR:Hid (R=contX n ⟨d,nm,acc,[]⟩ d cs.length [] [] (s.data.toList.drop (a+1))):=show _=_ by rw [HT.out,hend]; exact elemT_in h62g
    have h47n:isAt s.data.toList a [47,62]=false:=by
     unfold isAt;rw [List.drop_eq_getElem_cons hal2,ega,h62]
     simp
    rw [h47n] at KI1;rw [decide_eq_true h62g] at KI2;have p62:((s[a].toNat:Int)==62)=true:=u8_eq (b:=62) h62;have p62n:((s[a].toNat:Int) != 62)=false:=by rw [bne,p62]; rfl
    obtain ⟨b0,b1,b2,b3,_,_,_,_⟩:=hrow.out.rc4;have hwa:IntKind.i64.wrap ((a:Int)+1)=(a:Int)+1:=by rw [IntKind.wrap_i64]; omega
    have KCo:=hid (hco (a+1) d nm acc (.slice po acc.length pc) (.slice vo cn vcap) cs B wr (HV.out.below hb) (ownP_mono hown (show B≤w.heap.size+1 by omega)) (Nat.le_trans hB hb.size) (by omega) (by omega) (by have:=HCN.out; omega) hnl (by omega));rw [show ((a+1:Nat):Int)=(a:Int)+1 by omega] at KCo;unfold ndV at KCo;simp only at KCo;have HFR:=hid (FrN.below (v:=.slice vo cn vcap) hb);clear hend hax hae HT h47 h62 HV h62g h47n ega hown;generalize contX n ⟨d,nm,acc,[]⟩ d cs.length [] [] (s.data.toList.drop (a+1))=o at KCo hR;go_wp2_with fail
    refine (KI1.out _).mono ?_
    rintro e w' ⟨rfl,hw'⟩; rw [hw']; clear hw' w'
    go_wp2_with fail
    refine (KI2.out _).mono ?_
    rintro e w' ⟨rfl,hw'⟩; rw [hw']; clear hw' w'
    go_wp2_with fail
    refine KCo.out.mono ?_
    cases o with
    | none =>
     rintro e w2 ⟨rfl,hf2⟩;go_wp2;go_ret2;rw [hR.out];exact ⟨rfl,(HFR.out.trans hf2).none⟩
    | some x =>
     obtain ⟨ns,r⟩:=x;rintro e w2 ⟨v2,cs2,rfl,hk2,hown2,hf2⟩;obtain ⟨xa,xc,e5⟩:=hown2.form;subst e5;generalize (cs++cs2).length=L2 at hown2 hf2 ⊢;go_wp2;go_ret2;rw [hR.out];exact ⟨_,cs2,rfl,hk2,hown2,HFR.out.trans hf2⟩
   have p62:((s[a].toNat:Int)==62)=false:=u8_ne (b:=62) h62;have p62n:((s[a].toNat:Int) != 62)=true:=by rw [bne,p62]; rfl
   obtain ⟨m',rfl⟩:∃ m',m=m'+1:=⟨m - 1,by omega⟩
   have hgo:=ax_go (m:=m') (acc:=acc) (by omega) hae.out hal2 (by rw [ega]; exact h47) (by rw [ega]; exact h62);rw [← hax.out] at hgo;by_cases hat:a=tq
   ·have hR:Hid (R=none):=show _=_ by rw [HT.out,hgo,if_pos hat]; rfl
    have q5:((a:Int)==(tq:Int))=true:=by rw [beq_iff_eq]; omega
    clear hgo hax hae HT h47 h62 HV hat;go_wp2;go_ret2;exact el_none hR.out hb
   have q5:((a:Int)==(tq:Int))=false:=by rw [beq_eq_false_iff_ne]; omega
   rw [if_neg hat] at hgo;have KA:=hid (fun w'=>rattr_any s a w' hs has);have hrp':=rc_row3 wr (.string ⟨#[]⟩) (.string ⟨#[]⟩) (.bool false) 70;have hbp:Below wr.heap.size wr (wr.alloc (.cells #[.string ⟨#[]⟩,.string ⟨#[]⟩,.bool false] 70)):=(Below.refl _ wr).alloc (Nat.le_refl _) _;have hltp:=alloc_lt wr (.cells #[.string ⟨#[]⟩,.string ⟨#[]⟩,.bool false] 70)
   cases hP:attrP s.data.toList a with
   | none =>
    rw [hP] at hgo KA;rw [show attrR none=.tuple #[.agg #[.string ⟨#[]⟩,.string ⟨#[]⟩,.bool false],.int .i64 (-1)] from rfl] at KA;have hR:Hid (R=none):=show _=_ by rw [HT.out,hgo]; rfl
    clear hgo hax hae HT h47 h62 HV hP;go_wp2_with fail
    refine (KA.out _).mono ?_
    rintro e w2 ⟨rfl,hw2⟩;generalize World.alloc _ _=W1 at hrp' hbp hltp hw2 ⊢;obtain ⟨c0,c1,c2,f0,f1,f2⟩:=(hrp'.below hw2 hltp).rc3;have hb4:=rc_below3 ((hb.trans (hbp.mono hb.size)).trans (hw2.mono (Nat.le_trans hb.size hbp.size))) wr.heap.size hb.size (.string ⟨#[]⟩) (.string ⟨#[]⟩) (.bool false);go_wp2;go_ret2;exact el_none hR.out hb4
   | some x =>
    obtain ⟨p,tq2⟩:=x;rw [hP] at hgo KA;simp only at hgo;rw [show attrR (some (p,tq2))=.tuple #[.agg #[.string ⟨p.name.toArray⟩,.string ⟨p.value.toArray⟩,.bool p.has],.int .i64 tq2] from rfl] at KA;have hle:=attrP_le (by omega) hP;rw [hl] at hle;have KO:=hid (fun w'=>rover_at s tq2 (tq2:Int) rfl w' (by omega) hle.2);have hao:=run_le (p:=xblk) (l:=s.data.toList) (k:=tq2) (by omega);rw [hl] at hao;have HAX2:Hid (AX=attrsX m' (acc++[p]) (s.data.toList.drop tq2)):=hgo;have q6:¬ (tq2:Int) < 0:=by omega
    obtain ⟨a2,ha2⟩:∃ a2,a2=runL xblk s.data.toList tq2:=⟨_,rfl⟩
    rw [← ha2] at KO hao;have HA2:=hid ha2;clear hgo hax hae HT h47 h62 HV hP ha2;obtain ⟨pn,pval,ph⟩:=p;simp only at KA;go_wp2_with fail
    refine (KA.out _).mono ?_
    rintro e w2 ⟨rfl,hw2⟩;generalize World.alloc _ _=W1 at hrp' hbp hltp hw2 ⊢;have hrp2:=hrp'.below hw2 hltp;obtain ⟨c0,c1,c2,f0,f1,f2⟩:=hrp2.rc3;have hB2:Below wr.heap.size wr w2:=hbp.trans (hw2.mono hbp.size);have hrow2:=hrow.out.below hB2 hlt;have hown2:=hown.below hB2;have hb2':=hb.trans (hB2.mono hb.size);have hlt2:=Nat.lt_of_lt_of_le hltp hw2.size;have hrp3:=rc_store3 hrp2 (.string ⟨pn.toArray⟩) (.string ⟨pval.toArray⟩) (.bool ph);have hB3:=rc_below3 (Below.refl wr.heap.size w2) wr.heap.size (Nat.le_refl _) (.string ⟨pn.toArray⟩) (.string ⟨pval.toArray⟩) (.bool ph);clear hrp' hbp hltp hw2 hB2 KA;have hrN3:=hrow2.below hB3 hlt;have hne:(Value.slice po acc.length pc).ownBlock ≠ some wr.heap.size:=fun e=>by have:=(World.ownsRow.lt hown _ e).2; omega
    have hown3:=ownsRow_setCell_other (ownsRow_setCell_other (ownsRow_setCell_other hown2 (a:=⟨wr.heap.size,0,none⟩) hne (.string ⟨pn.toArray⟩)) (a:=⟨wr.heap.size,1,none⟩) hne (.string ⟨pval.toArray⟩)) (a:=⟨wr.heap.size,2,none⟩) hne (.bool ph);obtain ⟨g0,g1,g2,_,_,_⟩:=hrp3.rc3;obtain ⟨b0,b1,b2,b3,fb0,fb1,fb2,fb3⟩:=hrN3.rc4;have hsz3:=Nat.le_trans (Nat.le_trans hlt (Nat.le_of_lt hlt2)) hB3.size;have HrN3:=hid hrN3;have HB3:=hid hB3;clear hrp2 hrp3 hrow2 hown2 hrN3 hB3;go_wp2_with first | (at_builtin; refine wp_appP _ rfl (.tmp 72) (.tmp 74) 47 rfl (w.heap.size+1) i0 _ Tryz.underlying47 hi hz0 hz1 hz2 rfl _ acc rfl (OwnP.alloc hown3 _) ⟨_,0,none⟩ 1 ⟨pn,pval,ph⟩ rfl (par_newW _ ⟨pn,pval,ph⟩ _ (by simp)) (by omega) _ ((Below.refl _ _).alloc hsz3 _) (by simp; omega) ?_; intro v5 w5 hown5 hb5 hB5; have hrN5:=HrN3.out.below hb5 (Nat.lt_succ_self _); obtain ⟨e0,e1,e2,e3,k0,k1,k2,k3⟩:=hrN5.rc4; obtain ⟨po5,pc5,rfl⟩:=ownP_form hown5; clear g0 g1 g2 b0 b1 b2 b3 fb0 fb1 fb2 fb3) | (go_at_call 61; refine (KO.out _).mono ?_; rintro e w' ⟨rfl,hw'⟩; rw [hw']; clear hw' w')
    go_roundw
    case rel =>
     have hrN6:=hrN5.set 2 (.slice po5 (acc.length+1) pc5);have hown6:=ownP_len hown5;have hs6:Below w.heap.size w5 (w5.setCell ⟨w.heap.size,2,none⟩ (.slice po5 (acc.length+1) pc5)):=(Below.refl _ w5).setCell (show w.heap.size≤(⟨w.heap.size,2,none⟩:Addr).block from Nat.le_refl _) _;have hrN7:RowIs (w5.setCell ⟨w.heap.size,2,none⟩ (.slice po5 (acc.length+1) pc5)) w.heap.size 49 [.int .i64 (d:Int),.string ⟨nm.toArray⟩,.slice po5 (acc.length+1) pc5,.string ⟨#[]⟩]:=by simpa using hrN6
     have hown7:OwnP (w5.setCell ⟨w.heap.size,2,none⟩ (.slice po5 (acc.length+1) pc5)) (w.heap.size+1) (.slice po5 (acc.length+1) pc5) (acc++[(⟨pn,pval,ph⟩:Par)]):=ownsRow_setCell_below (a:=⟨w.heap.size,2,none⟩) hown6 (Nat.lt_succ_self _) _;exact ⟨a2,tq2,m',acc++[(⟨pn,pval,ph⟩:Par)],.slice po5 (acc.length+1) pc5,rfl,rfl,hle.2,HA2,by omega,hao.1,hao.2,HAX2,by omega,by simp; omega,((hb2'.trans (HB3.out.mono hb.size)).trans (hb5.mono (Nat.le_succ _))).trans hs6,Nat.lt_of_lt_of_le hB5 hs6.size,hid hrN7,hown7⟩
    case measure=>simp [intOf]; omega
  ·have hae2:a=s.data.toList.length:=by omega
   have hR:Hid (R=none):=show _=_ by
    rw [HT.out]
    rcases ax_len (m:=m) (acc:=acc) (by omega) hae.out hae2 with h | h
    ·rw [hax.out,h]; rfl
    ·rw [hax.out,h]; rfl
   rw [show isAt s.data.toList a [47,62]=false from isAt_long (by simp; omega) (.inl (by simp))] at KI1;rw [decide_eq_false (by rw [List.getElem?_eq_none (by omega)]; simp)] at KI2;clear hax hae HT HV hae2;go_wp2_with fail
   refine (KI1.out _).mono ?_
   rintro e w' ⟨rfl,hw'⟩; rw [hw']; clear hw' w'
   go_wp2_with fail
   refine (KI2.out _).mono ?_
   rintro e w' ⟨rfl,hw'⟩; rw [hw']; clear hw' w'
   go_wp2;go_ret2;exact el_none hR.out hb
mutual
theorem elem_cap:∀ (n d c:Nat) (s:List UInt8) (l:List Nd) (r:List UInt8),elemX n d c s=some (l,r) → c+l.length≤200
 | 0,_,_,_,_,_,h=>by rw [elemX] at h; cases h
 | n+1,d,c,s,l,r,h=>by
  cases s with
  | nil=>simp [elemX] at h
  | cons b q =>
   rw [elemX] at h
   split at h
   ·cases h
   ·next hc =>
    split at h
    ·cases h
    ·split at h
     ·cases h
     ·split at h
      ·simp only [Option.some.injEq,Prod.mk.injEq] at h;rw [← h.1];simp only [List.length_cons,List.length_nil];omega
      ·exact cont_cap n _ _ _ _ _ _ _ _ (by simp; omega) h
      ·cases h
theorem cont_cap:∀ (n:Nat) (x:Nd) (d c:Nat) (txt:List UInt8) (kids:List Nd) (s:List UInt8) (l:List Nd) (r:List UInt8),c+1+kids.length≤200 → contX n x d c txt kids s=some (l,r) → c+l.length≤200
 | 0,_,_,_,_,_,_,_,_,_,h=>by rw [contX] at h; cases h
 | n+1,x,d,c,txt,kids,s,l,r,hk,h=>by
  rw [contX] at h
  split at h
  ·cases h
  ·split at h
   ·split at h
    ·cases h
    ·split at h
     ·cases hv:readX (xtrim (txt++s.takeWhile (· != 60))) with
      | none=>rw [hv] at h; cases h
      | some t =>
       rw [hv] at h;simp only [Option.map_some,Option.some.injEq,Prod.mk.injEq] at h;rw [← h.1];simp only [List.length_cons];omega
     ·cases h
   ·split at h
    ·cases h
    ·next ks r3 he =>
     have h1:=elem_cap n _ _ _ _ _ he;exact cont_cap n _ _ _ _ _ _ _ _ (by rw [List.length_append]; omega) h
end
section
variable {l : List UInt8} {k tq m d c : Nat} {x : Nd} {txt : List UInt8} {kids : List Nd}
theorem run60 (hk:k≤l.length) (htq:tq=runL (· != 60) l k) (hl:tq < l.length):l[tq]=60:=by
 obtain ⟨c,r,h1,h2⟩:=run_at hk (htq ▸ hl);rw [← run_drop,← htq,List.drop_eq_getElem_cons hl] at h1
 injection h1 with h1 _
 rw [h1]
 simpa using h2
theorem cont_end (hk:k≤l.length) (htq:tq=runL (· != 60) l k) (hl:tq=l.length):contX (m+1) x d c txt kids (l.drop k)=none:=by
 rw [contX,← run_drop,← htq,hl,List.drop_length]
theorem isAt_two (h:tq < l.length) (h6:l[tq]=60):isAt l tq [60,47]=decide ((l.drop (tq+1)).head? = some 47):=by
 unfold isAt;rw [List.drop_eq_getElem_cons h,h6]
 cases hd:l.drop (tq+1) with
 | nil=>simp
 | cons a b=>simp
theorem cont_in (hk:k≤l.length) (htq:tq=runL (· != 60) l k) (hl:tq < l.length) (h:isAt l tq [60,47]=false) :
  contX (m+1) x d c txt kids (l.drop k)=match elemX m (d+1) (c+1+kids.length) (l.drop tq) with | none=>none | some (ks,r3)=>contX m x d c (txt++(l.drop k).take (tq - k)) (kids++ks) r3:=by
 have h6:=run60 hk htq hl;rw [isAt_two hl h6] at h;rw [contX,htq,← run_drop,← run_take,← htq,List.drop_eq_getElem_cons hl]
 simp only
 rw [if_neg (by simpa using h)];generalize elemX m (d+1) (c+1+kids.length) (l[tq] :: l.drop (tq+1))=E
 cases E <;> rfl
def closeT (l:List UInt8) (tq:Nat) (x:Nd) (txt:List UInt8) (kids:List Nd):Option (List Nd × List UInt8) :=
 if isAt l tq ([60,47]++x.name)=false then none
 else if l[runL xblk l (tq+2+x.name.length)]? = some 62 then (readX (xtrim txt)).map fun t=>({ x with text:=xtrim t } :: kids,l.drop (runL xblk l (tq+2+x.name.length)+1))
 else none
theorem cont_out (hk:k≤l.length) (htq:tq=runL (· != 60) l k) (hl:tq < l.length) (h:isAt l tq [60,47]=true) :
  contX (m+1) x d c txt kids (l.drop k)=closeT l tq x (txt++(l.drop k).take (tq - k)) kids:=by
 have h6:=run60 hk htq hl;rw [isAt_two hl h6] at h;have h7:(l.drop (tq+1)).head? = some 47:=by simpa using h
 obtain ⟨q,hq⟩:∃ q,l.drop (tq+1)=47 :: q:=by
  cases hd:l.drop (tq+1) with
  | nil=>rw [hd] at h7; cases h7
  | cons a b=>rw [hd] at h7; simp at h7; exact ⟨b,by rw [h7]⟩
 have hq2:l.drop (tq+2)=q:=by
  have:=congrArg (List.drop 1) hq
  simpa [List.drop_drop] using this
 rw [contX,htq,← run_drop,← run_take,← htq,List.drop_eq_getElem_cons hl]
 simp only
 rw [if_pos h7,hq];simp only [List.tail_cons]
 have hi:isAt l tq ([60,47]++x.name)=decide (q.take x.name.length=x.name):=by
  unfold isAt;rw [List.drop_eq_getElem_cons hl,h6,hq]
  simp
 unfold closeT;rw [hi];by_cases hn:q.take x.name.length=x.name
 ·have hA:¬ (decide (q.take x.name.length=x.name)=false):=by simp [hn]
  rw [if_neg hA];refine Eq.trans (if_neg (fun h=>h hn)) ?_
  have hd:(q.drop x.name.length).dropWhile xblk=l.drop (runL xblk l (tq+2+x.name.length)):=by rw [run_drop,← hq2,List.drop_drop]
  rw [hd];generalize runL xblk l (tq+2+x.name.length)=e;by_cases he:l[e]? = some 62
  ·rw [if_pos he,drop_get he]
   rfl
  ·rw [if_neg he]
   split
   ·next r3 h9 =>
    exfalso
    apply he
    have:=congrArg List.head? h9
    rw [List.head?_drop] at this
    simpa using this
   ·rfl
 ·have hA:decide (q.take x.name.length=x.name)=false:=by simp [hn]
  rw [if_pos hA];exact if_pos hn
end
theorem FrN.set {v v' u:Value} {w w':World} {g j:Nat} (h:FrN v w v' w') (hg:v'.ownBlock=some g):FrN v w v' (w'.setCell ⟨g,j,Option.none⟩ u):=by
 refine ⟨h.os,h.tape,h.output,by rw [World.size_setCell]; exact h.size,fun c hc hv=>?_,h.own⟩
 have hne:c ≠ g:=fun e=>by
  subst e
  rcases h.own c hg with e | e
  ·exact hv e
  ·omega
 rw [heap_setCell_other _ _ _ _ hne]; exact h.block c hc hv
theorem el_no {o:Option (List Nd × List UInt8)} {s:ByteArray} {cs:List NdC} {B:Nat} {v v':Value} {w w':World} (h:o=none) (hf:FrN v w v' w'):ElPost o s cs B v w (.returned (.tuple #[.slice none 0 0,.int .i64 (-1)])) w':=by
 subst h; exact ⟨rfl,hf.none⟩
theorem rupto6 (s:ByteArray) (k:Nat) (w:World) (hs:s.size≤1048576) (hk:k≤s.size) :
  Calls Tryz.prog 59 #[.string s,.int .i64 (k:Int),.string ⟨#[60]⟩] w fun e w'=>e=.returned (.int .i64 (runL (· != 60) s.data.toList k))∧w'=w :=
 rupto_at s k #[60] (· != 60) (k:Int) rfl (fun b=>has_one 60 b) w (by omega) (by decide) hk
theorem xtrim_le (l:List UInt8):(xtrim l).length≤l.length:=by
 unfold xtrim;rw [List.length_reverse];have h1:=(List.dropWhile_suffix (l:=(l.dropWhile xblk).reverse) xblk).length_le;have h2:=(List.dropWhile_suffix (l:=l) xblk).length_le;rw [List.length_reverse] at h1;omega
theorem glue2 (nm:List UInt8):(⟨#[60,47]⟩:ByteArray)++⟨nm.toArray⟩=⟨([60,47]++nm).toArray⟩:=by
 rw [ByteArray.mk_append_mk]; first | done | rfl
theorem glueX (t:List UInt8) (s:ByteArray) (a b:Nat):(⟨t.toArray⟩:ByteArray)++s.extract a b=⟨(t++(s.data.toList.drop a).take (b - a)).toArray⟩:=by
 rw [ext_list,ByteArray.mk_append_mk]; first | done | rfl
end Go.Proofs.YtdbalahkmeknaaaGreatDoor
