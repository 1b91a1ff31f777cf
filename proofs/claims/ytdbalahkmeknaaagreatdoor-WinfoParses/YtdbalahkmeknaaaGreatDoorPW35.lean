/-
  RX13, RX14, WR9, W15All.
-/
import Derived.Test.YtdbalahkmeknaaaGreatDoorPW36
import Derived.Test.YtdbalahkmeknaaaGreatDoorPW28
import Derived.Test.YtdbalahkmeknaaaGreatDoorPW34
set_option linter.unusedVariables false
set_option linter.unusedSimpArgs false
set_option maxRecDepth 20000
namespace Go.Proofs.YtdbalahkmeknaaaGreatDoor
open Go.RowKit Sc
set_option maxHeartbeats 8000000 in
set_option maxRecDepth 100000 in
theorem rcont_step (s:ByteArray) (F:Nat) (hs:s.size≤1048576) (hel:∀ m,m < F → ElRes s m):CoRes s F:=by
 intro k d nm ps a v cs B w hv hpa hB hk hd hcs hnm hF;have hl:=len_data s;obtain ⟨vo,vcap,hvf⟩:=hv.form;obtain ⟨po,pc,hpf⟩:=ownP_form hpa;subst hvf hpf;have HEL:=hid hel;obtain ⟨R,hR0⟩:∃ R,R=contX F ⟨d,nm,ps,[]⟩ d cs.length [] [] (s.data.toList.drop k):=⟨_,rfl⟩
 rw [← hR0];have HR:=hid hR0;unfold ndV
 simp only
 obtain ⟨i1,hj,hy0,hy1,hy2⟩:=info_parts infoNodeB;have HV:=hid hv;have HPA:=hid hpa;obtain ⟨pl,hpl⟩:∃ pl,pl=ps.length:=⟨_,rfl⟩
 obtain ⟨cn,hcn⟩:∃ cn,cn=cs.length:=⟨_,rfl⟩
 have HCN:=hid hcn;have hcl2:cs.length≤2000000:=by omega
 have zn:=size_list nm;have hnewN:=hid (fun (W:World) (g:Nat) (hg:g=W.heap.size)=>nd_newW W ⟨⟨d,nm,ps,[]⟩,.slice po ps.length pc⟩ g hg);have hr0:=rc_row4 w (.int .i64 (d:Int)) (.string ⟨nm.toArray⟩) (.slice po ps.length pc) (.string ⟨#[]⟩) 49;have hb0:Below w.heap.size w (w.alloc (.cells #[.int .i64 (d:Int),.string ⟨nm.toArray⟩,.slice po ps.length pc,.string ⟨#[]⟩] 49)):=(Below.refl _ w).alloc (Nat.le_refl _) _;have hlt0:=alloc_lt w (.cells #[.int .i64 (d:Int),.string ⟨nm.toArray⟩,.slice po ps.length pc,.string ⟨#[]⟩] 49);clear hpa hel hR0;obtain ⟨b0,b1,b2,b3,f0,f1,f2,f3⟩:=hr0.rc4;have hlv:(Value.slice vo cs.length vcap).ownBlock ≠ some w.heap.size:=fun e=>by have:=(World.ownsRow.lt hv.1 _ e).2; omega
 clear hv;have HR0:=hid hr0;have hCL:Hid (cs.length=cn):=hcn.symm;rw [← hcn] at HV hlv hcs HR ⊢;rw [← hpl] at HPA HR0 hb0 hlt0 b0 b1 b2 b3 f0 f1 f2 f3 hnewN ⊢;clear hr0 hcn hpl
 go_enter Tryz.func103,Tryz.ntmps103
 go_wp2_with (at_builtin; refine wp_appN2 _ rfl (.tmp 17) (.tmp 19) 40 rfl B i1 _ Tryz.underlying40 hj hy0 hy1 hy2 rfl (.slice vo cn vcap) cs rfl (by exact OwnN.alloc (OwnN.below HV.out hb0) _) ⟨_,0,none⟩ 1 ⟨⟨d,nm,ps,[]⟩,.slice po pl pc⟩ (by exact OwnP.alloc (OwnP.below HPA.out hb0) _) rfl (by exact hnewN.out _ _ (by simp)) hcl2 (by simp; omega) ?_; intro v5 w5 hown5 hf5; obtain ⟨xa,xc,e5⟩:=hown5.form; subst e5)
 have hbA:Below w.heap.size w ((w.alloc (.cells #[.int .i64 (d:Int),.string ⟨nm.toArray⟩,.slice po pl pc,.string ⟨#[]⟩] 49)).alloc (.cells #[.int .i64 (d:Int),.string ⟨nm.toArray⟩,.slice po pl pc,.string ⟨#[]⟩] 49)):=hb0.alloc hb0.size _;have hff:=hid ((FrN.below (v:=.slice vo cn vcap) hbA).trans hf5);have hrA:=hid (hf5.row (HR0.out.below ((Below.refl _ _).alloc (Nat.le_refl _) _) hlt0) (by simp; omega) hlv);have hownA:=hid hown5
 have hneA:Hid ((Value.slice xa (cs++[(⟨⟨d,nm,ps,[]⟩,.slice po pl pc⟩:NdC)]).length xc).ownBlock ≠ some w.heap.size):=fun e=>by
  rcases hf5.own _ e with q | q
  ·exact hlv q
  ·simp at q; omega
 clear hbA hf5 hown5 HR0 hb0 hlt0 b0 b1 b2 b3 f0 f1 f2 f3 hnewN HPA HV;have hlenA:Hid ((cs++[(⟨⟨d,nm,ps,[]⟩,.slice po pl pc⟩:NdC)]).length=cn+1):=show _=_ by rw [List.length_append,hCL.out]; rfl
 go_loopw [1,3,11] (fun av lv tv wr=>∃ (p m:Nat) (txt:List UInt8) (kc:List NdC),av=.int .i64 (p:Int)∧tv=.string ⟨txt.toArray⟩∧p≤s.size∧txt.length≤p∧Hid (R=contX m ⟨d,nm,ps,[]⟩ d cn txt (ndsL kc) (s.data.toList.drop p))∧s.size - p+2≤m∧m≤F∧cn+1+kc.length≤200∧Hid (OwnN wr B lv (cs++[⟨⟨d,nm,ps,[]⟩,.slice po pl pc⟩]++kc))∧Hid (FrN (.slice vo cn vcap) w lv wr)∧Hid (RowIs wr w.heap.size 49 [.int .i64 (d:Int),.string ⟨nm.toArray⟩,.slice po pl pc,.string ⟨#[]⟩])∧Hid (lv.ownBlock ≠ some w.heap.size)∧∃ xa xn xc,lv=.slice xa xn xc) (fun av _ _ _=>s.size - (intOf av).toNat)
 case atStart=>exact ⟨k,F,[],[],rfl,rfl,hk,Nat.zero_le _,HR,hF,Nat.le_refl _,by simp; omega,hid (by rw [List.append_nil]; first | exact hownA.out | simpa using hownA.out),by first | exact hff | (refine hid ?_; simpa using hff.out),hrA,by first | exact hneA | (refine hid ?_; simpa using hneA.out),_,_,_,rfl⟩
 case round =>
  obtain ⟨p,m,txt,kc,rfl,rfl,hp,htp,hR,hm,hmF,hkc,hown,hfr,hrow,hne,xa,xn,xc,rfl⟩:=hrel;clear hownA hff hrA hlenA hneA HR;have hwlt:w.heap.size < wr.heap.size:=(Array.getElem?_eq_some_iff.1 (show wr.heap[w.heap.size]? = some _ from hrow.out)).1;have KU:=hid (fun w'=>rupto6 s p w' hs hp);have htl:=run_le (p:=(· != 60)) (l:=s.data.toList) (k:=p) (by omega);rw [hl] at htl;obtain ⟨u,hu⟩:∃ u,u=runL (· != 60) s.data.toList p:=⟨_,rfl⟩
  rw [← hu] at KU htl;have HU:=hid hu;obtain ⟨m',rfl⟩:∃ m',m=m'+1:=⟨m - 1,by omega⟩
  have hGX:=hid (glueX txt s p u);have hb1:(p:Int)≤(u:Int):=by omega
  have hb2:(u:Int)≤(s.size:Int):=by omega
  have zt:=size_list txt;have hzx:(s.extract p u).size=u - p:=by rw [ByteArray.size_extract]; omega
  obtain ⟨txt2,ht2⟩:∃ txt2,txt2=txt++(s.data.toList.drop p).take (u - p):=⟨_,rfl⟩
  have ht2l:txt2.length≤u:=by rw [ht2,List.length_append,List.length_take,List.length_drop]; omega
  rw [← ht2] at hGX;have HT2:=hid ht2;clear hu ht2;obtain ⟨c0,c1,c2,c3,g0,g1,g2,g3⟩:=hrow.out.rc4;by_cases hus:u=s.size
  ·have hRn:Hid (R=none):=show _=_ by rw [hR.out]; exact cont_end (by omega) HU.out (by omega)
   have q0:((u:Int)==(s.size:Int))=true:=by rw [beq_iff_eq]; omega
   clear hR HT2 HU HEL;go_wp2_with fail
   refine (KU.out _).mono ?_
   rintro e w' ⟨rfl,hw'⟩; rw [hw']; clear hw' w'
   go_wp2;go_ret2;exact el_no hRn.out hfr.out
  have q0:((u:Int)==(s.size:Int))=false:=by rw [beq_eq_false_iff_ne]; omega
  have hul:u < s.data.toList.length:=by omega
  have KI:=hid (fun w'=>ris_at s u #[60,47] (u:Int) rfl w' (by omega) (by decide) (by decide) (by omega));rw [show (#[60,47]:Array UInt8).toList=[60,47] from rfl] at KI
  cases hi:isAt s.data.toList u [60,47] with
  | false =>
   rw [hi] at KI;have hin:=cont_in (m:=m') (d:=d) (c:=cn) (x:=⟨d,nm,ps,[]⟩) (txt:=txt) (kids:=ndsL kc) (by omega) HU.out hul hi;rw [← hR.out,← HT2.out,ndsL_len] at hin;have hlen:(cs++[(⟨⟨d,nm,ps,[]⟩,.slice po pl pc⟩:NdC)]++kc).length=cn+1+kc.length:=by rw [List.length_append,List.length_append,hCL.out]; rfl
   have KE:=hid (HEL.out m' (by omega) u (d+1) (.slice xa xn xc) _ B wr hown.out (Nat.le_trans hB hfr.out.size) (by omega) (by omega) (by rw [hlen]; exact hkc) (by omega));rw [hlen,show ((d+1:Nat):Int)=(d:Int)+1 by omega] at KE
   have hsuf:∀ ns r,elemX m' (d+1) (cn+1+kc.length) (s.data.toList.drop u)=some (ns,r) → s.data.toList.drop (s.size - r.length)=r∧u+2 < s.size - r.length∧s.size - r.length≤s.size∧cn+1+kc.length+ns.length≤200:=fun ns r he=>by
    obtain ⟨h1,h2⟩:=elem_suf _ _ _ _ _ _ he;have h3:=elem_cap _ _ _ _ _ _ he;have h4:=h1.trans (List.drop_suffix u _);have h5:=suf_drop h4;rw [hl] at h5;rw [List.length_drop,hl] at h2;exact ⟨h5.symm,by omega,by omega,h3⟩
   have HIN:=hid hin;have HSF:=hid hsuf;have hwd:IntKind.i64.wrap ((d:Int)+1)=(d:Int)+1:=by rw [IntKind.wrap_i64]; omega
   clear hR HT2 HU HEL hin hsuf hlen hi;generalize elemX m' (d+1) (cn+1+kc.length) (s.data.toList.drop u)=E at KE HIN HSF;go_wp2_with fail
   refine (KU.out _).mono ?_
   rintro e w' ⟨rfl,hw'⟩; rw [hw']; clear hw' w'
   go_wp2_with fail
   refine (KI.out _).mono ?_
   rintro e w' ⟨rfl,hw'⟩; rw [hw']; clear hw' w'
   go_wp2_with fail
   refine KE.out.mono ?_
   cases E with
   | none =>
    rintro e w2 ⟨rfl,hf2⟩;go_wp2;go_ret2;exact el_no HIN.out (hfr.out.trans hf2)
   | some x =>
    obtain ⟨ns,r⟩:=x;rintro e w2 ⟨v2,cs2,rfl,hk2,hown2,hf2⟩;obtain ⟨h1,h2,h3,h4⟩:=HSF.out ns r rfl;have hR2:=HIN.out;simp only at hR2;rw [← h1,← hk2] at hR2;have hnl2:ns.length=cs2.length:=by rw [← hk2,ndsL_len]
    have hrow2:=hid (hf2.row hrow.out hwlt hne.out)
    have hne2:Hid (v2.ownBlock ≠ some w.heap.size):=fun e=>by
     rcases hf2.own _ e with q | q
     ·exact hne.out q
     ·omega
    have hf3:=hid (hfr.out.trans hf2);have hown3:Hid (OwnN w2 B v2 (cs++[⟨⟨d,nm,ps,[]⟩,.slice po pl pc⟩]++(kc++cs2))):=by refine hid ?_; rw [← List.append_assoc]; exact hown2
    have hR3:Hid (R=contX m' ⟨d,nm,ps,[]⟩ d cn txt2 (ndsL (kc++cs2)) (s.data.toList.drop (s.size - r.length))):=show _=_ by rw [hR2]; simp [ndsL]
    obtain ⟨ya,yc,e5⟩:=hown2.form;generalize hyn:(cs++[(⟨⟨d,nm,ps,[]⟩,.slice po pl pc⟩:NdC)]++kc++cs2).length=yn at e5;subst e5;obtain ⟨p2,hp2⟩:∃ p2,p2=s.size - r.length:=⟨_,rfl⟩
    rw [← hp2] at hR3 h2 h3 ⊢;have q9:¬ (p2:Int) < 0:=by omega
    have hkc2:cn+1+(kc++cs2).length≤200:=by rw [List.length_append]; omega
    clear hR2 h1 hk2 hown2 hf2 HIN HSF KE hp2 hyn hnl2 h4 hown hfr hrow hne KU KI c0 c1 c2 c3 g0 g1 g2 g3;rw [hGX.out];go_wp2;go_roundw
    case rel=>exact ⟨p2,m',txt2,kc++cs2,rfl,rfl,h3,by omega,hR3,by omega,by omega,hkc2,hown3,hf3,hrow2,hne2,_,_,_,rfl⟩
    case measure=>simp [intOf]; omega
  | true =>
   rw [hi] at KI;have hout:=cont_out (m:=m') (d:=d) (c:=cn) (x:=⟨d,nm,ps,[]⟩) (txt:=txt) (kids:=ndsL kc) (by omega) HU.out hul hi;rw [← hR.out,← HT2.out] at hout;unfold closeT at hout;simp only at hout;have KI2:=hid (fun w'=>ris_at s u ([60,47]++nm).toArray (u:Int) rfl w' (by omega) (by simp; omega) (by simp) (by omega));rw [← glue2] at KI2;have eTL:(([60,47]++nm:List UInt8).toArray).toList=[60,47]++nm:=by simp
   rw [eTL] at KI2;clear eTL;clear hR HT2 HU HEL hi
   cases hi2:isAt s.data.toList u ([60,47]++nm) with
   | false =>
    rw [hi2] at KI2;have hRn:Hid (R=none):=show _=_ by rw [hout,if_pos hi2]
    clear hout hi2;go_wp2_with fail
    refine (KU.out _).mono ?_
    rintro e w' ⟨rfl,hw'⟩; rw [hw']; clear hw' w'
    go_wp2_with fail
    refine (KI.out _).mono ?_
    rintro e w' ⟨rfl,hw'⟩; rw [hw']; clear hw' w'
    go_wp2_with fail
    refine (KI2.out _).mono ?_
    rintro e w' ⟨rfl,hw'⟩; rw [hw']; clear hw' w'
    go_wp2;go_ret2;exact el_no hRn.out hfr.out
   | true =>
    rw [hi2] at KI2
    have hu2:u+2+nm.length≤s.size:=by
     apply Classical.byContradiction
     intro hh
     have:=isAt_long (l:=s.data.toList) (k:=u) (t:=[60,47]++nm) (by simp; omega) (.inl (by simp))
     rw [this] at hi2; cases hi2
    rw [if_neg (by rw [hi2]; simp)] at hout;have KO:=hid (fun w'=>rover_at s (u+2+nm.length) ((u:Int)+2+(nm.length:Int)) (by omega) w' (by omega) hu2);have hel:=run_le (p:=xblk) (l:=s.data.toList) (k:=u+2+nm.length) (by omega);rw [hl] at hel;obtain ⟨e1,he1⟩:∃ e1,e1=runL xblk s.data.toList (u+2+nm.length):=⟨_,rfl⟩
    rw [← he1] at KO hel hout;clear he1 hi2;have KT:=hid (fun w'=>trimX_list txt2 w' (by omega));have hxl:=xtrim_le txt2;have KR:=hid (fun w'=>rread_any ⟨(xtrim txt2).toArray⟩ w' (by rw [size_list]; omega));rw [show (⟨(xtrim txt2).toArray⟩:ByteArray).data.toList=xtrim txt2 from by simp] at KR;have KI3:=hid (fun w'=>ris_at s e1 #[62] (e1:Int) rfl w' (by omega) (by decide) (by decide) (by omega));rw [show isAt s.data.toList e1 (#[62]:Array UInt8).toList=decide (s.data.toList[e1]? = some 62) from isAt_one] at KI3;have w2:IntKind.i64.wrap ((u:Int)+2)=(u:Int)+2:=by rw [IntKind.wrap_i64]; omega
    have w3:IntKind.i64.wrap ((u:Int)+2+(nm.length:Int))=(u:Int)+2+(nm.length:Int):=by rw [IntKind.wrap_i64]; omega
    have hsA:∀ w',Below wr.heap.size wr w' → FrN (.slice vo cn vcap) w (.slice xa xn xc) w':=fun w' h=>hfr.out.trans (FrN.below h);have HFA:=hid hsA;clear hsA;by_cases h62:s.data.toList[e1]? = some 62
    ·rw [decide_eq_true h62] at KI3;rw [if_pos h62] at hout;have h6l:e1 < s.size:=by have:=(List.getElem?_eq_some_iff.1 h62).1; omega
     clear h62
     cases hrd:readX (xtrim txt2) with
     | none =>
      rw [← readR_none hrd] at KR;have hRn:Hid (R=none):=show _=_ by rw [hout,hrd]; rfl
      clear hout hrd;go_wp2_with fail
      refine (KU.out _).mono ?_
      rintro e w' ⟨rfl,hw'⟩; rw [hw']; clear hw' w'
      go_wp2_with fail
      refine (KI.out _).mono ?_
      rintro e w' ⟨rfl,hw'⟩; rw [hw']; clear hw' w'
      go_wp2_with fail
      refine (KI2.out _).mono ?_
      rintro e w' ⟨rfl,hw'⟩; rw [hw']; clear hw' w'
      go_wp2_with fail
      refine (KO.out _).mono ?_
      rintro e w' ⟨rfl,hw'⟩; rw [hw']; clear hw' w'
      rw [hGX.out];go_wp2_with fail
      refine (KT.out _).mono ?_
      rintro e w' ⟨rfl,hw'⟩; rw [hw']; clear hw' w'
      go_wp2_with fail
      refine (KR.out _).mono ?_
      rintro e w7 ⟨rfl,hw7⟩;go_wp2_with fail
      refine (KI3.out _).mono ?_
      rintro e w' ⟨rfl,hw'⟩; rw [hw']; clear hw' w'
      go_wp2;go_ret2;exact el_no hRn.out (HFA.out _ hw7)
     | some tt =>
      rw [← readR_some hrd] at KR;have htl2:=readX_len hrd;have KT2:=hid (fun w'=>trimX_list tt w' (by omega));have hRs:Hid (R=some (⟨d,nm,ps,xtrim tt⟩ :: ndsL kc,s.data.toList.drop (e1+1))):=show _=_ by rw [hout,hrd]; rfl
      have wE:IntKind.i64.wrap ((e1:Int)+1)=(e1:Int)+1:=by rw [IntKind.wrap_i64]; omega
      have HOT:=hid (fun w7 (h:Below wr.heap.size wr w7)=>own_text (hown.out.below h));have HOS:=hid (fun w7 (h:Below wr.heap.size wr w7)=>hown.out.below h);obtain ⟨g,cap,N8,fz0,hv8,hN8,hat0⟩:=own_text hown.out;simp only [Value.slice.injEq] at hv8;obtain ⟨rfl,rfl,rfl⟩:=hv8;have hN9:(cn:Int) < (xn:Int):=by have:=hCL.out; omega
      clear hout hrd fz0 hat0 hN8;go_wp2_with fail
      refine (KU.out _).mono ?_
      rintro e w' ⟨rfl,hw'⟩; rw [hw']; clear hw' w'
      go_wp2_with fail
      refine (KI.out _).mono ?_
      rintro e w' ⟨rfl,hw'⟩; rw [hw']; clear hw' w'
      go_wp2_with fail
      refine (KI2.out _).mono ?_
      rintro e w' ⟨rfl,hw'⟩; rw [hw']; clear hw' w'
      go_wp2_with fail
      refine (KO.out _).mono ?_
      rintro e w' ⟨rfl,hw'⟩; rw [hw']; clear hw' w'
      rw [hGX.out];go_wp2_with fail
      refine (KT.out _).mono ?_
      rintro e w' ⟨rfl,hw'⟩; rw [hw']; clear hw' w'
      go_wp2_with fail
      refine (KR.out _).mono ?_
      rintro e w7 ⟨rfl,hw7⟩;go_wp2_with fail
      refine (KI3.out _).mono ?_
      rintro e w' ⟨rfl,hw'⟩; rw [hw']; clear hw' w'
      obtain ⟨g7,cap7,N7,fz7,hv7,hN7,hat7⟩:=HOT.out w7 hw7;simp only [Value.slice.injEq,Option.some.injEq,Addr.mk.injEq,and_true] at hv7;obtain ⟨rfl,rfl,rfl⟩:=hv7;rw [hCL.out] at fz7 hat7;have hown8:=own_text_set (HOS.out w7 hw7) (xtrim tt);rw [hCL.out] at hown8;have hf8:FrN (.slice vo cn vcap) w (.slice (some ⟨g,0,none⟩) xn xc) (w7.setCell ⟨g,cn * 4+3,none⟩ (.string ⟨(xtrim tt).toArray⟩)):=(HFA.out w7 hw7).set rfl;have HO8:=hid hown8;have HF8:=hid hf8;clear hown8 hf8 HOT HOS hown hfr hN7 hw7;go_wp2_with fail
      refine (KT2.out _).mono ?_
      rintro e w' ⟨rfl,hw'⟩; rw [hw']; clear hw' w'
      go_wp2;go_ret2;have hls:((s.size - (s.data.toList.drop (e1+1)).length:Nat):Int)=(e1:Int)+1:=by rw [List.length_drop,hl]; omega
      rw [hRs.out];refine ⟨_,setText ⟨⟨d,nm,ps,[]⟩,.slice po pl pc⟩ (xtrim tt) :: kc,?_,rfl,HO8.out,HF8.out⟩
      rw [hls]
      rfl
    ·rw [decide_eq_false h62] at KI3;have hRn:Hid (R=none):=show _=_ by rw [hout,if_neg h62]
     clear hout h62
     cases hrd:readX (xtrim txt2) with
     | none =>
      rw [← readR_none hrd] at KR;clear hrd;go_wp2_with fail
      refine (KU.out _).mono ?_
      rintro e w' ⟨rfl,hw'⟩; rw [hw']; clear hw' w'
      go_wp2_with fail
      refine (KI.out _).mono ?_
      rintro e w' ⟨rfl,hw'⟩; rw [hw']; clear hw' w'
      go_wp2_with fail
      refine (KI2.out _).mono ?_
      rintro e w' ⟨rfl,hw'⟩; rw [hw']; clear hw' w'
      go_wp2_with fail
      refine (KO.out _).mono ?_
      rintro e w' ⟨rfl,hw'⟩; rw [hw']; clear hw' w'
      rw [hGX.out];go_wp2_with fail
      refine (KT.out _).mono ?_
      rintro e w' ⟨rfl,hw'⟩; rw [hw']; clear hw' w'
      go_wp2_with fail
      refine (KR.out _).mono ?_
      rintro e w7 ⟨rfl,hw7⟩;go_wp2_with fail
      refine (KI3.out _).mono ?_
      rintro e w' ⟨rfl,hw'⟩; rw [hw']; clear hw' w'
      go_wp2;go_ret2;exact el_no hRn.out (HFA.out _ hw7)
     | some tt =>
      rw [← readR_some hrd] at KR;clear hrd;go_wp2_with fail
      refine (KU.out _).mono ?_
      rintro e w' ⟨rfl,hw'⟩; rw [hw']; clear hw' w'
      go_wp2_with fail
      refine (KI.out _).mono ?_
      rintro e w' ⟨rfl,hw'⟩; rw [hw']; clear hw' w'
      go_wp2_with fail
      refine (KI2.out _).mono ?_
      rintro e w' ⟨rfl,hw'⟩; rw [hw']; clear hw' w'
      go_wp2_with fail
      refine (KO.out _).mono ?_
      rintro e w' ⟨rfl,hw'⟩; rw [hw']; clear hw' w'
      rw [hGX.out];go_wp2_with fail
      refine (KT.out _).mono ?_
      rintro e w' ⟨rfl,hw'⟩; rw [hw']; clear hw' w'
      go_wp2_with fail
      refine (KR.out _).mono ?_
      rintro e w7 ⟨rfl,hw7⟩;go_wp2_with fail
      refine (KI3.out _).mono ?_
      rintro e w' ⟨rfl,hw'⟩; rw [hw']; clear hw' w'
      go_wp2;go_ret2;exact el_no hRn.out (HFA.out _ hw7)
theorem rboth (s:ByteArray) (hs:s.size≤1048576):∀ F,ElRes s F∧CoRes s F:=by
 intro F
 induction F using Nat.strongRecOn with
 | _ F ih =>
  have hco:CoRes s F:=rcont_step s F hs fun m hm=>(ih m hm).1;refine ⟨?_,hco⟩
  cases F with
  | zero=>intro k d v cs B w _ _ hk _ _ h; omega
  | succ n=>exact relem_step s n hs (ih n (Nat.lt_succ_self n)).2
def xmlK:List UInt8:=[60,63,120,109,108]
def tailP (o:Option (List Nd × List UInt8)):List Nd × Int:=match o with
 | none=>([],130)
 | some (ns,r2)=>if r2.dropWhile xblk=[]∧checkX ns=0 then (ns,0) else ([],130)
theorem body_no {l:List UInt8} (h:isAt l 0 xmlK=false):bodyX l=some (l.drop 0):=by
 unfold isAt at h;rw [List.drop_zero] at h;unfold bodyX;rw [if_neg (show ¬ l.take 5=[60,63,120,109,108] from of_decide_eq_false h),List.drop_zero]
theorem body_yes {l:List UInt8} {u:Nat} (h:isAt l 0 xmlK=true) (hu:u=runL (· != 63) l 5):bodyX l=if isAt l u [63,62]=true then some (l.drop (u+2)) else none:=by
 unfold isAt at h;rw [List.drop_zero] at h;unfold bodyX;rw [if_pos (show l.take 5=[60,63,120,109,108] from of_decide_eq_true h),← run_drop,← hu];unfold isAt;by_cases h2:(l.drop u).take 2=[63,62]
 ·rw [if_pos h2,if_pos (show decide (List.take [(63:UInt8),62].length (l.drop u)=[63,62])=true from decide_eq_true h2),List.drop_drop]
 ·rw [if_neg h2,if_neg (show ¬ decide (List.take [(63:UInt8),62].length (l.drop u)=[63,62])=true from fun h=>h2 (of_decide_eq_true h))]
theorem parse_tail {l:List UInt8} {q:Nat} (h4:¬ 4096 < l.length) (h:bodyX l=some (l.drop q)):parseX l=tailP (elemX (l.length+1) 0 0 (l.drop (runL xblk l q))):=by
 unfold parseX;rw [if_neg h4,h]
 simp only
 rw [← run_drop];unfold tailP;generalize elemX (l.length+1) 0 0 (l.drop (runL xblk l q))=E
 cases E <;> rfl
theorem parse_bad {l:List UInt8} (h4:¬ 4096 < l.length) (h:bodyX l=none):parseX l=([],130):=by
 unfold parseX;rw [if_neg h4,h]
theorem isAt_len {l t:List UInt8} {k:Nat} (h:isAt l k t=true) (ht:t ≠ []):k+t.length≤l.length:=by
 apply Classical.byContradiction
 intro hh;rw [isAt_long (by omega) (.inl ht)] at h
 cases h
theorem elem_sm {n:Nat} {s:List UInt8} {ns:List Nd} {r:List UInt8} (h:elemX n 0 0 s=some (ns,r)) (hs:s.length≤4096):∀ x ∈ ns,SmNd 4096 x :=
 elemC_small 4096 _ 0 _ _ _ (by omega) (elem_XC _ _ _ _ _ _ h (s.length+1) (Nat.lt_succ_self _))
theorem rupto63 (s:ByteArray) (w:World) (hs:s.size≤1048576) (hk:5≤s.size) :
  Calls Tryz.prog 59 #[.string s,.int .i64 5,.string ⟨#[63]⟩] w fun e w'=>e=.returned (.int .i64 (runL (· != 63) s.data.toList 5))∧w'=w :=
 rupto_at s 5 #[63] (· != 63) 5 rfl (fun b=>has_one 63 b) w (by omega) (by decide) hk
structure TailK (s:ByteArray) (q:Nat) (R:List Nd × Int) (w:World):Prop where
 ov:∀ w',Calls Tryz.prog 61 #[.string s,.int .i64 (q:Int)] w' fun e w''=>e=.returned (.int .i64 (runL xblk s.data.toList q))∧w''=w'
 le:runL xblk s.data.toList q≤s.size
 el:Calls Tryz.prog 60 #[.string s,.int .i64 (runL xblk s.data.toList q:Int),.int .i64 0,.slice none 0 0] w fun e w'=>ElPost (elemX (s.size+1) 0 0 (s.data.toList.drop (runL xblk s.data.toList q))) s [] w.heap.size (.slice none 0 0) w e w'
 no:elemX (s.size+1) 0 0 (s.data.toList.drop (runL xblk s.data.toList q))=none → R=([],130)
 ok:∀ ns r,elemX (s.size+1) 0 0 (s.data.toList.drop (runL xblk s.data.toList q))=some (ns,r) → R=(if r.dropWhile xblk=[]∧checkX ns=0 then (ns,0) else ([],130))∧r.length≤s.size∧s.data.toList.drop (s.size - r.length)=r∧(∀ x ∈ ns,SmNd 4096 x)∧ns.length≤200
theorem tailK_of (s:ByteArray) (q:Nat) (w:World) (h4:s.size≤4096) (hq:q≤s.size) (hb:bodyX s.data.toList=some (s.data.toList.drop q)):TailK s q (parseX s.data.toList) w:=by
 have hl:=len_data s;have hr:=run_le (p:=xblk) (l:=s.data.toList) (k:=q) (by omega);rw [hl] at hr;have hp:=parse_tail (l:=s.data.toList) (q:=q) (by omega) hb;rw [hl] at hp;rw [hp];refine ⟨fun w'=>rover_at s q (q:Int) rfl w' (by omega) hq,hr.2,?_,fun h=>by rw [h]; rfl,fun ns r h=>?_⟩
 ·exact (rboth s (by omega) (s.size+1)).1 (runL xblk s.data.toList q) 0 (.slice none 0 0) [] w.heap.size w (OwnN.nil _ _) (Nat.le_refl _) hr.2 (by omega) (by simp) (by omega)
 ·have h1:=(elem_suf _ _ _ _ _ _ h).1.trans (List.drop_suffix _ _);have h2:=h1.length_le;rw [hl] at h2;have h3:=suf_drop h1;rw [hl] at h3;exact ⟨by rw [h]; rfl,h2,h3.symm,elem_sm h (by rw [List.length_drop,hl]; omega),by have:=elem_cap _ _ _ _ _ _ h; omega⟩
set_option maxHeartbeats 4000000 in
set_option maxRecDepth 100000 in
theorem rparse13_any (s:ByteArray) (w:World) (hs:s.size≤140737488355328) :
  Calls Tryz.prog 31 #[.string s] w fun e w'=>ParP (parseX s.data.toList) w e w':=by
 have hl:=len_data s;by_cases h4:4096 < s.size
 ·have hP:parseX s.data.toList=([],2):=by unfold parseX; rw [if_pos (by omega)]
  rw [hP];have r4:(4096:Int) < (s.size:Int):=by omega
  clear hP
  go_enter Tryz.func31,Tryz.ntmps31
  go_wp2;go_ret2;exact ⟨.slice none 0 0,[],rfl,rfl,OwnN.nil _ _,Below.refl _ _⟩
 have r4:¬ (4096:Int) < (s.size:Int):=by omega
 have KI:=hid (fun w'=>ris_at s 0 #[60,63,120,109,108] 0 rfl w' (by omega) (by decide) (by decide) (by omega));rw [show (#[60,63,120,109,108]:Array UInt8).toList=xmlK from rfl] at KI
 cases h5:isAt s.data.toList 0 xmlK with
 | false =>
  rw [h5] at KI;have TK:=hid (tailK_of s 0 w (by omega) (by omega) (body_no h5));clear h5;generalize parseX s.data.toList=R at TK ⊢
  go_enter Tryz.func31,Tryz.ntmps31
  go_wp2_with fail
  refine (KI.out _).mono ?_
  rintro e w' ⟨rfl,hw'⟩; rw [hw']; clear hw' w' KI
  have KO:=hid (TK.out.ov);rw [show ((0:Nat):Int)=0 from rfl] at KO;have KE:=hid (TK.out.el);have HNO:=hid (TK.out.no);have HOK:=hid (TK.out.ok);have hle:=TK.out.le;clear TK;generalize runL xblk s.data.toList 0=e0 at KO KE HNO HOK hle;generalize elemX (s.size+1) 0 0 (s.data.toList.drop e0)=E at KE HNO HOK;go_wp2_with fail
  refine (KO.out _).mono ?_
  rintro e w' ⟨rfl,hw'⟩; rw [hw']; clear hw' w' KO
  go_wp2_with fail
  refine (KE.out).mono ?_
  cases E with
  | none =>
   rintro e w2 ⟨rfl,hf2⟩;go_wp2;go_ret2;rw [HNO.out (by first | rfl | trivial)];exact ⟨.slice none 0 0,[],rfl,rfl,OwnN.nil _ _,hf2.to (Nat.le_refl _) (fun g hg=>by cases hg)⟩
  | some x =>
   obtain ⟨ns,r⟩:=x;rintro e w2 ⟨v2,cs2,rfl,hk2,hown2,hf2⟩;rw [List.nil_append] at hown2;have hb2:=hf2.to (Nat.le_refl _) (fun g hg=>by cases hg);obtain ⟨hR,hrl,hdr,hsm,hc2⟩:=HOK.out ns r rfl;obtain ⟨t2,ht2⟩:∃ t2,t2=s.size - r.length:=⟨_,rfl⟩
   rw [← ht2] at hdr ⊢;have htl:t2≤s.size:=by omega
   have KO2:=hid (fun w'=>rover_at s t2 (t2:Int) rfl w' (by omega) htl);have hr3:=run_le (p:=xblk) (l:=s.data.toList) (k:=t2) (by omega);rw [hl] at hr3
   have hdw:r.dropWhile xblk=[] ↔ runL xblk s.data.toList t2=s.size:=by
    rw [← hdr,← run_drop,drop_none (by omega),hl]
   have q9:¬ (t2:Int) < 0:=by omega
   obtain ⟨va,vc,e5⟩:=hown2.form;have hsmN:∀ c ∈ cs2,SmallN 140737488355328 c.nd:=fun c hm=>(hsm c.nd (by rw [← hk2]; exact List.mem_map.2 ⟨c,hm,rfl⟩)).small (by decide);have KC:=hid (fun w' (h':Below w2.heap.size w2 w') (hz:cs2.length≤140737488355328)=>rcheck13_any v2 cs2 w' hz hsmN (hown2.ndsAt.below h'));rw [hk2] at KC;have HR:=hid hR;have HO2:=hid hown2;have HK2:=hid hk2;generalize runL xblk s.data.toList t2=e2 at KO2 hr3 hdw;have HDW:=hid hdw;obtain ⟨n2,hn2⟩:∃ n2,n2=cs2.length:=⟨_,rfl⟩
   rw [← hn2] at e5 KC;have hz:n2≤140737488355328:=by rw [hn2,← ndsL_len,hk2]; omega
   have hN2:=hid hn2;subst e5;clear HOK HNO KE hR hsm hsmN hown2 hk2 hdw hdr ht2 hn2 hf2;by_cases he2:e2=s.size
   ·have q8:¬ (e2:Int) < (s.size:Int):=by omega
    have hd0:=HDW.out.2 he2;have KC2:=hid (KC.out _ (Below.refl _ _) hz);clear KC he2;go_wp2_with fail
    refine (KO2.out _).mono ?_
    rintro e w' ⟨rfl,hw'⟩; rw [hw']; clear hw' w'
    go_wp2_with fail
    refine (KC2.out).mono ?_
    rintro e w3 ⟨rfl,hw3⟩;by_cases hck:checkX ns=0
    ·rw [hck];go_wp2;go_ret2;rw [HR.out,if_pos ⟨hd0,hck⟩];exact ⟨_,cs2,rfl,HK2.out,HO2.out.below hw3,hb2.trans (hw3.mono hb2.size)⟩
    ·have qc:(checkX ns != 0)=true:=by simpa using hck
     have hRn:Hid (R=([],130)):=show _=_ by rw [HR.out,if_neg (fun h=>hck h.2)]
     clear HR hck;generalize checkX ns=ck at qc ⊢;go_wp2;go_ret2;rw [hRn.out];exact ⟨.slice none 0 0,[],rfl,rfl,OwnN.nil _ _,hb2.trans (hw3.mono hb2.size)⟩
   ·have q8:(e2:Int) < (s.size:Int):=by omega
    have hRn:Hid (R=([],130)):=show _=_ by rw [HR.out,if_neg (fun h=>he2 (HDW.out.1 h.1))]
    clear HR KC HDW he2;go_wp2_with fail
    refine (KO2.out _).mono ?_
    rintro e w' ⟨rfl,hw'⟩; rw [hw']; clear hw' w'
    go_wp2;go_ret2;rw [hRn.out];exact ⟨.slice none 0 0,[],rfl,rfl,OwnN.nil _ _,hb2⟩
 | true =>
  rw [h5] at KI;have h5l:=isAt_len h5 (by decide);rw [hl] at h5l;have h5m:5≤s.size:=by have:xmlK.length=5:=rfl; omega
  have KU:=hid (fun w'=>rupto63 s w' (by omega) h5m);have hul:=run_le (p:=(· != 63)) (l:=s.data.toList) (k:=5) (by omega);rw [hl] at hul;have hby:=body_yes (u:=runL (· != 63) s.data.toList 5) h5 rfl;generalize runL (· != 63) s.data.toList 5=u at KU hul hby;have KI2:=hid (fun w'=>ris_at s u #[63,62] (u:Int) rfl w' (by omega) (by decide) (by decide) (by omega));rw [show (#[63,62]:Array UInt8).toList=[63,62] from rfl] at KI2
  cases h6:isAt s.data.toList u [63,62] with
  | false =>
   rw [h6] at KI2;have hP:Hid (parseX s.data.toList=([],130)):=parse_bad (by omega) (by rw [hby,if_neg (by rw [h6]; simp)]);generalize parseX s.data.toList=R at hP ⊢;clear h5 h6 hby h5l
   go_enter Tryz.func31,Tryz.ntmps31
   go_wp2_with fail
   refine (KI.out _).mono ?_
   rintro e w' ⟨rfl,hw'⟩; rw [hw']; clear hw' w'
   go_wp2_with fail
   refine (KU.out _).mono ?_
   rintro e w' ⟨rfl,hw'⟩; rw [hw']; clear hw' w'
   go_wp2_with fail
   refine (KI2.out _).mono ?_
   rintro e w' ⟨rfl,hw'⟩; rw [hw']; clear hw' w'
   go_wp2;go_ret2;rw [hP.out];exact ⟨.slice none 0 0,[],rfl,rfl,OwnN.nil _ _,Below.refl _ _⟩
  | true =>
   rw [h6] at KI2;have hu2:=isAt_len h6 (by decide);rw [hl] at hu2;have hu3:u+2≤s.size:=hu2;rw [if_pos h6] at hby;have TK:=hid (tailK_of s (u+2) w (by omega) hu3 hby);clear h5 h6 hby h5l hu2;generalize parseX s.data.toList=R at TK ⊢;have hwu:IntKind.i64.wrap ((u:Int)+2)=(u:Int)+2:=by rw [IntKind.wrap_i64]; omega
   go_enter Tryz.func31,Tryz.ntmps31
   go_wp2_with fail
   refine (KI.out _).mono ?_
   rintro e w' ⟨rfl,hw'⟩; rw [hw']; clear hw' w' KI
   go_wp2_with fail
   refine (KU.out _).mono ?_
   rintro e w' ⟨rfl,hw'⟩; rw [hw']; clear hw' w' KU
   go_wp2_with fail
   refine (KI2.out _).mono ?_
   rintro e w' ⟨rfl,hw'⟩; rw [hw']; clear hw' w' KI2
   have KO:=hid (TK.out.ov);rw [show ((u+2:Nat):Int)=(u:Int)+2 from by omega] at KO;have KE:=hid (TK.out.el);have HNO:=hid (TK.out.no);have HOK:=hid (TK.out.ok);have hle:=TK.out.le;clear TK;generalize runL xblk s.data.toList (u+2)=e0 at KO KE HNO HOK hle;generalize elemX (s.size+1) 0 0 (s.data.toList.drop e0)=E at KE HNO HOK;go_wp2_with fail
   refine (KO.out _).mono ?_
   rintro e w' ⟨rfl,hw'⟩; rw [hw']; clear hw' w' KO
   go_wp2_with fail
   refine (KE.out).mono ?_
   cases E with
   | none =>
    rintro e w2 ⟨rfl,hf2⟩;go_wp2;go_ret2;rw [HNO.out (by first | rfl | trivial)];exact ⟨.slice none 0 0,[],rfl,rfl,OwnN.nil _ _,hf2.to (Nat.le_refl _) (fun g hg=>by cases hg)⟩
   | some x =>
    obtain ⟨ns,r⟩:=x;rintro e w2 ⟨v2,cs2,rfl,hk2,hown2,hf2⟩;rw [List.nil_append] at hown2;have hb2:=hf2.to (Nat.le_refl _) (fun g hg=>by cases hg);obtain ⟨hR,hrl,hdr,hsm,hc2⟩:=HOK.out ns r rfl;obtain ⟨t2,ht2⟩:∃ t2,t2=s.size - r.length:=⟨_,rfl⟩
    rw [← ht2] at hdr ⊢;have htl:t2≤s.size:=by omega
    have KO2:=hid (fun w'=>rover_at s t2 (t2:Int) rfl w' (by omega) htl);have hr3:=run_le (p:=xblk) (l:=s.data.toList) (k:=t2) (by omega);rw [hl] at hr3
    have hdw:r.dropWhile xblk=[] ↔ runL xblk s.data.toList t2=s.size:=by
     rw [← hdr,← run_drop,drop_none (by omega),hl]
    have q9:¬ (t2:Int) < 0:=by omega
    obtain ⟨va,vc,e5⟩:=hown2.form;have hsmN:∀ c ∈ cs2,SmallN 140737488355328 c.nd:=fun c hm=>(hsm c.nd (by rw [← hk2]; exact List.mem_map.2 ⟨c,hm,rfl⟩)).small (by decide);have KC:=hid (fun w' (h':Below w2.heap.size w2 w') (hz:cs2.length≤140737488355328)=>rcheck13_any v2 cs2 w' hz hsmN (hown2.ndsAt.below h'));rw [hk2] at KC;have HR:=hid hR;have HO2:=hid hown2;have HK2:=hid hk2;generalize runL xblk s.data.toList t2=e2 at KO2 hr3 hdw;have HDW:=hid hdw;obtain ⟨n2,hn2⟩:∃ n2,n2=cs2.length:=⟨_,rfl⟩
    rw [← hn2] at e5 KC;have hz:n2≤140737488355328:=by rw [hn2,← ndsL_len,hk2]; omega
    have hN2:=hid hn2;subst e5;clear HOK HNO KE hR hsm hsmN hown2 hk2 hdw hdr ht2 hn2 hf2;by_cases he2:e2=s.size
    ·have q8:¬ (e2:Int) < (s.size:Int):=by omega
     have hd0:=HDW.out.2 he2;have KC2:=hid (KC.out _ (Below.refl _ _) hz);clear KC he2;go_wp2_with fail
     refine (KO2.out _).mono ?_
     rintro e w' ⟨rfl,hw'⟩; rw [hw']; clear hw' w'
     go_wp2_with fail
     refine (KC2.out).mono ?_
     rintro e w3 ⟨rfl,hw3⟩;by_cases hck:checkX ns=0
     ·rw [hck];go_wp2;go_ret2;rw [HR.out,if_pos ⟨hd0,hck⟩];exact ⟨_,cs2,rfl,HK2.out,HO2.out.below hw3,hb2.trans (hw3.mono hb2.size)⟩
     ·have qc:(checkX ns != 0)=true:=by simpa using hck
      have hRn:Hid (R=([],130)):=show _=_ by rw [HR.out,if_neg (fun h=>hck h.2)]
      clear HR hck;generalize checkX ns=ck at qc ⊢;go_wp2;go_ret2;rw [hRn.out];exact ⟨.slice none 0 0,[],rfl,rfl,OwnN.nil _ _,hb2.trans (hw3.mono hb2.size)⟩
    ·have q8:(e2:Int) < (s.size:Int):=by omega
     have hRn:Hid (R=([],130)):=show _=_ by rw [HR.out,if_neg (fun h=>he2 (HDW.out.1 h.1))]
     clear HR KC HDW he2;go_wp2_with fail
     refine (KO2.out _).mono ?_
     rintro e w' ⟨rfl,hw'⟩; rw [hw']; clear hw' w'
     go_wp2;go_ret2;rw [hRn.out];exact ⟨.slice none 0 0,[],rfl,rfl,OwnN.nil _ _,hb2⟩
set_option maxHeartbeats 4000000 in
set_option maxRecDepth 100000 in
theorem rparse15_any (s:ByteArray) (w:World) (hs:s.size≤140737488355328) :
  Calls Tryz.prog 15 #[.string s] w fun e w'=>IfP (parseI s.data.toList) w e w':=by
 have KP:=hid (fun w'=>rparse13_any s w' hs);obtain ⟨nl,er,hpv⟩:∃ x er,parseX s.data.toList=(x,er):=⟨_,_,rfl⟩
 rw [hpv] at KP;unfold ParP at KP;simp only at KP;have hG:=hid (pa_new w);by_cases he:er=0
 case neg =>
  rw [parseI_err hpv he];have r1:(er != 0)=true:=by simpa using he
  clear hpv he hs
  go_enter Tryz.func15,Tryz.ntmps15
  go_wp2_with fail
  generalize World.alloc w _=W0 at hG ⊢;refine (KP.out _).mono ?_
  rintro e w1 ⟨v1,cs1,rfl,hnd,hown,hw1⟩;have hG1:=hid (hG.out.below hw1);obtain ⟨va,vc,hvf⟩:=hown.form;subst hvf;obtain ⟨n1,hn1⟩:∃ n1,n1=cs1.length:=⟨_,rfl⟩
  rw [← hn1];clear hn1 hnd hown hw1 hG KP;obtain ⟨y0,y1,y2,f0,f1,f2⟩:=hG1.out.res.rc3;have hD:=hid (hG1.out.done (.int .i64 0) (.string ⟨#[]⟩) (.slice none 0 0));go_wp2;generalize World.setCell _ _ _=w9 at hD ⊢;obtain ⟨d2,d3⟩:=hD.out;obtain ⟨e0,e1,e2,_,_,_⟩:=d2.rc3
  try simp only [Exit.inBlock,Exit.then]
  refine bodyPost_ret (v:=.tuple #[infV noI (.slice none 0 0),.int .i64 er]) (by simp [results,Tryz.results15,go_sem,e0,e1,e2,infV,noI]; try rfl) rfl ?_
  exact ⟨_,rfl,OwnW.nil _ _,d3⟩
 subst he;rw [parseI_yes hpv];have hsm:=parse_small hpv;have hck:=checkX_ok (parseX_ok hpv);have hsi:=guess_small (l:=nl) (by omega) hsm;have hv:infoX nl=if checkI (guessI nl) ≠ 0∨4096 < (prologK++printX (treeI (guessI nl))).length∨nodesI (guessI nl) ≠ nl then (noI,150) else (guessI nl,0):=rfl
 generalize infoX nl=R at hv ⊢;have HV:=hid hv;have HSM:=hid hsm;have hnl:nl.length≤200:=hck.2.1
 have KG:Hid (∀ (w':World) (v:Value) (cs:List NdC),ndsL cs=nl → NdsAt w' v cs → Calls Tryz.prog 32 #[v] w' fun e w2=>GuP (guessI nl) w' e w2):=fun w' v cs hnd hv=>by
  have h:=rguess_any v cs w' (by rw [← ndsL_len,hnd]; omega) (fun c hc=>smallN_up (hsm c.nd (by rw [← hnd]; exact List.mem_map.2 ⟨c,hc,rfl⟩)) (by decide)) hv;rw [hnd] at h;exact h
 clear hv hck hs hpv hsm;have KB:=hid (fun (hc:checkI (guessI nl) ≠ 0) (ws:Value) (w':World) (h:WtsAt w' ws (guessI nl).ws)=>rprint15_bad (guessI nl) ws w' hsi h hc);have KO:=hid (fun (hc:checkI (guessI nl)=0) (ws:Value) (w':World) (h:WtsAt w' ws (guessI nl).ws)=>rprint15_ok (guessI nl) ws w' h hc);have KN:=hid (fun (hc:checkI (guessI nl)=0) (ws:Value) (w':World) (h:WtsAt w' ws (guessI nl).ws)=>rnodes_checked (guessI nl) ws w' hc h)
 have KS:=hid (fun (hc:checkI (guessI nl)=0) (v u:Value) (cs ds:List NdC) (w':World) (h1:ndsL cs=nodesI (guessI nl)) (h2:ndsL ds=nl) (hv:NdsAt w' v cs) (hu:NdsAt w' u ds)=>by
  have hz:=rsame13_any v u cs ds w' (by have:=nodesI_len (guessI nl); have:=(checkI_ok hc).2.2.2.1; rw [← ndsL_len,h1]; omega) (by rw [← ndsL_len,h2]; omega) (fun c hcc=>by have:=(nodes_small hc c.nd (by rw [← h1]; exact List.mem_map.2 ⟨c,hcc,rfl⟩)).2.2.1; omega) hv hu;rw [h1,h2] at hz;exact hz)
 generalize hgd:guessI nl=d at HV KG KB KO KN KS hsi;clear hgd hsi;have HE:=hid (show ∀ cs:List NdC,TelI (nodesI d)=TelI (nodesI d) from fun _=>rfl);unfold TelI at KN;generalize nodesI d=ND at HV KN KS;obtain ⟨vr,rs,wl⟩:=d;unfold GuP at KG;unfold infV at KG KB KO KN;simp only at KG KB KO KN;have zZ:=size_list (prologK++printX (treeI ⟨vr,rs,wl⟩));generalize checkI ⟨vr,rs,wl⟩=C at HV KB KO KN KS;have HZL:Hid (C=0 → True):=fun _=>trivial;generalize prologK++printX (treeI ⟨vr,rs,wl⟩)=Z at HV KO zZ;clear HE HZL
 go_enter Tryz.func15,Tryz.ntmps15
 go_wp2_with fail
 generalize World.alloc w _=W0 at hG ⊢;refine (KP.out _).mono ?_
 rintro e w1 ⟨v1,cs1,rfl,hnd,hown,hw1⟩;have hG1:=hid (hG.out.below hw1);have hNA:=hid hown.ndsAt;obtain ⟨va,vc,hvf⟩:=hown.form;obtain ⟨n1,hn1⟩:∃ n1,n1=cs1.length:=⟨_,rfl⟩
 rw [← hn1] at hvf;subst hvf;have HND:=hid hnd;have HW0:=hid (show w.heap.size < w1.heap.size from hG1.out.lt);clear hn1 hnd hown hw1 hG KP;go_wp2_with fail
 refine (KG.out w1 _ cs1 HND.out hNA.out).mono ?_
 rintro e w2 ⟨ws,rfl,hws,hw2⟩;have hG2:=hid (hG1.out.below hw2);have hNA2:=hid (hNA.out.below hw2);obtain ⟨ta,tc,hwf⟩:=hws.form;obtain ⟨tn,htn⟩:∃ tn,tn=wl.length:=⟨_,rfl⟩
 rw [← htn] at hwf;subst hwf;have hO3:=hid (hws.alloc (.cells #[.int .i64 vr,.string ⟨rs.toArray⟩,.slice ta tn tc] 24));have hG3:=hid (hG2.out.alloc (.cells #[.int .i64 vr,.string ⟨rs.toArray⟩,.slice ta tn tc] 24));have hNA3:=hid (hNA2.out.below ((Below.refl _ w2).alloc (Nat.le_refl _) (.cells #[.int .i64 vr,.string ⟨rs.toArray⟩,.slice ta tn tc] 24)));have hr3:=hid (rc_row3 w2 (.int .i64 vr) (.string ⟨rs.toArray⟩) (.slice ta tn tc) 24);have hl3:=hid (alloc_lt w2 (.cells #[.int .i64 vr,.string ⟨rs.toArray⟩,.slice ta tn tc] 24));clear htn hws hw2 hG1 hNA hG2 hNA2 KG
 go_upto_region 5 with fail
 generalize World.alloc w2 _=w3 at hO3 hG3 hNA3 hr3 hl3 ⊢;obtain ⟨y0,y1,y2,_,_,_⟩:=hr3.out.rc3;by_cases hc:C=0
 case neg =>
  have q1:(C != 0)=true:=by simpa using hc
  have hR:Hid (R=(noI,150)):=show _=_ by rw [HV.out,if_pos (.inl hc)]
  have KB':=hid (KB.out hc _ w3 hO3.out.wtsAt);clear HV KO KN KS KB hc;go_wp2_with fail
  refine KB'.out.mono ?_
  rintro e w4 ⟨rfl,hw4⟩;have hG4:=hid (hG3.out.below hw4);clear KB' hw4 y0 y1 y2 hr3 hl3 hNA3 hO3 hG3;obtain ⟨y0,y1,y2,f0,f1,f2⟩:=hG4.out.res.rc3;have hD:=hid (hG4.out.done (.int .i64 0) (.string ⟨#[]⟩) (.slice none 0 0));go_wp2;generalize World.setCell _ _ _=w9 at hD ⊢;obtain ⟨d2,d3⟩:=hD.out;obtain ⟨e0,e1,e2,_,_,_⟩:=d2.rc3
  try simp only [Exit.inBlock,Exit.then]
  refine bodyPost_ret (v:=.tuple #[infV noI (.slice none 0 0),.int .i64 150]) (by simp [results,Tryz.results15,go_sem,e0,e1,e2,infV,noI]; try rfl) rfl ?_
  rw [hR.out];exact ⟨_,rfl,OwnW.nil _ _,d3⟩
 subst hc;have KO':=hid (KO.out rfl _ w3 hO3.out.wtsAt);have KN':=hid (KN.out rfl);have KS':=hid (KS.out rfl);clear KB KO KN KS;go_wp2_with fail
 refine KO'.out.mono ?_
 rintro e w4 ⟨rfl,hw4⟩;have hG4:=hid (hG3.out.below hw4);have hO4:=hid (hO3.out.below hw4);have hNA4:=hid (hNA3.out.below hw4);have hr4:=hid (hr3.out.below hw4 hl3.out);have hl4:=hid (Nat.lt_of_lt_of_le hl3.out hw4.size);clear KO' hw4 y0 y1 y2 hr3 hl3 hNA3 hO3 hG3;by_cases h4:4096 < Z.length
 ·have q4:(4096:Int) < (Z.length:Int):=by omega
  have hR:Hid (R=(noI,150)):=show _=_ by rw [HV.out,if_pos (.inr (.inl h4))]
  clear HV KN' KS' hO4 hNA4 hr4 hl4;obtain ⟨y0,y1,y2,f0,f1,f2⟩:=hG4.out.res.rc3;have hD:=hid (hG4.out.done (.int .i64 0) (.string ⟨#[]⟩) (.slice none 0 0));go_wp2;generalize World.setCell _ _ _=w9 at hD ⊢;obtain ⟨d2,d3⟩:=hD.out;obtain ⟨e0,e1,e2,_,_,_⟩:=d2.rc3
  try simp only [Exit.inBlock,Exit.then]
  refine bodyPost_ret (v:=.tuple #[infV noI (.slice none 0 0),.int .i64 150]) (by simp [results,Tryz.results15,go_sem,e0,e1,e2,infV,noI]; try rfl) rfl ?_
  rw [hR.out];exact ⟨_,rfl,OwnW.nil _ _,d3⟩
 have q4:¬ (4096:Int) < (Z.length:Int):=by omega
 obtain ⟨y0,y1,y2,_,_,_⟩:=hr4.out.rc3;go_wp2_with fail
 refine (KN'.out _ w4 hO4.out.wtsAt).mono ?_
 rintro e w5 ⟨v5,cs5,rfl,hnd5,hown5,hw5⟩;have hG5:=hid (hG4.out.below hw5);have hO5:=hid (hO4.out.below hw5);have hNA5:=hid (hNA4.out.below hw5);have hr5:=hid (hr4.out.below hw5 hl4.out);have hl5:=hid (Nat.lt_of_lt_of_le hl4.out hw5.size);obtain ⟨va5,vc5,hvf⟩:=hown5.form;have KQ:=hid (KS'.out _ _ cs5 cs1 w5 hnd5 HND.out hown5.ndsAt hNA5.out);obtain ⟨n5,hn5⟩:∃ n5,n5=cs5.length:=⟨_,rfl⟩
 rw [← hn5] at hvf;subst hvf;clear KN' KS' hw5 hn5 hnd5 hown5 y0 y1 y2 hG4 hO4 hNA4 hr4 hl4;go_wp2_with fail
 refine KQ.out.mono ?_
 rintro e w6 ⟨rfl,q,hw6⟩;have hb6:Below w5.heap.size w5 w6:=by rw [hw6]; exact below_drewN _ _
 have hG6:=hid (hG5.out.below hb6);have hO6:=hid (hO5.out.below hb6);have hr6:=hid (hr5.out.below hb6 hl5.out);clear KQ hw6 hb6 hG5 hO5 hr5 hl5 hNA5;obtain ⟨z0,z1,z2,_,_,_⟩:=hr6.out.rc3;obtain ⟨y0,y1,y2,f0,f1,f2⟩:=hG6.out.res.rc3;by_cases hq:ND=nl
 ·have hR:Hid (R=(⟨vr,rs,wl⟩,0)):=show _=_ by rw [HV.out,if_neg (by simp only [not_or]; exact ⟨by simp,h4,by simpa using hq⟩)]
  have hqd:decide (ND=nl)=true:=decide_eq_true hq;rw [hqd];have hD:=hid (hG6.out.done (.int .i64 vr) (.string ⟨rs.toArray⟩) (.slice ta tn tc));have hOD:=hid (hG6.out.own hO6.out HW0.out (.int .i64 vr) (.string ⟨rs.toArray⟩) (.slice ta tn tc));clear HV hq hqd hG6 hO6 hr6;go_wp2;generalize World.setCell _ _ _=w9 at hD hOD ⊢;obtain ⟨d2,d3⟩:=hD.out;obtain ⟨e0,e1,e2,_,_,_⟩:=d2.rc3
  try simp only [Exit.inBlock,Exit.then]
  refine bodyPost_ret (v:=.tuple #[infV ⟨vr,rs,wl⟩ (.slice ta tn tc),.int .i64 0]) (by simp [results,Tryz.results15,go_sem,e0,e1,e2,infV]; try rfl) rfl ?_
  rw [hR.out];exact ⟨_,rfl,hOD.out,d3⟩
 ·have hR:Hid (R=(noI,150)):=show _=_ by rw [HV.out,if_pos (.inr (.inr hq))]
  have hqd:decide (ND=nl)=false:=decide_eq_false hq;rw [hqd];have hD:=hid (hG6.out.done (.int .i64 0) (.string ⟨#[]⟩) (.slice none 0 0));clear HV hq hqd hG6 hO6 hr6;go_wp2;generalize World.setCell _ _ _=w9 at hD ⊢;obtain ⟨d2,d3⟩:=hD.out;obtain ⟨e0,e1,e2,_,_,_⟩:=d2.rc3
  try simp only [Exit.inBlock,Exit.then]
  refine bodyPost_ret (v:=.tuple #[infV noI (.slice none 0 0),.int .i64 150]) (by simp [results,Tryz.results15,go_sem,e0,e1,e2,infV,noI]; try rfl) rfl ?_
  rw [hR.out];exact ⟨_,rfl,OwnW.nil _ _,d3⟩
theorem parse15 (s:ByteArray) (hs:s.size≤140737488355328):∃ R:Inf × Int,(∀ w,Calls Tryz.prog 14 #[.string s] w fun e w'=>IfP R w e w')∧(∀ w,Calls Tryz.prog 15 #[.string s] w fun e w'=>IfP R w e w')∧(R.2=0 → checkI R.1=0∧(prologK++printX (treeI R.1)).length≤4096)∧(R.2 ≠ 0 → R.1=noI)∧R.1.ws.length≤140737488355328:=by
 have hs0:s=⟨s.data.toList.toArray⟩:=by apply ByteArray.ext; simp
 have hl:=len_data s;refine ⟨parseI s.data.toList,fun w=>?_,fun w=>rparse15_any s w hs,fun h=>parseI_ok h,fun h=>parseI_bad h,?_⟩
 ·have h:=wparse_any s.data.toList w (by omega);rw [← hs0] at h;exact h
 ·by_cases h:(parseI s.data.toList).2=0
  ·have:=(checkI_ok (parseI_ok h).1).2.2.2.1
   omega
  ·rw [parseI_bad h]; exact Nat.zero_le _
end Go.Proofs.YtdbalahkmeknaaaGreatDoor
