/-
  XWrite, XPrint, WC5, XPar.
-/
import Derived.Test.YtdbalahkmeknaaaGreatDoorPW32
set_option linter.unusedVariables false
set_option linter.unusedSimpArgs false
set_option maxRecDepth 20000
namespace Go.Proofs.YtdbalahkmeknaaaGreatDoor
open Go.RowKit Sc
section
variable (wP : World) (v : Value) (cs : List NdC) (b : Nat)
set_option maxHeartbeats 8000000 in
set_option maxRecDepth 100000 in
theorem write_step (hv:NdsAt wP v cs) (hz:cs.length≤1000000) (hsm:∀ c ∈ cs,SmallN 140737488355328 c.nd) (hbB:wP.heap.size≤b) (N:Nat) (ih:WrS wP v cs b N):WrS wP v cs b (N+1):=by
 intro t ht k d post l0 w hdrop hpost hbw hbld hpl hd;obtain ⟨nm,ps,tx,ks⟩:=t;have HSI:Hid (∀ j (hj:j < ks.length),d+1+szX ks[j]≤1000000):=fun j hj=>by have:=szX_in (n:=nm) (a:=ps) (tx:=tx) hj; omega
 have hd:d≤1000000:=by omega
 have hksl:ks.length≤1000000:=by
  have h1:=szXs_len ks;have h2:szX (.mk nm ps tx ks)=szXs ks+2:=by rw [szX]
  omega
 have hpl2:=print_len nm ps tx ks;rw [flatX,List.cons_append] at hdrop;obtain ⟨hk,hnd,hdrop1⟩:=drop_nd hdrop;have hlb:=bld_lt hbld;have hBw:wP.heap.size≤w.heap.size:=hbw.size;have hvw:=hv;obtain ⟨ao,cap,rfl,hc⟩:=hv;obtain ⟨ad,hao,hab,c0,pa⟩:=hc k hk;subst hao;obtain ⟨s1,s2,s3,s4⟩:=hsm cs[k] (List.getElem_mem hk);have cN:=c0.below hbw hab;rw [hnd] at pa s1 s2 s3 s4;simp only at pa s1 s2 s3 s4;obtain ⟨pao,pcap,hpa,hpc⟩:=pa.open;have HPar:=hid hpc;obtain ⟨c0,c1,c2,c3⟩:=cN;rw [hnd] at c0 c1 c3;rw [hpa] at c2;simp only at c0 c1 c3;have s3z:=s3.1;have HS3:=hid s3.2;have HI:=hid ih;have HV:=hid hvw;have HBW:=hid hbw;have KK:=hid (fun w' (h':Below wP.heap.size wP w')=>xkids_any (.slice (some ad) cs.length cap) cs k w' hk hz (by rw [hnd]; simp only; omega) (by rw [hnd]; simp only; omega) (hvw.below h'));rw [hnd,hdrop1,kids_of d ks post (k+1) hpost] at KK
 have HDrop:Hid (∀ j (hj:j < ks.length),(ndsL cs).drop (k+1+(flatXs (d+1) (ks.take j)).length)=flatX (d+1) ks[j]++(flatXs (d+1) (ks.drop (j+1))++post)):=fun j hj=>by
  have e:ks=ks.take j++ks[j] :: ks.drop (j+1):=by rw [← List.drop_eq_getElem_cons hj,List.take_append_drop]
  have h1:(ndsL cs).drop (k+1)=flatXs (d+1) (ks.take j)++(flatX (d+1) ks[j]++(flatXs (d+1) (ks.drop (j+1))++post)):=by
   rw [hdrop1]
   conv=>lhs; rw [e]
   rw [flatXs_app,flatXs]; simp
  exact drop_more h1
 have HPost:Hid (∀ j,∀ x,(flatXs (d+1) (ks.drop (j+1))++post).head? = some x → x.deep≤((d+1:Nat):Int)):=fun j=>post_head hpost;have HSz:Hid (∀ j (hj:j < ks.length),szX ks[j]≤N):=fun j hj=>sz_in ht (done:=ks.take j) (rest:=ks.drop (j+1)) (by rw [← List.drop_eq_getElem_cons hj,List.take_append_drop]);obtain ⟨n,hn⟩:∃ n,n=cs.length:=⟨_,rfl⟩
 rw [← hn] at HI HV KK ⊢;have q1:(k:Int) < (n:Int):=by omega
 have HN:=hid hn;have z1:=size_list nm;have HC0:=hid (xcat [60] nm);have hs0:¬ 9223372036854775807 < 1+nm.length:=by omega
 have hrow:=rc_row4 w (.int .i64 (d:Int)) (.string ⟨nm.toArray⟩) (.slice pao ps.length pcap) (.string ⟨tx.toArray⟩) 49;have hbn:Below w.heap.size w (w.alloc (.cells #[.int .i64 (d:Int),.string ⟨nm.toArray⟩,.slice pao ps.length pcap,.string ⟨tx.toArray⟩] 49)):=(Below.refl _ w).alloc (Nat.le_refl _) _;have hszn:(w.alloc (.cells #[.int .i64 (d:Int),.string ⟨nm.toArray⟩,.slice pao ps.length pcap,.string ⟨tx.toArray⟩] 49)).heap.size=w.heap.size+1:=by simp
 have HW0:Hid (Wrote wP.heap.size b l0 w (w.alloc (.cells #[.int .i64 (d:Int),.string ⟨nm.toArray⟩,.slice pao ps.length pcap,.string ⟨tx.toArray⟩] 49))):=Wrote.of hbld hBw hbn;have hnb:w.heap.size ≠ b:=by omega
 clear hsm hn hc hdrop hdrop1 hpost ht s4 ih hvw hpc hpa pa hnd hbw hbld;unfold WrE
 go_enter Tryz.func40,Tryz.ntmps40
 go_wp2_with fail
 clear c0 c1 c2 c3;generalize World.alloc _ _=W0 at hrow hbn HW0 hszn ⊢
 try rw [HC0.out]
 refine (xbldWrite wP.heap.size b l0 ([60]++nm) W0 HW0.out.bld (by simp; omega) (by omega)).mono ?_
 rintro e w1 ⟨rfl,hw1⟩;have hrow1:=hw1.row hrow hnb (by decide);obtain ⟨e0,e1,e2,e3,_,_,_,_⟩:=hrow1.rc4;have HW1:=hid (HW0.out.trans hw1);have hB1:wP.heap.size≤w1.heap.size:=Nat.le_trans hBw HW1.out.bel.size;clear hrow hbn hw1 hszn;go_wp2
 go_loopw [24] (fun iv wr=>∃ j:Nat,j≤ps.length∧iv=.int .i64 (j:Int)∧Hid (Wrote wP.heap.size b (l0++([60]++nm++attrsT (ps.take j))) w wr)∧Hid (RowIs wr w.heap.size 49 [.int .i64 (d:Int),.string ⟨nm.toArray⟩,.slice pao ps.length pcap,.string ⟨tx.toArray⟩])∧wP.heap.size≤wr.heap.size) (fun iv _=>ps.length - (intOf iv).toNat)
 case atStart=>exact ⟨0,Nat.zero_le _,rfl,by simpa [attrsT] using HW1,hid hrow1,hB1⟩
 case round =>
  obtain ⟨j,hj,rfl,hw,hr,hB⟩:=hrel;clear HW1 hrow1 hB1 e0 e1 e2 e3 HW0 HC0;by_cases hlt:j < ps.length
  ·obtain ⟨pad,hpo,hpb,k0,k1,k2⟩:=HPar.out j hlt;subst hpo;obtain ⟨t1,t2⟩:=HS3.out ps[j] (List.getElem_mem hlt);have hbr:=HBW.out.trans hw.out.bel;have a0:=cell_below hbr (by rw [add_block]; exact hpb) k0;have a1:=cell_below hbr (by simp only [add_block]; exact hpb) k1;have a2:=cell_below hbr (by simp only [add_block]; exact hpb) k2;have q6:(j:Int) < (ps.length:Int):=by omega
   have hat:=attrsT_len hlt;have hat2:=attrT_len ps[j];have hsn:Hid (attrsT (ps.take (j+1))=attrsT (ps.take j)++attrT ps[j]):=show _=_ from attrsT_snoc hlt
   have hatd:attrT ps[j]=[32]++ps[j].name++[61,34]++escX ps[j].value++[34]:=rfl;have hprow:=rc_row3 wr (.string ⟨ps[j].name.toArray⟩) (.string ⟨ps[j].value.toArray⟩) (.bool ps[j].has) 70;have hpbn:Below wr.heap.size wr (wr.alloc (.cells #[.string ⟨ps[j].name.toArray⟩,.string ⟨ps[j].value.toArray⟩,.bool ps[j].has] 70)):=(Below.refl _ wr).alloc (Nat.le_refl _) _;have HWp:=hid (Wrote.of hw.out.bld hB hpbn);have hnbp:wr.heap.size ≠ b:=by have:=bld_lt hw.out.bld; omega
   clear k0 k1 k2;generalize attrT ps[j]=AT at hat hat2 hsn hatd;generalize ps[j]=P at a0 a1 a2 t1 t2 hat2 hatd hprow hpbn HWp;obtain ⟨pn,pv,ph⟩:=P;simp only at a0 a1 a2 t1 t2 hat2 hatd hprow hpbn HWp;have z2:=size_list pn;have HC1:=hid (xcat [32] pn);have HC2:=hid (xcat ([32]++pn) [61,34]);have hs1:¬ 9223372036854775807 < 1+pn.length:=by omega
   have hs2:¬ 9223372036854775807 < 1+pn.length+2:=by omega
   have HATD:=hid hatd;clear hatd;go_wp2_with fail
   clear a0 a1 a2;generalize World.alloc _ _=W2 at hprow hpbn HWp ⊢
   try rw [HC1.out]
   try rw [HC2.out]
   have hB2:wP.heap.size≤W2.heap.size:=Nat.le_trans hB hpbn.size;refine (xbldWrite wP.heap.size b _ ([32]++pn++[61,34]) W2 HWp.out.bld (by simp; omega) hB2).mono ?_
   rintro e w3 ⟨rfl,hw3⟩;have hprow3:=hw3.row hprow hnbp (by decide);obtain ⟨g0,g1,g2,_,_,_⟩:=hprow3.rc3;have hB3:wP.heap.size≤w3.heap.size:=Nat.le_trans hB2 hw3.bel.size;go_wp2_with fail
   refine (writeText_list wP.heap.size b _ pv w3 hw3.bld (by simp; omega) t2 hB3).mono ?_
   rintro e w4 ⟨rfl,hw4⟩;have hB4:wP.heap.size≤w4.heap.size:=Nat.le_trans hB3 hw4.bel.size;go_wp2_with fail
   refine (xbldWrite wP.heap.size b _ [34] w4 hw4.bld (by simp; omega) hB4).mono ?_
   rintro e w5 ⟨rfl,hw5⟩;have hwA:=((HWp.out.trans hw3).trans hw4).trans hw5;have hrowA:=hwA.row hr.out hnb (by decide);have hwF:=hw.out.trans hwA;rw [show l0++([60]++nm++attrsT (ps.take j))++([32]++pn++[61,34])++escX pv++[34]=l0++([60]++nm++attrsT (ps.take (j+1))) by rw [hsn.out,HATD.out]; simp] at hwF;have hBF:wP.heap.size≤w5.heap.size:=Nat.le_trans hB4 hw5.bel.size;go_wp2;go_roundw
   case rel=>exact ⟨j+1,by omega,by go_num,hid hwF,hid hrowA,hBF⟩
   case measure=>simp [intOf]; omega
  ·have hjl:j=ps.length:=by omega
   subst hjl;rw [List.take_length] at hw;have q6:¬ ((ps.length:Int) < (ps.length:Int)):=by omega
   obtain ⟨e0,e1,e2,e3,_,_,_,_⟩:=hr.out.rc4;have hbr:=HBW.out.trans hw.out.bel;have hbldr:=hw.out.bld;clear HPar HS3;go_wp2_with fail
   refine (KK.out wr hbr).mono ?_
   rintro e w3 ⟨kv,rfl,hown,hw3⟩;have hw3':=Wrote.of hw.out.bld hB hw3;have hr3:=hw3'.row hr.out hnb (by decide);obtain ⟨g0,g1,g2,g3,_,_,_,_⟩:=hr3.rc4;have hwB:=hw.out.trans hw3';have hB3:wP.heap.size≤w3.heap.size:=Nat.le_trans hB hw3.size;obtain ⟨ka,kc,hkv⟩:=hown.form;have hkl:(posCells (startsX (d+1) ks (k+1))).length=ks.length:=by simp [posCells,starts_len]
   rw [hkl] at hkv;subst hkv;have HKL:=hid hkl;have HWB:=hid hwB;have HR3:=hid hr3;have HOWN:=hid hown;clear e0 e1 e2 e3 hw hr hw3 hw3' hwB hr3 hown hkl KK;have hfr:(l0++([60]++nm++attrsT ps)).length=l0.length+1+nm.length+(attrsT ps).length:=by simp; omega
   have hkb:(Value.slice ka ks.length kc).ownBlock ≠ some b:=fun e=>by
    have:=World.ownsRow.lt HOWN.out b e
    have:=bld_lt hbldr
    omega
   obtain ⟨C0,hC0⟩:∃ C0,wr.heap.size=C0:=⟨_,rfl⟩
   rw [hC0] at HOWN;by_cases hem:tx=[]∧ks=[]
   ·obtain ⟨rfl,rfl⟩:=hem;have HP:Hid (printX (.mk nm ps [] [])=[60]++nm++attrsT ps++[47,62]):=show _=_ from print_nil rfl
    have q7:(([]:List UInt8)).isEmpty=true:=rfl;have q8:(((0:Nat):Int)==0)=true:=rfl;have hpx:(printX (.mk nm ps [] [])).length=3+nm.length+(attrsT ps).length:=by rw [HP.out]; simp; omega
    simp only [List.length_nil] at *;go_wp2_with fail
    refine (xbldWrite wP.heap.size b _ [47,62] w3 HWB.out.bld (by rw [hfr]; simp only [List.length_cons,List.length_nil]; omega) hB3).mono ?_
    rintro e w4 ⟨rfl,hw4⟩;have hwF:=HWB.out.trans hw4;rw [show l0++([60]++nm++attrsT ps)++[47,62]=l0++printX (.mk nm ps [] []) by rw [HP.out]; simp] at hwF;go_wp2
    first | go_end0 | refine bodyPost_ret (results_none rfl _ _ _) rfl ?_
    exact ⟨rfl,hwF⟩
   ·have hne:tx.isEmpty=false∨(tx.isEmpty=true∧((ks.length:Int)==0)=false):=by
     cases tx with
     | cons a b=>exact .inl rfl
     | nil =>
      right
      refine ⟨rfl,?_⟩
      cases ks with
      | nil=>exact absurd ⟨rfl,rfl⟩ hem
      | cons a b=>rw [beq_eq_false_iff_ne]; simp; omega
    have hnn:escX tx++printXs ks ≠ []:=fun e=>by
     rw [List.append_eq_nil_iff] at e;exact hem ⟨escX_nil.1 e.1,prints_nil e.2⟩
    have HP:Hid (printX (.mk nm ps tx ks)=[60]++nm++attrsT ps++([62]++(escX tx++printXs ks)++([60,47]++nm++[62]))):=show _=_ from print_in hnn
    have hpx:(printX (.mk nm ps tx ks)).length=5+2 * nm.length+(attrsT ps).length+(escX tx).length+(printXs ks).length:=by rw [HP.out]; simp; omega
    have HC3:=hid (xcat [60,47] nm);have HC4:=hid (xcat ([60,47]++nm) [62]);have hs3:¬ 9223372036854775807 < 2+nm.length:=by omega
    have hs4:¬ 9223372036854775807 < 2+nm.length+1:=by omega
    clear hem hnn
    rcases hne with hA | ⟨hA,hA2⟩
    all_goals
     (go_wp2_with fail
      refine (xbldWrite wP.heap.size b _ [62] w3 HWB.out.bld (by rw [hfr]; simp only [List.length_cons,List.length_nil]; omega) hB3).mono ?_
      rintro e w4 ⟨rfl,hw4⟩;have hr4:=hw4.row HR3.out hnb (by decide);obtain ⟨m0,m1,m2,m3,_,_,_,_⟩:=hr4.rc4;have hB4:wP.heap.size≤w4.heap.size:=Nat.le_trans hB3 hw4.bel.size;go_wp2_with fail
      refine (writeText_list wP.heap.size b _ tx w4 hw4.bld (by rw [List.length_append,hfr]; simp only [List.length_cons,List.length_nil]; omega) s2 hB4).mono ?_
      rintro e w5 ⟨rfl,hw5⟩;have hr5:=hw5.row hr4 hnb (by decide);have hB5:wP.heap.size≤w5.heap.size:=Nat.le_trans hB4 hw5.bel.size;have hw45:=hw4.trans hw5;have HO5:Hid (Own w5 C0 3 (.slice ka ks.length kc) (posCells (startsX (d+1) ks (k+1)))):=hw45.owns HOWN.out hkb (by decide);have HW5:=hid (HWB.out.trans hw45);have HR5:=hid hr5;clear g0 g1 g2 g3 m0 m1 m2 m3 hr4 hr5 hw4 hw5 hw45 HOWN HWB HR3 hA;go_wp2
      go_loopw [62] (fun iv wx=>∃ j:Nat,j≤ks.length∧iv=.int .i64 (j:Int)∧Hid (Wrote wP.heap.size b (l0++([60]++nm++attrsT ps)++[62]++escX tx++printXs (ks.take j)) w wx)∧Hid (RowIs wx w.heap.size 49 [.int .i64 (d:Int),.string ⟨nm.toArray⟩,.slice pao ps.length pcap,.string ⟨tx.toArray⟩])∧Hid (Own wx C0 3 (.slice ka ks.length kc) (posCells (startsX (d+1) ks (k+1))))∧wP.heap.size≤wx.heap.size) (fun iv _=>ks.length - (intOf iv).toNat)
      case atStart=>exact ⟨0,Nat.zero_le _,rfl,by simpa [printXs] using HW5,HR5,HO5,hB5⟩
      case round =>
       obtain ⟨j,hj,rfl,hw,hr,ho,hB⟩:=hrel;clear HW5 HR5 HO5 hB5;by_cases hlt:j < ks.length
       ·obtain ⟨g,rfl,cg⟩:=own_pos ho.out j (by rw [starts_len]; exact hlt);rw [starts_at (d+1) ks (k+1) j hlt] at cg;have hpt:=prints_take hlt;have hbx:=HBW.out.trans hw.out.bel;have KW:=hid (HI.out ks[j] (HSz.out j hlt) (k+1+(flatXs (d+1) (ks.take j)).length) (d+1) _ _ wr (HDrop.out j hlt) (HPost.out j) hbx hw.out.bld (by simp only [List.length_append,List.length_cons,List.length_nil]; omega) (HSI.out j hlt));unfold WrE at KW;have HSN:=hid (prints_snoc hlt);have HLT:=hid hlt;generalize k+1+(flatXs (d+1) (ks.take j)).length=pos at cg KW;have q6:(j:Int) < (ks.length:Int):=by omega
        go_wp2_with fail
        refine (KW.out).mono ?_
        rintro e w6 ⟨rfl,hw6⟩;have hr6:=hw6.row hr.out hnb (by decide);have ho6:Own w6 C0 3 (.slice (some ⟨g,0,none⟩) ks.length kc) (posCells (startsX (d+1) ks (k+1))):=hw6.owns ho.out hkb (by decide);have hwF:=hw.out.trans hw6;rw [List.append_assoc (l0++([60]++nm++attrsT ps)++[62]++escX tx),← HSN.out] at hwF;have hB6:wP.heap.size≤w6.heap.size:=Nat.le_trans hB hw6.bel.size;go_wp2;go_roundw
        case rel=>exact ⟨j+1,by have:=HLT.out; omega,by go_num,hid hwF,hid hr6,hid ho6,hB6⟩
        case measure=>have:=HLT.out; simp [intOf]; omega
       ·have hjl:j=ks.length:=by omega
        subst hjl;rw [List.take_length] at hw;have q6:¬ ((ks.length:Int) < (ks.length:Int)):=by omega
        obtain ⟨m0,m1,m2,m3,_,_,_,_⟩:=hr.out.rc4;go_wp2_with fail
        try rw [HC3.out]
        try rw [HC4.out]
        refine (xbldWrite wP.heap.size b _ ([60,47]++nm++[62]) wr hw.out.bld (by simp only [List.length_append,List.length_cons,List.length_nil]; omega) hB).mono ?_
        rintro e w7 ⟨rfl,hw7⟩;have hwF:=hw.out.trans hw7;rw [show l0++([60]++nm++attrsT ps)++[62]++escX tx++printXs ks++([60,47]++nm++[62])=l0++printX (.mk nm ps tx ks) by rw [HP.out]; simp] at hwF;go_wp2
        first | go_end0 | refine bodyPost_ret (results_none rfl _ _ _) rfl ?_
        exact ⟨rfl,hwF⟩)
end
mutual
theorem szX_flat (d:Nat):∀ t:XT,szX t+1≤4 * (flatX d t).length
 | .mk n a tx k=>by
  have:=szXs_flat (d+1) k
  rw [szX,flatX,List.length_cons]; omega
theorem szXs_flat (d:Nat):∀ ks:List XT,szXs ks≤4 * (flatXs d ks).length+1
 | []=>by rw [szXs]; omega
 | k :: ks=>by
  have h1:=szX_flat d k;have h2:=szXs_flat d ks;rw [szXs,flatXs,List.length_append]; omega
end
theorem write_any (wP:World) (v:Value) (cs:List NdC) (b:Nat) (hv:NdsAt wP v cs) (hz:cs.length≤1000000) (hsm:∀ c ∈ cs,SmallN 140737488355328 c.nd) (hbB:wP.heap.size≤b):∀ N,WrS wP v cs b N
 | 0=>by
  intro t ht;obtain ⟨n,a,tx,k⟩:=t;rw [szX] at ht; omega
 | N+1=>write_step wP v cs b hv hz hsm hbB N (write_any wP v cs b hv hz hsm hbB N)
set_option maxHeartbeats 2000000 in
set_option maxRecDepth 100000 in
theorem xprint_ok (v:Value) (cs:List NdC) (t:XT) (w:World) (hsm:∀ c ∈ cs,SmallN 140737488355328 c.nd) (hv:NdsAt w v cs) (hc:checkX (ndsL cs)=0) (hf:flatX 0 t=ndsL cs) (hpl:39+(printX t).length≤140737488355328) :
  Calls Tryz.prog 21 #[v] w fun e w'=>e=.returned (.tuple #[.string ⟨(prologK++printX t).toArray⟩,.int .i64 0])∧Below w.heap.size w w':=by
 have h200:cs.length≤200:=by have:=(checkX_ok hc).2.1; rw [ndsL_len] at this; exact this
 have hfl:(flatX 0 t).length=cs.length:=by rw [hf,ndsL_len]
 have hszt:=szX_flat 0 t;rw [hfl] at hszt;have KC:=hid (xcheck_any v cs w (by omega) hsm hv);rw [hc] at KC;have HZ:Hid (∀ w1:World,Below w.heap.size w w1 → IsBld (w1.alloc (.cells #[.pointer none,.slice none 0 0] 75)) w.heap.size w1.heap.size []):=fun w1 hw1=>.inl ⟨hw1.size,.slice none 0 0,heap_alloc_new _ _,World.ownsRowF_nil _ _ _ _,by simp [Value.ownBlock]⟩;have KW:=hid (fun b (hb:w.heap.size≤b)=>write_any w v cs b hv (by omega) hsm hb (szX t) t (Nat.le_refl _) 0 0 [] prologK);have HN:Hid (prologK++printX t ≠ []):=fun e=>by simp [prologK] at e
 have HP0:Hid (prologK.length=39):=rfl;have HD:Hid ((ndsL cs).drop 0=flatX 0 t++[]):=show _=_ by rw [List.drop_zero,hf,List.append_nil]
 have HB:Hid (∀ w1:World,Below w.heap.size w w1 → Below w.heap.size w (w1.alloc (.cells #[.pointer none,.slice none 0 0] 75))):=fun w1 hw1=>hw1.alloc hw1.size _;have HPK:Hid ((⟨#[60,63,120,109,108,32,118,101,114,115,105,111,110,61,34,49,46,48,34,32,101,110,99,111,100,105,110,103,61,34,85,84,70,45,56,34,63,62,10]⟩:ByteArray)=⟨prologK.toArray⟩):=rfl;have hPl:prologK.length+(printX t).length≤140737488355328:=by rw [HP0.out]; exact hpl
 unfold WrE at KW;generalize prologK++printX t=Z at KW HN ⊢;generalize printX t=PT at KW hPl;obtain ⟨ao,cap,rfl,_⟩:=hv;generalize hnn:cs.length=n at KC KW ⊢;clear hc hf hsm hfl
 go_enter Tryz.func21,Tryz.ntmps21
 go_wp2_with fail
 refine (KC.out).mono ?_
 rintro e w1 ⟨rfl,hw1⟩;have hbl:=HZ.out w1 hw1;have hbw:=HB.out w1 hw1;have hsz:w.heap.size≤(w1.alloc (.cells #[.pointer none,.slice none 0 0] 75)).heap.size:=hbw.size;go_wp2_with fail
 generalize World.alloc _ _=W2 at hbl hbw hsz ⊢;rw [HPK.out];refine (xbldWrite w.heap.size w1.heap.size [] prologK W2 hbl (by have:=HP0.out; simp; omega) hsz).mono ?_
 rintro e w3 ⟨rfl,hw3⟩;rw [List.nil_append] at hw3;go_wp2_with fail
 refine (KW.out w1.heap.size hw1.size w3 HD.out (fun x hx=>by simp at hx) (hbw.trans hw3.bel) hw3.bld hPl (by omega)).mono ?_
 rintro e w4 ⟨rfl,hw4⟩;go_wp2_with fail
 refine (bldString w.heap.size w1.heap.size Z w4 hw4.bld HN.out).mono ?_
 rintro e w5 ⟨rfl,h5,hb5,_⟩;go_wp2;go_ret2;exact ⟨rfl,((hbw.trans hw3.bel).trans hw4.bel).trans hb5⟩
theorem list14I {α:Type} {l:List α} (h:l.length=14):∃ a0 a1 a2 a3 a4 a5 a6 a7 a8 a9 a10 a11 a12 a13,l=[a0,a1,a2,a3,a4,a5,a6,a7,a8,a9,a10,a11,a12,a13]:=by
 match l,h with
 | [a0,a1,a2,a3,a4,a5,a6,a7,a8,a9,a10,a11,a12,a13],_=>exact ⟨a0,a1,a2,a3,a4,a5,a6,a7,a8,a9,a10,a11,a12,a13,rfl⟩
theorem list13I {α:Type} {l:List α} (h:l.length=13):∃ a0 a1 a2 a3 a4 a5 a6 a7 a8 a9 a10 a11 a12,l=[a0,a1,a2,a3,a4,a5,a6,a7,a8,a9,a10,a11,a12]:=by
 match l,h with
 | [a0,a1,a2,a3,a4,a5,a6,a7,a8,a9,a10,a11,a12],_=>exact ⟨a0,a1,a2,a3,a4,a5,a6,a7,a8,a9,a10,a11,a12,rfl⟩
theorem ownP_set {W:World} {B b j:Nat} {v u:Value} {ps:List Par} (h:OwnP W B v ps) (hb:b < B):OwnP (W.setCell ⟨b,j,none⟩ u) B v ps:=ownsRow_setCell_below h (show (⟨b,j,none⟩:Addr).block < B from hb) u
theorem wdig_list (n:Int) (w:World) (h0:0≤n) (h1:n≤9223372036854775807) :
  Calls Tryz.prog 43 #[.int .i64 n] w fun e w'=>e=.returned (.string ⟨(digL n.toNat).toArray⟩)∧Below w.heap.size w w':=by
 have h:=digits_any n.toNat w (by omega);rw [show ((n.toNat:Nat):Int)=n from Int.toNat_of_nonneg h0] at h;exact h
structure EbS (w W:World) (t:Wt):Prop where
 row:RowIs W w.heap.size 51 (wtCells t)
 res:RowIs W (w.heap.size+1) 49 [.int .i64 0,.string ⟨#[]⟩,.slice none 0 0,.string ⟨#[]⟩]
 bel:Below w.heap.size w W
 lt:w.heap.size+2≤W.heap.size
theorem eb_new (w:World) (t:Wt):EbS w ((w.alloc (.cells #[.int .i64 t.id,.string ⟨t.uri.toArray⟩,.string ⟨t.stat.toArray⟩,.string ⟨t.ev.toArray⟩] 51)).alloc (.cells #[.int .i64 0,.string ⟨#[]⟩,.slice none 0 0,.string ⟨#[]⟩] 49)) t:=by
 have h1:=rc_row4 w (.int .i64 t.id) (.string ⟨t.uri.toArray⟩) (.string ⟨t.stat.toArray⟩) (.string ⟨t.ev.toArray⟩) 51;have hl:=alloc_lt w (.cells #[.int .i64 t.id,.string ⟨t.uri.toArray⟩,.string ⟨t.stat.toArray⟩,.string ⟨t.ev.toArray⟩] 51);have hs:(w.alloc (.cells #[.int .i64 t.id,.string ⟨t.uri.toArray⟩,.string ⟨t.stat.toArray⟩,.string ⟨t.ev.toArray⟩] 51)).heap.size=w.heap.size+1:=by simp
 have hb1:Below w.heap.size w (w.alloc (.cells #[.int .i64 t.id,.string ⟨t.uri.toArray⟩,.string ⟨t.stat.toArray⟩,.string ⟨t.ev.toArray⟩] 51)):=(Below.refl _ w).alloc (Nat.le_refl _) _;generalize w.alloc (.cells #[.int .i64 t.id,.string ⟨t.uri.toArray⟩,.string ⟨t.stat.toArray⟩,.string ⟨t.ev.toArray⟩] 51)=W1 at h1 hl hs hb1 ⊢;have h2:=rc_row4 W1 (.int .i64 0) (.string ⟨#[]⟩) (.slice none 0 0) (.string ⟨#[]⟩) 49;rw [hs] at h2;exact ⟨h1.below ((Below.refl _ W1).alloc (Nat.le_refl _) _) hl,h2,hb1.alloc hb1.size _,by simp [hs]⟩
set_option maxHeartbeats 4000000 in
set_option maxRecDepth 100000 in
theorem welem_any (t:Wt) (w:World) (h0:0≤t.id) (h1:t.id≤9223372036854775807) (hu:t.uri.length≤1048576) :
  Calls Tryz.prog 44 #[wtV t] w fun e w'=>∃ g:Nat,e=.returned (ndV (wtN t) (.slice (some ⟨g,0,none⟩) 3 3))∧OwnP w' w.heap.size (.slice (some ⟨g,0,none⟩) 3 3) (wtN t).attrs∧Below w.heap.size w w':=by
 have KD:=hid (fun u=>wdig_list t.id u h0 h1);have hdl:(digL t.id.toNat).length≤20:=by have:=digL_len19 (n:=t.id.toNat) (by omega); omega
 have HE:=hid (eb_new w t);have hwn:wtN t=nd7 (digL t.id.toNat) t:=rfl;rw [hwn];clear hwn;generalize digL t.id.toNat=dl at KD hdl ⊢;unfold wtV
 go_enter Tryz.func44,Tryz.ntmps44
 go_upto_region 1 with fail
 generalize World.alloc (World.alloc w _) _=W0 at HE ⊢;refine we1_region ⟨rfl,⟨_,rfl,rfl,rfl,rfl⟩,⟨_,rfl,rfl,rfl,rfl⟩,⟨_,rfl,rfl,rfl,rfl⟩,⟨_,rfl,rfl,rfl,rfl⟩,⟨_,rfl,rfl,rfl,rfl⟩,⟨_,rfl,rfl,rfl,rfl⟩,⟨_,rfl,rfl,rfl,rfl⟩,⟨_,rfl,rfl,rfl,rfl⟩,⟨_,rfl,rfl,rfl,rfl⟩,⟨_,rfl,rfl,rfl,rfl⟩,⟨_,rfl,rfl,rfl,rfl⟩,⟨_,rfl,rfl,rfl,rfl⟩,⟨_,rfl,rfl,rfl,rfl⟩,⟨_,rfl,rfl,rfl,rfl⟩,⟨_,rfl,rfl,rfl,rfl⟩,waits_of (by kernel_rfl),waits_of (by kernel_rfl),waits_of (by kernel_rfl),waits_of (by kernel_rfl),waits_of (by kernel_rfl),waits_of (by kernel_rfl),waits_of (by kernel_rfl),waits_of (by kernel_rfl),waits_of (by kernel_rfl),waits_of (by kernel_rfl),waits_of (by kernel_rfl)⟩ (by kernel_rfl) (by kernel_rfl) (by kernel_rfl) _ W0 (w.heap.size+1) (w.heap.size+2) w.heap.size t dl rfl rfl rfl rfl HE.out.lt hu hdl HE.out.row (by have:=HE.out.lt; omega) HE.out.res (by have:=HE.out.lt; omega) KD.out ?_
 intro g us u hus hown hbu;obtain ⟨r0,r1,r2,r3,r4,r5,r6,r7,r8,r9,r10,r11,r12,r13,rfl⟩:=list14I hus;have hres:=HE.out.res.below hbu (by have:=HE.out.lt; omega);have hr5:=rc_store4 hres (.int .i64 2) (.string ⟨#[119,97,116,99,104,101,114]⟩) (.slice (some ⟨g,0,none⟩) 3 3) (.string ⟨(sipcK++t.uri).toArray⟩);have hb5:=hid (rc_below4 (HE.out.bel.trans (hbu.mono HE.out.bel.size)) (w.heap.size+1) (Nat.le_succ _) (.int .i64 2) (.string ⟨#[119,97,116,99,104,101,114]⟩) (.slice (some ⟨g,0,none⟩) 3 3) (.string ⟨(sipcK++t.uri).toArray⟩));have ho5:=hid (ownP_mono (ownP_set (j:=3) (u:=.string ⟨(sipcK++t.uri).toArray⟩) (ownP_set (j:=2) (u:=.slice (some ⟨g,0,none⟩) 3 3) (ownP_set (j:=1) (u:=.string ⟨#[119,97,116,99,104,101,114]⟩) (ownP_set (j:=0) (u:=.int .i64 2) hown (show w.heap.size+1 < w.heap.size+2 by omega)) (show w.heap.size+1 < w.heap.size+2 by omega)) (show w.heap.size+1 < w.heap.size+2 by omega)) (show w.heap.size+1 < w.heap.size+2 by omega)) (show w.heap.size≤w.heap.size+2 by omega));generalize World.setCell _ _ _=w5 at hr5 hb5 ho5 ⊢;obtain ⟨e0,e1,e2,e3,_,_,_,_⟩:=hr5.rc4;clear hus hown hbu HE KD hres;simp only [List.take_succ_cons,List.take_zero,List.drop_succ_cons,List.drop_zero,List.cons_append,List.nil_append]
 try go_wp2
 try simp only [Exit.inBlock,Exit.then]
 refine bodyPost_ret (v:=ndV (nd7 dl t) (.slice (some ⟨g,0,none⟩) 3 3)) (by simp [results,Tryz.results44,go_sem,e0,e1,e2,e3,ndV,nd7,watcherK]; try rfl) rfl ?_
 exact ⟨g,rfl,ho5.out,hb5.out⟩
set_option maxHeartbeats 4000000 in
set_option maxRecDepth 100000 in
theorem welems_any (d:Inf) (ws:Value) (w:World) (hv0:0≤d.ver) (hv1:d.ver≤9223372036854775807) (hres:d.res.length≤1048576) (hids:∀ t ∈ d.ws,0≤t.id∧t.id≤9223372036854775807∧t.uri.length≤1048576) (hl:d.ws.length≤1000) (hws:WtsAt w ws d.ws) :
  Calls Tryz.prog 22 #[infV d ws] w fun e w'=>TelI (nodesI d) w e w':=by
 obtain ⟨vr,rs,wl⟩:=d;simp only at hv0 hv1 hres hids hl hws;have hnd:nodesI ⟨vr,rs,wl⟩=nd1 (digL vr.toNat) :: nd2 rs :: wl.map wtN:=rfl;unfold infV
 simp only
 rw [hnd];have KV:=hid (fun u=>wdig_list vr u hv0 hv1);have hdl:(digL vr.toNat).length≤20:=by have:=digL_len19 (n:=vr.toNat) (by omega); omega
 have HID:=hid hids;have HTW:=hid (fun (W':World) (h:Below w.heap.size w W')=>hws.below h);obtain ⟨ta,tc,hta,_,_⟩:=hws;obtain ⟨tn,htn⟩:∃ tn,tn=wl.length:=⟨_,rfl⟩
 rw [← htn] at hta hl;subst hta;have HTN:=hid htn;clear htn hids hnd;generalize digL vr.toNat=dl at KV hdl ⊢;have hr0:=rc_row3 w (.int .i64 vr) (.string ⟨rs.toArray⟩) (.slice ta tn tc) 24;have hb0:Below w.heap.size w (w.alloc (.cells #[.int .i64 vr,.string ⟨rs.toArray⟩,.slice ta tn tc] 24)):=(Below.refl _ w).alloc (Nat.le_refl _) _;have hl0:=alloc_lt w (.cells #[.int .i64 vr,.string ⟨rs.toArray⟩,.slice ta tn tc] 24);obtain ⟨i1,hj,hy0,hy1,hy2⟩:=info_parts infoNodeB;have HNW:=hid (fun (W:World) (c:NdC) (g:Nat) (hg:g=W.heap.size)=>xnd_new W c g hg)
 go_enter Tryz.func22,Tryz.ntmps22
 go_upto_region 1 with fail
 generalize World.alloc w _=W0 at hr0 hb0 hl0 ⊢;refine we2_region ⟨rfl,⟨_,rfl,rfl,rfl,rfl⟩,⟨_,rfl,rfl,rfl,rfl⟩,⟨_,rfl,rfl,rfl,rfl⟩,⟨_,rfl,rfl,rfl,rfl⟩,⟨_,rfl,rfl,rfl,rfl⟩,⟨_,rfl,rfl,rfl,rfl⟩,⟨_,rfl,rfl,rfl,rfl⟩,⟨_,rfl,rfl,rfl,rfl⟩,⟨_,rfl,rfl,rfl,rfl⟩,⟨_,rfl,rfl,rfl,rfl⟩,⟨_,rfl,rfl,rfl,rfl⟩,⟨_,rfl,rfl,rfl,rfl⟩,⟨_,rfl,rfl,rfl,rfl⟩,⟨_,rfl,rfl,rfl,rfl⟩,waits_of (by kernel_rfl),waits_of (by kernel_rfl),waits_of (by kernel_rfl),waits_of (by kernel_rfl),waits_of (by kernel_rfl),waits_of (by kernel_rfl),waits_of (by kernel_rfl),waits_of (by kernel_rfl),waits_of (by kernel_rfl),waits_of (by kernel_rfl)⟩ (by kernel_rfl) (by kernel_rfl) (by kernel_rfl) _ W0 w.heap.size w.heap.size vr rs dl rfl rfl rfl hb0.size hres hdl hr0.rc3.1 hr0.rc3.2 hl0 KV.out ?_
 intro v1 cs1 us w1 hc1 hus hown1 hw1;obtain ⟨u0,u1,u2,u3,u4,u5,u6,u7,u8,u9,u10,u11,u12,rfl⟩:=list13I hus;have hP1:=hid (show PSi w [.int .i64 vr,.string ⟨rs.toArray⟩,.slice ta tn tc] w1 v1 cs1 from ⟨hown1,hr0.below hw1 hl0,hb0.trans (hw1.mono hb0.size)⟩);obtain ⟨vo,vc,hvf⟩:=hown1.form;obtain ⟨n4,hn4⟩:∃ n4,n4=cs1.length:=⟨_,rfl⟩
 rw [← hn4] at hvf;subst hvf;have HN4:=hid hn4;have hn4c:n4≤2+0:=by have h:=congrArg List.length hc1; rw [ndsL_len,← hn4] at h; simp at h; omega
 have HL4:Hid (ndsL cs1=nd1 dl :: nd2 rs :: (wl.take 0).map wtN):=show _=_ by rw [hc1]; rfl
 clear hus hown1 hw1 hr0 hb0 hl0 hn4 hc1 KV hdl;simp only [List.set_cons_succ,List.set_cons_zero,List.take_succ_cons,List.take_zero,List.drop_succ_cons,List.drop_zero,List.cons_append,List.nil_append];obtain ⟨x0,x1,x2,_,_,_⟩:=hP1.out.row.rc3;go_wp2
 go_loopw [3,22] (fun v i wr=>∃ (j n:Nat) (vo:Option Addr) (vc:Nat) (cs:List NdC),j≤tn∧i=.int .i64 (j:Int)∧v=.slice vo n vc∧Hid (ndsL cs=nd1 dl :: nd2 rs :: (wl.take j).map wtN)∧Hid (n=cs.length)∧n≤2+j∧Hid (PSi w [.int .i64 vr,.string ⟨rs.toArray⟩,.slice ta tn tc] wr v cs)) (fun _ i _=>tn - (intOf i).toNat)
 case atStart=>exact ⟨0,n4,vo,vc,cs1,Nat.zero_le _,rfl,rfl,HL4,HN4,hn4c,hP1⟩
 case round =>
  clear hP1 HL4 HN4 hn4c x0 x1 x2;obtain ⟨j,n,vo5,vc5,cs,hjn,rfl,rfl,hnd,HL,hnb,hP⟩:=hrel;by_cases hlt:j < tn
  ·have hjl:j < wl.length:=by have:=HTN.out; omega
   obtain ⟨ta',tc',hta',_,hcT⟩:=HTW.out wr hP.out.bel;obtain ⟨ad,hao,hab,c⟩:=hcT j hjl
   injection hta' with e1 e2 e3
   subst e1 hao;clear e2 e3 hcT;have HFN:=hid (wts_next hjl);obtain ⟨hi0,hi1,hul⟩:=HID.out wl[j] (List.getElem_mem hjl);have KE:=hid (fun w'=>welem_any wl[j] w' hi0 hi1 hul);generalize hWN:wtN wl[j]=WN at HFN KE;have hdt:WN.deep=2∧WN.name=watcherK∧WN.text=sipcK++wl[j].uri:=by rw [← hWN]; exact ⟨rfl,rfl,rfl⟩
   clear hWN;generalize wl[j]=t at c KE hul hdt;obtain ⟨ti,tu,ts,te⟩:=t;obtain ⟨c0,c1',c2,c3⟩:=c;unfold wtV at KE;simp only at c0 c1' c2 c3 KE;have q6:(j:Int) < (tn:Int):=by omega
   have hP1:=hid (hP.out.alloc (.cells #[.int .i64 ti,.string ⟨tu.toArray⟩,.string ⟨ts.toArray⟩,.string ⟨te.toArray⟩] 51));have hR1:=rc_row4 wr (.int .i64 ti) (.string ⟨tu.toArray⟩) (.string ⟨ts.toArray⟩) (.string ⟨te.toArray⟩) 51;obtain ⟨d0,d1,d2,d3,_,_,_,_⟩:=hR1.rc4;clear hP hi0 hi1 hR1
   go_upto_region 5 with fail
   clear c0 c1' c2 c3;generalize World.alloc wr _=W1 at hP1 d0 d1 d2 d3 ⊢;go_wp2_with fail
   refine (KE.out _).mono ?_
   rintro e w2 ⟨g,rfl,hog,hw2⟩;have hP2:=hid (hP1.out.below hw2);have HOG:=hid (ownP_mono hog hP1.out.bel.size);clear d0 d1 d2 d3 hw2 hog hP1 KE hul hdt;unfold ndV;obtain ⟨wd,wn,wa,wt⟩:=WN;simp only at HOG ⊢;go_wp2_with (at_builtin; refine wp_appN2 _ rfl (.tmp 26) (.tmp 29) 40 rfl w.heap.size i1 _ Tryz.underlying40 hj hy0 hy1 hy2 rfl (.slice vo5 n vc5) cs rfl (by exact OwnN.alloc hP2.out.own _) ⟨_,0,none⟩ 1 ⟨⟨wd,wn,wa,wt⟩,.slice (some ⟨g,0,none⟩) 3 3⟩ (by exact OwnP.alloc HOG.out _) rfl (by exact HNW.out _ _ _ rfl) (by have:=HL.out; omega) (by have:=hP2.out.bel.size; simp; omega) ?_; intro v9 w9 hown9 hf9; obtain ⟨va9,vc9,e9⟩:=hown9.form; obtain ⟨n9,hn9⟩:∃ n9,n9=(cs++[(⟨⟨wd,wn,wa,wt⟩,.slice (some ⟨g,0,none⟩) 3 3⟩:NdC)]).length:=⟨_,rfl⟩; rw [← hn9] at e9; subst e9; have HN9:=hid hn9; have hP9:=hid (PSi.app (hP2.out.alloc _) hf9 hown9); clear hn9 hown9 hf9)
   go_roundw
   case rel=>exact ⟨j+1,n9,va9,vc9,cs++[(⟨⟨wd,wn,wa,wt⟩,.slice (some ⟨g,0,none⟩) 3 3⟩:NdC)],by omega,by go_num,rfl,show _=_ by rw [nds_snocI,hnd.out,HFN.out]; rfl,HN9,by have h1:=HN9.out; have h2:=HL.out; rw [List.length_append,List.length_singleton] at h1; omega,hP9⟩
   case measure=>simp [intOf]; omega
  ·have q6:¬ (j:Int) < (tn:Int):=by omega
   have HE:Hid (ndsL cs=nd1 dl :: nd2 rs :: wl.map wtN):=show _=_ by rw [hnd.out,List.take_of_length_le (by have:=HTN.out; omega)]
   clear hnd;go_wp2;go_ret;exact ⟨_,cs,rfl,HE.out,hP.out.own,hP.out.bel⟩
theorem welems_checked (d:Inf) (ws:Value) (w:World) (hc:checkI d=0) (hws:WtsAt w ws d.ws) :
  Calls Tryz.prog 22 #[infV d ws] w fun e w'=>TelI (nodesI d) w e w':=by
 obtain ⟨h1,h2,h3,h4,h5,h6⟩:=checkI_ok hc;have hr:=hostV_len h3
 exact welems_any d ws w h1 (by omega) (by omega) (fun t ht=>by
  obtain ⟨k1,k2,k3,_⟩:=wtP_facts (h5 t ht)
  have:=hostV_len k3
  exact ⟨by omega,by omega,by omega⟩) (by omega) hws
set_option maxHeartbeats 2000000 in
set_option maxRecDepth 100000 in
theorem wprint_bad (d:Inf) (ws:Value) (w:World) (hsm:SmallI 1048576 d) (hws:WtsAt w ws d.ws) (hc:checkI d ≠ 0) :
  Calls Tryz.prog 10 #[infV d ws] w fun e w'=>e=.returned (.tuple #[.string ⟨#[]⟩,.int .i64 (checkI d)])∧Below w.heap.size w w':=by
 have KC:=hid (fun w' (h:Below w.heap.size w w')=>wcheck_any d ws w' hsm (hws.below h));obtain ⟨vr,rs,wl⟩:=d;unfold infV at KC ⊢;simp only at KC ⊢;generalize checkI ⟨vr,rs,wl⟩=R at KC hc ⊢;have r1:(R != 0)=true:=by simpa using hc
 clear hc hsm hws;have hbx:=box3I w (.int .i64 vr) (.string ⟨rs.toArray⟩) ws 24;have hbn:Below w.heap.size w (w.alloc (.cells #[.int .i64 vr,.string ⟨rs.toArray⟩,ws] 24)):=(Below.refl _ w).alloc (Nat.le_refl _) _;obtain ⟨x0,x1,x2,_,_,_⟩:=hbx
 go_enter Tryz.func10,Tryz.ntmps10
 go_wp2_with fail
 generalize World.alloc w _=W0 at x0 x1 x2 hbn ⊢;refine (KC.out _ hbn).mono ?_
 rintro e w1 ⟨rfl,hw1⟩;have hb1:=hbn.trans (hw1.mono hbn.size);clear x0 x1 x2;go_wp2;go_ret2;exact ⟨rfl,hb1⟩
set_option maxHeartbeats 2000000 in
set_option maxRecDepth 100000 in
theorem wprint_ok (d:Inf) (ws:Value) (w:World) (hws:WtsAt w ws d.ws) (hc:checkI d=0) :
  Calls Tryz.prog 10 #[infV d ws] w fun e w'=>e=.returned (.tuple #[.string ⟨(prologK++printX (treeI d)).toArray⟩,.int .i64 0])∧Below w.heap.size w w':=by
 have KC:=hid (fun w' (h:Below w.heap.size w w')=>wcheck_any d ws w' (inf_small hc) (hws.below h));have KN:=hid (fun w' (h:Below w.heap.size w w')=>welems_checked d ws w' hc (hws.below h))
 have KP:Hid (∀ (w':World) (v:Value) (cs:List NdC) (B:Nat),ndsL cs=nodesI d → OwnN w' B v cs → Calls Tryz.prog 21 #[v] w' fun e w2=>e=.returned (.tuple #[.string ⟨(prologK++printX (treeI d)).toArray⟩,.int .i64 0])∧Below w'.heap.size w' w2):=fun w' v cs B hk ho =>
  xprint_ok v cs (treeI d) w' (fun c hcc=>nodes_smallN hc (by decide) c.nd (by rw [← hk]; exact List.mem_map.2 ⟨c,hcc,rfl⟩)) ho.ndsAt (by rw [hk]; exact tree_checkI hc) (by rw [hk]; exact flat_treeI d) (by have:=print_smI hc; omega)
 rw [hc] at KC;unfold TelI at KN;generalize prologK++printX (treeI d)=Z at KP ⊢;generalize nodesI d=F at KP KN;obtain ⟨vr,rs,wl⟩:=d;unfold infV at KC KN ⊢;simp only at KC KN ⊢;clear hc hws;have hbn:Below w.heap.size w (w.alloc (.cells #[.int .i64 vr,.string ⟨rs.toArray⟩,ws] 24)):=(Below.refl _ w).alloc (Nat.le_refl _) _;have hbr:=rc_row3 w (.int .i64 vr) (.string ⟨rs.toArray⟩) ws 24;have hlt0:=alloc_lt w (.cells #[.int .i64 vr,.string ⟨rs.toArray⟩,ws] 24);obtain ⟨x0,x1,x2,_,_,_⟩:=hbr.rc3
 go_enter Tryz.func10,Tryz.ntmps10
 go_wp2_with fail
 generalize World.alloc w _=W0 at x0 x1 x2 hbn hbr hlt0 ⊢;refine (KC.out _ hbn).mono ?_
 rintro e w1 ⟨rfl,hw1⟩;have hb1:=hbn.trans (hw1.mono hbn.size);obtain ⟨y0,y1,y2,_,_,_⟩:=(hbr.below hw1 hlt0).rc3;clear x0 x1 x2;go_wp2_with fail
 refine (KN.out _ hb1).mono ?_
 rintro e w2 ⟨v2,cs2,rfl,hF2,hown2,hw2⟩;have hb2:=hb1.trans (hw2.mono hb1.size);have KQ:=hid (KP.out w2 v2 cs2 _ hF2 hown2);obtain ⟨a2,k2,hv2⟩:=hown2.form;obtain ⟨n2,hn2⟩:∃ n2,n2=cs2.length:=⟨_,rfl⟩
 rw [← hn2] at hv2;subst hv2;clear hn2 hF2 hown2 KP KN KC y0 y1 y2;go_wp2_with fail
 refine KQ.out.mono ?_
 rintro e w3 ⟨rfl,hw3⟩;go_wp2;go_ret2;exact ⟨rfl,hb2.trans (hw3.mono hb2.size)⟩
theorem FrX.row {b c:Nat} {v v':Value} {w w':World} {e:TypeId} {l:List Value} (h:FrX b v w v' w') (hr:RowIs w c e l) (hn:c ≠ b) (hv:v.ownBlock ≠ some c):RowIs w' c e l:=by
 unfold RowIs at hr ⊢;rw [h.block c (Array.getElem?_eq_some_iff.1 hr).1 hn hv]; exact hr
theorem one_row (w:World) (v:Value) (t:TypeId):RowIs (w.alloc (.cells #[v] t)) w.heap.size t [v]:=by
 unfold RowIs; rw [heap_alloc_new]
def AttP (o:Option (List Nd)) (b B:Nat) (w:World) (e:Ending) (w':World):Prop:=match o with
 | none=>e=.returned (.tuple #[.slice none 0 0,.int .i64 130])∧FrX b (.slice none 0 0) w (.slice none 0 0) w'
 | some ns=>∃ v' cs',e=.returned (.tuple #[v',.int .i64 0])∧ndsL cs'=ns∧OwnN w' B v' cs'∧FrX b (.slice none 0 0) w (.slice none 0 0) w'
end Go.Proofs.YtdbalahkmeknaaaGreatDoor
