/-
  XWrite, PR7, PP1, PP2, PrL, XPrint.
-/
import Derived.Test.YtldkidljjbkmbaaGreatDoorPX17
import Derived.Test.YtldkidljjbkmbaaGreatDoorPX20
set_option linter.unusedVariables false
set_option linter.unusedSimpArgs false
set_option maxRecDepth 20000
namespace Go.Proofs.YtldkidljjbkmbaaGreatDoor
open Go.RowKit Sc
section
variable (wP : World) (v : Value) (cs : List NdC) (b : Nat)
set_option maxHeartbeats 8000000 in
set_option maxRecDepth 100000 in
theorem write_step (hv:NdsAt wP v cs) (hz:cs.length≤1000000) (hsm:∀ c ∈ cs,SmallN 140737488355328 c.nd) (hbB:wP.heap.size≤b) (N:Nat) (ih:WrS wP v cs b N):WrS wP v cs b (N+1):=by
 intro t ht k d post l0 w hdrop hpost hbw hbld hpl hd;obtain ⟨nm,ps,tx,ks⟩:=t;have HSI:Hid (∀ j (hj:j < ks.length),d+1+szX ks[j]≤1000000):=fun j hj=>by have:=szX_in (n:=nm) (a:=ps) (tx:=tx) hj; omega
 have hd:d≤1000000:=by omega
 have hksl:ks.length≤1000000:=by
  have h1:=szXs_len ks;have h2:szX (.mk nm ps tx ks)=szXs ks+2:=by rw [szX]
  omega
 have hpl2:=print_len nm ps tx ks;rw [flatX,List.cons_append] at hdrop;obtain ⟨hk,hnd,hdrop1⟩:=drop_nd hdrop;have hlb:=bld_lt hbld;have hBw:wP.heap.size≤w.heap.size:=hbw.size;have hvw:=hv;obtain ⟨ao,cap,rfl,hc⟩:=hv;obtain ⟨ad,hao,hab,c0,pa⟩:=hc k hk;subst hao;obtain ⟨s1,s2,s3,s4⟩:=hsm cs[k] (List.getElem_mem hk);have cN:=c0.below hbw hab;rw [hnd] at pa s1 s2 s3 s4;simp only at pa s1 s2 s3 s4;obtain ⟨pao,pcap,hpa,hpc⟩:=pa.open;have HPar:=hid hpc;obtain ⟨c0,c1,c2,c3⟩:=cN;rw [hnd] at c0 c1 c3;rw [hpa] at c2;simp only at c0 c1 c3;have s3z:=s3.1;have HS3:=hid s3.2;have HI:=hid ih;have HV:=hid hvw;have HBW:=hid hbw;have KK:=hid (fun w' (h':Below wP.heap.size wP w')=>xkids_any (.slice (some ad) cs.length cap) cs k w' hk hz (by rw [hnd]; simp only; omega) (by rw [hnd]; simp only; omega) (hvw.below h'));rw [hnd,hdrop1,kids_of d ks post (k+1) hpost] at KK
 have HDrop:Hid (∀ j (hj:j < ks.length),(ndsL cs).drop (k+1+(flatXs (d+1) (ks.take j)).length)=flatX (d+1) ks[j]++(flatXs (d+1) (ks.drop (j+1))++post)):=fun j hj=>by
  have e:ks=ks.take j++ks[j] :: ks.drop (j+1):=by rw [← List.drop_eq_getElem_cons hj,List.take_append_drop]
  have h1:(ndsL cs).drop (k+1)=flatXs (d+1) (ks.take j)++(flatX (d+1) ks[j]++(flatXs (d+1) (ks.drop (j+1))++post)):=by
   rw [hdrop1]
   conv=>lhs; rw [e]
   rw [flatXs_app,flatXs]; simp
  exact drop_more h1
 have HPost:Hid (∀ j,∀ x,(flatXs (d+1) (ks.drop (j+1))++post).head? = some x → x.deep≤((d+1:Nat):Int)):=fun j=>post_head hpost;have HSz:Hid (∀ j (hj:j < ks.length),szX ks[j]≤N):=fun j hj=>sz_in ht (done:=ks.take j) (rest:=ks.drop (j+1)) (by rw [← List.drop_eq_getElem_cons hj,List.take_append_drop]);obtain ⟨n,hn⟩:∃ n,n=cs.length:=⟨_,rfl⟩
 rw [← hn] at HI HV KK ⊢;have q1:(k:Int) < (n:Int):=by omega
 have HN:=hid hn;have z1:=size_list nm;have HC0:=hid (xcat [60] nm);have hs0:¬ 9223372036854775807 < 1+nm.length:=by omega
 have hrow:=rc_row4 w (.int .i64 (d:Int)) (.string ⟨nm.toArray⟩) (.slice pao ps.length pcap) (.string ⟨tx.toArray⟩) 82;have hbn:Below w.heap.size w (w.alloc (.cells #[.int .i64 (d:Int),.string ⟨nm.toArray⟩,.slice pao ps.length pcap,.string ⟨tx.toArray⟩] 82)):=(Below.refl _ w).alloc (Nat.le_refl _) _;have hszn:(w.alloc (.cells #[.int .i64 (d:Int),.string ⟨nm.toArray⟩,.slice pao ps.length pcap,.string ⟨tx.toArray⟩] 82)).heap.size=w.heap.size+1:=by simp
 have HW0:Hid (Wrote wP.heap.size b l0 w (w.alloc (.cells #[.int .i64 (d:Int),.string ⟨nm.toArray⟩,.slice pao ps.length pcap,.string ⟨tx.toArray⟩] 82))):=Wrote.of hbld hBw hbn;have hnb:w.heap.size ≠ b:=by omega
 clear hsm hn hc hdrop hdrop1 hpost ht s4 ih hvw hpc hpa pa hnd hbw hbld;unfold WrE
 go_enter Tryz.func47,Tryz.ntmps47
 go_wp2_with fail
 clear c0 c1 c2 c3;generalize World.alloc _ _=W0 at hrow hbn HW0 hszn ⊢
 try rw [HC0.out]
 refine (xbldWrite wP.heap.size b l0 ([60]++nm) W0 HW0.out.bld (by simp; omega) (by omega)).mono ?_
 rintro e w1 ⟨rfl,hw1⟩;have hrow1:=hw1.row hrow hnb (by decide);obtain ⟨e0,e1,e2,e3,_,_,_,_⟩:=hrow1.rc4;have HW1:=hid (HW0.out.trans hw1);have hB1:wP.heap.size≤w1.heap.size:=Nat.le_trans hBw HW1.out.bel.size;clear hrow hbn hw1 hszn;go_wp2
 go_loopw [24] (fun iv wr=>∃ j:Nat,j≤ps.length∧iv=.int .i64 (j:Int)∧Hid (Wrote wP.heap.size b (l0++([60]++nm++attrsT (ps.take j))) w wr)∧Hid (RowIs wr w.heap.size 82 [.int .i64 (d:Int),.string ⟨nm.toArray⟩,.slice pao ps.length pcap,.string ⟨tx.toArray⟩])∧wP.heap.size≤wr.heap.size) (fun iv _=>ps.length - (intOf iv).toNat)
 case atStart=>exact ⟨0,Nat.zero_le _,rfl,by simpa [attrsT] using HW1,hid hrow1,hB1⟩
 case round =>
  obtain ⟨j,hj,rfl,hw,hr,hB⟩:=hrel;clear HW1 hrow1 hB1 e0 e1 e2 e3 HW0 HC0;by_cases hlt:j < ps.length
  ·obtain ⟨pad,hpo,hpb,k0,k1,k2⟩:=HPar.out j hlt;subst hpo;obtain ⟨t1,t2⟩:=HS3.out ps[j] (List.getElem_mem hlt);have hbr:=HBW.out.trans hw.out.bel;have a0:=cell_below hbr (by rw [add_block]; exact hpb) k0;have a1:=cell_below hbr (by simp only [add_block]; exact hpb) k1;have a2:=cell_below hbr (by simp only [add_block]; exact hpb) k2;have q6:(j:Int) < (ps.length:Int):=by omega
   have hat:=attrsT_len hlt;have hat2:=attrT_len ps[j];have hsn:Hid (attrsT (ps.take (j+1))=attrsT (ps.take j)++attrT ps[j]):=show _=_ from attrsT_snoc hlt
   have hatd:attrT ps[j]=[32]++ps[j].name++[61,34]++escX ps[j].value++[34]:=rfl;have hprow:=rc_row3 wr (.string ⟨ps[j].name.toArray⟩) (.string ⟨ps[j].value.toArray⟩) (.bool ps[j].has) 78;have hpbn:Below wr.heap.size wr (wr.alloc (.cells #[.string ⟨ps[j].name.toArray⟩,.string ⟨ps[j].value.toArray⟩,.bool ps[j].has] 78)):=(Below.refl _ wr).alloc (Nat.le_refl _) _;have HWp:=hid (Wrote.of hw.out.bld hB hpbn);have hnbp:wr.heap.size ≠ b:=by have:=bld_lt hw.out.bld; omega
   clear k0 k1 k2;generalize attrT ps[j]=AT at hat hat2 hsn hatd;generalize ps[j]=P at a0 a1 a2 t1 t2 hat2 hatd hprow hpbn HWp;obtain ⟨pn,pv,ph⟩:=P;simp only at a0 a1 a2 t1 t2 hat2 hatd hprow hpbn HWp;have z2:=size_list pn;have HC1:=hid (xcat [32] pn);have HC2:=hid (xcat ([32]++pn) [61,34]);have hs1:¬ 9223372036854775807 < 1+pn.length:=by omega
   have hs2:¬ 9223372036854775807 < 1+pn.length+2:=by omega
   have HATD:=hid hatd;clear hatd;go_wp2_with fail
   clear a0 a1 a2;generalize World.alloc _ _=W2 at hprow hpbn HWp ⊢
   try rw [HC1.out]
   try rw [HC2.out]
   have hB2:wP.heap.size≤W2.heap.size:=Nat.le_trans hB hpbn.size;refine (xbldWrite wP.heap.size b _ ([32]++pn++[61,34]) W2 HWp.out.bld (by simp; omega) hB2).mono ?_
   rintro e w3 ⟨rfl,hw3⟩;have hprow3:=hw3.row hprow hnbp (by decide);obtain ⟨g0,g1,g2,_,_,_⟩:=hprow3.rc3;have hB3:wP.heap.size≤w3.heap.size:=Nat.le_trans hB2 hw3.bel.size;go_wp2_with fail
   refine (writeText_list wP.heap.size b _ pv w3 hw3.bld (by simp; omega) t2 hB3).mono ?_
   rintro e w4 ⟨rfl,hw4⟩;have hB4:wP.heap.size≤w4.heap.size:=Nat.le_trans hB3 hw4.bel.size;go_wp2_with fail
   refine (xbldWrite wP.heap.size b _ [34] w4 hw4.bld (by simp; omega) hB4).mono ?_
   rintro e w5 ⟨rfl,hw5⟩;have hwA:=((HWp.out.trans hw3).trans hw4).trans hw5;have hrowA:=hwA.row hr.out hnb (by decide);have hwF:=hw.out.trans hwA;rw [show l0++([60]++nm++attrsT (ps.take j))++([32]++pn++[61,34])++escX pv++[34]=l0++([60]++nm++attrsT (ps.take (j+1))) by rw [hsn.out,HATD.out]; simp] at hwF;have hBF:wP.heap.size≤w5.heap.size:=Nat.le_trans hB4 hw5.bel.size;go_wp2;go_roundw
   case rel=>exact ⟨j+1,by omega,by go_num,hid hwF,hid hrowA,hBF⟩
   case measure=>simp [intOf]; omega
  ·have hjl:j=ps.length:=by omega
   subst hjl;rw [List.take_length] at hw;have q6:¬ ((ps.length:Int) < (ps.length:Int)):=by omega
   obtain ⟨e0,e1,e2,e3,_,_,_,_⟩:=hr.out.rc4;have hbr:=HBW.out.trans hw.out.bel;have hbldr:=hw.out.bld;clear HPar HS3;go_wp2_with fail
   refine (KK.out wr hbr).mono ?_
   rintro e w3 ⟨kv,rfl,hown,hw3⟩;have hw3':=Wrote.of hw.out.bld hB hw3;have hr3:=hw3'.row hr.out hnb (by decide);obtain ⟨g0,g1,g2,g3,_,_,_,_⟩:=hr3.rc4;have hwB:=hw.out.trans hw3';have hB3:wP.heap.size≤w3.heap.size:=Nat.le_trans hB hw3.size;obtain ⟨ka,kc,hkv⟩:=hown.form;have hkl:(posCells (startsX (d+1) ks (k+1))).length=ks.length:=by simp [posCells,starts_len]
   rw [hkl] at hkv;subst hkv;have HKL:=hid hkl;have HWB:=hid hwB;have HR3:=hid hr3;have HOWN:=hid hown;clear e0 e1 e2 e3 hw hr hw3 hw3' hwB hr3 hown hkl KK;have hfr:(l0++([60]++nm++attrsT ps)).length=l0.length+1+nm.length+(attrsT ps).length:=by simp; omega
   have hkb:(Value.slice ka ks.length kc).ownBlock ≠ some b:=fun e=>by
    have:=World.ownsRow.lt HOWN.out b e
    have:=bld_lt hbldr
    omega
   obtain ⟨C0,hC0⟩:∃ C0,wr.heap.size=C0:=⟨_,rfl⟩
   rw [hC0] at HOWN;by_cases hem:tx=[]∧ks=[]
   ·obtain ⟨rfl,rfl⟩:=hem;have HP:Hid (printX (.mk nm ps [] [])=[60]++nm++attrsT ps++[47,62]):=show _=_ from print_nil rfl
    have q7:(([]:List UInt8)).isEmpty=true:=rfl;have q8:(((0:Nat):Int)==0)=true:=rfl;have hpx:(printX (.mk nm ps [] [])).length=3+nm.length+(attrsT ps).length:=by rw [HP.out]; simp; omega
    simp only [List.length_nil] at *;go_wp2_with fail
    refine (xbldWrite wP.heap.size b _ [47,62] w3 HWB.out.bld (by rw [hfr]; simp only [List.length_cons,List.length_nil]; omega) hB3).mono ?_
    rintro e w4 ⟨rfl,hw4⟩;have hwF:=HWB.out.trans hw4;rw [show l0++([60]++nm++attrsT ps)++[47,62]=l0++printX (.mk nm ps [] []) by rw [HP.out]; simp] at hwF;go_wp2
    first | go_end0 | refine bodyPost_ret (results_none rfl _ _ _) rfl ?_
    exact ⟨rfl,hwF⟩
   ·have hne:tx.isEmpty=false∨(tx.isEmpty=true∧((ks.length:Int)==0)=false):=by
     cases tx with
     | cons a b=>exact .inl rfl
     | nil =>
      right
      refine ⟨rfl,?_⟩
      cases ks with
      | nil=>exact absurd ⟨rfl,rfl⟩ hem
      | cons a b=>rw [beq_eq_false_iff_ne]; simp; omega
    have hnn:escX tx++printXs ks ≠ []:=fun e=>by
     rw [List.append_eq_nil_iff] at e;exact hem ⟨escX_nil.1 e.1,prints_nil e.2⟩
    have HP:Hid (printX (.mk nm ps tx ks)=[60]++nm++attrsT ps++([62]++(escX tx++printXs ks)++([60,47]++nm++[62]))):=show _=_ from print_in hnn
    have hpx:(printX (.mk nm ps tx ks)).length=5+2 * nm.length+(attrsT ps).length+(escX tx).length+(printXs ks).length:=by rw [HP.out]; simp; omega
    have HC3:=hid (xcat [60,47] nm);have HC4:=hid (xcat ([60,47]++nm) [62]);have hs3:¬ 9223372036854775807 < 2+nm.length:=by omega
    have hs4:¬ 9223372036854775807 < 2+nm.length+1:=by omega
    clear hem hnn
    rcases hne with hA | ⟨hA,hA2⟩
    all_goals
     (go_wp2_with fail
      refine (xbldWrite wP.heap.size b _ [62] w3 HWB.out.bld (by rw [hfr]; simp only [List.length_cons,List.length_nil]; omega) hB3).mono ?_
      rintro e w4 ⟨rfl,hw4⟩;have hr4:=hw4.row HR3.out hnb (by decide);obtain ⟨m0,m1,m2,m3,_,_,_,_⟩:=hr4.rc4;have hB4:wP.heap.size≤w4.heap.size:=Nat.le_trans hB3 hw4.bel.size;go_wp2_with fail
      refine (writeText_list wP.heap.size b _ tx w4 hw4.bld (by rw [List.length_append,hfr]; simp only [List.length_cons,List.length_nil]; omega) s2 hB4).mono ?_
      rintro e w5 ⟨rfl,hw5⟩;have hr5:=hw5.row hr4 hnb (by decide);have hB5:wP.heap.size≤w5.heap.size:=Nat.le_trans hB4 hw5.bel.size;have hw45:=hw4.trans hw5;have HO5:Hid (Own w5 C0 3 (.slice ka ks.length kc) (posCells (startsX (d+1) ks (k+1)))):=hw45.owns HOWN.out hkb (by decide);have HW5:=hid (HWB.out.trans hw45);have HR5:=hid hr5;clear g0 g1 g2 g3 m0 m1 m2 m3 hr4 hr5 hw4 hw5 hw45 HOWN HWB HR3 hA;go_wp2
      go_loopw [62] (fun iv wx=>∃ j:Nat,j≤ks.length∧iv=.int .i64 (j:Int)∧Hid (Wrote wP.heap.size b (l0++([60]++nm++attrsT ps)++[62]++escX tx++printXs (ks.take j)) w wx)∧Hid (RowIs wx w.heap.size 82 [.int .i64 (d:Int),.string ⟨nm.toArray⟩,.slice pao ps.length pcap,.string ⟨tx.toArray⟩])∧Hid (Own wx C0 3 (.slice ka ks.length kc) (posCells (startsX (d+1) ks (k+1))))∧wP.heap.size≤wx.heap.size) (fun iv _=>ks.length - (intOf iv).toNat)
      case atStart=>exact ⟨0,Nat.zero_le _,rfl,by simpa [printXs] using HW5,HR5,HO5,hB5⟩
      case round =>
       obtain ⟨j,hj,rfl,hw,hr,ho,hB⟩:=hrel;clear HW5 HR5 HO5 hB5;by_cases hlt:j < ks.length
       ·obtain ⟨g,rfl,cg⟩:=own_pos ho.out j (by rw [starts_len]; exact hlt);rw [starts_at (d+1) ks (k+1) j hlt] at cg;have hpt:=prints_take hlt;have hbx:=HBW.out.trans hw.out.bel;have KW:=hid (HI.out ks[j] (HSz.out j hlt) (k+1+(flatXs (d+1) (ks.take j)).length) (d+1) _ _ wr (HDrop.out j hlt) (HPost.out j) hbx hw.out.bld (by simp only [List.length_append,List.length_cons,List.length_nil]; omega) (HSI.out j hlt));unfold WrE at KW;have HSN:=hid (prints_snoc hlt);have HLT:=hid hlt;generalize k+1+(flatXs (d+1) (ks.take j)).length=pos at cg KW;have q6:(j:Int) < (ks.length:Int):=by omega
        go_wp2_with fail
        refine (KW.out).mono ?_
        rintro e w6 ⟨rfl,hw6⟩;have hr6:=hw6.row hr.out hnb (by decide);have ho6:Own w6 C0 3 (.slice (some ⟨g,0,none⟩) ks.length kc) (posCells (startsX (d+1) ks (k+1))):=hw6.owns ho.out hkb (by decide);have hwF:=hw.out.trans hw6;rw [List.append_assoc (l0++([60]++nm++attrsT ps)++[62]++escX tx),← HSN.out] at hwF;have hB6:wP.heap.size≤w6.heap.size:=Nat.le_trans hB hw6.bel.size;go_wp2;go_roundw
        case rel=>exact ⟨j+1,by have:=HLT.out; omega,by go_num,hid hwF,hid hr6,hid ho6,hB6⟩
        case measure=>have:=HLT.out; simp [intOf]; omega
       ·have hjl:j=ks.length:=by omega
        subst hjl;rw [List.take_length] at hw;have q6:¬ ((ks.length:Int) < (ks.length:Int)):=by omega
        obtain ⟨m0,m1,m2,m3,_,_,_,_⟩:=hr.out.rc4;go_wp2_with fail
        try rw [HC3.out]
        try rw [HC4.out]
        refine (xbldWrite wP.heap.size b _ ([60,47]++nm++[62]) wr hw.out.bld (by simp only [List.length_append,List.length_cons,List.length_nil]; omega) hB).mono ?_
        rintro e w7 ⟨rfl,hw7⟩;have hwF:=hw.out.trans hw7;rw [show l0++([60]++nm++attrsT ps)++[62]++escX tx++printXs ks++([60,47]++nm++[62])=l0++printX (.mk nm ps tx ks) by rw [HP.out]; simp] at hwF;go_wp2
        first | go_end0 | refine bodyPost_ret (results_none rfl _ _ _) rfl ?_
        exact ⟨rfl,hwF⟩)
end
theorem row_otherR {w:World} {b c j:Nat} {e:TypeId} {l:List Value} {v:Value} (h:RowIs w b e l) (hn:b ≠ c):RowIs (w.setCell ⟨c,j,none⟩ v) b e l:=by
 unfold RowIs at h ⊢;rw [heap_setCell_other _ _ _ _ hn]; exact h
set_option maxHeartbeats 1000000 in
set_option maxRecDepth 100000 in
theorem pattr_any (x y:ByteArray) (w:World) :
  Calls Tryz.prog 49 #[.string x,.string y] w fun e w'=>e=.returned (.agg #[.string x,.string y,.bool true])∧Below w.heap.size w w':=by
 have hr0':=rc_row3 w (.string ⟨#[]⟩) (.string ⟨#[]⟩) (.bool false) 78;have hb0:Below w.heap.size w (w.alloc (.cells #[.string ⟨#[]⟩,.string ⟨#[]⟩,.bool false] 78)):=(Below.refl _ w).alloc (Nat.le_refl _) _;have hlt0:=alloc_lt w (.cells #[.string ⟨#[]⟩,.string ⟨#[]⟩,.bool false] 78);obtain ⟨c0,c1,c2,f0,f1,f2⟩:=hr0'.rc3;have hr0:=hid hr0';clear hr0'
 go_enter Tryz.func49,Tryz.ntmps49
 go_wp2;have hr5:=rc_store3 hr0.out (.string x) (.string y) (.bool true);have hb5:=rc_below3 hb0 w.heap.size (Nat.le_refl _) (.string x) (.string y) (.bool true);generalize World.setCell _ _ _=w5 at hr5 hb5 ⊢;obtain ⟨d0,d1,d2,_,_,_⟩:=hr5.rc3
 try simp only [Exit.inBlock,Exit.then]
 refine bodyPost_ret (v:=.agg #[.string x,.string y,.bool true]) (by simp [results,Tryz.results49,go_sem,d0,d1,d2]; try rfl) rfl ?_
 exact ⟨rfl,(Below.refl _ w).alloc (Nat.le_refl _) _⟩
def wordO (b:Bool):List UInt8:=if b=true then openK else closedK
set_option maxHeartbeats 1000000 in
theorem pword_any (b:Bool) (w:World) :
  Calls Tryz.prog 72 #[.bool b] w fun e w'=>e=.returned (.string ⟨(wordO b).toArray⟩)∧w'=w:=by
 cases b
 all_goals
  go_enter Tryz.func72,Tryz.ntmps72
  go_wp2;go_ret;exact ⟨rfl,rfl⟩
def contA (x:Tu):List Par:=if x.prio=-1 then [] else [atr priorityK (decL x.prio)]
structure CE (w wr:World) (x:Tu) (n:List Value):Prop where
 bel:Below w.heap.size w wr
 r1:RowIs wr w.heap.size 48 (tuCells x)
 r2:RowIs wr (w.heap.size+1) 82 [.int .i64 0,.string ⟨#[]⟩,.slice none 0 0,.string ⟨#[]⟩]
 r3:RowIs wr (w.heap.size+1+1) 82 n
theorem CE.lt {w wr:World} {x:Tu} {n:List Value} (h:CE w wr x n):w.heap.size+1+1 < wr.heap.size:=(Array.getElem?_eq_some_iff.1 (show wr.heap[w.heap.size+1+1]? = some _ from h.r3)).1
theorem CE.below {w wr w':World} {x:Tu} {n:List Value} (h:CE w wr x n) (hb:Below wr.heap.size wr w'):CE w w' x n :=
 ⟨h.bel.trans (hb.mono h.bel.size),h.r1.below hb (by have:=h.lt; omega),h.r2.below hb (by have:=h.lt; omega),h.r3.below hb h.lt⟩
theorem CE.set {w wr:World} {x:Tu} {n:List Value} (h:CE w wr x n) (j:Nat) (v:Value):CE w (wr.setCell ⟨w.heap.size+1+1,j,none⟩ v) x (n.set j v) :=
 ⟨h.bel.setCell (show w.heap.size≤(⟨w.heap.size+1+1,j,none⟩:Addr).block from by simp only; omega) _,row_otherR h.r1 (by omega),row_otherR h.r2 (by omega),h.r3.set j v⟩
theorem ce_new (w:World) (x:Tu) (n0 n1 n2 n3:Value):CE w (((w.alloc (.cells #[.string ⟨x.id.toArray⟩,.bool x.opn,.string ⟨x.contact.toArray⟩,.int .i64 x.prio,.string ⟨x.note.toArray⟩] 48)).alloc (.cells #[.int .i64 0,.string ⟨#[]⟩,.slice none 0 0,.string ⟨#[]⟩] 82)).alloc (.cells #[n0,n1,n2,n3] 82)) x [n0,n1,n2,n3]:=by
 have h1:=rc_row5 w (.string ⟨x.id.toArray⟩) (.bool x.opn) (.string ⟨x.contact.toArray⟩) (.int .i64 x.prio) (.string ⟨x.note.toArray⟩) 48;have hl1:=alloc_lt w (.cells #[.string ⟨x.id.toArray⟩,.bool x.opn,.string ⟨x.contact.toArray⟩,.int .i64 x.prio,.string ⟨x.note.toArray⟩] 48);have hs1:(w.alloc (.cells #[.string ⟨x.id.toArray⟩,.bool x.opn,.string ⟨x.contact.toArray⟩,.int .i64 x.prio,.string ⟨x.note.toArray⟩] 48)).heap.size=w.heap.size+1:=by simp
 have hb1:Below w.heap.size w (w.alloc (.cells #[.string ⟨x.id.toArray⟩,.bool x.opn,.string ⟨x.contact.toArray⟩,.int .i64 x.prio,.string ⟨x.note.toArray⟩] 48)):=(Below.refl _ w).alloc (Nat.le_refl _) _;generalize w.alloc (.cells #[.string ⟨x.id.toArray⟩,.bool x.opn,.string ⟨x.contact.toArray⟩,.int .i64 x.prio,.string ⟨x.note.toArray⟩] 48)=W1 at h1 hl1 hs1 hb1 ⊢;have h2:=rc_row4 W1 (.int .i64 0) (.string ⟨#[]⟩) (.slice none 0 0) (.string ⟨#[]⟩) 82;have hl2:=alloc_lt W1 (.cells #[.int .i64 0,.string ⟨#[]⟩,.slice none 0 0,.string ⟨#[]⟩] 82);have hs2:(W1.alloc (.cells #[.int .i64 0,.string ⟨#[]⟩,.slice none 0 0,.string ⟨#[]⟩] 82)).heap.size=w.heap.size+1+1:=by simp [hs1]
 have hb2:Below W1.heap.size W1 (W1.alloc (.cells #[.int .i64 0,.string ⟨#[]⟩,.slice none 0 0,.string ⟨#[]⟩] 82)):=(Below.refl _ W1).alloc (Nat.le_refl _) _;generalize W1.alloc (.cells #[.int .i64 0,.string ⟨#[]⟩,.slice none 0 0,.string ⟨#[]⟩] 82)=W2 at h2 hl2 hs2 hb2 ⊢;have h3:=rc_row4 W2 n0 n1 n2 n3 82;have hb3:Below W2.heap.size W2 (W2.alloc (.cells #[n0,n1,n2,n3] 82)):=(Below.refl _ W2).alloc (Nat.le_refl _) _;have hb12:=hb1.trans (hb2.mono hb1.size);rw [hs1] at h2 hl2;rw [hs2] at h3;exact ⟨hb12.trans (hb3.mono hb12.size),(h1.below hb2 hl1).below hb3 (by rw [hs2]; omega),h2.below hb3 (by rw [hs2]; omega),h3⟩
set_option maxHeartbeats 2000000 in
set_option maxRecDepth 100000 in
theorem pcont_any (x:Tu) (w:World) (hp:(Lit.int .i64 x.prio).wf=true) :
  Calls Tryz.prog 73 #[tuV x] w fun e w'=>∃ a,e=.returned (ndV ⟨2,pcontK,contA x,x.contact⟩ a)∧OwnP w' w.heap.size a (contA x)∧Below w.heap.size w w':=by
 have hp:=i64_of hp;have KD:=hid (fun w'=>pdec_any x.prio w');have hA:contA x=if x.prio=-1 then [] else [atr priorityK (decL x.prio)]:=rfl
 generalize contA x=A at hA ⊢;have HC:=hid (ce_new w x (.int .i64 2) (.string ⟨#[99,111,110,116,97,99,116]⟩) (.slice none 0 0) (.string ⟨x.contact.toArray⟩));generalize decL x.prio=DL at KD hA;obtain ⟨xi,xo,xc,xp,xn⟩:=x;unfold tuV ndV;simp only at KD hA HC hp ⊢;have hr0:=rc_row5 w (.string ⟨xi.toArray⟩) (.bool xo) (.string ⟨xc.toArray⟩) (.int .i64 xp) (.string ⟨xn.toArray⟩) 48
 go_enter Tryz.func73,Tryz.ntmps73
 go_upto_region 2 with fail
 clear hr0;generalize World.alloc (World.alloc (World.alloc w _) _) _=W3 at HC ⊢;obtain ⟨a0,a1,a2,a3,a4,_,_,_,_,_⟩:=(show RowIs W3 w.heap.size 48 [.string ⟨xi.toArray⟩,.bool xo,.string ⟨xc.toArray⟩,.int .i64 xp,.string ⟨xn.toArray⟩] from HC.out.r1).rc5;obtain ⟨b0,b1,b2,b3,f0,f1,f2,f3⟩:=HC.out.r2.rc4;obtain ⟨c0,c1,c2,c3,g0,g1,g2,g3⟩:=HC.out.r3.rc4;by_cases h1:xp=-1
 ·subst h1;rw [if_pos rfl] at hA;subst hA;have hr5:=hid (rc_store4 HC.out.r2 (.int .i64 2) (.string ⟨#[99,111,110,116,97,99,116]⟩) (.slice none 0 0) (.string ⟨xc.toArray⟩));have hb5:=hid (rc_below4 HC.out.bel (w.heap.size+1) (Nat.le_succ _) (.int .i64 2) (.string ⟨#[99,111,110,116,97,99,116]⟩) (.slice none 0 0) (.string ⟨xc.toArray⟩));clear HC KD;go_wp2;generalize World.setCell _ _ _=w5 at hr5 hb5 ⊢;obtain ⟨e0,e1,e2,e3,_,_,_,_⟩:=hr5.out.rc4
  try simp only [Exit.inBlock,Exit.then]
  refine bodyPost_ret (v:=.agg #[.int .i64 2,.string ⟨#[99,111,110,116,97,99,116]⟩,.slice none 0 0,.string ⟨xc.toArray⟩]) (by simp [results,Tryz.results73,go_sem,e0,e1,e2,e3]; try rfl) rfl ?_
  exact ⟨_,rfl,OwnP.nil _ _,hb5.out⟩
 ·rw [if_neg h1] at hA;subst hA;have q1:(xp != -1)=true:=by simpa using h1
  have q2:(xp==-1)=false:=by simpa using h1
  go_wp2_with fail
  refine (KD.out _).mono ?_
  rintro e w4 ⟨rfl,hw4⟩;have HC4:=hid (HC.out.below hw4);clear a0 a1 a2 a3 a4 b0 b1 b2 b3 f0 f1 f2 f3 c0 c1 c2 c3 g0 g1 g2 g3 KD HC;go_wp2_with fail
  refine (pattr_any _ _ _).mono ?_
  rintro e w5 ⟨rfl,hw5⟩;have HC5:=hid (HC4.out.below hw5);have hlt5:=HC5.out.lt;have hsz5:=HC5.out.bel.size;have hal:Below w5.heap.size w5 (w5.alloc (.cells #[.string ⟨#[112,114,105,111,114,105,116,121]⟩,.string ⟨DL.toArray⟩,.bool true] 78)):=(Below.refl _ w5).alloc (Nat.le_refl _) _;have HC6:=hid (HC5.out.below hal);obtain ⟨c0,c1,c2,c3,g0,g1,g2,g3⟩:=HC6.out.r3.rc4;have HC5s:=hid (HC5.out.set 2 (.slice (some ⟨w5.heap.size,0,none⟩) 1 1));have hs5:(w5.setCell ⟨w.heap.size+1+1,2,none⟩ (.slice (some ⟨w5.heap.size,0,none⟩) 1 1)).heap.size=w5.heap.size:=World.size_setCell _ _ _
  have hOP:OwnP ((w5.setCell ⟨w.heap.size+1+1,2,none⟩ (.slice (some ⟨w5.heap.size,0,none⟩) 1 1)).alloc (.cells #[.string ⟨#[112,114,105,111,114,105,116,121]⟩,.string ⟨DL.toArray⟩,.bool true] 78)) w5.heap.size (.slice (some ⟨w5.heap.size,0,none⟩) 1 1) [atr priorityK DL]:=by
   have h:=ownP_newX (w5.setCell ⟨w.heap.size+1+1,2,none⟩ (.slice (some ⟨w5.heap.size,0,none⟩) 1 1)) w5.heap.size (by rw [hs5]; exact Nat.le_refl _) [atr priorityK DL] 1 rfl (by decide);rw [hs5] at h;exact h
  have HC7:=hid (HC5s.out.below ((Below.refl _ _).alloc (Nat.le_refl _) (.cells #[.string ⟨#[112,114,105,111,114,105,116,121]⟩,.string ⟨DL.toArray⟩,.bool true] 78)));have HOP:=hid hOP;clear hw4 HC4 hw5 HC5 hal hOP HC6 HC5s hs5
  go_upto_region 4 with fail
  clear c0 c1 c2 c3 g0 g1 g2 g3;generalize World.alloc _ _=w6 at HC7 HOP ⊢;obtain ⟨b0,b1,b2,b3,f0,f1,f2,f3⟩:=HC7.out.r2.rc4;obtain ⟨c0,c1,c2,c3,g0,g1,g2,g3⟩:=(show RowIs w6 (w.heap.size+1+1) 82 [.int .i64 2,.string ⟨#[99,111,110,116,97,99,116]⟩,.slice (some ⟨w5.heap.size,0,none⟩) 1 1,.string ⟨xc.toArray⟩] from HC7.out.r3).rc4;have hr5:=hid (rc_store4 HC7.out.r2 (.int .i64 2) (.string ⟨#[99,111,110,116,97,99,116]⟩) (.slice (some ⟨w5.heap.size,0,none⟩) 1 1) (.string ⟨xc.toArray⟩));have hb5:=hid (rc_below4 HC7.out.bel (w.heap.size+1) (Nat.le_succ _) (.int .i64 2) (.string ⟨#[99,111,110,116,97,99,116]⟩) (.slice (some ⟨w5.heap.size,0,none⟩) 1 1) (.string ⟨xc.toArray⟩));have hO5:=hid (show OwnP ((((w6.setCell ⟨w.heap.size+1,0,none⟩ (.int .i64 2)).setCell ⟨w.heap.size+1,1,none⟩ (.string ⟨#[99,111,110,116,97,99,116]⟩)).setCell ⟨w.heap.size+1,2,none⟩ (.slice (some ⟨w5.heap.size,0,none⟩) 1 1)).setCell ⟨w.heap.size+1,3,none⟩ (.string ⟨xc.toArray⟩)) w5.heap.size (.slice (some ⟨w5.heap.size,0,none⟩) 1 1) [atr priorityK DL] from ownsRow_setCell_below (a:=⟨w.heap.size+1,3,none⟩) (ownsRow_setCell_below (a:=⟨w.heap.size+1,2,none⟩) (ownsRow_setCell_below (a:=⟨w.heap.size+1,1,none⟩) (ownsRow_setCell_below (a:=⟨w.heap.size+1,0,none⟩) HOP.out (by simp only; omega) _) (by simp only; omega) _) (by simp only; omega) _) (by simp only; omega) _);clear HC7 HOP;go_wp2;generalize World.setCell _ _ _=w9 at hr5 hb5 hO5 ⊢;obtain ⟨e0,e1,e2,e3,_,_,_,_⟩:=hr5.out.rc4
  try simp only [Exit.inBlock,Exit.then]
  refine bodyPost_ret (v:=.agg #[.int .i64 2,.string ⟨#[99,111,110,116,97,99,116]⟩,.slice (some ⟨w5.heap.size,0,none⟩) 1 1,.string ⟨xc.toArray⟩]) (by simp [results,Tryz.results73,go_sem,e0,e1,e2,e3]; try rfl) rfl ?_
  exact ⟨_,rfl,ownP_mono hO5.out hsz5,hb5.out⟩
theorem ownN_newL (W:World) (B:Nat) (hB:B≤W.heap.size) (cs:List NdC) (n:Nat) (hn:cs.length=n) (hm:n≤1000) (hc:∀ c ∈ cs,OwnP W B c.a c.nd.attrs):OwnN (W.alloc (.cells (ndsCells cs).toArray 82)) B (.slice (some ⟨W.heap.size,0,none⟩) n n) cs:=by
 subst hn;refine ⟨⟨ndsCells_len cs,.inr ⟨_,_,(ndsCells cs).toArray,rfl,hB,heap_alloc_new _ _,Nat.le_refl _,by unfold maxLen; omega,by simp [ndsCells_len],?_⟩⟩,fun c h=>(hc c h).alloc _⟩
 rw [List.take_of_length_le (by simp [ndsCells_len])]
def tup3 (x:Tu) (a:Value):List NdC:=[⟨⟨1,tupleK,[atr pidK x.id],[]⟩,a⟩,⟨⟨2,pstatK,[],[]⟩,.slice none 0 0⟩,⟨⟨3,basicK,[],wordO x.opn⟩,.slice none 0 0⟩]
theorem tup3_own (W:World) (B:Nat) (hB:B≤W.heap.size) (g:Nat) (hg:g=W.heap.size+1) (x:Tu):OwnN ((W.alloc (.cells #[.string ⟨#[105,100]⟩,.string ⟨x.id.toArray⟩,.bool true] 78)).alloc (.cells #[.int .i64 1,.string ⟨#[116,117,112,108,101]⟩,.slice (some ⟨W.heap.size,0,none⟩) 1 1,.string ⟨#[]⟩,.int .i64 2,.string ⟨#[115,116,97,116,117,115]⟩,.slice none 0 0,.string ⟨#[]⟩,.int .i64 3,.string ⟨#[98,97,115,105,99]⟩,.slice none 0 0,.string ⟨(wordO x.opn).toArray⟩] 82)) B (.slice (some ⟨g,0,none⟩) 3 3) (tup3 x (.slice (some ⟨W.heap.size,0,none⟩) 1 1)):=by
 have h1:=ownP_newX W B hB [atr pidK x.id] 1 rfl (by decide);have hs:(W.alloc (.cells (parsCells [atr pidK x.id]).toArray 78)).heap.size=W.heap.size+1:=by simp
 have h2:=ownN_newL _ B (by rw [hs]; omega) (tup3 x (.slice (some ⟨W.heap.size,0,none⟩) 1 1)) 3 rfl (by decide) (by
  intro c hc;simp only [tup3,List.mem_cons,List.not_mem_nil,or_false] at hc
  rcases hc with rfl | rfl | rfl
  ·exact h1
  ·exact OwnP.nil _ _
  ·exact OwnP.nil _ _)
 rw [hs,← hg] at h2;exact h2
theorem flat_cont (x:Tu) (h:x.contact ≠ []):flatXs 2 (contT x)=[⟨2,pcontK,contA x,x.contact⟩]:=by
 unfold contT contA;rw [if_neg h]
 simp [flatXs,flatX]
theorem flat_tnote (x:Tu) (h:x.note ≠ []):flatXs 2 (tnoteT x)=[⟨2,noteK,[],x.note⟩]:=by
 unfold tnoteT noteT;rw [if_neg h]
 simp [flatXs,flatX]
theorem flat_tup3 (x:Tu) (a:Value):flatX 1 (tupT x)=ndsL (tup3 x a)++(flatXs 2 (contT x)++flatXs 2 (tnoteT x)):=flat_tup x
theorem own_ne {w:World} {B b:Nat} {v:Value} {cs:List NdC} {l:List Value} (h:OwnN w B v cs) (hr:RowIs w b 48 l):v.ownBlock ≠ some b:=by
 intro e
 rcases h.1.2 with ⟨rfl,_⟩ | ⟨g,cap,cur,rfl,_,hg,_⟩
 ·cases e
 ·injection e with e
  simp only at e;subst e;unfold RowIs at hr;rw [hg] at hr
  injection hr with hr
  injection hr with _ h2
  exact absurd h2 (by decide)
def TelP (F:List Nd) (w:World) (e:Ending) (w':World):Prop:=∃ v cs,e=.returned v∧ndsL cs=F∧OwnN w' w.heap.size v cs∧Below w.heap.size w w'
set_option maxHeartbeats 4000000 in
set_option maxRecDepth 100000 in
theorem ptupel_any (x:Tu) (w:World) (hp:(Lit.int .i64 x.prio).wf=true) :
  Calls Tryz.prog 50 #[tuV x] w fun e w'=>TelP (flatX 1 (tupT x)) w e w':=by
 have KC:=hid (fun w'=>pcont_any x w' hp);have KW:=hid (fun w'=>pword_any x.opn w');have HFT:=hid (fun a=>flat_tup3 x a);have HFC:=hid (flat_cont x);have HFN:=hid (flat_tnote x);have HF0:Hid ((x.contact=[] → flatXs 2 (contT x)=[])∧(x.note=[] → flatXs 2 (tnoteT x)=[])):=⟨fun h=>by unfold contT; rw [if_pos h]; simp [flatXs],fun h=>by unfold tnoteT; rw [if_pos h]; simp [flatXs]⟩
 generalize flatX 1 (tupT x)=F at HFT ⊢;generalize flatXs 2 (contT x)=FC at HFT HFC HF0;generalize flatXs 2 (tnoteT x)=FN at HFT HFN HF0;have hW:wordO x.opn=wordO x.opn:=rfl;have HR0:=hid (show RowIs _ w.heap.size 48 (tuCells x) from rc_row5 w (.string ⟨x.id.toArray⟩) (.bool x.opn) (.string ⟨x.contact.toArray⟩) (.int .i64 x.prio) (.string ⟨x.note.toArray⟩) 48);have hb0:Below w.heap.size w (w.alloc (.cells #[.string ⟨x.id.toArray⟩,.bool x.opn,.string ⟨x.contact.toArray⟩,.int .i64 x.prio,.string ⟨x.note.toArray⟩] 48)):=(Below.refl _ w).alloc (Nat.le_refl _) _;have hl0:=alloc_lt w (.cells #[.string ⟨x.id.toArray⟩,.bool x.opn,.string ⟨x.contact.toArray⟩,.int .i64 x.prio,.string ⟨x.note.toArray⟩] 48);clear hW;obtain ⟨xi,xo,xc,xp,xn⟩:=x;unfold tuV at KC ⊢;simp only at KC KW HFC HFN HF0 HR0 hb0 hl0 ⊢;obtain ⟨i1,hj,hy0,hy1,hy2⟩:=info_parts infoNodeB
 go_enter Tryz.func50,Tryz.ntmps50
 go_upto_region 1 with fail
 generalize World.alloc w _=W0 at HR0 hb0 hl0 ⊢;have HX:=hid (fun (W':World) (h:Below W0.heap.size W0 W')=>RowIs.rc5 (show RowIs W' w.heap.size 48 [.string ⟨xi.toArray⟩,.bool xo,.string ⟨xc.toArray⟩,.int .i64 xp,.string ⟨xn.toArray⟩] from HR0.out.below h hl0));obtain ⟨y0,y1,y2,y3,y4,_,_,_,_,_⟩:=HX.out W0 (Below.refl _ _)
 go_cut [3] from 4 to 14 (fun v wx=>∃ cs,Hid (∃ a,ndsL cs=ndsL (tup3 ⟨xi,xo,xc,xp,xn⟩ a))∧Hid (PSt w w.heap.size ⟨xi,xo,xc,xp,xn⟩ wx v cs))
 case first =>
  go_region_law (first | (go_simp; go_at_call 49; refine (pattr_any _ _ _).mono ?_; rintro e wa ⟨rfl,hwa⟩; have hq:=bstep14 (S:=W0.heap.size) (w1:=W0) (by first | exact Below.refl _ _ | exact (Below.refl _ _).drew | exact (Below.refl _ _).drew.drew | exact (Below.refl _ _).drew.drew.drew | exact (Below.refl _ _).drew.drew.drew.drew) (Nat.le_refl _) hwa; obtain ⟨ya0,ya1,ya2,ya3,ya4,_,_,_,_,_⟩:=HX.out _ hq; obtain ⟨yb0,yb1,yb2,yb3,yb4,_,_,_,_,_⟩:=HX.out _ (hq.alloc hq.size (.cells #[.string ⟨#[105,100]⟩,.string ⟨xi.toArray⟩,.bool true] 78)); clear hwa) | (go_simp; go_at_call 72; refine (KW.out _).mono ?_; rintro e ww ⟨rfl,hww⟩; rw [hww]; clear hww ww))
  all_goals
   have hq2:=fun o1 o2=>al14 hq (Nat.le_refl _) o1 o2;have hro:=tup3_own wa w.heap.size (Nat.le_trans hb0.size hq.size) _ rfl ⟨xi,xo,xc,xp,xn⟩;have hPS:Hid (PSt w w.heap.size ⟨xi,xo,xc,xp,xn⟩ _ _ _):=⟨hro,HR0.out.below (hq2 _ _) hl0,Nat.lt_of_lt_of_le hl0 (hq2 _ _).size,own_ne hro (HR0.out.below (hq2 _ _) hl0),hb0.trans ((hq2 _ _).mono hb0.size)⟩
   clear hro hq2;go_wp2_with fail
   go_meet
   case rel=>exact ⟨_,show _ from ⟨_,rfl⟩,hPS⟩
 case rest =>
  obtain ⟨cs,⟨a0,hnd⟩,hP⟩:=hcut;clear y0 y1 y2 y3 y4 HX HR0 hb0 hl0 KW;have hcl:cs.length=3:=by rw [← ndsL_len,hnd]; rfl
  have hnewN:=hid (fun (W:World) (c:NdC) (g:Nat) (hg:g=W.heap.size)=>xnd_new W c g hg);have HND:Hid (F=ndsL cs++(FC++FN)):=show _=_ by rw [hnd]; exact HFT.out a0
  obtain ⟨vo,vc,hvf⟩:=hP.out.own.form;rw [hcl] at hvf;subst hvf;clear hnd HFT;obtain ⟨z0,z1,z2,z3,z4,_,_,_,_,_⟩:=hP.out.c5;simp only at z0 z1 z2 z3 z4;by_cases hcx:xc=[]
  ·have hFC:=HF0.out.1 hcx;subst hcx hFC;by_cases hnx:xn=[]
   ·have hFN:=HF0.out.2 hnx;subst hnx hFN;clear HFC HFN HF0;go_wp2;go_ret;exact ⟨_,cs,rfl,by rw [HND.out]; simp,hP.out.own,hP.out.bel⟩
   ·have hFN:=HFN.out hnx;subst hFN;have hne:xn.isEmpty=false:=by simpa using hnx
    clear HFC HFN HF0;go_wp2_with (at_builtin; refine wp_appN2 _ rfl (.tmp 26) (.tmp 30) 64 rfl w.heap.size i1 _ Tryz.underlying64 hj hy0 hy1 hy2 rfl (.slice vo 3 vc) cs rfl (by exact OwnN.alloc hP.out.own _) ⟨_,0,none⟩ 1 ⟨⟨2,noteK,[],xn⟩,.slice none 0 0⟩ (by exact OwnP.nil _ _) rfl (by exact hnewN.out _ _ _ rfl) (by omega) (by have:=hP.out.size; simp; omega) ?_; intro v9 w9 hown9 hf9; have hP9:=(hP.out.alloc _).app hf9 hown9; clear hown9 hf9)
    go_ret;exact ⟨_,_,rfl,by rw [HND.out,nds_snoc]; rfl,hP9.own,hP9.bel⟩
  ·have hFC:=HFC.out hcx;subst hFC;have hce:xc.isEmpty=false:=by simpa using hcx
   go_wp2_with fail
   refine (KC.out _).mono ?_
   rintro e wc ⟨ca,rfl,hoc,hwc⟩;have hPc:=hid (hP.out.below hwc);have hoc:=ownP_mono hoc (show w.heap.size≤_ from hP.out.size);obtain ⟨qa,qc,hqf⟩:∃ qa qc,ca=.slice qa (contA ⟨xi,xo,xc,xp,xn⟩).length qc:=hoc.parsAt.form;obtain ⟨qn,hqn⟩:∃ qn,qn=(contA ⟨xi,xo,xc,xp,xn⟩).length:=⟨_,rfl⟩
   rw [← hqn] at hqf;subst hqf;clear hqn hP KC z0 z1 z2 z3 z4 hwc;unfold ndV
   simp only
   generalize contA ⟨xi,xo,xc,xp,xn⟩=CA at hoc HND
   go_upto_region 4 with (at_builtin; refine wp_appN2 _ rfl (.tmp 18) (.tmp 21) 64 rfl w.heap.size i1 _ Tryz.underlying64 hj hy0 hy1 hy2 rfl (.slice vo 3 vc) cs rfl (by exact OwnN.alloc hPc.out.own _) ⟨_,0,none⟩ 1 ⟨⟨2,pcontK,CA,xc⟩,.slice qa qn qc⟩ (by exact OwnP.alloc hoc _) rfl (by exact hnewN.out _ _ _ rfl) (by omega) (by have:=hPc.out.size; simp; omega) ?_; intro v9 w9 hown9 hf9; have hP9:=(hPc.out.alloc _).app hf9 hown9; clear hown9 hf9)
   have hL9:(cs++[(⟨⟨2,pcontK,CA,xc⟩,.slice qa qn qc⟩:NdC)]).length=4:=by simp [hcl]
   have hN9:=hid (nds_snoc cs ⟨⟨2,pcontK,CA,xc⟩,.slice qa qn qc⟩);generalize cs++[(⟨⟨2,pcontK,CA,xc⟩,.slice qa qn qc⟩:NdC)]=cs2 at hP9 hL9 hN9;obtain ⟨vo2,vc2,hvf2⟩:=hP9.own.form;rw [hL9] at hvf2;subst hvf2;have HP9:=hid hP9;obtain ⟨z0,z1,z2,z3,z4,_,_,_,_,_⟩:=HP9.out.c5;simp only at z0 z1 z2 z3 z4;clear hP9 hPc hoc;by_cases hnx:xn=[]
   ·have hFN:=HF0.out.2 hnx;subst hnx hFN;clear HFC HFN HF0;go_wp2;go_ret;exact ⟨_,cs2,rfl,by rw [HND.out,hN9.out]; simp,HP9.out.own,HP9.out.bel⟩
   ·have hFN:=HFN.out hnx;subst hFN;have hne:xn.isEmpty=false:=by simpa using hnx
    clear HFC HFN HF0;go_wp2_with (at_builtin; refine wp_appN2 _ rfl (.tmp 26) (.tmp 30) 64 rfl w.heap.size i1 _ Tryz.underlying64 hj hy0 hy1 hy2 rfl (.slice vo2 4 vc2) cs2 rfl (by exact OwnN.alloc HP9.out.own _) ⟨_,0,none⟩ 1 ⟨⟨2,noteK,[],xn⟩,.slice none 0 0⟩ (by exact OwnP.nil _ _) rfl (by exact hnewN.out _ _ _ rfl) (by omega) (by have:=HP9.out.size; simp; omega) ?_; intro v10 w10 hown10 hf10; have hP10:=(HP9.out.alloc _).app hf10 hown10; clear hown10 hf10)
    go_ret;exact ⟨_,_,rfl,by rw [HND.out,nds_snoc,hN9.out]; simp,hP10.own,hP10.bel⟩
theorem sm_node {d:Nat} {n tx:List UInt8} {a:List Par} (hd:d≤8) (hn:n.length≤4096) (ht:tx.length≤4096) (hl:a.length≤16) (ha:∀ p ∈ a,p.name.length≤4096∧p.value.length≤4096):SmNd 4096 ⟨d,n,a,tx⟩ :=
 ⟨hn,ht,by simp only; omega,ha,by simp,by simp only; omega⟩
theorem flatXs_mem {d:Nat} {x:Nd}:∀ {ks:List XT},x ∈ flatXs d ks → ∃ k ∈ ks,x ∈ flatX d k
 | [],h=>by simp [flatXs] at h
 | k :: ks,h=>by
  rw [flatXs,List.mem_append] at h
  rcases h with h | h
  ·exact ⟨k,by simp,h⟩
  ·obtain ⟨q,hq,hx⟩:=flatXs_mem h;exact ⟨q,by simp [hq],hx⟩
theorem note_sm {d:Nat} {s:List UInt8} (hd:d≤8) (h:s.length≤4096):∀ x ∈ flatX d (noteT s),SmNd 4096 x:=by
 intro x hx;simp only [noteT,flatX,flatXs,List.mem_singleton] at hx;subst hx;exact sm_node hd (by decide) h (by simp) (by simp)
theorem tup_sm {t:Tu} (h:tupP t=true):∀ x ∈ flatX 1 (tupT t),SmNd 4096 x:=by
 obtain ⟨k1,k2,k3,k4,k5,k6⟩:=tupP_facts h;have l1:=ident_len k1;have l2:=(textP_facts k2).1;have l3:=(textP_facts k3).1;intro x hx;rw [flat_tup] at hx;simp only [List.mem_append,List.mem_cons,List.not_mem_nil,or_false] at hx
 rcases hx with (rfl | rfl | rfl) | (hx | hx)
 ·exact sm_node (d:=1) (by decide) (by decide) (by decide) (by simp) (by
   intro p hp; simp only [List.mem_singleton] at hp; subst hp
   exact ⟨by simp [atr,pidK],by simp only [atr]; omega⟩)
 ·exact sm_node (d:=2) (by decide) (by decide) (by decide) (by decide) (by simp)
 ·exact sm_node (d:=3) (by decide) (by decide) (by cases t.opn <;> decide) (by decide) (by simp)
 ·by_cases hc:t.contact=[]
  ·simp [contT,hc,flatXs] at hx
  ·rw [flat_cont t hc,List.mem_singleton] at hx;subst hx;refine sm_node (d:=2) (by decide) (by decide) (by omega) (by unfold contA; split <;> simp) ?_
   intro p hp;unfold contA at hp
   split at hp
   ·simp at hp
   ·next hne =>
    simp only [List.mem_singleton] at hp; subst hp
    have:=(dec_signs (n:=t.prio) (by omega) k5).2
    exact ⟨by simp [atr,priorityK],by simp only [atr]; omega⟩
 ·by_cases hc:t.note=[]
  ·simp [tnoteT,hc,flatXs] at hx
  ·rw [flat_tnote t hc,List.mem_singleton] at hx;subst hx;exact sm_node (d:=2) (by decide) (by decide) (by omega) (by simp) (by simp)
theorem tree_sm {d:Dc} (h:checkD d=0):∀ x ∈ flatX 0 (treeD d),SmNd 4096 x:=by
 have he:=ent_len h;obtain ⟨h1,h2,h3,h4,h5,h6⟩:=checkD_ok h;intro x hx;rw [treeD,flatX,flatXs_app] at hx;simp only [List.mem_cons,List.mem_append] at hx
 rcases hx with rfl | hx | hx
 ·refine sm_node (d:=0) (by decide) (by decide) (by decide) (by simp) ?_
  intro p hp;simp only [List.mem_cons,List.not_mem_nil,or_false] at hp
  rcases hp with rfl | rfl
  ·exact ⟨by decide,by decide⟩
  ·exact ⟨by simp [atr,entityK],by simp [atr,presK]; omega⟩
 ·obtain ⟨k,hk,hx⟩:=flatXs_mem hx;obtain ⟨t,ht,rfl⟩:=List.mem_map.1 hk;exact tup_sm (h4 t ht) x hx
 ·obtain ⟨k,hk,hx⟩:=flatXs_mem hx;obtain ⟨s,hs,rfl⟩:=List.mem_map.1 hk
  have:=h6 s hs
  simp only [noteP,Bool.and_eq_true] at this
  have:=(textP_facts this.2).1
  exact note_sm (d:=0+1) (by decide) (by omega) x hx
theorem print_sm {d:Dc} (h:checkD d=0):(printX (treeD d)).length≤1000000000:=by
 have h1:=printX_W 0 (treeD d);have h2:=ok_W (K:=4096) (tree_check h) fun x hx=>by obtain ⟨a,b,_,c,_⟩:=tree_sm h x hx; exact ⟨a,b,c⟩
 omega
mutual
theorem szX_flat (d:Nat):∀ t:XT,szX t+1≤4 * (flatX d t).length
 | .mk n a tx k=>by
  have:=szXs_flat (d+1) k
  rw [szX,flatX,List.length_cons]; omega
theorem szXs_flat (d:Nat):∀ ks:List XT,szXs ks≤4 * (flatXs d ks).length+1
 | []=>by rw [szXs]; omega
 | k :: ks=>by
  have h1:=szX_flat d k;have h2:=szXs_flat d ks;rw [szXs,flatXs,List.length_append]; omega
end
theorem write_any (wP:World) (v:Value) (cs:List NdC) (b:Nat) (hv:NdsAt wP v cs) (hz:cs.length≤1000000) (hsm:∀ c ∈ cs,SmallN 140737488355328 c.nd) (hbB:wP.heap.size≤b):∀ N,WrS wP v cs b N
 | 0=>by
  intro t ht;obtain ⟨n,a,tx,k⟩:=t;rw [szX] at ht; omega
 | N+1=>write_step wP v cs b hv hz hsm hbB N (write_any wP v cs b hv hz hsm hbB N)
end Go.Proofs.YtldkidljjbkmbaaGreatDoor
