/-
  RX15, PR6, PR7, RX12, RX13L, RX13.
-/
import Derived.Test.YtdnekampnkhmfaaGreatDoorPM21
import Derived.Test.YtdnekampnkhmfaaGreatDoorPM30
set_option linter.unusedVariables false
set_option linter.unusedSimpArgs false
set_option maxRecDepth 20000
namespace Go.Proofs.YtdnekampnkhmfaaGreatDoor
open Go.RowKit Sc
set_option maxHeartbeats 4000000 in
set_option maxRecDepth 100000 in
theorem rkids13_any (v:Value) (cs:List NdC) (k:Nat) (w:World) (hk:k < cs.length) (hz:cs.length≤1000000) (hdp:∀ c ∈ cs,0≤c.nd.deep∧c.nd.deep≤1000000) (hv:NdsAt w v cs) :
  Calls Tryz.prog 88 #[v,.int .i64 k] w fun e w'=>∃ kv,e=.returned kv∧Own w' w.heap.size 3 kv (posCells (kidsL cs[k].nd.deep ((ndsL cs).drop (k+1)) (k+1)))∧Below w.heap.size w w':=by
 obtain ⟨i0,hi,hz0,hz1,hz2⟩:=info_parts infoInt;obtain ⟨ao,cap,rfl,hc⟩:=hv;obtain ⟨ad,hao,hab,c0,cP⟩:=hc k hk;subst hao;have HC:Hid (∀ j (hj:j < cs.length),w.cell? (ad.add (j * 4))=some (.int .i64 cs[j].nd.deep)):=fun j hj=>by
  obtain ⟨ad3,hao3,_,c3,_⟩:=hc j hj
  have:ad3=ad:=(Option.some.inj hao3).symm
  subst this; exact c3.c0
 have HDP:=hid hdp;have hdk:=hdp _ (List.getElem_mem hk);have z0:=c0.c0;generalize cs[k].nd.deep=d at z0 hdk ⊢;obtain ⟨R,hR⟩:∃ R,R=kidsL d ((ndsL cs).drop (k+1)) (k+1):=⟨_,rfl⟩
 rw [← hR];have HR:=hid hR;obtain ⟨n,hn⟩:∃ n,n=cs.length:=⟨_,rfl⟩
 have HL:=hid hn;have hkn:k < n:=by omega
 have hzn:n≤1000000:=by omega
 rw [← hn];have q1:(0:Int)≤(k:Int):=by omega
 have q3:(k:Int) < (n:Int):=by omega
 have hw1:IntKind.i64.wrap ((k:Int)+1)=(k:Int)+1:=by rw [IntKind.wrap_i64]; omega
 have HZ0:=hid z0;clear hc c0 cP hR hn hk hz hdp z0
 go_enter Tryz.func88,Tryz.ntmps88
 go_wp2
 go_loopw [5,6] (fun pv iv wr=>∃ (j:Nat) (acc:List Nat),j≤n∧k+1≤j∧iv=.int .i64 (j:Int)∧Hid (R=acc++kidsL d ((ndsL cs).drop j) j)∧acc.length≤j∧Own wr w.heap.size 3 pv (posCells acc)∧Below w.heap.size w wr∧w.heap.size≤wr.heap.size) (fun _ iv _=>n - (intOf iv).toNat)
 case atStart=>exact ⟨k+1,[],by omega,Nat.le_refl _,by first | rfl | (congr 1),HR,by simp,Own.nil _ _ _,Below.refl _ _,Nat.le_refl _⟩
 case round =>
  obtain ⟨j,acc,hjn,hkj,rfl,hv,hal,hown,hb,hB⟩:=hrel;clear HR;by_cases hlt:j < n
  ·have hjl:j < cs.length:=by have:=HL.out; omega
   have hjl2:j < (ndsL cs).length:=by rw [ndsL_len]; exact hjl
   have cj:=cell_below hb (by rw [add_block]; exact hab) (HC.out j hjl);have ck:=cell_below hb (by rw [add_block]; exact hab) HZ0.out;have hxb:=HDP.out _ (List.getElem_mem hjl);have hv2:=hv.out;rw [kidsL_at hjl2,ndsL_get hjl] at hv2;generalize cs[j].nd.deep=x at cj hv2 hxb;have q6:(j:Int) < (n:Int):=by omega
   have hwj:IntKind.i64.wrap ((j:Int)+1)=(j:Int)+1:=by rw [IntKind.wrap_i64]; omega
   have hwx:IntKind.i64.wrap (x - 1)=x - 1:=by rw [IntKind.wrap_i64]; omega
   by_cases hx:x≤d
   ·rw [if_pos hx,List.append_nil] at hv2;have hE:=hid hv2;clear hv hv2;go_wp2
    go_quiet (fail)
    go_wp2;go_ret;exact ⟨_,rfl,by rw [hE.out]; exact hown.below (below_drewN _ _),hb.trans ((below_drewN wr nq).mono hb.size)⟩
   ·rw [if_neg hx] at hv2;by_cases hx1:x=d+1
    ·rw [if_pos hx1] at hv2;have hE:Hid (R=(acc++[j])++kidsL d ((ndsL cs).drop (j+1)) (j+1)):=show _=_ by rw [hv2]; simp
     have q7:(x - 1==d)=true:=by rw [beq_iff_eq]; omega
     have hpl:(posCells acc).length=acc.length:=by simp [posCells]
     clear hv hv2 hx1;have HO:=hid (fun (W':World) (h:Below wr.heap.size wr W')=>hown.below h);have HB:=hid (fun (W':World) (h:Below wr.heap.size wr W')=>hb.trans (h.mono hb.size));clear hown;go_wp2
     go_quiet (fail)
     go_wp2
     go_quiet (fail)
     generalize hW:(wr.drewN _).drewN nq=W2;have hb2:Below wr.heap.size wr W2:=by rw [← hW]; exact (below_drewN _ _).trans ((below_drewN _ _).mono (Nat.le_refl _))
     have hbW:=HB.out _ hb2;have hBW:w.heap.size≤W2.heap.size:=hbW.size;have hown2:=HO.out _ hb2;clear hW;go_wp2_with (at_builtin; refine wp_app _ rfl (.tmp 43) (.tmp 45) 78 rfl w.heap.size 3 i0 (.int .i64 0) 8 Tryz.underlying78 hi hz0 hz1 hz2 rfl _ _ rfl (by exact hown2.alloc _) ⟨_,0,none⟩ 1 1 [.int .i64 (j:Int)] rfl rfl (by exact one_new _ _ _) (by intro u hu; simp at hu; subst hu; rfl) (by rw [hpl]; unfold maxLen; omega) (by rw [hpl]; omega) w (by exact hbW.alloc hBW _) (by simp; omega) ?_; intro v3 w3 hown3 hb3 hB3)
     rw [show posCells acc++[.int .i64 (j:Int)]=posCells (acc++[j]) by simp [posCells]] at hown3;go_roundw
     case rel=>exact ⟨j+1,acc++[j],by omega,by omega,by first | rfl | (congr 1),hE,by simp; omega,hown3,hb3,hB3⟩
     case measure=>simp [intOf]; omega
    ·rw [if_neg hx1] at hv2;have hE:=hid hv2;have q7:(x - 1==d)=false:=by rw [beq_eq_false_iff_ne]; omega
     have HO:=hid (fun (W':World) (h:Below wr.heap.size wr W')=>hown.below h);have HB:=hid (fun (W':World) (h:Below wr.heap.size wr W')=>hb.trans (h.mono hb.size));clear hv hv2 hx1 hown;go_wp2
     go_quiet (fail)
     go_wp2
     go_quiet (fail)
     generalize hW:(wr.drewN _).drewN nq=W2;have hb2:Below wr.heap.size wr W2:=by rw [← hW]; exact (below_drewN _ _).trans ((below_drewN _ _).mono (Nat.le_refl _))
     have hbW:=HB.out _ hb2;have hown2:=HO.out _ hb2;clear hW;go_wp2;go_roundw
     case rel=>exact ⟨j+1,acc,by omega,by omega,by first | rfl | (congr 1),hE,by omega,hown2,hbW,hbW.size⟩
     case measure=>simp [intOf]; omega
  ·have hE:Hid (R=acc):=show _=_ by
    rw [hv.out,List.drop_eq_nil_of_le (by rw [ndsL_len]; have:=HL.out; omega),kidsL,List.append_nil]
   have q6:¬ (j:Int) < (n:Int):=by omega
   clear hv;go_wp2;go_ret;exact ⟨_,rfl,by rw [hE.out]; exact hown,hb⟩
set_option maxHeartbeats 2000000 in
set_option maxRecDepth 100000 in
theorem rkids14_any (v:Value) (cs:List NdC) (p d:Nat) (t:XT) (nm:List UInt8) (w:World) (hs:SubAt (ndsL cs) p d t) (hr:RowD w v cs) (hnm:nm.length≤1000) :
  Calls Tryz.prog 40 #[v,.int .i64 p,.string ⟨nm.toArray⟩] w fun e w'=>∃ kv,e=.returned kv∧Own w' w.heap.size 3 kv (posCells ((placesN nm d t p).map Prod.fst))∧Below w.heap.size w w':=by
 obtain ⟨i0,hi,hz0,hz1,hz2⟩:=info_parts infoInt;obtain ⟨hp,hnd⟩:=sub_at hs;have K:=hid (rkids13_any v cs p w hp (by have:=hr.len; omega) hr.deep hr.at');rw [hnd] at K;simp only at K;rw [sub_places hs] at K;have hsub:=sub_kids hs;have hSl:(startsP (d+1) (kidsOf t) (p+1)).length≤1000:=by
  have h1:=congrArg List.length (sub_places hs);rw [List.length_map] at h1;have h2:=kids_len d ((ndsL cs).drop (p+1)) (p+1);have h3:=hr.len;rw [List.length_drop,ndsL_len] at h2;omega
 unfold placesN;generalize startsP (d+1) (kidsOf t) (p+1)=SP at K hsub hSl ⊢;obtain ⟨ao,cap,hvf,hc⟩:=hr.at';have HC:Hid (∀ y ∈ SP,∃ ad,ao=some ad∧ad.block < w.heap.size∧y.1 < cs.length∧w.cell? ⟨(ad.add (y.1 * 4)).block,(ad.add (y.1 * 4)).off+1,none⟩=some (.string ⟨(nameT y.2).toArray⟩)∧(nameT y.2).length≤1048576):=fun y hy=>by
  obtain ⟨hp2,hnd2⟩:=sub_at (hsub y hy);obtain ⟨ad,e1,e2,c,_⟩:=hc y.1 hp2;have h1:=c.c1;have h2:=(hr.small _ (List.getElem_mem hp2)).1;rw [hnd2] at h1 h2;exact ⟨ad,e1,e2,hp2,h1,h2⟩
 have hlen:=hr.len;obtain ⟨cn,hcn⟩:∃ cn,cn=cs.length:=⟨_,rfl⟩
 rw [← hcn] at hvf hlen HC;subst hvf;clear hc hr hs hsub hnd hp hcn;have zn:=size_list nm
 go_enter Tryz.func40,Tryz.ntmps40
 go_wp2_with fail
 refine K.out.mono ?_
 rintro e w1 ⟨kv,rfl,hown1,hw1⟩;obtain ⟨ka,kc,hkf⟩:∃ ka kc,kv=.slice ka SP.length kc:=by
  rcases hown1.2 with ⟨rfl,hn⟩ | ⟨g,cap2,cur,rfl,_⟩
  ·simp [posCells] at hn; exact ⟨none,0,by rw [hn]; rfl⟩
  ·exact ⟨some ⟨g,0,none⟩,cap2,by simp [posCells]⟩
 subst hkf;have HOW:=hid hown1;obtain ⟨sn,hsn⟩:∃ sn,sn=SP.length:=⟨_,rfl⟩
 rw [← hsn] at HOW hSl ⊢;have HSN:=hid hsn;clear hown1 hsn K;go_wp2
 go_loopw [7,9] (fun pv iv wr=>∃ j:Nat,j≤sn∧iv=.int .i64 (j:Int)∧Own wr w1.heap.size 3 pv (posCells ((namedP nm (SP.take j)).map Prod.fst))∧Below w1.heap.size w1 wr) (fun _ iv _=>sn - (intOf iv).toNat)
 case atStart=>exact ⟨0,Nat.zero_le _,rfl,Own.nil _ _ _,Below.refl _ _⟩
 case round =>
  obtain ⟨j,hjn,rfl,hown,hb⟩:=hrel;have hbw:=hw1.trans (hb.mono hw1.size);by_cases hlt:j < sn
  ·have hjl:j < SP.length:=by have:=HSN.out; omega
   obtain ⟨g,hka,cj⟩:=own_pos HOW.out j (by simp; exact hjl);subst hka;rw [List.getElem_map] at cj;have hgl:g < w1.heap.size:=World.block_lt_of_cell? _ _ cj;have cj:=cell_below hb hgl cj;obtain ⟨ad,hao,hab,hyl,c1,hnl⟩:=HC.out SP[j] (List.getElem_mem hjl);subst hao;have c1:=cell_below hbw (by simp only [add_block]; exact hab) c1;have KL:=hid (fun w'=>rlocal_any (nameT SP[j].2) w' (by omega));have hsnoc:=namedP_snoc (nm:=nm) hjl;have hbnd:=namedP_le nm (SP.take j);rw [List.length_take] at hbnd;generalize SP[j]=Y at cj hyl c1 KL hsnoc hnl;obtain ⟨yp,yt⟩:=Y;simp only at cj hyl c1 KL hsnoc hnl;generalize localX (nameT yt)=L at KL hsnoc;generalize nameT yt=N at c1 KL hnl;generalize hAcc:namedP nm (SP.take j)=acc at hown hsnoc hbnd;generalize hAcc2:namedP nm (SP.take (j+1))=acc2 at hsnoc;have HA2:=hid hAcc2;have q6:(j:Int) < (sn:Int):=by omega
   have q7:(yp:Int) < (cn:Int):=by omega
   have HO:=hid (fun (W':World) (h:Below wr.heap.size wr W')=>hown.below h);have HB:=hid (fun (W':World) (h:Below wr.heap.size wr W')=>hb.trans (h.mono hb.size));have HY:Hid (∀ w',Below wr.heap.size wr w' → w'.cell? ⟨g,j,none⟩=some (.int .i64 (yp:Int))):=fun w' h=>cell_below h (Nat.lt_of_lt_of_le hgl hb.size) cj;have hpl:(posCells (acc.map Prod.fst)).length=acc.length:=by simp [posCells]
   clear HC hown hAcc hAcc2;go_wp2_with fail
   refine (KL.out _).mono ?_
   rintro e w2 ⟨rfl,hw2⟩;have cj2:=HY.out _ hw2;have hown2:=HO.out _ hw2;have hb2:=HB.out _ hw2;have hB2:w1.heap.size≤w2.heap.size:=hb2.size;clear cj c1 KL HY HO HB
   cases hcmp:(L==nm) with
   | true =>
    rw [if_pos (by rw [hcmp])] at hsnoc;have HS:=hid hsnoc;clear hsnoc;go_wp2_with (at_builtin; refine wp_app _ rfl (.tmp 30) (.tmp 35) 78 rfl w1.heap.size 3 i0 (.int .i64 0) 8 Tryz.underlying78 hi hz0 hz1 hz2 rfl _ _ rfl (by exact hown2.alloc _) ⟨_,0,none⟩ 1 1 [.int .i64 (yp:Int)] rfl rfl (by exact one_new _ _ _) (by intro u hu; simp at hu; subst hu; rfl) (by rw [hpl]; unfold maxLen; omega) (by rw [hpl]; omega) w1 (by exact hb2.alloc hB2 _) (by simp; omega) ?_; intro v3 w3 hown3 hb3 hB3)
    rw [show posCells (acc.map Prod.fst)++[.int .i64 (yp:Int)]=posCells ((acc++[(yp,yt)]).map Prod.fst) by simp [posCells],← HS.out,← HA2.out] at hown3;go_roundw
    case rel=>exact ⟨j+1,by omega,by go_num,hown3,hb3⟩
    case measure=>simp [intOf]; omega
   | false =>
    rw [if_neg (by rw [hcmp]; simp),List.append_nil] at hsnoc;rw [← hsnoc,← HA2.out] at hown2;clear hsnoc;go_wp2;go_roundw
    case rel=>exact ⟨j+1,by omega,by go_num,hown2,hb2⟩
    case measure=>simp [intOf]; omega
  ·have q6:¬ (j:Int) < (sn:Int):=by omega
   have hE:SP.take j=SP:=List.take_of_length_le (by have:=HSN.out; omega);rw [hE] at hown;go_wp2;go_ret;exact ⟨_,rfl,own_lower hown hw1.size,hbw⟩
theorem attV_is (o:Option (List UInt8)):attV o=.tuple #[.string ⟨(o.getD []).toArray⟩,.bool o.isSome]:=by cases o <;> rfl
structure TB (w wr:World) (x:Tu):Prop where
 bel:Below w.heap.size w wr
 r4:RowIs wr w.heap.size 56 (tuCells zeroTu)
 r6:RowIs wr (w.heap.size+1) 56 (tuCells x)
theorem TB.lt {w wr:World} {x:Tu} (h:TB w wr x):w.heap.size+1 < wr.heap.size:=(Array.getElem?_eq_some_iff.1 (show wr.heap[w.heap.size+1]? = some _ from h.r6)).1
theorem TB.below {w wr w':World} {x:Tu} (h:TB w wr x) (hb:Below wr.heap.size wr w'):TB w w' x :=
 ⟨h.bel.trans (hb.mono h.bel.size),h.r4.below hb (by have:=h.lt; omega),h.r6.below hb h.lt⟩
theorem TB.set {w wr:World} {x y:Tu} (h:TB w wr x) (j:Nat) (v:Value) (hy:(tuCells x).set j v=tuCells y):TB w (wr.setCell ⟨w.heap.size+1,j,none⟩ v) y :=
 ⟨h.bel.setCell (show w.heap.size≤(⟨w.heap.size+1,j,none⟩:Addr).block from Nat.le_succ _) _,row_other h.r4 (by omega),by rw [← hy]; exact h.r6.set j v⟩
theorem tb_new (w:World):TB w ((w.alloc (.cells #[.string ⟨#[]⟩,.bool false,.string ⟨#[]⟩,.int .i64 0,.string ⟨#[]⟩] 56)).alloc (.cells #[.string ⟨#[]⟩,.bool false,.string ⟨#[]⟩,.int .i64 (-1),.string ⟨#[]⟩] 56)) ⟨[],false,[],-1,[]⟩:=by
 have h1:=rc_row5 w (.string ⟨#[]⟩) (.bool false) (.string ⟨#[]⟩) (.int .i64 0) (.string ⟨#[]⟩) 56;have hl:=alloc_lt w (.cells #[.string ⟨#[]⟩,.bool false,.string ⟨#[]⟩,.int .i64 0,.string ⟨#[]⟩] 56);have hs:(w.alloc (.cells #[.string ⟨#[]⟩,.bool false,.string ⟨#[]⟩,.int .i64 0,.string ⟨#[]⟩] 56)).heap.size=w.heap.size+1:=by simp
 have hb1:Below w.heap.size w (w.alloc (.cells #[.string ⟨#[]⟩,.bool false,.string ⟨#[]⟩,.int .i64 0,.string ⟨#[]⟩] 56)):=(Below.refl _ w).alloc (Nat.le_refl _) _;generalize w.alloc (.cells #[.string ⟨#[]⟩,.bool false,.string ⟨#[]⟩,.int .i64 0,.string ⟨#[]⟩] 56)=W1 at h1 hl hs hb1 ⊢;have h2:=rc_row5 W1 (.string ⟨#[]⟩) (.bool false) (.string ⟨#[]⟩) (.int .i64 (-1)) (.string ⟨#[]⟩) 56;rw [hs] at h2;exact ⟨hb1.alloc hb1.size _,h1.below ((Below.refl _ W1).alloc (Nat.le_refl _) _) hl,h2⟩
theorem TB.c5 {w wr:World} {x:Tu} (h:TB w wr x):RowC5 wr (w.heap.size+1) (.string ⟨x.id.toArray⟩) (.bool x.opn) (.string ⟨x.contact.toArray⟩) (.int .i64 x.prio) (.string ⟨x.note.toArray⟩):=RowIs.rc5 h.r6
theorem TB.d5 {w wr:World} {x:Tu} (h:TB w wr x):RowC5 wr w.heap.size (.string ⟨#[]⟩) (.bool false) (.string ⟨#[]⟩) (.int .i64 0) (.string ⟨#[]⟩):=RowIs.rc5 h.r4
theorem places_nil {nm:List UInt8} {d p:Nat} {t:XT} (h:(placesN nm d t p).length=0):placesN nm d t p=[]∧namedX nm (kidsOf t)=[]:=⟨List.eq_nil_of_length_eq_zero h,List.eq_nil_of_length_eq_zero (by rw [← places_len (d:=d) (p:=p)]; exact h)⟩
theorem ruptoE (s:ByteArray) (k:Nat) (w:World) (hs:s.size≤1048576) (hk:k+1≤s.size) :
  Calls Tryz.prog 76 #[.string s,.int .i64 ((k:Int)+1),.string ⟨#[47,62,32,9,13,10]⟩] w fun e w'=>e=.returned (.int .i64 (runL (fun b=>!endc b) s.data.toList (k+1)))∧w'=w :=
 rupto_at s (k+1) #[47,62,32,9,13,10] (fun b=>!endc b) ((k:Int)+1) (by omega) (fun b=>by simp only [hasL,endc,xblk,List.contains_cons,List.contains_nil,Bool.or_false]) w (by omega) (by decide) hk
set_option maxHeartbeats 1500000 in
set_option maxRecDepth 100000 in
theorem relem_step (s:ByteArray) (n:Nat) (hs:s.size≤1048576) (hco:CoRes s n):ElRes s (n+1):=by
 intro k d v cs B w hv hB hk hd hcs hF;have HV:=hid hv;obtain ⟨vo,vcap,hvf⟩:=hv.form;have hl:=len_data s;have HBad:Hid ((8≤d∨200≤cs.length∨s.data.toList[k]? ≠ some 60) → elemX (n+1) d cs.length (s.data.toList.drop k)=none):=elem_bad;have HGo:Hid (¬ 8≤d → ¬ 200≤cs.length → (h:k < s.data.toList.length) → s.data.toList[k]=60 → elemX (n+1) d cs.length (s.data.toList.drop k)=if runL (fun b=>!endc b) s.data.toList (k+1)=s.data.toList.length then none else elemT n d cs.length ((s.data.toList.drop (k+1)).take (runL (fun b=>!endc b) s.data.toList (k+1) - (k+1))) (attrsX (s.data.toList.length - (k+1)) [] (s.data.toList.drop (runL (fun b=>!endc b) s.data.toList (k+1))))):=fun h1 h2 h3 h4=>elem_go h1 h2 h3 h4;generalize elemX (n+1) d cs.length (s.data.toList.drop k)=R at HBad HGo ⊢;subst hvf;obtain ⟨cn,hcn⟩:∃ cn,cn=cs.length:=⟨_,rfl⟩
 rw [← hcn] at hcs HV ⊢;have KI:=hid (fun w'=>ris_at s k #[60] (k:Int) rfl w' (by omega) (by decide) (by decide) hk);rw [show isAt s.data.toList k (#[60]:Array UInt8).toList=decide (s.data.toList[k]? = some 60) from isAt_one] at KI;have HCN:=hid hcn;clear hv;by_cases h8:8≤d
 ·have hR:=hid (HBad.out (.inl h8));have r8:(8:Int)≤(d:Int):=by omega
  have r8d:decide ((8:Int)≤(d:Int))=true:=decide_eq_true r8;clear HBad HGo HV hcn
  go_enter Tryz.func77,Tryz.ntmps77
  go_wp2;go_ret2;exact el_none hR.out (Below.refl _ _)
 have r8:¬ (8:Int)≤(d:Int):=by omega
 have r8d:decide ((8:Int)≤(d:Int))=false:=decide_eq_false r8;by_cases h2:200≤cn
 ·have hR:=hid (HBad.out (.inr (.inl (by omega))));have r2:(200:Int)≤(cn:Int):=by omega
  have r2d:decide ((200:Int)≤(cn:Int))=true:=decide_eq_true r2;clear HBad HGo HV hcn
  go_enter Tryz.func77,Tryz.ntmps77
  go_wp2;go_ret2;exact el_none hR.out (Below.refl _ _)
 have r2:¬ (200:Int)≤(cn:Int):=by omega
 have r2d:decide ((200:Int)≤(cn:Int))=false:=decide_eq_false r2;by_cases h60:s.data.toList[k]? ≠ some 60
 ·have hR:=hid (HBad.out (.inr (.inr h60)));rw [decide_eq_false h60] at KI;clear HBad HGo HV hcn h60
  go_enter Tryz.func77,Tryz.ntmps77
  go_wp2_with (go_at_call 75; refine (KI.out _).mono ?_; rintro e w' ⟨rfl,rfl⟩)
  go_ret2;exact el_none hR.out (Below.refl _ _)
 have h60':s.data.toList[k]? = some 60:=Classical.not_not.1 h60;rw [decide_eq_true h60'] at KI;obtain ⟨hkl,hk60⟩:=List.getElem?_eq_some_iff.1 h60';have HG2:=hid (HGo.out h8 (by omega) hkl hk60);have hks:k < s.size:=by omega
 have KU:=hid (fun w'=>ruptoE s k w' hs (by omega));have ht:=run_le (p:=fun b=>!endc b) (l:=s.data.toList) (k:=k+1) (by omega);rw [hl] at ht HG2;clear HBad HGo h60 h60' hkl hk60;generalize runL (fun b=>!endc b) s.data.toList (k+1)=t at KU ht HG2;have hwk:IntKind.i64.wrap ((k:Int)+1)=(k:Int)+1:=by rw [IntKind.wrap_i64]; omega
 by_cases hts:t=s.size
 ·have hR:Hid (R=none):=show _=_ by rw [HG2.out,if_pos hts]
  have q0:((t:Int)==(s.size:Int))=true:=by rw [beq_iff_eq]; omega
  clear HG2 HV hcn
  go_enter Tryz.func77,Tryz.ntmps77
  go_wp2_with first | (go_at_call 75; refine (KI.out _).mono ?_; rintro e w' ⟨rfl,rfl⟩) | (go_at_call 76; refine (KU.out _).mono ?_; rintro e w' ⟨rfl,rfl⟩)
  go_ret2;exact el_none hR.out (Below.refl _ _)
 have q0:((t:Int)==(s.size:Int))=false:=by rw [beq_eq_false_iff_ne]; omega
 have HT:Hid (R=elemT n d cs.length ((s.data.toList.drop (k+1)).take (t - (k+1))) (attrsX (s.size - (k+1)) [] (s.data.toList.drop t))):=show _=_ by rw [HG2.out,if_neg hts]
 have hname:s.extract (k+1) t=⟨((s.data.toList.drop (k+1)).take (t - (k+1))).toArray⟩:=ext_list s (k+1) t;obtain ⟨nm,hnm⟩:∃ nm,nm=(s.data.toList.drop (k+1)).take (t - (k+1)):=⟨_,rfl⟩
 rw [← hnm] at HT hname;have hnl:nm.length≤s.size:=by rw [hnm,List.length_take,List.length_drop]; omega
 have hn1:((k:Int)+1).toNat=k+1:=by omega
 have hb1:(k:Int)+1≤(t:Int):=by omega
 have hb2:(t:Int)≤(s.size:Int):=by omega
 have KO:=hid (fun w'=>rover_at s t (t:Int) rfl w' (by omega) ht.2);have hao:=run_le (p:=xblk) (l:=s.data.toList) (k:=t) (by omega);rw [hl] at hao;have hr0':=rc_row4 w (.int .i64 (d:Int)) (.string ⟨nm.toArray⟩) (.slice none 0 0) (.string ⟨#[]⟩) 52;have hb0:Below w.heap.size w (w.alloc (.cells #[.int .i64 (d:Int),.string ⟨nm.toArray⟩,.slice none 0 0,.string ⟨#[]⟩] 52)):=(Below.refl _ w).alloc (Nat.le_refl _) _;have hlt0:=alloc_lt w (.cells #[.int .i64 (d:Int),.string ⟨nm.toArray⟩,.slice none 0 0,.string ⟨#[]⟩] 52);clear HG2 hnm hts;obtain ⟨i0,hi,hz0,hz1,hz2⟩:=info_parts infoPar;obtain ⟨i1,hj,hy0,hy1,hy2⟩:=info_parts infoNodeB
 go_enter Tryz.func77,Tryz.ntmps77
 clear hcn;go_wp2_with first | (go_at_call 75; refine (KI.out _).mono ?_; rintro e w' ⟨rfl,hw'⟩; rw [hw']; clear hw' w') | (go_at_call 76; refine (KU.out _).mono ?_; rintro e w' ⟨rfl,hw'⟩; rw [hw']; clear hw' w') | (go_at_call 78; refine (KO.out _).mono ?_; rintro e w' ⟨rfl,hw'⟩; rw [hw']; clear hw' w')
 clear KI KU KO hname;generalize World.alloc _ _=W0 at hr0' hb0 hlt0 ⊢;have HR0:=hid hr0';clear hr0';obtain ⟨AX,hAX⟩:∃ AX,AX=attrsX (s.size - (k+1)) [] (s.data.toList.drop t):=⟨_,rfl⟩
 rw [← hAX] at HT;have HAX:=hid hAX;clear hAX
 go_loopw [1,10] (fun av tv wr=>∃ (a tq m:Nat) (acc:List Par) (pv:Value),av=.int .i64 (a:Int)∧tv=.int .i64 (tq:Int)∧tq≤s.size∧Hid (a=runL xblk s.data.toList tq)∧t≤tq∧tq≤a∧a≤s.size∧Hid (AX=attrsX m acc (s.data.toList.drop tq))∧s.size - tq≤m∧acc.length≤tq∧Below w.heap.size w wr∧w.heap.size < wr.heap.size∧Hid (RowIs wr w.heap.size 52 [.int .i64 (d:Int),.string ⟨nm.toArray⟩,pv,.string ⟨#[]⟩])∧OwnP wr (w.heap.size+1) pv acc) (fun av _ _=>s.size - (intOf av).toNat)
 case atStart=>exact ⟨_,t,s.size - (k+1),[],.slice none 0 0,rfl,rfl,ht.2,show _=_ from rfl,Nat.le_refl _,hao.1,hao.2,HAX,by omega,by simp,hb0,hlt0,HR0,OwnP.nil _ _⟩
 case round =>
  obtain ⟨a,tq,m,acc,pv,rfl,rfl,htq,hae,htt,hta,has,hax,hm,hacc,hb,hlt,hrow,hown⟩:=hrel;clear HR0 hb0 hlt0 HAX hao;obtain ⟨po,pc,rfl⟩:=ownP_form hown;have KI1:=hid (fun w'=>ris_at s a #[47,62] (a:Int) rfl w' (by omega) (by decide) (by decide) has);have KI2:=hid (fun w'=>ris_at s a #[62] (a:Int) rfl w' (by omega) (by decide) (by decide) has);rw [show isAt s.data.toList a (#[62]:Array UInt8).toList=decide (s.data.toList[a]? = some 62) from isAt_one] at KI2;rw [show (#[47,62]:Array UInt8).toList=[47,62] from rfl] at KI1;by_cases hal:a < s.size
  ·have hbd:=u8_bd s[a];have hal2:a < s.data.toList.length:=by omega
   have ega:s.data.toList[a]'hal2=s[a]:=getB s a hal;by_cases h47:s[a]=47
   ·obtain ⟨m',rfl⟩:∃ m',m=m'+1:=⟨m - 1,by omega⟩
    have hend:=ax_end (m:=m') (acc:=acc) (by omega) hae.out hal2 (.inl (by rw [ega]; exact h47));rw [← hax.out] at hend;have hR0:Hid (R=elemT n d cs.length nm (some (acc,s.data.toList.drop a))):=show _=_ by rw [HT.out,hend]
    have p47:((s[a].toNat:Int)==47)=true:=u8_eq (b:=47) h47;have p47n:((s[a].toNat:Int) != 47)=false:=by rw [bne,p47]; rfl
    have h62n:¬ s.data.toList[a]? = some 62:=by rw [List.getElem?_eq_getElem hal2,ega,h47]; decide
    rw [decide_eq_false h62n] at KI2;obtain ⟨b0,b1,b2,b3,_,_,_,_⟩:=hrow.out.rc4
    cases hi2:isAt s.data.toList a [47,62] with
    | false =>
     rw [hi2] at KI1;have hR:Hid (R=none):=show _=_ by rw [hR0.out]; exact elemT_no hi2 h62n
     clear hR0 hend hax hae HT h47 HV hi2 h62n ega;go_wp2_with fail
     refine (KI1.out _).mono ?_
     rintro e w' ⟨rfl,hw'⟩; rw [hw']; clear hw' w'
     go_wp2_with fail
     refine (KI2.out _).mono ?_
     rintro e w' ⟨rfl,hw'⟩; rw [hw']; clear hw' w'
     go_wp2;go_ret2;exact el_none hR.out hb
    | true =>
     rw [hi2] at KI1;have ha2:a+2≤s.size:=by
      apply Classical.byContradiction
      intro hh
      have:=isAt_long (l:=s.data.toList) (k:=a) (t:=[47,62]) (by simp; omega) (.inl (by simp))
      rw [this] at hi2; cases hi2
     have hR:Hid (R=some ([⟨d,nm,acc,[]⟩],s.data.toList.drop (a+2))):=show _=_ by rw [hR0.out]; exact elemT_one hi2
     clear hR0 hend hax hae HT h47 hi2 h62n ega;have hwa:IntKind.i64.wrap ((a:Int)+2)=(a:Int)+2:=by rw [IntKind.wrap_i64]; omega
     have hvr:=hid (HV.out.below hb);have hop:=hid (ownP_mono hown (show B≤w.heap.size+1 by omega));have hnewN:=hid (fun (W:World) (g:Nat) (hg:g=W.heap.size)=>nd_newW W ⟨⟨d,nm,acc,[]⟩,.slice po acc.length pc⟩ g hg);have hBr:=hb.size;have hcl:cs.length≤2000000:=by have:=HCN.out; omega
     clear hown HV KI2;go_wp2_with fail
     refine (KI1.out _).mono ?_
     rintro e w' ⟨rfl,hw'⟩; rw [hw']; clear hw' w'
     go_wp2_with (at_builtin; refine wp_appN2 _ rfl (.tmp 83) (.tmp 85) 47 rfl B i1 _ Tryz.underlying47 hj hy0 hy1 hy2 rfl (.slice vo cn vcap) cs rfl (by exact OwnN.alloc hvr.out _) ⟨_,0,none⟩ 1 ⟨⟨d,nm,acc,[]⟩,.slice po acc.length pc⟩ (by exact OwnP.alloc hop.out _) rfl (by exact hnewN.out _ _ rfl) hcl (by simp; omega) ?_; intro v5 w5 hown5 hf5; obtain ⟨xa,xc,e5⟩:=hown5.form; subst e5)
     go_ret2;have hff:=(FrN.below (v:=.slice vo cn vcap) (hb.alloc hb.size _)).trans hf5;rw [hR.out];have hls:((s.size - (s.data.toList.drop (a+2)).length:Nat):Int)=(a:Int)+2:=by rw [List.length_drop,hl]; omega
     refine ⟨.slice xa (cs.length+1) xc,[⟨⟨d,nm,acc,[]⟩,.slice po acc.length pc⟩],?_,rfl,by simpa using hown5,by simpa using hff⟩
     rw [hls]
     rfl
   have p47:((s[a].toNat:Int)==47)=false:=u8_ne (b:=47) h47;have p47n:((s[a].toNat:Int) != 47)=true:=by rw [bne,p47]; rfl
   by_cases h62:s[a]=62
   ·obtain ⟨m',rfl⟩:∃ m',m=m'+1:=⟨m - 1,by omega⟩
    have h62g:s.data.toList[a]? = some 62:=by rw [List.getElem?_eq_getElem hal2,ega,h62]
    have hend:=ax_end (m:=m') (acc:=acc) (by omega) hae.out hal2 (.inr (by rw [ega]; exact h62));rw [← hax.out] at hend;have hR:Hid (R=contX n ⟨d,nm,acc,[]⟩ d cs.length [] [] (s.data.toList.drop (a+1))):=show _=_ by rw [HT.out,hend]; exact elemT_in h62g
    have h47n:isAt s.data.toList a [47,62]=false:=by
     unfold isAt;rw [List.drop_eq_getElem_cons hal2,ega,h62]
     simp
    rw [h47n] at KI1;rw [decide_eq_true h62g] at KI2;have p62:((s[a].toNat:Int)==62)=true:=u8_eq (b:=62) h62;have p62n:((s[a].toNat:Int) != 62)=false:=by rw [bne,p62]; rfl
    obtain ⟨b0,b1,b2,b3,_,_,_,_⟩:=hrow.out.rc4;have hwa:IntKind.i64.wrap ((a:Int)+1)=(a:Int)+1:=by rw [IntKind.wrap_i64]; omega
    have KCo:=hid (hco (a+1) d nm acc (.slice po acc.length pc) (.slice vo cn vcap) cs B wr (HV.out.below hb) (ownP_mono hown (show B≤w.heap.size+1 by omega)) (Nat.le_trans hB hb.size) (by omega) (by omega) (by have:=HCN.out; omega) hnl (by omega));rw [show ((a+1:Nat):Int)=(a:Int)+1 by omega] at KCo;unfold ndV at KCo;simp only at KCo;have HFR:=hid (FrN.below (v:=.slice vo cn vcap) hb);clear hend hax hae HT h47 h62 HV h62g h47n ega hown;generalize contX n ⟨d,nm,acc,[]⟩ d cs.length [] [] (s.data.toList.drop (a+1))=o at KCo hR;go_wp2_with fail
    refine (KI1.out _).mono ?_
    rintro e w' ⟨rfl,hw'⟩; rw [hw']; clear hw' w'
    go_wp2_with fail
    refine (KI2.out _).mono ?_
    rintro e w' ⟨rfl,hw'⟩; rw [hw']; clear hw' w'
    go_wp2_with fail
    refine KCo.out.mono ?_
    cases o with
    | none =>
     rintro e w2 ⟨rfl,hf2⟩;go_wp2;go_ret2;rw [hR.out];exact ⟨rfl,(HFR.out.trans hf2).none⟩
    | some x =>
     obtain ⟨ns,r⟩:=x;rintro e w2 ⟨v2,cs2,rfl,hk2,hown2,hf2⟩;obtain ⟨xa,xc,e5⟩:=hown2.form;subst e5;generalize (cs++cs2).length=L2 at hown2 hf2 ⊢;go_wp2;go_ret2;rw [hR.out];exact ⟨_,cs2,rfl,hk2,hown2,HFR.out.trans hf2⟩
   have p62:((s[a].toNat:Int)==62)=false:=u8_ne (b:=62) h62;have p62n:((s[a].toNat:Int) != 62)=true:=by rw [bne,p62]; rfl
   obtain ⟨m',rfl⟩:∃ m',m=m'+1:=⟨m - 1,by omega⟩
   have hgo:=ax_go (m:=m') (acc:=acc) (by omega) hae.out hal2 (by rw [ega]; exact h47) (by rw [ega]; exact h62);rw [← hax.out] at hgo;by_cases hat:a=tq
   ·have hR:Hid (R=none):=show _=_ by rw [HT.out,hgo,if_pos hat]; rfl
    have q5:((a:Int)==(tq:Int))=true:=by rw [beq_iff_eq]; omega
    clear hgo hax hae HT h47 h62 HV hat;go_wp2;go_ret2;exact el_none hR.out hb
   have q5:((a:Int)==(tq:Int))=false:=by rw [beq_eq_false_iff_ne]; omega
   rw [if_neg hat] at hgo;have KA:=hid (fun w'=>rattr_any s a w' hs has);have hrp':=rc_row3 wr (.string ⟨#[]⟩) (.string ⟨#[]⟩) (.bool false) 59;have hbp:Below wr.heap.size wr (wr.alloc (.cells #[.string ⟨#[]⟩,.string ⟨#[]⟩,.bool false] 59)):=(Below.refl _ wr).alloc (Nat.le_refl _) _;have hltp:=alloc_lt wr (.cells #[.string ⟨#[]⟩,.string ⟨#[]⟩,.bool false] 59)
   cases hP:attrP s.data.toList a with
   | none =>
    rw [hP] at hgo KA;rw [show attrR none=.tuple #[.agg #[.string ⟨#[]⟩,.string ⟨#[]⟩,.bool false],.int .i64 (-1)] from rfl] at KA;have hR:Hid (R=none):=show _=_ by rw [HT.out,hgo]; rfl
    clear hgo hax hae HT h47 h62 HV hP;go_wp2_with fail
    refine (KA.out _).mono ?_
    rintro e w2 ⟨rfl,hw2⟩;generalize World.alloc _ _=W1 at hrp' hbp hltp hw2 ⊢;obtain ⟨c0,c1,c2,f0,f1,f2⟩:=(hrp'.below hw2 hltp).rc3;have hb4:=rc_below3 ((hb.trans (hbp.mono hb.size)).trans (hw2.mono (Nat.le_trans hb.size hbp.size))) wr.heap.size hb.size (.string ⟨#[]⟩) (.string ⟨#[]⟩) (.bool false);go_wp2;go_ret2;exact el_none hR.out hb4
   | some x =>
    obtain ⟨p,tq2⟩:=x;rw [hP] at hgo KA;simp only at hgo;rw [show attrR (some (p,tq2))=.tuple #[.agg #[.string ⟨p.name.toArray⟩,.string ⟨p.value.toArray⟩,.bool p.has],.int .i64 tq2] from rfl] at KA;have hle:=attrP_le (by omega) hP;rw [hl] at hle;have KO:=hid (fun w'=>rover_at s tq2 (tq2:Int) rfl w' (by omega) hle.2);have hao:=run_le (p:=xblk) (l:=s.data.toList) (k:=tq2) (by omega);rw [hl] at hao;have HAX2:Hid (AX=attrsX m' (acc++[p]) (s.data.toList.drop tq2)):=hgo;have q6:¬ (tq2:Int) < 0:=by omega
    obtain ⟨a2,ha2⟩:∃ a2,a2=runL xblk s.data.toList tq2:=⟨_,rfl⟩
    rw [← ha2] at KO hao;have HA2:=hid ha2;clear hgo hax hae HT h47 h62 HV hP ha2;obtain ⟨pn,pval,ph⟩:=p;simp only at KA;go_wp2_with fail
    refine (KA.out _).mono ?_
    rintro e w2 ⟨rfl,hw2⟩;generalize World.alloc _ _=W1 at hrp' hbp hltp hw2 ⊢;have hrp2:=hrp'.below hw2 hltp;obtain ⟨c0,c1,c2,f0,f1,f2⟩:=hrp2.rc3;have hB2:Below wr.heap.size wr w2:=hbp.trans (hw2.mono hbp.size);have hrow2:=hrow.out.below hB2 hlt;have hown2:=hown.below hB2;have hb2':=hb.trans (hB2.mono hb.size);have hlt2:=Nat.lt_of_lt_of_le hltp hw2.size;have hrp3:=rc_store3 hrp2 (.string ⟨pn.toArray⟩) (.string ⟨pval.toArray⟩) (.bool ph);have hB3:=rc_below3 (Below.refl wr.heap.size w2) wr.heap.size (Nat.le_refl _) (.string ⟨pn.toArray⟩) (.string ⟨pval.toArray⟩) (.bool ph);clear hrp' hbp hltp hw2 hB2 KA;have hrN3:=hrow2.below hB3 hlt;have hne:(Value.slice po acc.length pc).ownBlock ≠ some wr.heap.size:=fun e=>by have:=(World.ownsRow.lt hown _ e).2; omega
    have hown3:=ownsRow_setCell_other (ownsRow_setCell_other (ownsRow_setCell_other hown2 (a:=⟨wr.heap.size,0,none⟩) hne (.string ⟨pn.toArray⟩)) (a:=⟨wr.heap.size,1,none⟩) hne (.string ⟨pval.toArray⟩)) (a:=⟨wr.heap.size,2,none⟩) hne (.bool ph);obtain ⟨g0,g1,g2,_,_,_⟩:=hrp3.rc3;obtain ⟨b0,b1,b2,b3,fb0,fb1,fb2,fb3⟩:=hrN3.rc4;have hsz3:=Nat.le_trans (Nat.le_trans hlt (Nat.le_of_lt hlt2)) hB3.size;have HrN3:=hid hrN3;have HB3:=hid hB3;clear hrp2 hrp3 hrow2 hown2 hrN3 hB3;go_wp2_with first | (at_builtin; refine wp_appP _ rfl (.tmp 72) (.tmp 74) 50 rfl (w.heap.size+1) i0 _ Tryz.underlying50 hi hz0 hz1 hz2 rfl _ acc rfl (OwnP.alloc hown3 _) ⟨_,0,none⟩ 1 ⟨pn,pval,ph⟩ rfl (par_newW _ ⟨pn,pval,ph⟩ _ (by simp)) (by omega) _ ((Below.refl _ _).alloc hsz3 _) (by simp; omega) ?_; intro v5 w5 hown5 hb5 hB5; have hrN5:=HrN3.out.below hb5 (Nat.lt_succ_self _); obtain ⟨e0,e1,e2,e3,k0,k1,k2,k3⟩:=hrN5.rc4; obtain ⟨po5,pc5,rfl⟩:=ownP_form hown5; clear g0 g1 g2 b0 b1 b2 b3 fb0 fb1 fb2 fb3) | (go_at_call 78; refine (KO.out _).mono ?_; rintro e w' ⟨rfl,hw'⟩; rw [hw']; clear hw' w')
    go_roundw
    case rel =>
     have hrN6:=hrN5.set 2 (.slice po5 (acc.length+1) pc5);have hown6:=ownP_len hown5;have hs6:Below w.heap.size w5 (w5.setCell ⟨w.heap.size,2,none⟩ (.slice po5 (acc.length+1) pc5)):=(Below.refl _ w5).setCell (show w.heap.size≤(⟨w.heap.size,2,none⟩:Addr).block from Nat.le_refl _) _;have hrN7:RowIs (w5.setCell ⟨w.heap.size,2,none⟩ (.slice po5 (acc.length+1) pc5)) w.heap.size 52 [.int .i64 (d:Int),.string ⟨nm.toArray⟩,.slice po5 (acc.length+1) pc5,.string ⟨#[]⟩]:=by simpa using hrN6
     have hown7:OwnP (w5.setCell ⟨w.heap.size,2,none⟩ (.slice po5 (acc.length+1) pc5)) (w.heap.size+1) (.slice po5 (acc.length+1) pc5) (acc++[(⟨pn,pval,ph⟩:Par)]):=ownsRow_setCell_below (a:=⟨w.heap.size,2,none⟩) hown6 (Nat.lt_succ_self _) _;exact ⟨a2,tq2,m',acc++[(⟨pn,pval,ph⟩:Par)],.slice po5 (acc.length+1) pc5,rfl,rfl,hle.2,HA2,by omega,hao.1,hao.2,HAX2,by omega,by simp; omega,((hb2'.trans (HB3.out.mono hb.size)).trans (hb5.mono (Nat.le_succ _))).trans hs6,Nat.lt_of_lt_of_le hB5 hs6.size,hid hrN7,hown7⟩
    case measure=>simp [intOf]; omega
  ·have hae2:a=s.data.toList.length:=by omega
   have hR:Hid (R=none):=show _=_ by
    rw [HT.out]
    rcases ax_len (m:=m) (acc:=acc) (by omega) hae.out hae2 with h | h
    ·rw [hax.out,h]; rfl
    ·rw [hax.out,h]; rfl
   rw [show isAt s.data.toList a [47,62]=false from isAt_long (by simp; omega) (.inl (by simp))] at KI1;rw [decide_eq_false (by rw [List.getElem?_eq_none (by omega)]; simp)] at KI2;clear hax hae HT HV hae2;go_wp2_with fail
   refine (KI1.out _).mono ?_
   rintro e w' ⟨rfl,hw'⟩; rw [hw']; clear hw' w'
   go_wp2_with fail
   refine (KI2.out _).mono ?_
   rintro e w' ⟨rfl,hw'⟩; rw [hw']; clear hw' w'
   go_wp2;go_ret2;exact el_none hR.out hb
mutual
theorem elem_cap:∀ (n d c:Nat) (s:List UInt8) (l:List Nd) (r:List UInt8),elemX n d c s=some (l,r) → c+l.length≤200
 | 0,_,_,_,_,_,h=>by rw [elemX] at h; cases h
 | n+1,d,c,s,l,r,h=>by
  cases s with
  | nil=>simp [elemX] at h
  | cons b q =>
   rw [elemX] at h
   split at h
   ·cases h
   ·next hc =>
    split at h
    ·cases h
    ·split at h
     ·cases h
     ·split at h
      ·simp only [Option.some.injEq,Prod.mk.injEq] at h;rw [← h.1];simp only [List.length_cons,List.length_nil];omega
      ·exact cont_cap n _ _ _ _ _ _ _ _ (by simp; omega) h
      ·cases h
theorem cont_cap:∀ (n:Nat) (x:Nd) (d c:Nat) (txt:List UInt8) (kids:List Nd) (s:List UInt8) (l:List Nd) (r:List UInt8),c+1+kids.length≤200 → contX n x d c txt kids s=some (l,r) → c+l.length≤200
 | 0,_,_,_,_,_,_,_,_,_,h=>by rw [contX] at h; cases h
 | n+1,x,d,c,txt,kids,s,l,r,hk,h=>by
  rw [contX] at h
  split at h
  ·cases h
  ·split at h
   ·split at h
    ·cases h
    ·split at h
     ·cases hv:readX (xtrim (txt++s.takeWhile (· != 60))) with
      | none=>rw [hv] at h; cases h
      | some t =>
       rw [hv] at h;simp only [Option.map_some,Option.some.injEq,Prod.mk.injEq] at h;rw [← h.1];simp only [List.length_cons];omega
     ·cases h
   ·split at h
    ·cases h
    ·next ks r3 he =>
     have h1:=elem_cap n _ _ _ _ _ he;exact cont_cap n _ _ _ _ _ _ _ _ (by rw [List.length_append]; omega) h
end
section
variable {l : List UInt8} {k tq m d c : Nat} {x : Nd} {txt : List UInt8} {kids : List Nd}
theorem run60 (hk:k≤l.length) (htq:tq=runL (· != 60) l k) (hl:tq < l.length):l[tq]=60:=by
 obtain ⟨c,r,h1,h2⟩:=run_at hk (htq ▸ hl);rw [← run_drop,← htq,List.drop_eq_getElem_cons hl] at h1
 injection h1 with h1 _
 rw [h1]
 simpa using h2
theorem cont_end (hk:k≤l.length) (htq:tq=runL (· != 60) l k) (hl:tq=l.length):contX (m+1) x d c txt kids (l.drop k)=none:=by
 rw [contX,← run_drop,← htq,hl,List.drop_length]
theorem isAt_two (h:tq < l.length) (h6:l[tq]=60):isAt l tq [60,47]=decide ((l.drop (tq+1)).head? = some 47):=by
 unfold isAt;rw [List.drop_eq_getElem_cons h,h6]
 cases hd:l.drop (tq+1) with
 | nil=>simp
 | cons a b=>simp
theorem cont_in (hk:k≤l.length) (htq:tq=runL (· != 60) l k) (hl:tq < l.length) (h:isAt l tq [60,47]=false) :
  contX (m+1) x d c txt kids (l.drop k)=match elemX m (d+1) (c+1+kids.length) (l.drop tq) with | none=>none | some (ks,r3)=>contX m x d c (txt++(l.drop k).take (tq - k)) (kids++ks) r3:=by
 have h6:=run60 hk htq hl;rw [isAt_two hl h6] at h;rw [contX,htq,← run_drop,← run_take,← htq,List.drop_eq_getElem_cons hl]
 simp only
 rw [if_neg (by simpa using h)];generalize elemX m (d+1) (c+1+kids.length) (l[tq] :: l.drop (tq+1))=E
 cases E <;> rfl
def closeT (l:List UInt8) (tq:Nat) (x:Nd) (txt:List UInt8) (kids:List Nd):Option (List Nd × List UInt8) :=
 if isAt l tq ([60,47]++x.name)=false then none
 else if l[runL xblk l (tq+2+x.name.length)]? = some 62 then (readX (xtrim txt)).map fun t=>({ x with text:=xtrim t } :: kids,l.drop (runL xblk l (tq+2+x.name.length)+1))
 else none
theorem cont_out (hk:k≤l.length) (htq:tq=runL (· != 60) l k) (hl:tq < l.length) (h:isAt l tq [60,47]=true) :
  contX (m+1) x d c txt kids (l.drop k)=closeT l tq x (txt++(l.drop k).take (tq - k)) kids:=by
 have h6:=run60 hk htq hl;rw [isAt_two hl h6] at h;have h7:(l.drop (tq+1)).head? = some 47:=by simpa using h
 obtain ⟨q,hq⟩:∃ q,l.drop (tq+1)=47 :: q:=by
  cases hd:l.drop (tq+1) with
  | nil=>rw [hd] at h7; cases h7
  | cons a b=>rw [hd] at h7; simp at h7; exact ⟨b,by rw [h7]⟩
 have hq2:l.drop (tq+2)=q:=by
  have:=congrArg (List.drop 1) hq
  simpa [List.drop_drop] using this
 rw [contX,htq,← run_drop,← run_take,← htq,List.drop_eq_getElem_cons hl]
 simp only
 rw [if_pos h7,hq];simp only [List.tail_cons];have hi:isAt l tq ([60,47]++x.name)=decide (q.take x.name.length=x.name):=by
  unfold isAt;rw [List.drop_eq_getElem_cons hl,h6,hq]
  simp
 unfold closeT;rw [hi];by_cases hn:q.take x.name.length=x.name
 ·have hA:¬ (decide (q.take x.name.length=x.name)=false):=by simp [hn]
  rw [if_neg hA];refine Eq.trans (if_neg (fun h=>h hn)) ?_
  have hd:(q.drop x.name.length).dropWhile xblk=l.drop (runL xblk l (tq+2+x.name.length)):=by rw [run_drop,← hq2,List.drop_drop]
  rw [hd];generalize runL xblk l (tq+2+x.name.length)=e;by_cases he:l[e]? = some 62
  ·rw [if_pos he,drop_get he]
   rfl
  ·rw [if_neg he]
   split
   ·next r3 h9 =>
    exfalso
    apply he
    have:=congrArg List.head? h9
    rw [List.head?_drop] at this
    simpa using this
   ·rfl
 ·have hA:decide (q.take x.name.length=x.name)=false:=by simp [hn]
  rw [if_pos hA];exact if_pos hn
end
theorem FrN.set {v v' u:Value} {w w':World} {g j:Nat} (h:FrN v w v' w') (hg:v'.ownBlock=some g):FrN v w v' (w'.setCell ⟨g,j,Option.none⟩ u):=by
 refine ⟨h.os,h.tape,h.output,by rw [World.size_setCell]; exact h.size,fun c hc hv=>?_,h.own⟩
 have hne:c ≠ g:=fun e=>by
  subst e
  rcases h.own c hg with e | e
  ·exact hv e
  ·omega
 rw [heap_setCell_other _ _ _ _ hne]; exact h.block c hc hv
theorem el_no {o:Option (List Nd × List UInt8)} {s:ByteArray} {cs:List NdC} {B:Nat} {v v':Value} {w w':World} (h:o=none) (hf:FrN v w v' w'):ElPost o s cs B v w (.returned (.tuple #[.slice none 0 0,.int .i64 (-1)])) w':=by
 subst h; exact ⟨rfl,hf.none⟩
theorem rupto6 (s:ByteArray) (k:Nat) (w:World) (hs:s.size≤1048576) (hk:k≤s.size) :
  Calls Tryz.prog 76 #[.string s,.int .i64 (k:Int),.string ⟨#[60]⟩] w fun e w'=>e=.returned (.int .i64 (runL (· != 60) s.data.toList k))∧w'=w :=
 rupto_at s k #[60] (· != 60) (k:Int) rfl (fun b=>has_one 60 b) w (by omega) (by decide) hk
theorem xtrim_le (l:List UInt8):(xtrim l).length≤l.length:=by
 unfold xtrim;rw [List.length_reverse];have h1:=(List.dropWhile_suffix (l:=(l.dropWhile xblk).reverse) xblk).length_le;have h2:=(List.dropWhile_suffix (l:=l) xblk).length_le;rw [List.length_reverse] at h1;omega
theorem glue2 (nm:List UInt8):(⟨#[60,47]⟩:ByteArray)++⟨nm.toArray⟩=⟨([60,47]++nm).toArray⟩:=by
 rw [ByteArray.mk_append_mk]; first | done | rfl
theorem glueX (t:List UInt8) (s:ByteArray) (a b:Nat):(⟨t.toArray⟩:ByteArray)++s.extract a b=⟨(t++(s.data.toList.drop a).take (b - a)).toArray⟩:=by
 rw [ext_list,ByteArray.mk_append_mk]; first | done | rfl
end Go.Proofs.YtdnekampnkhmfaaGreatDoor
