/-
  RAnsL, CRep, CReason, CReq1, HHead1, HHead4, CNeed.
-/
import Derived.Test.YtiogedceommcoaaGreatDoorK36
import Derived.Laws.EntriesVeiled
set_option linter.unusedVariables false
set_option linter.unusedSimpArgs false
set_option maxRecDepth 20000
namespace Go.Proofs.YtiogedceommcoaaGreatDoor
open Go.RowKit Sc
structure AnIn (w w1:World) (m:Ms) (h:Value) (CA:Array Value) (wr:World):Prop where
 bx:BoxM wr w.heap.size m h
 row:wr.heap[w1.heap.size]? = some (.cells CA 37 (0,0))
 b:Below w.heap.size w wr
 lo:w.heap.size < w1.heap.size
 lt:w1.heap.size < wr.heap.size
theorem AnIn.below {w w1 wr w':World} {m:Ms} {h:Value} {CA:Array Value} (H:AnIn w w1 m h CA wr) {B:Nat} (hB:w1.heap.size < B) (hb:Below B wr w'):AnIn w w1 m h CA w' :=
 ⟨H.bx.below hb (by have:=H.lo; omega),by rw [hb.block _ hB]; exact H.row,H.b.trans (hb.mono (by have:=H.lo; omega)),H.lo,Nat.lt_of_lt_of_le H.lt hb.size⟩
theorem ans_small {status:Int} {rs v1 tv v3 v4:List UInt8} {vs:List (List UInt8)} {LK more:List Hdr} (hr:rs.length≤1048576) (hL:viaH vs++[⟨fromK,v1⟩,⟨toK,tv⟩,⟨callK,v3⟩,⟨cseqK,v4⟩]=LK) (hvs:∀ l ∈ vs,l.length≤1048576) (hvn:(viaH vs).length≤1048576)
  (h1:v1.length≤1048576) (h2:tv.length≤4194304) (h3:v3.length≤1048576) (h4:v4.length≤1048576) (hmn:more.length≤1048576) (hm:∀ p ∈ more,p.name.length≤1048576∧p.value.length≤1048576) :
  SmallM 140737488355328 ⟨[],[],status,rs,LK++more,[]⟩:=by
 subst hL;refine ⟨by simp,by simp,by simp only; omega,by simp,?_,?_⟩
 ·simp only [List.length_append,List.length_cons,List.length_nil]; omega
 ·intro p hp;simp only [List.mem_append] at hp
  rcases hp with (hp | hp) | hp
  ·unfold viaH at hp;rw [List.mem_map] at hp;obtain ⟨l,hl,rfl⟩:=hp
   have:=hvs l hl
   exact ⟨by simp [rViaK],by simp only; omega⟩
  ·simp only [List.mem_cons,List.not_mem_nil,or_false] at hp
   rcases hp with rfl | rfl | rfl | rfl
   ·exact ⟨by simp [fromK],by simp only; omega⟩
   ·exact ⟨by simp [toK],by simp only; omega⟩
   ·exact ⟨by simp [callK],by simp only; omega⟩
   ·exact ⟨by simp [cseqK],by simp only; omega⟩
  ·have:=hm p hp
   exact ⟨by omega,by omega⟩
theorem ownH_ne {w:World} {B b:Nat} {v:Value} {hs:List Hdr} {cs:Array Value} (h:OwnH w B v hs) (hr:w.heap[b]? = some (.cells cs 9 (0,0))):v.ownBlock ≠ some b:=by
 rcases h.2 with ⟨rfl,_⟩ | ⟨g,cap,cur,rfl,_,hg,_⟩
 ·simp [Value.ownBlock]
 ·simp only [Value.ownBlock,ne_eq,Option.some.injEq];rintro rfl;rw [hr] at hg
  simp at hg
def nmK:Nat → List UInt8 | 0=>rViaK | 1=>fromK | 2=>toK | 3=>callK | _=>cseqK
def hdrR (nm en v:List UInt8):Hdr:=⟨nm,if (nm==toK)=true then v++en else v⟩
def repK (m:Ms) (en:List UInt8) (k:Nat):List Hdr:=(List.range k).flatMap fun j=>(allV m (nmK j)).map (hdrR (nmK j) en)
theorem repK_next (m:Ms) (en:List UInt8) (k:Nat):repK m en (k+1)=repK m en k++(allV m (nmK k)).map (hdrR (nmK k) en):=by
 unfold repK;rw [List.range_succ,List.flatMap_append]
 simp
def repA:Array Value:=#[.string ⟨#[86,105,97]⟩,.string ⟨#[70,114,111,109]⟩,.string ⟨#[84,111]⟩,.string ⟨#[67,97,108,108,45,73,68]⟩,.string ⟨#[67,83,101,113]⟩]
theorem rep_index0 (u:World):(Instr.index 135 (.agg repA) (.int .i64 0)).run Tryz.prog u=.ok (.string ⟨#[86,105,97]⟩) u:=by kernel_rfl
theorem rep_index1 (u:World):(Instr.index 135 (.agg repA) (.int .i64 1)).run Tryz.prog u=.ok (.string ⟨#[70,114,111,109]⟩) u:=by kernel_rfl
theorem rep_index2 (u:World):(Instr.index 135 (.agg repA) (.int .i64 2)).run Tryz.prog u=.ok (.string ⟨#[84,111]⟩) u:=by kernel_rfl
theorem rep_index3 (u:World):(Instr.index 135 (.agg repA) (.int .i64 3)).run Tryz.prog u=.ok (.string ⟨#[67,97,108,108,45,73,68]⟩) u:=by kernel_rfl
theorem rep_index4 (u:World):(Instr.index 135 (.agg repA) (.int .i64 4)).run Tryz.prog u=.ok (.string ⟨#[67,83,101,113]⟩) u:=by kernel_rfl
theorem rep_index (k:Nat) (hk:k < 5) (u:World):(Instr.index 135 (.agg repA) (.int .i64 k)).run Tryz.prog u=.ok (.string ⟨(nmK k).toArray⟩) u:=by
 rcases (show k=0∨k=1∨k=2∨k=3∨k=4 by omega) with rfl | rfl | rfl | rfl | rfl
 ·exact rep_index0 u
 ·exact rep_index1 u
 ·exact rep_index2 u
 ·exact rep_index3 u
 ·exact rep_index4 u
theorem Own.grownH {w w':World} {B C:Nat} {x v:Value} {hs:List Hdr} {xs:List Value} (ho:OwnH w B x hs) (h:Own w C 9 v xs) (hg:w.grownBy w' x.ownBlock):Own w' C 9 v xs:=by
 obtain ⟨h1,h2⟩:=h;refine ⟨h1,?_⟩
 rcases h2 with h2 | ⟨g,cap,cur,hv,hb,hh,r⟩
 ·exact Or.inl h2
 ·exact Or.inr ⟨g,cap,cur,hv,hb,by rw [hg.block g (Array.getElem?_eq_some_iff.1 hh).1 (fun e=>ownH_ne ho hh e.symm)]; exact hh,r⟩
theorem nmK_len (k:Nat):(nmK k).length≤1000:=by
 match k with
 | 0=>decide
 | 1=>decide
 | 2=>decide
 | 3=>decide
 | k+4=>show cseqK.length≤1000; decide
theorem allV_len (m:Ms) (nm:List UInt8):(allV m nm).length≤m.headers.length:=by unfold allV; rw [List.length_map]; exact List.length_filter_le _ _
theorem repK_len (m:Ms) (en:List UInt8) (k:Nat):(repK m en k).length≤k * m.headers.length:=by
 induction k with
 | zero=>simp [repK]
 | succ k ih =>
  rw [repK_next,List.length_append,List.length_map]
  have:=allV_len m (nmK k)
  rw [Nat.succ_mul];omega
set_option maxHeartbeats 4000000 in
set_option maxRecDepth 100000 in
theorem repeated_any (m:Ms) (h:Value) (en:List UInt8) (w:World) (hsm:SmallM 1048576 m) (hhl:m.headers.length≤100000) (hel:en.length≤2097152) (hat:HdrsAt w h m.headers) :
  Calls Tryz.prog 45 #[msgV m h,.string ⟨en.toArray⟩] w fun e w'=>∃ v,e=.returned v∧OwnH w' w.heap.size v (repK m en 5)∧Below w.heap.size w w':=by
 obtain ⟨i0,hi,hz0,hz1,hz2⟩:=info_parts infoHdr;have KA:=hid (fun k w' (hb:Below w.heap.size w w')=>fall_any m h (nmK k) w' (hsm.le (by omega)) (by omega) (by have:=nmK_len k; omega) (hat.below hb));have HVL:=hid (fun k=>all_small hsm (nmK k));have HAL:=hid (fun k=>allV_len m (nmK k));have HRL:=hid (fun k=>repK_len m en k);have HRN:=hid (fun k=>repK_next m en k);have HBX:=hid (boxM_new w m h);have hb0:Below w.heap.size w (w.alloc (objM m h)):=(Below.refl _ w).alloc (Nat.le_refl _) _;obtain ⟨ah,ch,rfl⟩:=hat.form;have HR0:Hid (repK m en 0=[]):=show _=_ from rfl
 generalize repK m en=RK at HRL HRN HR0 ⊢;have hMX:Hid (∃ N,m.headers.length=N∧N≤100000):=⟨_,rfl,hhl⟩
 obtain ⟨N,hN,hNl⟩:=hMX.out;rw [hN] at HAL HRL;obtain ⟨VS,hVS⟩:∃ VS:Nat → List (List UInt8),(fun k=>allV m (nmK k))=VS:=⟨_,rfl⟩
 have hVS':∀ k,allV m (nmK k)=VS k:=fun k=>congrFun hVS k;simp only [hVS'] at KA HVL HAL HRN;clear hsm hhl hat hMX hN hVS hVS';obtain ⟨me,ta,st,re,hs,bo⟩:=m;unfold msgV at KA ⊢;unfold objM at HBX hb0;simp only at KA HBX hb0 ⊢;have hl0:=alloc_lt w (.cells #[.string ⟨me.toArray⟩,.string ⟨ta.toArray⟩,.int .i64 st,.string ⟨re.toArray⟩,.slice ah hs.length ch,.string ⟨bo.toArray⟩] 24);obtain ⟨W1,hW1⟩:∃ W,W=w.alloc (.cells #[.string ⟨me.toArray⟩,.string ⟨ta.toArray⟩,.int .i64 st,.string ⟨re.toArray⟩,.slice ah hs.length ch,.string ⟨bo.toArray⟩] 24):=⟨_,rfl⟩
 rw [← hW1] at HBX hb0 hl0
 go_enter Tryz.func45,Tryz.ntmps45
 go_wp2
 go_loopw [5,11] (fun x i wr=>∃ (k:Nat),k≤5∧i=.int .i64 k∧Hid (OwnH wr W1.heap.size x (RK k))∧Hid (Below W1.heap.size W1 wr)) (fun _ i _=>5 - (intOf i).toNat)
 case atStart=>exact ⟨0,by omega,rfl,hid (by rw [HR0.out]; exact OwnH.nil _ _),hid (by rw [hW1]; exact Below.refl _ _)⟩
 case round =>
  clear hW1;obtain ⟨k,hk,rfl,HO,HB⟩:=hrel;have HX:=hid ((OwnH.hdrsAt HO.out).form);obtain ⟨xa,xc,hxe⟩:=HX.out;subst hxe;by_cases hlt:k < 5
  ·have hix:=rep_index k hlt;unfold repA at hix;have KAk:=hid (KA.out k);have hvl:=hid (HVL.out k);have hal:=HAL.out k;have hrl:=HRL.out k;have HRNk:=hid (HRN.out k);have hrl2:(RK k).length≤5 * N:=Nat.le_trans hrl (Nat.mul_le_mul_right _ (by omega));clear HVL HAL HRL HRN hrl KA;generalize VS k=vals at KAk hvl hal HRNk;have hx0:=HBX.out.below HB.out hl0;have hbw:=hb0.trans (HB.out.mono hb0.size);obtain ⟨x0,x1,x2,x3,x4,x5⟩:=hx0;simp only at x0 x1 x2 x3 x4 x5;obtain ⟨nm,hnm⟩:∃ nm,nm=nmK k:=⟨_,rfl⟩
   rw [← hnm] at KAk HRNk;simp only [← hnm] at hix;have HNM:=hid hnm;clear hnm;go_wp2_with fail
   refine (KAk.out _ hbw).mono ?_
   rintro e w2 ⟨v0,rfl,hov,hw2⟩;have HO2:=hid (OwnH.below HO.out hw2);have HB2:=hid (HB.out.trans (hw2.mono HB.out.size));obtain ⟨va,vc,hve,_⟩:=hov.txts;subst hve;have HV2:=hid hov;obtain ⟨n2,hn2⟩:∃ n2,n2=vals.length:=⟨_,rfl⟩
   rw [← hn2] at hal ⊢;have HN2:=hid hn2;rw [← hn2] at HV2;obtain ⟨C2,hC2⟩:∃ C,C=wr.heap.size:=⟨_,rfl⟩
   rw [← hC2] at HV2;clear hn2 hov hw2 HO HB KAk x0 x1 x2 x3 x4 x5 hbw hC2;go_wp2
   go_loopw [5,18] (fun x i w'=>∃ (j:Nat),j≤n2∧i=.int .i64 j∧Hid (OwnH w' W1.heap.size x (RK k++(vals.take j).map (hdrR nm en)))∧Hid (Own w' C2 9 (.slice va n2 vc) (strs vals))∧Hid (Below W1.heap.size W1 w')) (fun _ i _=>n2 - (intOf i).toNat)
   case atStart=>exact ⟨0,by omega,rfl,by simpa using HO2,HV2,HB2⟩
   case round =>
    clear HO2 HV2 HB2;obtain ⟨j,hj,rfl,HO,HV,HB⟩:=hrel;have HY:=hid ((OwnH.hdrsAt HO.out).form);obtain ⟨ya,yc,hye⟩:=HY.out;obtain ⟨cur,hcur⟩:∃ c,RK k++(vals.take j).map (hdrR nm en)=c:=⟨_,rfl⟩
    have hcl:cur.length≤5 * N+n2:=by rw [← hcur,List.length_append,List.length_map,List.length_take]; omega
    rw [hcur] at HO hye;subst hye;by_cases hlt2:j < n2
    ·have hjl:j < vals.length:=by have:=HN2.out; omega
     obtain ⟨ao,cap,he,hcs⟩:=HV.out.txts;simp only [Value.slice.injEq] at he;obtain ⟨a,hao,hab,hcell⟩:=hcs j hjl;have hva:va=some a:=by rw [he.1,hao]
     subst hva;have hll:=hvl.out _ (List.getElem_mem hjl);have hnx:RK k++(vals.take (j+1)).map (hdrR nm en)=cur++[hdrR nm en vals[j]]:=by rw [← hcur,List.take_succ_eq_append_getElem hjl,List.map_append,← List.append_assoc]; rfl
     have HNX:=hid hnx;clear hnx he hcs hao hab hcur;generalize vals[j]=s at hcell hll HNX;have hsz:=HB.out.size
     cases hto:(nm==toK) with
     | false =>
      have HH:Hid (hdrR nm en s=⟨nm,s⟩):=show _=_ by unfold hdrR; rw [hto]; rfl
      rw [HH.out] at HNX;unfold toK at hto;have HNV:=hid (new_hdr wr ⟨nm,s⟩);have HOX:=hid (fun o=>OwnH.alloc HO.out o);have HVX:=hid (fun o=>Own.alloc HV.out o);have HBX2:=hid (fun o=>HB.out.alloc HB.out.size o);clear HH;go_wp2_with (at_builtin; refine wp_appH _ rfl (.tmp 27) (.tmp 31) 22 rfl W1.heap.size i0 _ Tryz.underlying22 hi hz0 hz1 hz2 rfl _ cur rfl (HOX.out _) ⟨_,0,none⟩ 1 ⟨nm,s⟩ rfl (by exact HNV.out _) (by omega) W1 (HBX2.out _) (by simp; omega) ?_; intro v5 w5 hown5 hb5 hg5 hB5)
      have HV5:=hid (Own.grownH (HOX.out _) (HVX.out _) hg5);rw [← HNX.out] at hown5;have HO5:=hid hown5;have HB5:=hid hb5;clear hown5 hb5 hg5;go_wp2;go_roundw
      case rel=>exact ⟨j+1,by omega,by go_num,HO5,HV5,HB5⟩
      case measure=>simp [intOf]; omega
     | true =>
      have HH:Hid (hdrR nm en s=⟨nm,s++en⟩):=show _=_ by unfold hdrR; rw [hto]; rfl
      rw [HH.out] at HNX;unfold toK at hto;have hcat:(⟨s.toArray⟩:ByteArray)++⟨en.toArray⟩=⟨(s++en).toArray⟩:=by rw [ByteArray.mk_append_mk]; try simp
      have hlim:¬ 9223372036854775807 < s.length+en.length:=by omega
      obtain ⟨se,hse⟩:∃ x,s++en=x:=⟨_,rfl⟩
      rw [hse] at hcat HNX;have HNV:=hid (new_hdr wr ⟨nm,se⟩);have HOX:=hid (fun o=>OwnH.alloc HO.out o);have HVX:=hid (fun o=>Own.alloc HV.out o);have HBX2:=hid (fun o=>HB.out.alloc HB.out.size o);clear HH hse;go_wp2_with (at_builtin; refine wp_appH _ rfl (.tmp 27) (.tmp 31) 22 rfl W1.heap.size i0 _ Tryz.underlying22 hi hz0 hz1 hz2 rfl _ cur rfl (HOX.out _) ⟨_,0,none⟩ 1 ⟨nm,se⟩ rfl (by exact HNV.out _) (by omega) W1 (HBX2.out _) (by simp; omega) ?_; intro v5 w5 hown5 hb5 hg5 hB5)
      have HV5:=hid (Own.grownH (HOX.out _) (HVX.out _) hg5);rw [← HNX.out] at hown5;have HO5:=hid hown5;have HB5:=hid hb5;clear hown5 hb5 hg5;go_wp2;go_roundw
      case rel=>exact ⟨j+1,by omega,by go_num,HO5,HV5,HB5⟩
      case measure=>simp [intOf]; omega
    ·have hjq:j=vals.length:=by have:=HN2.out; omega
     have hcu:cur=RK (k+1):=by rw [← hcur,hjq,List.take_length,HRNk.out]
     have HO6:Hid (OwnH wr W1.heap.size (.slice ya cur.length yc) (RK (k+1))):=show OwnH _ _ _ _ by
      have:=HO.out
      rw [hcu] at this ⊢;exact this
     clear hcu hcur HO HV;go_wp2;go_roundw
     case rel=>exact ⟨k+1,by omega,by go_num,HO6,HB⟩
     case measure=>simp [intOf]; omega
  ·have hk5:k=5:=by omega
   subst hk5;go_wp2;go_ret;exact ⟨_,rfl,OwnH.mono HO.out hb0.size,hb0.trans (HB.out.mono hb0.size)⟩
set_option maxHeartbeats 4000000 in
set_option maxRecDepth 100000 in
theorem creason_any (n:Int) (w:World) (h1:n≤9223372036854775807) (h0:-9223372036854775808≤n) :
  Calls Tryz.prog 17 #[.int .i64 n] w fun e w'=>e=.returned (.string ⟨(reasonV n).toArray⟩)∧Below w.heap.size w w':=by
 by_cases e0:n=200
 ·subst e0
  go_enter Tryz.func17,Tryz.ntmps17
  go_wp2;go_ret;exact ⟨rfl,Below.refl _ _⟩
 by_cases e1:n=202
 ·subst e1
  go_enter Tryz.func17,Tryz.ntmps17
  go_wp2;go_ret;exact ⟨rfl,Below.refl _ _⟩
 by_cases e2:n=400
 ·subst e2
  go_enter Tryz.func17,Tryz.ntmps17
  go_wp2;go_ret;exact ⟨rfl,Below.refl _ _⟩
 by_cases e3:n=403
 ·subst e3
  go_enter Tryz.func17,Tryz.ntmps17
  go_wp2;go_ret;exact ⟨rfl,Below.refl _ _⟩
 by_cases e4:n=404
 ·subst e4
  go_enter Tryz.func17,Tryz.ntmps17
  go_wp2;go_ret;exact ⟨rfl,Below.refl _ _⟩
 by_cases e5:n=405
 ·subst e5
  go_enter Tryz.func17,Tryz.ntmps17
  go_wp2;go_ret;exact ⟨rfl,Below.refl _ _⟩
 by_cases e6:n=406
 ·subst e6
  go_enter Tryz.func17,Tryz.ntmps17
  go_wp2;go_ret;exact ⟨rfl,Below.refl _ _⟩
 by_cases e7:n=412
 ·subst e7
  go_enter Tryz.func17,Tryz.ntmps17
  go_wp2;go_ret;exact ⟨rfl,Below.refl _ _⟩
 by_cases e8:n=415
 ·subst e8
  go_enter Tryz.func17,Tryz.ntmps17
  go_wp2;go_ret;exact ⟨rfl,Below.refl _ _⟩
 by_cases e9:n=423
 ·subst e9
  go_enter Tryz.func17,Tryz.ntmps17
  go_wp2;go_ret;exact ⟨rfl,Below.refl _ _⟩
 by_cases e10:n=481
 ·subst e10
  go_enter Tryz.func17,Tryz.ntmps17
  go_wp2;go_ret;exact ⟨rfl,Below.refl _ _⟩
 by_cases e11:n=489
 ·subst e11
  go_enter Tryz.func17,Tryz.ntmps17
  go_wp2;go_ret;exact ⟨rfl,Below.refl _ _⟩
 by_cases e12:n=500
 ·subst e12
  go_enter Tryz.func17,Tryz.ntmps17
  go_wp2;go_ret;exact ⟨rfl,Below.refl _ _⟩
 by_cases e13:n=503
 ·subst e13
  go_enter Tryz.func17,Tryz.ntmps17
  go_wp2;go_ret;exact ⟨rfl,Below.refl _ _⟩
 have HR:Hid (reasonV n=statusK++digI n):=show _=_ by
  rw [reason_no ?_]
  ·rfl
  ·intro k hk e
   match k,hk with
   | 0,_=>exact e0 e.symm
   | 1,_=>exact e1 e.symm
   | 2,_=>exact e2 e.symm
   | 3,_=>exact e3 e.symm
   | 4,_=>exact e4 e.symm
   | 5,_=>exact e5 e.symm
   | 6,_=>exact e6 e.symm
   | 7,_=>exact e7 e.symm
   | 8,_=>exact e8 e.symm
   | 9,_=>exact e9 e.symm
   | 10,_=>exact e10 e.symm
   | 11,_=>exact e11 e.symm
   | 12,_=>exact e12 e.symm
   | 13,_=>exact e13 e.symm
   | k+14,h=>exact absurd h (by omega)
 have d0:(n==200)=false:=by simpa using e0
 have d1:(n==202)=false:=by simpa using e1
 have d2:(n==400)=false:=by simpa using e2
 have d3:(n==403)=false:=by simpa using e3
 have d4:(n==404)=false:=by simpa using e4
 have d5:(n==405)=false:=by simpa using e5
 have d6:(n==406)=false:=by simpa using e6
 have d7:(n==412)=false:=by simpa using e7
 have d8:(n==415)=false:=by simpa using e8
 have d9:(n==423)=false:=by simpa using e9
 have d10:(n==481)=false:=by simpa using e10
 have d11:(n==489)=false:=by simpa using e11
 have d12:(n==500)=false:=by simpa using e12
 have d13:(n==503)=false:=by simpa using e13
 have hdl:(digI n).length≤20:=by
  unfold digI
  split
  ·decide
  ·have:=digL_len19 (n:=n.toNat) (by omega); omega
 clear e0 e1 e2 e3 e4 e5 e6 e7 e8 e9 e10 e11 e12 e13;have KD:=hid (fun w'=>digits_i64 n w' h0 h1);generalize reasonV n=R at HR ⊢;generalize digI n=ds at KD HR hdl;have hcat:(⟨#[83,116,97,116,117,115,32]⟩:ByteArray)++⟨ds.toArray⟩=⟨R.toArray⟩:=by
  rw [HR.out];have e0:(⟨#[83,116,97,116,117,115,32]⟩:ByteArray)=⟨[83,116,97,116,117,115,32].toArray⟩:=rfl;rw [e0,ByteArray.mk_append_mk]
  simp [statusK]
 go_enter Tryz.func17,Tryz.ntmps17
 go_wp2_with fail
 refine (KD.out _).mono ?_
 rintro e w3 ⟨rfl,hw3⟩;have hlim:¬ 9223372036854775807 < 7+ds.length:=by omega
 go_wp2;go_ret;exact ⟨rfl,hw3⟩
structure Upd (b:Nat) (c:RqC) (w w':World):Prop where
 os:w'.os=w.os
 tape:w'.tape=w.tape
 output:w'.output=w.output
 size:w.heap.size≤w'.heap.size
 block:∀ k,k < w.heap.size → k ≠ b → w'.heap[k]? = w.heap[k]?
 row:RowIs w' b 37 (rqCells c)
section
variable {b B : Nat} {c c' : RqC} {w0 w w' w'' : World}
theorem row_lt {e:TypeId} {l:List Value} (h:RowIs w b e l):b < w.heap.size:=(Array.getElem?_eq_some_iff.1 h).1
theorem Upd.of (h:RowIs w b 37 (rqCells c)) (hb:Below w.heap.size w w'):Upd b c w w' :=
 ⟨hb.os,hb.tape,hb.output,hb.size,fun k hk _=>hb.block k hk,h.below hb (row_lt h)⟩
theorem Upd.refl (h:RowIs w b 37 (rqCells c)):Upd b c w w:=Upd.of h (Below.refl _ _)
theorem Upd.below (h:Upd b c w w') (hb:Below w'.heap.size w' w''):Upd b c w w'' :=
 ⟨hb.os.trans h.os,hb.tape.trans h.tape,hb.output.trans h.output,Nat.le_trans h.size hb.size,fun k hk hn=>(hb.block k (Nat.lt_of_lt_of_le hk h.size)).trans (h.block k hk hn),h.row.below hb (row_lt h.row)⟩
theorem Upd.trans (h:Upd b c w w') (k:Upd b c' w' w''):Upd b c' w w'' :=
 ⟨k.os.trans h.os,k.tape.trans h.tape,k.output.trans h.output,Nat.le_trans h.size k.size,fun j hj hn=>(k.block j (Nat.lt_of_lt_of_le hj h.size) hn).trans (h.block j hj hn),k.row⟩
theorem Upd.after (h:Below w.heap.size w w') (k:Upd b c w' w''):Upd b c w w'' :=
 ⟨k.os.trans h.os,k.tape.trans h.tape,k.output.trans h.output,Nat.le_trans h.size k.size,fun j hj hn=>(k.block j (Nat.lt_of_lt_of_le hj h.size) hn).trans (h.block j hj),k.row⟩
theorem Upd.put (h:Upd b c w w') (k:Nat) (x:Value) (hc:(rqCells c).set k x=rqCells c'):Upd b c' w (w'.setCell ⟨b,k,none⟩ x):=by
 have hr:=h.row.set k x;rw [hc] at hr;exact ⟨h.os,h.tape,h.output,by simpa [World.setCell] using h.size,fun j hj hn=>by rw [Below.heap_setCell _ _ _ _ (by simpa using hn)]; exact h.block j hj hn,hr⟩
theorem Upd.outer (h:Upd b c w w') (h0:Below B w0 w) (hB:B≤b) (hs:B≤w.heap.size):Below B w0 w' :=
 ⟨h.os.trans h0.os,h.tape.trans h0.tape,h.output.trans h0.output,Nat.le_trans h0.size h.size,fun k hk=>(h.block k (by omega) (by omega)).trans (h0.block k hk)⟩
theorem Upd.outer0 (h:Upd b c w w') (h0:Below w0.heap.size w0 w) (hB:w0.heap.size≤b):Below w0.heap.size w0 w':=h.outer h0 hB h0.size
theorem ownsRow_upd {e:TypeId} {k n:Nat} {v:Value} {xs:List Value} (h:w.ownsRow B e k v n xs) (hu:Upd b c w w') (hlt:b < B):w'.ownsRow B e k v n xs:=by
 obtain ⟨h1,h2⟩:=h;refine ⟨h1,?_⟩
 rcases h2 with h2 | ⟨g,cap,cur,hv,hg,hh,r⟩
 ·exact Or.inl h2
 ·exact Or.inr ⟨g,cap,cur,hv,hg,by rw [hu.block g (Array.getElem?_eq_some_iff.1 hh).1 (by omega)]; exact hh,r⟩
theorem OwnP.upd {v:Value} {ps:List Par} (h:OwnP w B v ps) (hu:Upd b c w w') (hlt:b < B):OwnP w' B v ps:=ownsRow_upd h hu hlt
theorem Own.upd {e:TypeId} {v:Value} {xs:List Value} (h:Own w B e v xs) (hu:Upd b c w w') (hlt:b < B):Own w' B e v xs:=ownsRow_upd h hu hlt
theorem AdrC.Own.upd {a:AdrC} (h:a.Own w B) (hu:Upd b c w w') (hlt:b < B):a.Own w' B:=⟨OwnP.upd h.1 hu hlt,OwnP.upd h.2.1 hu hlt,OwnP.upd h.2.2 hu hlt⟩
theorem OwnA.upd {v:Value} {cs:List AdrC} (h:OwnA w B v cs) (hu:Upd b c w w') (hlt:b < B):OwnA w' B v cs:=⟨ownsRow_upd h.1 hu hlt,fun a ha=>(h.2 a ha).upd hu hlt⟩
theorem BoxM.upd {g:Nat} {m:Ms} {h:Value} (k:BoxM w g m h) (hu:Upd b c w w') (hg:g < w.heap.size) (hn:g ≠ b):BoxM w' g m h:=by
 have e:∀ j,w'.cell? ⟨g,j,none⟩=w.cell? ⟨g,j,none⟩:=fun j=>World.cell?_of_block (hu.block g hg hn);unfold BoxM;rw [e,e,e,e,e,e]; exact k
theorem Upd.one {g:Nat} {o:Obj} (hu:Upd b c w w') (h:w.heap[g]? = some o) (hn:g ≠ b):w'.heap[g]? = some o:=by
 rw [hu.block g (Array.getElem?_eq_some_iff.1 h).1 hn]; exact h
theorem Below.one {g:Nat} {o:Obj} (hb:Below w.heap.size w w') (h:w.heap[g]? = some o):w'.heap[g]? = some o:=by
 rw [hb.block g (Array.getElem?_eq_some_iff.1 h).1]; exact h
end
def set8r (w:World) (b o:Nat) (a:AdrC):World :=
 (((((((w.setCell ⟨b,o,none⟩ (.string ⟨a.a.display.toArray⟩)).setCell ⟨b,o+1,none⟩ (.string ⟨a.a.uri.scheme.toArray⟩)).setCell ⟨b,o+2,none⟩ (.string ⟨a.a.uri.user.toArray⟩)).setCell ⟨b,o+3,none⟩ (.string ⟨a.a.uri.host.toArray⟩)).setCell ⟨b,o+4,none⟩ (.int .i64 a.a.uri.port)).setCell ⟨b,o+5,none⟩ a.p).setCell ⟨b,o+6,none⟩ a.h).setCell ⟨b,o+7,none⟩ a.q
def RqC.frmC (c:RqC) (a:AdrC):RqC:={ c with r:={ c.r with frm:=a.a },fp:=a.p,fh:=a.h,fq:=a.q }
def RqC.tooC (c:RqC) (a:AdrC):RqC:={ c with r:={ c.r with too:=a.a },op:=a.p,oh:=a.h,oq:=a.q }
def RqC.hop (c:RqC) (b s:List UInt8):RqC:={ c with r:={ c.r with branch:=b,sentBy:=s } }
def RqC.cid (c:RqC) (s:List UInt8):RqC:={ c with r:={ c.r with callID:=s } }
def RqC.seqC (c:RqC) (n:Int):RqC:={ c with r:={ c.r with seq:=n } }
section
variable {b : Nat} {c : RqC} {w w' : World}
theorem Upd.frm (h:Upd b c w w') (a:AdrC):Upd b (c.frmC a) w (set8r w' b 9 a):=by
 have H1:=h.put (c':={ c with r:={ c.r with frm:=⟨a.a.display,c.r.frm.uri,c.r.frm.params⟩ } }) 9 (.string ⟨a.a.display.toArray⟩) rfl;have H2:=H1.put (c':={ c with r:={ c.r with frm:=⟨a.a.display,⟨a.a.uri.scheme,c.r.frm.uri.user,c.r.frm.uri.host,c.r.frm.uri.port,c.r.frm.uri.params,c.r.frm.uri.headers⟩,c.r.frm.params⟩ } }) 10 (.string ⟨a.a.uri.scheme.toArray⟩) rfl;have H3:=H2.put (c':={ c with r:={ c.r with frm:=⟨a.a.display,⟨a.a.uri.scheme,a.a.uri.user,c.r.frm.uri.host,c.r.frm.uri.port,c.r.frm.uri.params,c.r.frm.uri.headers⟩,c.r.frm.params⟩ } }) 11 (.string ⟨a.a.uri.user.toArray⟩) rfl;have H4:=H3.put (c':={ c with r:={ c.r with frm:=⟨a.a.display,⟨a.a.uri.scheme,a.a.uri.user,a.a.uri.host,c.r.frm.uri.port,c.r.frm.uri.params,c.r.frm.uri.headers⟩,c.r.frm.params⟩ } }) 12 (.string ⟨a.a.uri.host.toArray⟩) rfl;have H5:=H4.put (c':={ c with r:={ c.r with frm:=⟨a.a.display,⟨a.a.uri.scheme,a.a.uri.user,a.a.uri.host,a.a.uri.port,c.r.frm.uri.params,c.r.frm.uri.headers⟩,c.r.frm.params⟩ } }) 13 (.int .i64 a.a.uri.port) rfl;have H6:=H5.put (c':={ c with r:={ c.r with frm:=⟨a.a.display,⟨a.a.uri.scheme,a.a.uri.user,a.a.uri.host,a.a.uri.port,c.r.frm.uri.params,c.r.frm.uri.headers⟩,c.r.frm.params⟩ },fp:=a.p }) 14 a.p rfl;have H7:=H6.put (c':={ c with r:={ c.r with frm:=⟨a.a.display,⟨a.a.uri.scheme,a.a.uri.user,a.a.uri.host,a.a.uri.port,c.r.frm.uri.params,c.r.frm.uri.headers⟩,c.r.frm.params⟩ },fp:=a.p,fh:=a.h }) 15 a.h rfl;exact H7.put (c':=c.frmC a) 16 a.q rfl
theorem Upd.too (h:Upd b c w w') (a:AdrC):Upd b (c.tooC a) w (set8r w' b 17 a):=by
 have H1:=h.put (c':={ c with r:={ c.r with too:=⟨a.a.display,c.r.too.uri,c.r.too.params⟩ } }) 17 (.string ⟨a.a.display.toArray⟩) rfl;have H2:=H1.put (c':={ c with r:={ c.r with too:=⟨a.a.display,⟨a.a.uri.scheme,c.r.too.uri.user,c.r.too.uri.host,c.r.too.uri.port,c.r.too.uri.params,c.r.too.uri.headers⟩,c.r.too.params⟩ } }) 18 (.string ⟨a.a.uri.scheme.toArray⟩) rfl;have H3:=H2.put (c':={ c with r:={ c.r with too:=⟨a.a.display,⟨a.a.uri.scheme,a.a.uri.user,c.r.too.uri.host,c.r.too.uri.port,c.r.too.uri.params,c.r.too.uri.headers⟩,c.r.too.params⟩ } }) 19 (.string ⟨a.a.uri.user.toArray⟩) rfl;have H4:=H3.put (c':={ c with r:={ c.r with too:=⟨a.a.display,⟨a.a.uri.scheme,a.a.uri.user,a.a.uri.host,c.r.too.uri.port,c.r.too.uri.params,c.r.too.uri.headers⟩,c.r.too.params⟩ } }) 20 (.string ⟨a.a.uri.host.toArray⟩) rfl;have H5:=H4.put (c':={ c with r:={ c.r with too:=⟨a.a.display,⟨a.a.uri.scheme,a.a.uri.user,a.a.uri.host,a.a.uri.port,c.r.too.uri.params,c.r.too.uri.headers⟩,c.r.too.params⟩ } }) 21 (.int .i64 a.a.uri.port) rfl;have H6:=H5.put (c':={ c with r:={ c.r with too:=⟨a.a.display,⟨a.a.uri.scheme,a.a.uri.user,a.a.uri.host,a.a.uri.port,c.r.too.uri.params,c.r.too.uri.headers⟩,c.r.too.params⟩ },op:=a.p }) 22 a.p rfl;have H7:=H6.put (c':={ c with r:={ c.r with too:=⟨a.a.display,⟨a.a.uri.scheme,a.a.uri.user,a.a.uri.host,a.a.uri.port,c.r.too.uri.params,c.r.too.uri.headers⟩,c.r.too.params⟩ },op:=a.p,oh:=a.h }) 23 a.h rfl;exact H7.put (c':=c.tooC a) 24 a.q rfl
theorem Upd.tgt (h:Upd b c w w') (u:Uri) (p q:Value):Upd b (c.tgt u p q) w (set16 w' b u p q):=by
 have H1:=h.put (c':={ c with r:={ c.r with target:={ c.r.target with scheme:=u.scheme } } }) 1 (.string ⟨u.scheme.toArray⟩) rfl;have H2:=H1.put (c':={ c with r:={ c.r with target:={ c.r.target with scheme:=u.scheme,user:=u.user } } }) 2 (.string ⟨u.user.toArray⟩) rfl;have H3:=H2.put (c':={ c with r:={ c.r with target:={ c.r.target with scheme:=u.scheme,user:=u.user,host:=u.host } } }) 3 (.string ⟨u.host.toArray⟩) rfl;have H4:=H3.put (c':={ c with r:={ c.r with target:={ c.r.target with scheme:=u.scheme,user:=u.user,host:=u.host,port:=u.port } } }) 4 (.int .i64 u.port) rfl;have H5:=H4.put (c':={ c with r:={ c.r with target:=⟨u.scheme,u.user,u.host,u.port,u.params,c.r.target.headers⟩ },tp:=p }) 5 p rfl;exact H5.put (c':=c.tgt u p q) 6 q rfl
theorem Upd.hop (h:Upd b c w w') (x y:List UInt8):Upd b (c.hop x y) w ((w'.setCell ⟨b,7,none⟩ (.string ⟨x.toArray⟩)).setCell ⟨b,8,none⟩ (.string ⟨y.toArray⟩)) :=
 (h.put (c':={ c with r:={ c.r with branch:=x } }) 7 _ rfl).put (c':=c.hop x y) 8 _ rfl
theorem Upd.cid (h:Upd b c w w') (s:List UInt8):Upd b (c.cid s) w (w'.setCell ⟨b,27,none⟩ (.string ⟨s.toArray⟩)):=h.put 27 _ rfl
theorem Upd.seq (h:Upd b c w w') (n:Int):Upd b (c.seqC n) w (w'.setCell ⟨b,28,none⟩ (.int .i64 n)):=h.put 28 _ rfl
theorem Upd.exp (h:Upd b c w w') (t:Int):Upd b (c.exp t) w (w'.setCell ⟨b,29,none⟩ (.int .i64 t)):=h.put 29 _ rfl
theorem Upd.typ (h:Upd b c w w') (t:List UInt8):Upd b (c.typ t) w (w'.setCell ⟨b,35,none⟩ (.string ⟨t.toArray⟩)):=h.put 35 _ rfl
theorem Upd.mat (h:Upd b c w w') (t:List UInt8):Upd b (c.mat t) w (w'.setCell ⟨b,36,none⟩ (.string ⟨t.toArray⟩)):=h.put 36 _ rfl
theorem Upd.con (h:Upd b c w w') (l:List Adr) (v:Value):Upd b (c.con l v) w (w'.setCell ⟨b,32,none⟩ v):=h.put 32 _ rfl
theorem Upd.evt (h:Upd b c w w') (e:Ev) (v:Value):Upd b (c.evt e v) w ((w'.setCell ⟨b,30,none⟩ (.string ⟨e.name.toArray⟩)).setCell ⟨b,31,none⟩ v) :=
 (h.put (c':={ c with r:={ c.r with event:=⟨e.name,c.r.event.params⟩ } }) 30 _ rfl).put (c':=c.evt e v) 31 _ rfl
theorem Upd.rou (h:Upd b c w w') (l:List (List UInt8)) (v:Value):Upd b (c.rou l v) w (w'.setCell ⟨b,33,none⟩ v):=h.put 33 _ rfl
theorem Upd.acc (h:Upd b c w w') (l:List (List UInt8)) (v:Value):Upd b (c.acc l v) w (w'.setCell ⟨b,34,none⟩ v):=h.put 34 _ rfl
end
end Go.Proofs.YtiogedceommcoaaGreatDoor
namespace Go.Proofs.YtiogedceommcoaaGreatDoor
open Go.RowKit Go.Sort Sc
theorem hindex_word:∀ l:List UInt8,Lib.indexAny l blkL=if wordN l=l.length then -1 else (wordN l:Int)
 | []=>rfl
 | b :: l=>by
  have ih:=hindex_word l;have hle:=hword_le l;have hb:=blkL_is b;rw [Lib.indexAny,hb,hword_cons,ih]
  cases hk:blk b with
  | true=>simp
  | false =>
   simp only [Bool.false_eq_true,if_false,List.length_cons];by_cases he:wordN l=l.length
   ·have he2:wordN l+1=l.length+1:=by omega
    simp [he,he2]
   ·have he2:¬ wordN l+1=l.length+1:=by omega
    have h3:((wordN l:Int)==-1)=false:=by simp
    simp only [he,he2,if_false,h3]
    simp
theorem hindex_of (l:List UInt8) (w:World) (hl:l.length≤140737488355328) :
  Calls Tryz.prog 160 #[.string ⟨l.toArray⟩,.string ⟨#[32,9]⟩] w fun e w'=>e=.returned (.int .i64 (if wordN l=l.length then -1 else (wordN l:Int)))∧Below w.heap.size w w':=by
 have z:=size_list l;rw [← hindex_word];by_cases h8:(⟨l.toArray⟩:ByteArray).size≤8
 ·exact bindexAny_short ⟨l.toArray⟩ w h8
 ·exact bindexAny_long ⟨l.toArray⟩ w (by omega) (by omega)
theorem hnumber_list (l:List UInt8) (w:World) (h:l.length≤140737488355328) :
  Calls Tryz.prog 116 #[.string ⟨l.toArray⟩,.int .i64 2147483647] w fun e w'=>e=.returned (.tuple #[.int .i64 (numV maxS l).1,.int .i64 (numV maxS l).2])∧w'=w:=number_any ⟨l.toArray⟩ 2147483647 w (by rw [size_list]; unfold maxLen; omega) (by omega) (by omega)
theorem hcutS_of {r a b:List UInt8} {f:Bool} {c:UInt8} (h:cutL c r=(a,b,f)) (w:World) (hs:r.length≤9223372036854775807) :
  Calls Tryz.prog 120 #[.string ⟨r.toArray⟩,.string ⟨#[c]⟩] w fun e w'=>e=.returned (.tuple #[.string ⟨a.toArray⟩,.string ⟨b.toArray⟩,.bool f])∧Below w.heap.size w w':=by
 have k:=strCut_any ⟨r.toArray⟩ c w (by rw [size_list]; exact hs);have e:cutL c (⟨r.toArray⟩:ByteArray).data.toList=(a,b,f):=h;rw [e] at k;refine k.mono ?_
 rintro e w' ⟨rfl,q,rfl⟩;exact ⟨rfl,below_drewN w q⟩
set_option maxHeartbeats 1000000 in
set_option maxRecDepth 100000 in
theorem hcut_any (t:List UInt8) (w:World) (hs:t.length≤140737488355328) :
  Calls Tryz.prog 115 #[.string ⟨t.toArray⟩] w fun e w'=>e=.returned (.tuple #[.string ⟨(t.take (wordN t)).toArray⟩,.string ⟨(trimL (t.drop (wordN t))).toArray⟩])∧Below w.heap.size w w':=by
 have KI:=hid (fun w'=>hindex_of t w' hs);have hle:=hword_le t;have htk:=htake_ext t (wordN t);have hdr:=hdrop_ext t (wordN t);have KT:=hid (fun w'=>trim_list (t.drop (wordN t)) w' (by simp; omega));have HF:Hid (wordN t=t.length → t.take (wordN t)=t∧trimL (t.drop (wordN t))=[]):=fun h=>by rw [h]; simp [trimL]
 have hz:=size_list t;generalize wordN t=n at KI hle htk hdr KT HF ⊢;generalize t.take n=tk at htk HF ⊢;generalize t.drop n=td at hdr KT HF ⊢;generalize trimL td=m at KT HF ⊢;by_cases hn:n=t.length
 ·rw [if_pos hn] at KI;obtain ⟨h1,h2⟩:=HF.out hn;subst h1 h2;clear HF htk hdr KT hn
  go_enter Tryz.func115,Tryz.ntmps115
  go_wp2_with fail
  refine (KI.out _).mono ?_
  rintro e w1 ⟨rfl,hw1⟩;go_wp2;go_ret2;exact ⟨rfl,hw1⟩
 ·rw [if_neg hn] at KI;have hlt:n < t.length:=by omega
  have d0:decide ((n:Int) < 0)=false:=decide_eq_false (by omega);have hdr2:(⟨t.toArray⟩:ByteArray).extract n t.length=⟨td.toArray⟩:=by rw [← hdr,size_list]
  clear HF
  go_enter Tryz.func115,Tryz.ntmps115
  go_wp2_with fail
  refine (KI.out _).mono ?_
  rintro e w1 ⟨rfl,hw1⟩;have cT:=hid (fun (d:Nat) (os:Array Obj)=>Calls.regrown_of (KT.out (grow (redrawn w1 d) os)));clear KT KI;go_wp2;refine wp_region_quiet_below followsMixed5 (by kernel_rfl) ?_
  repeat (go_big_quiet_step (first | with_reducible exact cT.out _ _))
  refine wpQuiet_nil ?_
  intro _ hw';obtain ⟨⟨dq,osq⟩,hw''⟩:=hw';subst hw'';have hb1:=below_re5 hw1 dq osq;go_wp2;go_ret2;exact ⟨rfl,hb1⟩
set_option maxHeartbeats 1000000 in
set_option maxRecDepth 100000 in
theorem hseq_any (s:List UInt8) (w:World) (hs:s.length≤140737488355328) :
  Calls Tryz.prog 71 #[.string ⟨s.toArray⟩] w fun e w'=>e=.returned (.tuple #[.int .i64 (seqV s).1,.string ⟨(seqV s).2.1.toArray⟩,.int .i64 (seqV s).2.2])∧Below w.heap.size w w':=by
 have hts:=trimL_len s;have KT:=hid (fun w'=>trim_list s w' (by omega));have HV:=hid (seqV_is s);generalize seqV s=R at HV ⊢;generalize trimL s=t at KT HV hts;have hle:=hword_le t;have KC:=hid (fun w'=>hcut_any t w' (by omega));have hl1:(t.take (wordN t)).length≤140737488355328:=by simp; omega
 have hl2:(trimL (t.drop (wordN t))).length≤140737488355328:=Nat.le_trans (trimL_len _) (by simp; omega);generalize t.take (wordN t)=tk at HV KC hl1;generalize trimL (t.drop (wordN t))=m at HV KC hl2;have KN:=hid (fun w'=>hnumber_list tk w' hl1);have KK:=hid (fun w'=>token_list m w' hl2);generalize numV maxS tk=nv at HV KN;obtain ⟨vn,ve⟩:=nv;simp only at HV KN;clear hle hl1 hl2 hts
 go_enter Tryz.func71,Tryz.ntmps71
 go_wp2_with fail
 refine (KT.out _).mono ?_
 rintro e w1 ⟨rfl,hw1⟩;clear KT;go_wp2_with fail
 refine (KC.out _).mono ?_
 rintro e w2 ⟨rfl,hw2⟩;have hb2:=hw1.trans (hw2.mono hw1.size);clear KC hw1 hw2;go_wp2_with fail
 refine (KN.out _).mono ?_
 rintro e w3 ⟨rfl,hw3⟩;rw [hw3];clear KN hw3;by_cases hz:ve=0
 ·subst hz
  cases htok:tokenB m with
  | false =>
   have HR:Hid (R=(0,[],80)):=show _=_ by rw [HV.out,if_pos (Or.inr htok)]
   rw [htok] at KK;clear HV;go_wp2_with (go_at_call 44; refine (KK.out _).mono ?_; rintro e wx ⟨rfl,hwx⟩; rw [hwx])
   go_ret3
   exact ⟨ret_seq (m:=[]) HR.out,hb2⟩
  | true =>
   have HR:Hid (R=(vn,m,0)):=show _=_ by rw [HV.out,if_neg (by simp [htok])]
   rw [htok] at KK;clear HV;go_wp2_with (go_at_call 44; refine (KK.out _).mono ?_; rintro e wx ⟨rfl,hwx⟩; rw [hwx])
   go_ret3
   exact ⟨ret_seq HR.out,hb2⟩
 ·have HR:Hid (R=(0,[],80)):=show _=_ by rw [HV.out,if_pos (Or.inl hz)]
  have hne:(ve != 0)=true:=by simpa using hz
  clear HV;go_wp2;go_ret3
  exact ⟨ret_seq (m:=[]) HR.out,hb2⟩
set_option maxHeartbeats 1000000 in
set_option maxRecDepth 100000 in
theorem htime_any (s:List UInt8) (w:World) (hs:s.length≤140737488355328) :
  Calls Tryz.prog 127 #[.string ⟨s.toArray⟩] w fun e w'=>e=.returned (.tuple #[.int .i64 (timeV s).1,.int .i64 (timeV s).2])∧Below w.heap.size w w':=by
 have hts:=trimL_len s;have KT:=hid (fun w'=>trim_list s w' (by omega));have KN:=hid (fun w'=>hnumber_list (trimL s) w' (by omega));have HV:Hid (timeV s=if (numV maxS (trimL s)).2=9 then ((maxS:Int),0) else numV maxS (trimL s)):=show _=_ from rfl
 generalize timeV s=R at HV ⊢;generalize trimL s=t at KT KN HV hts;generalize numV maxS t=nv at KN HV;obtain ⟨n,e⟩:=nv;simp only at KN HV
 go_enter Tryz.func127,Tryz.ntmps127
 go_wp2_with fail
 refine (KT.out _).mono ?_
 rintro e1 w1 ⟨rfl,hw1⟩;go_wp2_with fail
 refine (KN.out _).mono ?_
 rintro e2 w2 ⟨rfl,hw2⟩;rw [hw2];clear hw2;by_cases h9:e=9
 ·subst h9;have HR:Hid (R=(2147483647,0)):=show _=_ by rw [HV.out,if_pos rfl]; rfl
  clear HV;go_wp2;go_ret2;exact ⟨by rw [HR.out]; rfl,hw1⟩
 ·have HR:Hid (R=(n,e)):=show _=_ by rw [HV.out,if_neg h9]
  have h9b:(e==9)=false:=by simpa using h9
  clear HV;go_wp2;go_ret2;exact ⟨by rw [HR.out]; rfl,hw1⟩
set_option maxHeartbeats 1000000 in
set_option maxRecDepth 100000 in
theorem hcall_any (s:List UInt8) (w:World) (hs:s.length≤140737488355328) :
  Calls Tryz.prog 69 #[.string ⟨s.toArray⟩] w fun e w'=>e=.returned (.bool (callB s))∧Below w.heap.size w w':=by
 have HN:=hid (fun k (hk:k < s.length) (h:visB1 s[k]=false)=>callB_bad hk h);have HS:=hid (fun (h:∀ b ∈ s,visB1 b=true)=>callB_good h);have H0:=hid (callB_is s);have hz:=size_list s;generalize callB s=R at HN HS H0 ⊢
 cases hem:s.isEmpty with
 | true =>
  have he:(s==[])=true:=by simpa using hem
  have HR:Hid (R=false):=show _=_ by
   have h0:s=[]:=by simpa using hem
   rw [H0.out,h0]; rfl
  clear HN HS H0
  go_enter Tryz.func69,Tryz.ntmps69
  go_wp2;go_ret;exact ⟨ret_bool HR.out.symm,Below.refl _ _⟩
 | false =>
  have he:(s==[])=false:=by cases s with | nil=>simp at hem | cons a b=>rfl
  have hpos:1≤s.length:=by cases s with | nil=>simp at hem | cons a b=>simp
  by_cases hlong:128 < s.length
  ·have hl2:decide ((128:Int) < (s.length:Int))=true:=decide_eq_true (by omega);have HR:Hid (R=false):=show _=_ by
    rw [H0.out,decide_eq_false (show ¬ s.length≤128 by omega)]; simp
   clear HN HS H0
   go_enter Tryz.func69,Tryz.ntmps69
   go_wp2;go_ret;exact ⟨ret_bool HR.out.symm,Below.refl _ _⟩
  ·have hl2:decide ((128:Int) < (s.length:Int))=false:=decide_eq_false (by omega);have HY:Hid ((∀ b ∈ s,visB1 b=true) → R=true):=fun h=>by
    rw [HS.out h,decide_eq_true hpos,decide_eq_true (show s.length≤128 by omega)]; rfl
   clear HS H0
   go_enter Tryz.func69,Tryz.ntmps69
   go_wp2
   go_loopw [13] (fun i wr=>∃ k:Nat,k≤s.length∧i=.int .i64 k∧Hid (∀ b ∈ s.take k,visB1 b=true)∧wr=w) (fun i _=>s.length - (intOf i).toNat)
   case atStart=>exact ⟨0,by omega,rfl,hid (by simp),rfl⟩
   case round =>
    obtain ⟨k,hk,rfl,HA,rfl⟩:=hrel;by_cases hlt:k < s.length
    ·have hk2:k < (⟨s.toArray⟩:ByteArray).size:=by rw [size_list]; exact hlt
     have hki:(k:Int) < (s.length:Int):=by omega
     have hge:(⟨s.toArray⟩:ByteArray)[k]'hk2=s[k]:=rfl;have hn:=HN.out k hlt;have htk:s.take (k+1)=s.take k++[s[k]]:=List.take_succ_eq_append_getElem hlt;have HTK:=hid htk;clear htk;generalize s[k]=x at hge hn HTK;have hxb:visB1 x=(decide (33≤x.toNat) && decide (x.toNat≤126)):=rfl;by_cases g1:(x.toNat:Int) < 33
     ·have HR:Hid (R=false):=hn (by rw [hxb]; simp; omega);have dg:decide ((x.toNat:Int) < 33)=true:=decide_eq_true g1;clear hn HTK hxb;go_wp2;go_ret;exact ⟨ret_bool HR.out.symm,Below.refl _ _⟩
     ·have dg:decide ((x.toNat:Int) < 33)=false:=decide_eq_false g1;by_cases g2:(126:Int) < (x.toNat:Int)
      ·have HR:Hid (R=false):=hn (by rw [hxb]; simp; omega);have dg2:decide ((126:Int) < (x.toNat:Int))=true:=decide_eq_true g2;clear hn HTK hxb;go_wp2;go_ret;exact ⟨ret_bool HR.out.symm,Below.refl _ _⟩
      ·have dg2:decide ((126:Int) < (x.toNat:Int))=false:=decide_eq_false g2;have hx:visB1 x=true:=by rw [hxb]; simp; omega
       have HA2:Hid (∀ b ∈ s.take (k+1),visB1 b=true):=fun b hb=>by
        rw [HTK.out] at hb
        rcases List.mem_append.1 hb with hb | hb
        ·exact HA.out b hb
        ·simp at hb; subst hb; exact hx
       clear hn HTK hxb hx;go_wp2;go_roundw
       case rel=>exact ⟨k+1,by omega,by go_num,HA2,by first | rfl | trivial⟩
       case measure=>simp [intOf]; omega
    ·have hall:∀ b ∈ s,visB1 b=true:=by
      have:=HA.out
      rw [List.take_of_length_le (by omega)] at this;exact this
     have HR:=hid (HY.out hall);clear hall;go_wp2;go_ret;exact ⟨ret_bool HR.out.symm,Below.refl _ _⟩
end Go.Proofs.YtiogedceommcoaaGreatDoor
namespace Go.Proofs.YtiogedceommcoaaGreatDoor
open Go.RowKit Sc
def PtrAt (w:World) (g b:Nat):Prop:=w.heap[g]? = some (.cells #[.pointer (some ⟨b,0,none⟩)] 60 (0,0))
def TxtAt (w:World) (g:Nat) (t:List UInt8):Prop:=w.heap[g]? = some (.cells #[.string ⟨t.toArray⟩] 9 (0,0))
theorem PtrAt.below {w w':World} {g b:Nat} (h:PtrAt w g b) (hb:Below w.heap.size w w'):PtrAt w' g b:=Below.one hb h
theorem TxtAt.below {w w':World} {g:Nat} {t:List UInt8} (h:TxtAt w g t) (hb:Below w.heap.size w w'):TxtAt w' g t:=Below.one hb h
theorem ptr_ne {w:World} {g b:Nat} {l:List Value} (h:PtrAt w g b) (hr:RowIs w b 37 l):g ≠ b:=by
 rintro rfl;unfold PtrAt at h;unfold RowIs at hr;rw [h] at hr
 simp at hr
theorem txt_ne {w:World} {g b:Nat} {t:List UInt8} {l:List Value} (h:TxtAt w g t) (hr:RowIs w b 37 l):g ≠ b:=by
 rintro rfl;unfold TxtAt at h;unfold RowIs at hr;rw [h] at hr
 simp at hr
theorem token_b (l:List UInt8) (w:World) (h:l.length≤140737488355328):Calls Tryz.prog 44 #[.string ⟨l.toArray⟩] w fun e w'=>e=.returned (.bool (tokenB l))∧Below w.heap.size w w':=(token_list l w h).mono (by rintro e w' ⟨rfl,rfl⟩; exact ⟨rfl,Below.refl _ _⟩)
theorem ptr_cell {w:World} {g b:Nat} (h:PtrAt w g b):w.cell? ⟨g,0,none⟩=some (.pointer (some ⟨b,0,none⟩)):=arr_cell h rfl
theorem txt_cell {w:World} {g:Nat} {t:List UInt8} (h:TxtAt w g t):w.cell? ⟨g,0,none⟩=some (.string ⟨t.toArray⟩):=arr_cell h rfl
end Go.Proofs.YtiogedceommcoaaGreatDoor
