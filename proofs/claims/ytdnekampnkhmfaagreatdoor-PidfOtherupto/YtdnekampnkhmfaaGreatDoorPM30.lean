/-
  RX6, RX12L, RX12.
-/
import Derived.Test.YtdnekampnkhmfaaGreatDoorPM06
set_option linter.unusedVariables false
set_option linter.unusedSimpArgs false
set_option maxRecDepth 20000
namespace Go.Proofs.YtdnekampnkhmfaaGreatDoor
open Go.RowKit Sc
theorem rover_at (s:ByteArray) (a:Nat) (i:Int) (hi:i=a) (w:World) (hs:s.size≤140737488355328) (ha:a≤s.size) :
  Calls Tryz.prog 78 #[.string s,.int .i64 i] w fun e w'=>e=.returned (.int .i64 (runL xblk s.data.toList a))∧w'=w:=by
 subst hi; exact rover_any s a w hs ha
theorem rupto_at (s:ByteArray) (a:Nat) (t:Array UInt8) (p:UInt8 → Bool) (i:Int) (hi:i=a) (hp:∀ b,(!hasL b t.toList)=p b) (w:World) (hs:s.size≤140737488355328) (ht:t.size≤100) (ha:a≤s.size) :
  Calls Tryz.prog 76 #[.string s,.int .i64 i,.string ⟨t⟩] w fun e w'=>e=.returned (.int .i64 (runL p s.data.toList a))∧w'=w:=by
 subst hi;have e:(fun b=>!hasL b t.toList)=p:=funext hp;have k:=rupto_any s ⟨t⟩ a w hs (by show t.size≤_; omega) ha;rw [← e]; exact k
theorem ris_at (s:ByteArray) (a:Nat) (t:Array UInt8) (i:Int) (hi:i=a) (w:World) (hs:s.size≤140737488355328) (ht:t.size≤100000000) (h0:0 < t.size) (ha:a≤s.size) :
  Calls Tryz.prog 75 #[.string s,.int .i64 i,.string ⟨t⟩] w fun e w'=>e=.returned (.bool (isAt s.data.toList a t.toList))∧w'=w:=by
 subst hi;exact ris_any s ⟨t⟩ a w hs (by show t.size≤_; omega) (by omega) (.inr ha)
theorem has_one (c b:UInt8):(!hasL b [c])=(b != c):=by
 simp only [hasL,List.contains_cons,List.contains_nil,Bool.or_false]; rfl
theorem has_two (c d b:UInt8):(!hasL b [c,d])=(b != c && b != d):=by
 simp only [hasL,List.contains_cons,List.contains_nil,Bool.or_false,Bool.not_or]; rfl
theorem ruptoQ (s:ByteArray) (a:Nat) (h:a < s.size) (w:World) (hs:s.size≤1048576) :
  Calls Tryz.prog 76 #[.string s,.int .i64 ((a:Int)+1),.string (⟨#[s[a]]⟩++⟨#[60]⟩)] w fun e w'=>e=.returned (.int .i64 (runL (fun b=>b != s[a] && b != 60) s.data.toList (a+1)))∧w'=w :=
 rupto_at s (a+1) #[s[a],60] _ _ (by omega) (has_two s[a] 60) w (by omega) (by simp) (by omega)
theorem risQ (s:ByteArray) (a u:Nat) (h:a < s.size) (w:World) (hs:s.size≤1048576) (hu:u≤s.size) :
  Calls Tryz.prog 75 #[.string s,.int .i64 u,.string ⟨#[s[a]]⟩] w fun e w'=>e=.returned (.bool (decide (s.data.toList[u]? = some s[a])))∧w'=w:=by
 have k:=ris_at s u #[s[a]] u rfl w (by omega) (by simp) (by simp) hu;rw [show isAt s.data.toList u #[s[a]].toList=decide (s.data.toList[u]? = some s[a]) from isAt_one] at k;exact k
theorem ext_mid (s:ByteArray) (a b:Nat):(s.data.toList.drop a).take (b - a)=(s.extract a b).data.toList:=by rw [ext_list]
set_option maxHeartbeats 8000000 in
set_option maxRecDepth 100000 in
theorem rattr_any (s:ByteArray) (k:Nat) (w:World) (hs:s.size≤1048576) (hk:k≤s.size) :
  Calls Tryz.prog 131 #[.string s,.int .i64 k] w fun e w'=>e=.returned (attrR (attrP s.data.toList k))∧Below w.heap.size w w':=by
 have hr0':=rc_row3 w (.string ⟨#[]⟩) (.string ⟨#[]⟩) (.bool false) 59;have hb0:Below w.heap.size w (w.alloc (.cells #[.string ⟨#[]⟩,.string ⟨#[]⟩,.bool false] 59)):=(Below.refl _ w).alloc (Nat.le_refl _) _;have hlt0:=alloc_lt w (.cells #[.string ⟨#[]⟩,.string ⟨#[]⟩,.bool false] 59);have KT:=hid (fun w'=>rupto_at s k #[61] (· != 61) (k:Int) rfl (has_one 61) w' (by omega) (by decide) hk);have ht:=run_le (p:=(· != 61)) (l:=s.data.toList) (k:=k) (by rw [len_data]; exact hk);rw [len_data] at ht;have HV:Hid (∃ t,t=runL (· != 61) s.data.toList k∧(t=s.size → attrP s.data.toList k=none)∧(t < s.size → ∃ a,a=runL xblk s.data.toList (t+1)∧(a=s.size → attrP s.data.toList k=none) ∧
   ((h:a < s.size) → (s[a] ≠ 34∧s[a] ≠ 39) → attrP s.data.toList k=none) ∧
   ((h:a < s.size) → ¬ (s[a] ≠ 34∧s[a] ≠ 39) → ¬ s.data.toList[runL (fun b=>b != s[a] && b != 60) s.data.toList (a+1)]? = some s[a] → attrP s.data.toList k=none) ∧
   ((h:a < s.size) → ¬ (s[a] ≠ 34∧s[a] ≠ 39) → s.data.toList[runL (fun b=>b != s[a] && b != 60) s.data.toList (a+1)]? = some s[a] → readX (s.extract (a+1) (runL (fun b=>b != s[a] && b != 60) s.data.toList (a+1))).data.toList=none → attrP s.data.toList k=none) ∧
   ((h:a < s.size) → ¬ (s[a] ≠ 34∧s[a] ≠ 39) → ∀ v,s.data.toList[runL (fun b=>b != s[a] && b != 60) s.data.toList (a+1)]? = some s[a] → readX (s.extract (a+1) (runL (fun b=>b != s[a] && b != 60) s.data.toList (a+1))).data.toList=some v → attrP s.data.toList k=some (⟨xbehind (s.extract k t).data.toList,v,true⟩,runL (fun b=>b != s[a] && b != 60) s.data.toList (a+1)+1)))):=by
  refine ⟨_,rfl,fun h=>?_,fun h=>⟨_,rfl,fun ha=>?_,fun ha hq=>?_,fun ha hq hn=>?_,fun ha hq hu hv=>?_,fun ha hq v hu hv=>?_⟩⟩
  ·unfold attrP; simp only; rw [if_pos (by rw [len_data]; exact h)]
  ·unfold attrP; simp only; rw [if_neg (by rw [len_data]; omega),List.getElem?_eq_none (by rw [len_data]; omega)]
  ·unfold attrP; simp only; rw [if_neg (by rw [len_data]; omega),getL s _ ha]; simp only; rw [if_pos hq]
  ·unfold attrP; simp only; rw [if_neg (by rw [len_data]; omega),getL s _ ha]; simp only; rw [if_neg hq,if_pos hn]
  ·unfold attrP; simp only; rw [if_neg (by rw [len_data]; omega),getL s _ ha]; simp only; rw [if_neg hq,if_neg (by simpa using hu),ext_mid,ext_mid,hv]; rfl
  ·unfold attrP; simp only; rw [if_neg (by rw [len_data]; omega),getL s _ ha]; simp only; rw [if_neg hq,if_neg (by simpa using hu),ext_mid,ext_mid,hv]; rfl
 obtain ⟨t,hte,HT0,HV2⟩:=HV.out;rw [← hte] at KT ht;clear HV;generalize attrP s.data.toList k=R at HT0 HV2 ⊢;by_cases hts:t=s.size
 ·have hR:=hid (HT0 hts);have q0:((t:Int)==(s.size:Int))=true:=by rw [beq_iff_eq]; omega
  clear HT0 HV2 hts
  go_enter Tryz.func131,Tryz.ntmps131
  go_wp2_with fail
  refine (KT.out _).mono ?_
  rintro e w' ⟨rfl,rfl⟩;generalize World.alloc _ _=W0 at hr0' hb0 hlt0 ⊢;obtain ⟨c0,c1,c2,f0,f1,f2⟩:=hr0'.rc3;have hr0:=hid hr0';clear hr0';go_wp2;have hr5:=rc_store3 hr0.out (.string ⟨#[]⟩) (.string ⟨#[]⟩) (.bool false);have hb5:=rc_below3 hb0 w.heap.size (Nat.le_refl _) (.string ⟨#[]⟩) (.string ⟨#[]⟩) (.bool false);generalize World.setCell _ _ _=w5 at hr5 hb5 ⊢;obtain ⟨d0,d1,d2,_,_,_⟩:=hr5.rc3
  try simp only [Exit.inBlock,Exit.then]
  refine bodyPost_ret (v:=.tuple #[.agg #[.string ⟨#[]⟩,.string ⟨#[]⟩,.bool false],.int .i64 (-1)]) (by simp [results,Tryz.results131,go_sem,d0,d1,d2]; try rfl) rfl ?_
  exact ⟨by rw [hR.out]; rfl,hb5⟩
 obtain ⟨a,hae,HN',HQ',HX',HY',HZ'⟩:=HV2 (by omega);have HN:=hid HN';have HQ:=hid HQ';have HX:=hid HX';have HY:=hid HY';have HZ:=hid HZ';have q0:((t:Int)==(s.size:Int))=false:=by rw [beq_eq_false_iff_ne]; omega
 have KO:=hid (fun w'=>rover_at s (t+1) ((t:Int)+1) (by omega) w' (by omega) (by omega));have hale:=run_le (p:=xblk) (l:=s.data.toList) (k:=t+1) (by rw [len_data]; omega);rw [len_data] at hale;rw [← hae] at KO hale;have hkt:(k:Int)≤(t:Int):=by omega
 have hts2:(t:Int)≤(s.size:Int):=by omega
 have hw1:IntKind.i64.wrap ((t:Int)+1)=((t+1:Nat):Int):=by rw [IntKind.wrap_i64]; omega
 have hxs:(s.extract k t).size≤s.size:=by rw [ByteArray.size_extract]; omega
 clear HT0 HV2 HN' HQ' HX' HY' HZ' hae hte hts
 go_enter Tryz.func131,Tryz.ntmps131
 go_wp2_with fail
 refine (KT.out _).mono ?_
 rintro e w' ⟨rfl,rfl⟩;clear KT;generalize World.alloc _ _=W0 at hr0' hb0 hlt0 ⊢;obtain ⟨c0,c1,c2,f0,f1,f2⟩:=hr0'.rc3;have hr0:=hid hr0';clear hr0';go_wp2
 go_loop [7] (fun v=>∃ x:ByteArray,v=.string x∧x.size≤s.size∧Hid (x.data.toList.reverse.dropWhile xblk=(s.extract k t).data.toList.reverse.dropWhile xblk)) (fun v=>lenV v)
 case atStart=>exact ⟨_,rfl,hxs,show _=_ from rfl⟩
 case round =>
  obtain ⟨x,rfl,hx,hr⟩:=hrel;by_cases h0:0 < x.size
  ·have hlt:x.size - 1 < x.size:=by omega
   have hbx:=u8_bd x[x.size - 1];have hwx:IntKind.i64.wrap ((x.size:Int) - 1)=((x.size - 1:Nat):Int):=by rw [IntKind.wrap_i64]; omega
   have hnx:((x.size:Int) - 1).toNat=x.size - 1:=by omega
   cases hxb:xblk x[x.size - 1] with
   | true =>
    have KH:=hid (fun w'=>hasX_of hxb w');have hr2:Hid ((x.extract 0 (x.size - 1)).data.toList.reverse.dropWhile xblk=(s.extract k t).data.toList.reverse.dropWhile xblk):=show _=_ by rw [← hr.out]; exact rev_step x hlt hxb
    have hz:(x.extract 0 (x.size - 1)).size < x.size∧(x.extract 0 (x.size - 1)).size≤s.size:=by rw [ByteArray.size_extract]; omega
    clear hr hxb HN HQ HX HY HZ KO;go_wp2_with (go_at_call 81; refine (KH.out _).mono ?_; rintro e w' ⟨rfl,rfl⟩)
    go_round
    case rel=>exact ⟨_,rfl,hz.2,hr2⟩
    case measure=>exact hz.1
   | false =>
    have KH:=hid (fun w'=>hasX_of hxb w');have HU:Hid (x=⟨(xbehind (s.extract k t).data.toList).toArray⟩):=show _=_ by unfold xbehind; rw [← hr.out,rev_stop x hlt hxb]; apply ByteArray.ext; simp
    clear hr hxb;by_cases ha:a=s.size
    ·have hR:=hid (HN.out ha);have q3:((a:Int)==(s.size:Int))=true:=by rw [beq_iff_eq]; omega
     clear HN HQ HX HY HZ;go_wp2_with first | (go_at_call 81; refine (KH.out _).mono ?_; rintro e w' ⟨rfl,rfl⟩) | (go_at_call 78; refine (KO.out _).mono ?_; rintro e w' ⟨rfl,rfl⟩) | (go_at_call 76; refine (KU.out _).mono ?_; rintro e w' ⟨rfl,rfl⟩) | (go_at_call 75; refine (KI.out _).mono ?_; rintro e w' ⟨rfl,rfl⟩) | (go_at_call 168; refine (KR.out _).mono ?_; rintro e w3 ⟨rfl,hw3⟩; obtain ⟨c0,c1,c2,f0,f1,f2⟩:=(hr0.out.below hw3 hlt0).rc3)

     have hr5:=rc_store3 hr0.out (.string ⟨#[]⟩) (.string ⟨#[]⟩) (.bool false);have hb5:=rc_below3 hb0 w.heap.size (Nat.le_refl _) (.string ⟨#[]⟩) (.string ⟨#[]⟩) (.bool false);generalize World.setCell _ _ _=w5 at hr5 hb5 ⊢;obtain ⟨d0,d1,d2,_,_,_⟩:=hr5.rc3
     try simp only [Exit.inBlock,Exit.then]
     refine bodyPost_ret (v:=.tuple #[.agg #[.string ⟨#[]⟩,.string ⟨#[]⟩,.bool false],.int .i64 (-1)]) (by simp [results,Tryz.results131,go_sem,d0,d1,d2]; try rfl) rfl ?_
     exact ⟨by rw [hR.out]; rfl,hb5⟩
    have hal:a < s.size:=by omega
    have hbd:=u8_bd s[a];have he:=one_ext s a hal;by_cases hq:s[a] ≠ 34∧s[a] ≠ 39
    ·have hR:=hid (HQ.out hal hq);have q1:((s[a].toNat:Int)==34)=false:=u8_ne (b:=34) hq.1;have q1n:((s[a].toNat:Int) != 34)=true:=by rw [bne,q1]; rfl
     have q2:((s[a].toNat:Int)==39)=false:=u8_ne (b:=39) hq.2;have q2n:((s[a].toNat:Int) != 39)=true:=by rw [bne,q2]; rfl
     have q3:((a:Int)==(s.size:Int))=false:=by rw [beq_eq_false_iff_ne]; omega
     clear HN HQ HX HY HZ hq;go_wp2_with first | (go_at_call 81; refine (KH.out _).mono ?_; rintro e w' ⟨rfl,rfl⟩) | (go_at_call 78; refine (KO.out _).mono ?_; rintro e w' ⟨rfl,rfl⟩) | (go_at_call 76; refine (KU.out _).mono ?_; rintro e w' ⟨rfl,rfl⟩) | (go_at_call 75; refine (KI.out _).mono ?_; rintro e w' ⟨rfl,rfl⟩) | (go_at_call 168; refine (KR.out _).mono ?_; rintro e w3 ⟨rfl,hw3⟩; obtain ⟨c0,c1,c2,f0,f1,f2⟩:=(hr0.out.below hw3 hlt0).rc3)

     have hr5:=rc_store3 hr0.out (.string ⟨#[]⟩) (.string ⟨#[]⟩) (.bool false);have hb5:=rc_below3 hb0 w.heap.size (Nat.le_refl _) (.string ⟨#[]⟩) (.string ⟨#[]⟩) (.bool false);generalize World.setCell _ _ _=w5 at hr5 hb5 ⊢;obtain ⟨d0,d1,d2,_,_,_⟩:=hr5.rc3
     try simp only [Exit.inBlock,Exit.then]
     refine bodyPost_ret (v:=.tuple #[.agg #[.string ⟨#[]⟩,.string ⟨#[]⟩,.bool false],.int .i64 (-1)]) (by simp [results,Tryz.results131,go_sem,d0,d1,d2]; try rfl) rfl ?_
     exact ⟨by rw [hR.out]; rfl,hb5⟩
    have q3:((a:Int)==(s.size:Int))=false:=by rw [beq_eq_false_iff_ne]; omega
    have KU:=hid (fun w'=>ruptoQ s a hal w' hs);have hu:=run_le (p:=fun b=>b != s[a] && b != 60) (l:=s.data.toList) (k:=a+1) (by rw [len_data]; omega);rw [len_data] at hu;have HX2:=hid (HX.out hal hq);have HY2:=hid (HY.out hal hq);have HZ2:=hid (HZ.out hal hq);clear HN HQ HX HY HZ;generalize runL (fun b=>b != s[a] && b != 60) s.data.toList (a+1)=u at KU hu HX2 HY2 HZ2;have KI:=hid (fun w'=>risQ s a u hal w' hs (by omega));have hw4:IntKind.i64.wrap ((a:Int)+1)=((a+1:Nat):Int):=by rw [IntKind.wrap_i64]; omega
    have hb1:(a:Int)+1≤(s.size:Int):=by omega
    have hb2:(a:Int)+1≤(u:Int):=by omega
    have hb3:(u:Int)≤(s.size:Int):=by omega
    have hn1:((a:Int)+1).toNat=a+1:=by omega
    have KR:=hid (fun w'=>rread_any (s.extract (a+1) u) w' (by rw [ByteArray.size_extract]; omega));have hq34:s[a]=34∨s[a]=39:=by
     by_cases h:s[a]=34
     ·exact .inl h
     ·exact .inr (Classical.byContradiction fun h2=>hq ⟨h,h2⟩)
    clear hq
    cases hi:decide (s.data.toList[u]? = some s[a]) with
    | false =>
     rw [hi] at KI;have hR:=hid (HX2.out (by simpa using hi));clear HX2 HY2 HZ2 hi
     rcases hq34 with hq | hq
     ·have q1:((s[a].toNat:Int)==34)=true:=u8_eq (b:=34) hq;have q1n:((s[a].toNat:Int) != 34)=false:=by rw [bne,q1]; rfl
      clear hq;go_wp2_with first | (go_at_call 81; refine (KH.out _).mono ?_; rintro e w' ⟨rfl,rfl⟩) | (go_at_call 78; refine (KO.out _).mono ?_; rintro e w' ⟨rfl,rfl⟩) | (go_at_call 76; refine (KU.out _).mono ?_; rintro e w' ⟨rfl,rfl⟩) | (go_at_call 75; refine (KI.out _).mono ?_; rintro e w' ⟨rfl,rfl⟩) | (go_at_call 168; refine (KR.out _).mono ?_; rintro e w3 ⟨rfl,hw3⟩; obtain ⟨c0,c1,c2,f0,f1,f2⟩:=(hr0.out.below hw3 hlt0).rc3)

      have hr5:=rc_store3 hr0.out (.string ⟨#[]⟩) (.string ⟨#[]⟩) (.bool false);have hb5:=rc_below3 hb0 w.heap.size (Nat.le_refl _) (.string ⟨#[]⟩) (.string ⟨#[]⟩) (.bool false);generalize World.setCell _ _ _=w5 at hr5 hb5 ⊢;obtain ⟨d0,d1,d2,_,_,_⟩:=hr5.rc3
      try simp only [Exit.inBlock,Exit.then]
      refine bodyPost_ret (v:=.tuple #[.agg #[.string ⟨#[]⟩,.string ⟨#[]⟩,.bool false],.int .i64 (-1)]) (by simp [results,Tryz.results131,go_sem,d0,d1,d2]; try rfl) rfl ?_
      exact ⟨by rw [hR.out]; rfl,hb5⟩
     ·have q1:((s[a].toNat:Int)==34)=false:=u8_ne (b:=34) (by rw [hq]; decide);have q1n:((s[a].toNat:Int) != 34)=true:=by rw [bne,q1]; rfl
      have q2:((s[a].toNat:Int)==39)=true:=u8_eq (b:=39) hq;have q2n:((s[a].toNat:Int) != 39)=false:=by rw [bne,q2]; rfl
      clear hq;go_wp2_with first | (go_at_call 81; refine (KH.out _).mono ?_; rintro e w' ⟨rfl,rfl⟩) | (go_at_call 78; refine (KO.out _).mono ?_; rintro e w' ⟨rfl,rfl⟩) | (go_at_call 76; refine (KU.out _).mono ?_; rintro e w' ⟨rfl,rfl⟩) | (go_at_call 75; refine (KI.out _).mono ?_; rintro e w' ⟨rfl,rfl⟩) | (go_at_call 168; refine (KR.out _).mono ?_; rintro e w3 ⟨rfl,hw3⟩; obtain ⟨c0,c1,c2,f0,f1,f2⟩:=(hr0.out.below hw3 hlt0).rc3)

      have hr5:=rc_store3 hr0.out (.string ⟨#[]⟩) (.string ⟨#[]⟩) (.bool false);have hb5:=rc_below3 hb0 w.heap.size (Nat.le_refl _) (.string ⟨#[]⟩) (.string ⟨#[]⟩) (.bool false);generalize World.setCell _ _ _=w5 at hr5 hb5 ⊢;obtain ⟨d0,d1,d2,_,_,_⟩:=hr5.rc3
      try simp only [Exit.inBlock,Exit.then]
      refine bodyPost_ret (v:=.tuple #[.agg #[.string ⟨#[]⟩,.string ⟨#[]⟩,.bool false],.int .i64 (-1)]) (by simp [results,Tryz.results131,go_sem,d0,d1,d2]; try rfl) rfl ?_
      exact ⟨by rw [hR.out]; rfl,hb5⟩
    | true =>
     rw [hi] at KI;have hi2:s.data.toList[u]? = some s[a]:=by simpa using hi
     cases hv:readX (s.extract (a+1) u).data.toList with
     | none =>
      have hR:=hid (HY2.out hi2 hv);have ev:readR (s.extract (a+1) u).data.toList=.tuple #[.string ⟨#[]⟩,.bool false]:=(readR_none hv).symm;rw [ev] at KR;clear HX2 HY2 HZ2 hi hi2 hv ev
      rcases hq34 with hq | hq
      ·have q1:((s[a].toNat:Int)==34)=true:=u8_eq (b:=34) hq;have q1n:((s[a].toNat:Int) != 34)=false:=by rw [bne,q1]; rfl
       clear hq;go_wp2_with first | (go_at_call 81; refine (KH.out _).mono ?_; rintro e w' ⟨rfl,rfl⟩) | (go_at_call 78; refine (KO.out _).mono ?_; rintro e w' ⟨rfl,rfl⟩) | (go_at_call 76; refine (KU.out _).mono ?_; rintro e w' ⟨rfl,rfl⟩) | (go_at_call 75; refine (KI.out _).mono ?_; rintro e w' ⟨rfl,rfl⟩) | (go_at_call 168; refine (KR.out _).mono ?_; rintro e w3 ⟨rfl,hw3⟩; obtain ⟨c0,c1,c2,f0,f1,f2⟩:=(hr0.out.below hw3 hlt0).rc3)

       have hr5:=rc_store3 (hr0.out.below hw3 hlt0) (.string ⟨#[]⟩) (.string ⟨#[]⟩) (.bool false);have hb5:=rc_below3 (hb0.trans (hw3.mono hb0.size)) w.heap.size (Nat.le_refl _) (.string ⟨#[]⟩) (.string ⟨#[]⟩) (.bool false);generalize World.setCell _ _ _=w5 at hr5 hb5 ⊢;obtain ⟨d0,d1,d2,_,_,_⟩:=hr5.rc3
       try simp only [Exit.inBlock,Exit.then]
       refine bodyPost_ret (v:=.tuple #[.agg #[.string ⟨#[]⟩,.string ⟨#[]⟩,.bool false],.int .i64 (-1)]) (by simp [results,Tryz.results131,go_sem,d0,d1,d2]; try rfl) rfl ?_
       exact ⟨by rw [hR.out]; rfl,hb5⟩
      ·have q1:((s[a].toNat:Int)==34)=false:=u8_ne (b:=34) (by rw [hq]; decide);have q1n:((s[a].toNat:Int) != 34)=true:=by rw [bne,q1]; rfl
       have q2:((s[a].toNat:Int)==39)=true:=u8_eq (b:=39) hq;have q2n:((s[a].toNat:Int) != 39)=false:=by rw [bne,q2]; rfl
       clear hq;go_wp2_with first | (go_at_call 81; refine (KH.out _).mono ?_; rintro e w' ⟨rfl,rfl⟩) | (go_at_call 78; refine (KO.out _).mono ?_; rintro e w' ⟨rfl,rfl⟩) | (go_at_call 76; refine (KU.out _).mono ?_; rintro e w' ⟨rfl,rfl⟩) | (go_at_call 75; refine (KI.out _).mono ?_; rintro e w' ⟨rfl,rfl⟩) | (go_at_call 168; refine (KR.out _).mono ?_; rintro e w3 ⟨rfl,hw3⟩; obtain ⟨c0,c1,c2,f0,f1,f2⟩:=(hr0.out.below hw3 hlt0).rc3)

       have hr5:=rc_store3 (hr0.out.below hw3 hlt0) (.string ⟨#[]⟩) (.string ⟨#[]⟩) (.bool false);have hb5:=rc_below3 (hb0.trans (hw3.mono hb0.size)) w.heap.size (Nat.le_refl _) (.string ⟨#[]⟩) (.string ⟨#[]⟩) (.bool false);generalize World.setCell _ _ _=w5 at hr5 hb5 ⊢;obtain ⟨d0,d1,d2,_,_,_⟩:=hr5.rc3
       try simp only [Exit.inBlock,Exit.then]
       refine bodyPost_ret (v:=.tuple #[.agg #[.string ⟨#[]⟩,.string ⟨#[]⟩,.bool false],.int .i64 (-1)]) (by simp [results,Tryz.results131,go_sem,d0,d1,d2]; try rfl) rfl ?_
       exact ⟨by rw [hR.out]; rfl,hb5⟩
     | some v =>
      have hR:=hid (HZ2.out v hi2 hv);have ev:readR (s.extract (a+1) u).data.toList=.tuple #[.string ⟨v.toArray⟩,.bool true]:=(readR_some hv).symm;rw [ev] at KR;clear HX2 HY2 HZ2 hi hi2 hv ev
      rcases hq34 with hq | hq
      ·have q1:((s[a].toNat:Int)==34)=true:=u8_eq (b:=34) hq;have q1n:((s[a].toNat:Int) != 34)=false:=by rw [bne,q1]; rfl
       clear hq;go_wp2_with first | (go_at_call 81; refine (KH.out _).mono ?_; rintro e w' ⟨rfl,rfl⟩) | (go_at_call 78; refine (KO.out _).mono ?_; rintro e w' ⟨rfl,rfl⟩) | (go_at_call 76; refine (KU.out _).mono ?_; rintro e w' ⟨rfl,rfl⟩) | (go_at_call 75; refine (KI.out _).mono ?_; rintro e w' ⟨rfl,rfl⟩) | (go_at_call 168; refine (KR.out _).mono ?_; rintro e w3 ⟨rfl,hw3⟩; obtain ⟨c0,c1,c2,f0,f1,f2⟩:=(hr0.out.below hw3 hlt0).rc3)

       have hr5:=rc_store3 (hr0.out.below hw3 hlt0) (.string ⟨(xbehind (s.extract k t).data.toList).toArray⟩) (.string ⟨v.toArray⟩) (.bool true);have hb5:=rc_below3 (hb0.trans (hw3.mono hb0.size)) w.heap.size (Nat.le_refl _) (.string ⟨(xbehind (s.extract k t).data.toList).toArray⟩) (.string ⟨v.toArray⟩) (.bool true);rw [← HU.out] at hr5 hb5;generalize World.setCell _ _ _=w5 at hr5 hb5 ⊢;obtain ⟨d0,d1,d2,_,_,_⟩:=hr5.rc3
       try simp only [Exit.inBlock,Exit.then]
       refine bodyPost_ret (v:=.tuple #[.agg #[.string x,.string ⟨v.toArray⟩,.bool true],.int .i64 ((u+1:Nat):Int)]) (by simp [results,Tryz.results131,go_sem,d0,d1,d2]; try rfl) rfl ?_
       exact ⟨by rw [hR.out,HU.out]; rfl,hb5⟩
      ·have q1:((s[a].toNat:Int)==34)=false:=u8_ne (b:=34) (by rw [hq]; decide);have q1n:((s[a].toNat:Int) != 34)=true:=by rw [bne,q1]; rfl
       have q2:((s[a].toNat:Int)==39)=true:=u8_eq (b:=39) hq;have q2n:((s[a].toNat:Int) != 39)=false:=by rw [bne,q2]; rfl
       clear hq;go_wp2_with first | (go_at_call 81; refine (KH.out _).mono ?_; rintro e w' ⟨rfl,rfl⟩) | (go_at_call 78; refine (KO.out _).mono ?_; rintro e w' ⟨rfl,rfl⟩) | (go_at_call 76; refine (KU.out _).mono ?_; rintro e w' ⟨rfl,rfl⟩) | (go_at_call 75; refine (KI.out _).mono ?_; rintro e w' ⟨rfl,rfl⟩) | (go_at_call 168; refine (KR.out _).mono ?_; rintro e w3 ⟨rfl,hw3⟩; obtain ⟨c0,c1,c2,f0,f1,f2⟩:=(hr0.out.below hw3 hlt0).rc3)

       have hr5:=rc_store3 (hr0.out.below hw3 hlt0) (.string ⟨(xbehind (s.extract k t).data.toList).toArray⟩) (.string ⟨v.toArray⟩) (.bool true);have hb5:=rc_below3 (hb0.trans (hw3.mono hb0.size)) w.heap.size (Nat.le_refl _) (.string ⟨(xbehind (s.extract k t).data.toList).toArray⟩) (.string ⟨v.toArray⟩) (.bool true);rw [← HU.out] at hr5 hb5;generalize World.setCell _ _ _=w5 at hr5 hb5 ⊢;obtain ⟨d0,d1,d2,_,_,_⟩:=hr5.rc3
       try simp only [Exit.inBlock,Exit.then]
       refine bodyPost_ret (v:=.tuple #[.agg #[.string x,.string ⟨v.toArray⟩,.bool true],.int .i64 ((u+1:Nat):Int)]) (by simp [results,Tryz.results131,go_sem,d0,d1,d2]; try rfl) rfl ?_
       exact ⟨by rw [hR.out,HU.out]; rfl,hb5⟩
  ·have HU:Hid (x=⟨(xbehind (s.extract k t).data.toList).toArray⟩):=show _=_ by
    unfold xbehind;rw [← hr.out]
    have:x.data.toList=[]:=List.eq_nil_of_length_eq_zero (by rw [len_data]; omega)
    rw [this]
    apply ByteArray.ext
    have:=congrArg List.toArray this
    simpa using this
   clear hr;by_cases ha:a=s.size
   ·have hR:=hid (HN.out ha);have q3:((a:Int)==(s.size:Int))=true:=by rw [beq_iff_eq]; omega
    clear HN HQ HX HY HZ;go_wp2_with first | (go_at_call 81; refine (KH.out _).mono ?_; rintro e w' ⟨rfl,rfl⟩) | (go_at_call 78; refine (KO.out _).mono ?_; rintro e w' ⟨rfl,rfl⟩) | (go_at_call 76; refine (KU.out _).mono ?_; rintro e w' ⟨rfl,rfl⟩) | (go_at_call 75; refine (KI.out _).mono ?_; rintro e w' ⟨rfl,rfl⟩) | (go_at_call 168; refine (KR.out _).mono ?_; rintro e w3 ⟨rfl,hw3⟩; obtain ⟨c0,c1,c2,f0,f1,f2⟩:=(hr0.out.below hw3 hlt0).rc3)

    have hr5:=rc_store3 hr0.out (.string ⟨#[]⟩) (.string ⟨#[]⟩) (.bool false);have hb5:=rc_below3 hb0 w.heap.size (Nat.le_refl _) (.string ⟨#[]⟩) (.string ⟨#[]⟩) (.bool false);generalize World.setCell _ _ _=w5 at hr5 hb5 ⊢;obtain ⟨d0,d1,d2,_,_,_⟩:=hr5.rc3
    try simp only [Exit.inBlock,Exit.then]
    refine bodyPost_ret (v:=.tuple #[.agg #[.string ⟨#[]⟩,.string ⟨#[]⟩,.bool false],.int .i64 (-1)]) (by simp [results,Tryz.results131,go_sem,d0,d1,d2]; try rfl) rfl ?_
    exact ⟨by rw [hR.out]; rfl,hb5⟩
   have hal:a < s.size:=by omega
   have hbd:=u8_bd s[a];have he:=one_ext s a hal;by_cases hq:s[a] ≠ 34∧s[a] ≠ 39
   ·have hR:=hid (HQ.out hal hq);have q1:((s[a].toNat:Int)==34)=false:=u8_ne (b:=34) hq.1;have q1n:((s[a].toNat:Int) != 34)=true:=by rw [bne,q1]; rfl
    have q2:((s[a].toNat:Int)==39)=false:=u8_ne (b:=39) hq.2;have q2n:((s[a].toNat:Int) != 39)=true:=by rw [bne,q2]; rfl
    have q3:((a:Int)==(s.size:Int))=false:=by rw [beq_eq_false_iff_ne]; omega
    clear HN HQ HX HY HZ hq;go_wp2_with first | (go_at_call 81; refine (KH.out _).mono ?_; rintro e w' ⟨rfl,rfl⟩) | (go_at_call 78; refine (KO.out _).mono ?_; rintro e w' ⟨rfl,rfl⟩) | (go_at_call 76; refine (KU.out _).mono ?_; rintro e w' ⟨rfl,rfl⟩) | (go_at_call 75; refine (KI.out _).mono ?_; rintro e w' ⟨rfl,rfl⟩) | (go_at_call 168; refine (KR.out _).mono ?_; rintro e w3 ⟨rfl,hw3⟩; obtain ⟨c0,c1,c2,f0,f1,f2⟩:=(hr0.out.below hw3 hlt0).rc3)

    have hr5:=rc_store3 hr0.out (.string ⟨#[]⟩) (.string ⟨#[]⟩) (.bool false);have hb5:=rc_below3 hb0 w.heap.size (Nat.le_refl _) (.string ⟨#[]⟩) (.string ⟨#[]⟩) (.bool false);generalize World.setCell _ _ _=w5 at hr5 hb5 ⊢;obtain ⟨d0,d1,d2,_,_,_⟩:=hr5.rc3
    try simp only [Exit.inBlock,Exit.then]
    refine bodyPost_ret (v:=.tuple #[.agg #[.string ⟨#[]⟩,.string ⟨#[]⟩,.bool false],.int .i64 (-1)]) (by simp [results,Tryz.results131,go_sem,d0,d1,d2]; try rfl) rfl ?_
    exact ⟨by rw [hR.out]; rfl,hb5⟩
   have q3:((a:Int)==(s.size:Int))=false:=by rw [beq_eq_false_iff_ne]; omega
   have KU:=hid (fun w'=>ruptoQ s a hal w' hs);have hu:=run_le (p:=fun b=>b != s[a] && b != 60) (l:=s.data.toList) (k:=a+1) (by rw [len_data]; omega);rw [len_data] at hu;have HX2:=hid (HX.out hal hq);have HY2:=hid (HY.out hal hq);have HZ2:=hid (HZ.out hal hq);clear HN HQ HX HY HZ;generalize runL (fun b=>b != s[a] && b != 60) s.data.toList (a+1)=u at KU hu HX2 HY2 HZ2;have KI:=hid (fun w'=>risQ s a u hal w' hs (by omega));have hw4:IntKind.i64.wrap ((a:Int)+1)=((a+1:Nat):Int):=by rw [IntKind.wrap_i64]; omega
   have hb1:(a:Int)+1≤(s.size:Int):=by omega
   have hb2:(a:Int)+1≤(u:Int):=by omega
   have hb3:(u:Int)≤(s.size:Int):=by omega
   have hn1:((a:Int)+1).toNat=a+1:=by omega
   have KR:=hid (fun w'=>rread_any (s.extract (a+1) u) w' (by rw [ByteArray.size_extract]; omega));have hq34:s[a]=34∨s[a]=39:=by
    by_cases h:s[a]=34
    ·exact .inl h
    ·exact .inr (Classical.byContradiction fun h2=>hq ⟨h,h2⟩)
   clear hq
   cases hi:decide (s.data.toList[u]? = some s[a]) with
   | false =>
    rw [hi] at KI;have hR:=hid (HX2.out (by simpa using hi));clear HX2 HY2 HZ2 hi
    rcases hq34 with hq | hq
    ·have q1:((s[a].toNat:Int)==34)=true:=u8_eq (b:=34) hq;have q1n:((s[a].toNat:Int) != 34)=false:=by rw [bne,q1]; rfl
     clear hq;go_wp2_with first | (go_at_call 81; refine (KH.out _).mono ?_; rintro e w' ⟨rfl,rfl⟩) | (go_at_call 78; refine (KO.out _).mono ?_; rintro e w' ⟨rfl,rfl⟩) | (go_at_call 76; refine (KU.out _).mono ?_; rintro e w' ⟨rfl,rfl⟩) | (go_at_call 75; refine (KI.out _).mono ?_; rintro e w' ⟨rfl,rfl⟩) | (go_at_call 168; refine (KR.out _).mono ?_; rintro e w3 ⟨rfl,hw3⟩; obtain ⟨c0,c1,c2,f0,f1,f2⟩:=(hr0.out.below hw3 hlt0).rc3)

     have hr5:=rc_store3 hr0.out (.string ⟨#[]⟩) (.string ⟨#[]⟩) (.bool false);have hb5:=rc_below3 hb0 w.heap.size (Nat.le_refl _) (.string ⟨#[]⟩) (.string ⟨#[]⟩) (.bool false);generalize World.setCell _ _ _=w5 at hr5 hb5 ⊢;obtain ⟨d0,d1,d2,_,_,_⟩:=hr5.rc3
     try simp only [Exit.inBlock,Exit.then]
     refine bodyPost_ret (v:=.tuple #[.agg #[.string ⟨#[]⟩,.string ⟨#[]⟩,.bool false],.int .i64 (-1)]) (by simp [results,Tryz.results131,go_sem,d0,d1,d2]; try rfl) rfl ?_
     exact ⟨by rw [hR.out]; rfl,hb5⟩
    ·have q1:((s[a].toNat:Int)==34)=false:=u8_ne (b:=34) (by rw [hq]; decide);have q1n:((s[a].toNat:Int) != 34)=true:=by rw [bne,q1]; rfl
     have q2:((s[a].toNat:Int)==39)=true:=u8_eq (b:=39) hq;have q2n:((s[a].toNat:Int) != 39)=false:=by rw [bne,q2]; rfl
     clear hq;go_wp2_with first | (go_at_call 81; refine (KH.out _).mono ?_; rintro e w' ⟨rfl,rfl⟩) | (go_at_call 78; refine (KO.out _).mono ?_; rintro e w' ⟨rfl,rfl⟩) | (go_at_call 76; refine (KU.out _).mono ?_; rintro e w' ⟨rfl,rfl⟩) | (go_at_call 75; refine (KI.out _).mono ?_; rintro e w' ⟨rfl,rfl⟩) | (go_at_call 168; refine (KR.out _).mono ?_; rintro e w3 ⟨rfl,hw3⟩; obtain ⟨c0,c1,c2,f0,f1,f2⟩:=(hr0.out.below hw3 hlt0).rc3)

     have hr5:=rc_store3 hr0.out (.string ⟨#[]⟩) (.string ⟨#[]⟩) (.bool false);have hb5:=rc_below3 hb0 w.heap.size (Nat.le_refl _) (.string ⟨#[]⟩) (.string ⟨#[]⟩) (.bool false);generalize World.setCell _ _ _=w5 at hr5 hb5 ⊢;obtain ⟨d0,d1,d2,_,_,_⟩:=hr5.rc3
     try simp only [Exit.inBlock,Exit.then]
     refine bodyPost_ret (v:=.tuple #[.agg #[.string ⟨#[]⟩,.string ⟨#[]⟩,.bool false],.int .i64 (-1)]) (by simp [results,Tryz.results131,go_sem,d0,d1,d2]; try rfl) rfl ?_
     exact ⟨by rw [hR.out]; rfl,hb5⟩
   | true =>
    rw [hi] at KI;have hi2:s.data.toList[u]? = some s[a]:=by simpa using hi
    cases hv:readX (s.extract (a+1) u).data.toList with
    | none =>
     have hR:=hid (HY2.out hi2 hv);have ev:readR (s.extract (a+1) u).data.toList=.tuple #[.string ⟨#[]⟩,.bool false]:=(readR_none hv).symm;rw [ev] at KR;clear HX2 HY2 HZ2 hi hi2 hv ev
     rcases hq34 with hq | hq
     ·have q1:((s[a].toNat:Int)==34)=true:=u8_eq (b:=34) hq;have q1n:((s[a].toNat:Int) != 34)=false:=by rw [bne,q1]; rfl
      clear hq;go_wp2_with first | (go_at_call 81; refine (KH.out _).mono ?_; rintro e w' ⟨rfl,rfl⟩) | (go_at_call 78; refine (KO.out _).mono ?_; rintro e w' ⟨rfl,rfl⟩) | (go_at_call 76; refine (KU.out _).mono ?_; rintro e w' ⟨rfl,rfl⟩) | (go_at_call 75; refine (KI.out _).mono ?_; rintro e w' ⟨rfl,rfl⟩) | (go_at_call 168; refine (KR.out _).mono ?_; rintro e w3 ⟨rfl,hw3⟩; obtain ⟨c0,c1,c2,f0,f1,f2⟩:=(hr0.out.below hw3 hlt0).rc3)

      have hr5:=rc_store3 (hr0.out.below hw3 hlt0) (.string ⟨#[]⟩) (.string ⟨#[]⟩) (.bool false);have hb5:=rc_below3 (hb0.trans (hw3.mono hb0.size)) w.heap.size (Nat.le_refl _) (.string ⟨#[]⟩) (.string ⟨#[]⟩) (.bool false);generalize World.setCell _ _ _=w5 at hr5 hb5 ⊢;obtain ⟨d0,d1,d2,_,_,_⟩:=hr5.rc3
      try simp only [Exit.inBlock,Exit.then]
      refine bodyPost_ret (v:=.tuple #[.agg #[.string ⟨#[]⟩,.string ⟨#[]⟩,.bool false],.int .i64 (-1)]) (by simp [results,Tryz.results131,go_sem,d0,d1,d2]; try rfl) rfl ?_
      exact ⟨by rw [hR.out]; rfl,hb5⟩
     ·have q1:((s[a].toNat:Int)==34)=false:=u8_ne (b:=34) (by rw [hq]; decide);have q1n:((s[a].toNat:Int) != 34)=true:=by rw [bne,q1]; rfl
      have q2:((s[a].toNat:Int)==39)=true:=u8_eq (b:=39) hq;have q2n:((s[a].toNat:Int) != 39)=false:=by rw [bne,q2]; rfl
      clear hq;go_wp2_with first | (go_at_call 81; refine (KH.out _).mono ?_; rintro e w' ⟨rfl,rfl⟩) | (go_at_call 78; refine (KO.out _).mono ?_; rintro e w' ⟨rfl,rfl⟩) | (go_at_call 76; refine (KU.out _).mono ?_; rintro e w' ⟨rfl,rfl⟩) | (go_at_call 75; refine (KI.out _).mono ?_; rintro e w' ⟨rfl,rfl⟩) | (go_at_call 168; refine (KR.out _).mono ?_; rintro e w3 ⟨rfl,hw3⟩; obtain ⟨c0,c1,c2,f0,f1,f2⟩:=(hr0.out.below hw3 hlt0).rc3)

      have hr5:=rc_store3 (hr0.out.below hw3 hlt0) (.string ⟨#[]⟩) (.string ⟨#[]⟩) (.bool false);have hb5:=rc_below3 (hb0.trans (hw3.mono hb0.size)) w.heap.size (Nat.le_refl _) (.string ⟨#[]⟩) (.string ⟨#[]⟩) (.bool false);generalize World.setCell _ _ _=w5 at hr5 hb5 ⊢;obtain ⟨d0,d1,d2,_,_,_⟩:=hr5.rc3
      try simp only [Exit.inBlock,Exit.then]
      refine bodyPost_ret (v:=.tuple #[.agg #[.string ⟨#[]⟩,.string ⟨#[]⟩,.bool false],.int .i64 (-1)]) (by simp [results,Tryz.results131,go_sem,d0,d1,d2]; try rfl) rfl ?_
      exact ⟨by rw [hR.out]; rfl,hb5⟩
    | some v =>
     have hR:=hid (HZ2.out v hi2 hv);have ev:readR (s.extract (a+1) u).data.toList=.tuple #[.string ⟨v.toArray⟩,.bool true]:=(readR_some hv).symm;rw [ev] at KR;clear HX2 HY2 HZ2 hi hi2 hv ev
     rcases hq34 with hq | hq
     ·have q1:((s[a].toNat:Int)==34)=true:=u8_eq (b:=34) hq;have q1n:((s[a].toNat:Int) != 34)=false:=by rw [bne,q1]; rfl
      clear hq;go_wp2_with first | (go_at_call 81; refine (KH.out _).mono ?_; rintro e w' ⟨rfl,rfl⟩) | (go_at_call 78; refine (KO.out _).mono ?_; rintro e w' ⟨rfl,rfl⟩) | (go_at_call 76; refine (KU.out _).mono ?_; rintro e w' ⟨rfl,rfl⟩) | (go_at_call 75; refine (KI.out _).mono ?_; rintro e w' ⟨rfl,rfl⟩) | (go_at_call 168; refine (KR.out _).mono ?_; rintro e w3 ⟨rfl,hw3⟩; obtain ⟨c0,c1,c2,f0,f1,f2⟩:=(hr0.out.below hw3 hlt0).rc3)

      have hr5:=rc_store3 (hr0.out.below hw3 hlt0) (.string ⟨(xbehind (s.extract k t).data.toList).toArray⟩) (.string ⟨v.toArray⟩) (.bool true);have hb5:=rc_below3 (hb0.trans (hw3.mono hb0.size)) w.heap.size (Nat.le_refl _) (.string ⟨(xbehind (s.extract k t).data.toList).toArray⟩) (.string ⟨v.toArray⟩) (.bool true);rw [← HU.out] at hr5 hb5;generalize World.setCell _ _ _=w5 at hr5 hb5 ⊢;obtain ⟨d0,d1,d2,_,_,_⟩:=hr5.rc3
      try simp only [Exit.inBlock,Exit.then]
      refine bodyPost_ret (v:=.tuple #[.agg #[.string x,.string ⟨v.toArray⟩,.bool true],.int .i64 ((u+1:Nat):Int)]) (by simp [results,Tryz.results131,go_sem,d0,d1,d2]; try rfl) rfl ?_
      exact ⟨by rw [hR.out,HU.out]; rfl,hb5⟩
     ·have q1:((s[a].toNat:Int)==34)=false:=u8_ne (b:=34) (by rw [hq]; decide);have q1n:((s[a].toNat:Int) != 34)=true:=by rw [bne,q1]; rfl
      have q2:((s[a].toNat:Int)==39)=true:=u8_eq (b:=39) hq;have q2n:((s[a].toNat:Int) != 39)=false:=by rw [bne,q2]; rfl
      clear hq;go_wp2_with first | (go_at_call 81; refine (KH.out _).mono ?_; rintro e w' ⟨rfl,rfl⟩) | (go_at_call 78; refine (KO.out _).mono ?_; rintro e w' ⟨rfl,rfl⟩) | (go_at_call 76; refine (KU.out _).mono ?_; rintro e w' ⟨rfl,rfl⟩) | (go_at_call 75; refine (KI.out _).mono ?_; rintro e w' ⟨rfl,rfl⟩) | (go_at_call 168; refine (KR.out _).mono ?_; rintro e w3 ⟨rfl,hw3⟩; obtain ⟨c0,c1,c2,f0,f1,f2⟩:=(hr0.out.below hw3 hlt0).rc3)

      have hr5:=rc_store3 (hr0.out.below hw3 hlt0) (.string ⟨(xbehind (s.extract k t).data.toList).toArray⟩) (.string ⟨v.toArray⟩) (.bool true);have hb5:=rc_below3 (hb0.trans (hw3.mono hb0.size)) w.heap.size (Nat.le_refl _) (.string ⟨(xbehind (s.extract k t).data.toList).toArray⟩) (.string ⟨v.toArray⟩) (.bool true);rw [← HU.out] at hr5 hb5;generalize World.setCell _ _ _=w5 at hr5 hb5 ⊢;obtain ⟨d0,d1,d2,_,_,_⟩:=hr5.rc3
      try simp only [Exit.inBlock,Exit.then]
      refine bodyPost_ret (v:=.tuple #[.agg #[.string x,.string ⟨v.toArray⟩,.bool true],.int .i64 ((u+1:Nat):Int)]) (by simp [results,Tryz.results131,go_sem,d0,d1,d2]; try rfl) rfl ?_
      exact ⟨by rw [hR.out,HU.out]; rfl,hb5⟩
theorem run_self {p:UInt8 → Bool} {l:List UInt8} {k:Nat} (hk:k≤l.length):runL p l k=k ↔ ((l.drop k).head?.any p=false):=by
 by_cases h:k < l.length
 ·rw [List.drop_eq_getElem_cons h,List.head?_cons,Option.any_some]
  cases hp:p l[k] with
  | false=>simp [run_stop h hp]
  | true =>
   have h1:=run_step h hp;have h2:=run_le (p:=p) (l:=l) (k:=k+1) (by omega)
   simp
   omega
 ·rw [run_end (by omega),List.drop_eq_nil_of_le (by omega)]; simp
section
variable {l : List UInt8} {m tq a : Nat} {acc : List Par}
theorem ax_go (htq:tq≤l.length) (ha:a=runL xblk l tq) (hal:a < l.length) (h47:l[a] ≠ 47) (h62:l[a] ≠ 62) :
  attrsX (m+1) acc (l.drop tq)=if a=tq then none else match attrP l a with | none=>none | some (p,n)=>attrsX m (acc++[p]) (l.drop n):=by
 have e:(l.drop tq).dropWhile xblk=l.drop a:=by rw [ha,run_drop]
 rw [attrsX,e,List.drop_eq_getElem_cons hal]
 simp only
 rw [if_neg (by simp [h47,h62])];have hs:=run_self (p:=xblk) htq;rw [← ha] at hs;by_cases h:a=tq
 ·rw [if_pos (hs.1 h),if_pos h]
 ·rw [if_neg (fun q=>h (hs.2 q)),if_neg h,← List.drop_eq_getElem_cons hal,attr_place (by omega)]
  cases attrP l a <;> rfl
theorem ax_end (htq:tq≤l.length) (ha:a=runL xblk l tq) (hal:a < l.length) (h:l[a]=47∨l[a]=62):attrsX (m+1) acc (l.drop tq)=some (acc,l.drop a):=by
 have e:(l.drop tq).dropWhile xblk=l.drop a:=by rw [ha,run_drop]
 rw [attrsX,e,List.drop_eq_getElem_cons hal]
 simp only
 rw [if_pos h]
theorem ax_len (htq:tq≤l.length) (ha:a=runL xblk l tq) (hal:a=l.length):attrsX m acc (l.drop tq)=none∨attrsX m acc (l.drop tq)=some (acc,[]):=by
 cases m with
 | zero=>exact .inl rfl
 | succ m =>
  right
  have e:(l.drop tq).dropWhile xblk=l.drop a:=by rw [ha,run_drop]
  rw [attrsX,e,hal,List.drop_length]
end
def elemT (n d c:Nat) (nm:List UInt8) (o:Option (List Par × List UInt8)):Option (List Nd × List UInt8):=match o with
 | none=>none
 | some (at',r2)=>match r2 with
  | 47 :: 62 :: r3=>some ([⟨d,nm,at',[]⟩],r3)
  | 62 :: r3=>contX n ⟨d,nm,at',[]⟩ d c [] [] r3
  | _=>none
theorem elem_bad {n d c:Nat} {l:List UInt8} {k:Nat} (h:8≤d∨200≤c∨l[k]? ≠ some 60):elemX (n+1) d c (l.drop k)=none:=by
 by_cases hk:k < l.length
 ·rw [List.drop_eq_getElem_cons hk,elemX,if_pos]
  rcases h with h | h | h
  ·exact .inl h
  ·exact .inr (.inl h)
  ·rw [List.getElem?_eq_getElem hk] at h;exact .inr (.inr (by simpa using h))
 ·rw [List.drop_eq_nil_of_le (by omega)]; rfl
theorem elem_go {n d c:Nat} {l:List UInt8} {k:Nat} (hd:¬ 8≤d) (hc:¬ 200≤c) (hk:k < l.length) (h:l[k]=60) :
  elemX (n+1) d c (l.drop k)=if runL (fun b=>!endc b) l (k+1)=l.length then none else elemT n d c ((l.drop (k+1)).take (runL (fun b=>!endc b) l (k+1) - (k+1))) (attrsX (l.length - (k+1)) [] (l.drop (runL (fun b=>!endc b) l (k+1)))):=by
 have hr:=run_le (p:=fun b=>!endc b) (l:=l) (k:=k+1) (by omega);rw [List.drop_eq_getElem_cons hk,elemX,if_neg (by simp [hd,hc,h]),← run_drop (p:=fun b=>!endc b),← run_take (p:=fun b=>!endc b),List.length_drop];generalize runL (fun b=>!endc b) l (k+1)=t at hr ⊢;by_cases ht:t=l.length
 ·rw [if_pos ((drop_none hr.2).2 ht),if_pos ht]
 ·rw [if_neg (fun e=>ht ((drop_none hr.2).1 e)),if_neg ht];unfold elemT
  rfl
theorem elemT_one {n d c:Nat} {nm:List UInt8} {acc:List Par} {l:List UInt8} {a:Nat} (h:isAt l a [47,62]=true):elemT n d c nm (some (acc,l.drop a))=some ([⟨d,nm,acc,[]⟩],l.drop (a+2)):=by
 have e:(l.drop a).take 2=[47,62]:=by unfold isAt at h; simpa using h
 have e2:=List.take_append_drop 2 (l.drop a);rw [e,List.drop_drop] at e2;rw [← e2]
 rfl
theorem elemT_in {n d c:Nat} {nm:List UInt8} {acc:List Par} {l:List UInt8} {a:Nat} (h:l[a]? = some 62):elemT n d c nm (some (acc,l.drop a))=contX n ⟨d,nm,acc,[]⟩ d c [] [] (l.drop (a+1)):=by
 rw [drop_get h]; rfl
theorem elemT_no {n d c:Nat} {nm:List UInt8} {acc:List Par} {l:List UInt8} {a:Nat} (h1:isAt l a [47,62]=false) (h2:l[a]? ≠ some 62):elemT n d c nm (some (acc,l.drop a))=none:=by
 unfold elemT
 simp only
 split
 ·next r3 he =>
  exfalso
  unfold isAt at h1;rw [he] at h1
  simp at h1
 ·next r3 he =>
  exfalso
  apply h2
  have:=congrArg List.head? he
  rw [List.head?_drop] at this
  simpa using this
 ·rfl
def ElPost (o:Option (List Nd × List UInt8)) (s:ByteArray) (cs:List NdC) (B:Nat) (v:Value) (w:World) (e:Ending) (w':World):Prop:=match o with
 | none=>e=.returned (.tuple #[.slice none 0 0,.int .i64 (-1)])∧FrN v w (.slice none 0 0) w'
 | some (ns,r)=>∃ v' cs',e=.returned (.tuple #[v',.int .i64 ((s.size - r.length:Nat):Int)])∧ndsL cs'=ns∧OwnN w' B v' (cs++cs')∧FrN v w v' w'
def ElRes (s:ByteArray) (F:Nat):Prop:=∀ (k d:Nat) (v:Value) (cs:List NdC) (B:Nat) (w:World),OwnN w B v cs → B≤w.heap.size → k≤s.size → d≤8 → cs.length≤200 → s.size - k < F →
 Calls Tryz.prog 77 #[.string s,.int .i64 k,.int .i64 d,v] w fun e w'=>ElPost (elemX F d cs.length (s.data.toList.drop k)) s cs B v w e w'
def CoRes (s:ByteArray) (F:Nat):Prop:=∀ (k d:Nat) (nm:List UInt8) (ps:List Par) (a v:Value) (cs:List NdC) (B:Nat) (w:World),OwnN w B v cs → OwnP w B a ps → B≤w.heap.size → k≤s.size → d < 8 → cs.length < 200 → nm.length≤s.size → s.size - k+2≤F →
 Calls Tryz.prog 132 #[.string s,.int .i64 k,ndV ⟨d,nm,ps,[]⟩ a,v] w fun e w'=>ElPost (contX F ⟨d,nm,ps,[]⟩ d cs.length [] [] (s.data.toList.drop k)) s cs B v w e w'
theorem par_newW (W:World) (p:Par) (g:Nat) (hg:g=W.heap.size):∀ (j:Nat) (u:Value),(parCells p)[j]? = some u → (W.alloc (.cells #[.string ⟨p.name.toArray⟩,.string ⟨p.value.toArray⟩,.bool p.has] 59)).cell? ((⟨g,0,none⟩:Addr).add j)=some u:=by
 intro j u hj;subst hg;have e:(⟨W.heap.size,0,none⟩:Addr).add j=⟨W.heap.size,j,none⟩:=by unfold Addr.add; split <;> simp_all
 rw [e];unfold World.cell?;rw [heap_alloc_new]
 simpa [parCells] using hj
theorem nd_newW (W:World) (c:NdC) (g:Nat) (hg:g=W.heap.size):∀ (j:Nat) (u:Value),(ndCells c)[j]? = some u → (W.alloc (.cells #[.int .i64 c.nd.deep,.string ⟨c.nd.name.toArray⟩,c.a,.string ⟨c.nd.text.toArray⟩] 52)).cell? ((⟨g,0,none⟩:Addr).add j)=some u:=by
 intro j u hj;subst hg;have e:(⟨W.heap.size,0,none⟩:Addr).add j=⟨W.heap.size,j,none⟩:=by unfold Addr.add; split <;> simp_all
 rw [e];unfold World.cell?;rw [heap_alloc_new]
 simpa [ndCells] using hj
theorem ownP_form {w:World} {B:Nat} {v:Value} {ps:List Par} (h:OwnP w B v ps):∃ po pc,v=.slice po ps.length pc:=by
 rcases h.2 with ⟨rfl,hn⟩ | ⟨g,cap,cur,rfl,_⟩
 ·exact ⟨none,0,by rw [hn]⟩
 ·exact ⟨_,cap,rfl⟩
theorem ownP_len {w:World} {B:Nat} {po:Option Addr} {pc:Nat} {ps:List Par} {p:Par} (h:OwnP w B (.slice po (ps++[p]).length pc) (ps++[p])):OwnP w B (.slice po (ps.length+1) pc) (ps++[p]):=by
 have e:(ps++[p]).length=ps.length+1:=by simp
 rw [e] at h; exact h
theorem el_none {o:Option (List Nd × List UInt8)} {s:ByteArray} {cs:List NdC} {B:Nat} {v:Value} {w w':World} (h:o=none) (hf:Below w.heap.size w w'):ElPost o s cs B v w (.returned (.tuple #[.slice none 0 0,.int .i64 (-1)])) w':=by
 subst h; exact ⟨rfl,(FrN.below (v:=v) hf).none⟩
end Go.Proofs.YtdnekampnkhmfaaGreatDoor
