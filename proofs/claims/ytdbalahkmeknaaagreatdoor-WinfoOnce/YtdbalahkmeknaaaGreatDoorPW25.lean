/-
  RX6, WR2, WR7.
-/
import Derived.Test.YtdbalahkmeknaaaGreatDoorPW05
import Derived.Test.YtdbalahkmeknaaaGreatDoorPW26
set_option linter.unusedVariables false
set_option linter.unusedSimpArgs false
set_option maxRecDepth 20000
namespace Go.Proofs.YtdbalahkmeknaaaGreatDoor
open Go.RowKit Sc
set_option maxHeartbeats 8000000 in
set_option maxRecDepth 100000 in
theorem rattr_any (s:ByteArray) (k:Nat) (w:World) (hs:s.size≤1048576) (hk:k≤s.size) :
  Calls Tryz.prog 102 #[.string s,.int .i64 k] w fun e w'=>e=.returned (attrR (attrP s.data.toList k))∧Below w.heap.size w w':=by
 have hr0':=rc_row3 w (.string ⟨#[]⟩) (.string ⟨#[]⟩) (.bool false) 70;have hb0:Below w.heap.size w (w.alloc (.cells #[.string ⟨#[]⟩,.string ⟨#[]⟩,.bool false] 70)):=(Below.refl _ w).alloc (Nat.le_refl _) _;have hlt0:=alloc_lt w (.cells #[.string ⟨#[]⟩,.string ⟨#[]⟩,.bool false] 70);have KT:=hid (fun w'=>rupto_at s k #[61] (· != 61) (k:Int) rfl (has_one 61) w' (by omega) (by decide) hk);have ht:=run_le (p:=(· != 61)) (l:=s.data.toList) (k:=k) (by rw [len_data]; exact hk);rw [len_data] at ht
 have HV:Hid (∃ t,t=runL (· != 61) s.data.toList k∧(t=s.size → attrP s.data.toList k=none)∧(t < s.size → ∃ a,a=runL xblk s.data.toList (t+1)∧(a=s.size → attrP s.data.toList k=none) ∧
   ((h:a < s.size) → (s[a] ≠ 34∧s[a] ≠ 39) → attrP s.data.toList k=none) ∧
   ((h:a < s.size) → ¬ (s[a] ≠ 34∧s[a] ≠ 39) → ¬ s.data.toList[runL (fun b=>b != s[a] && b != 60) s.data.toList (a+1)]? = some s[a] → attrP s.data.toList k=none) ∧
   ((h:a < s.size) → ¬ (s[a] ≠ 34∧s[a] ≠ 39) → s.data.toList[runL (fun b=>b != s[a] && b != 60) s.data.toList (a+1)]? = some s[a] → readX (s.extract (a+1) (runL (fun b=>b != s[a] && b != 60) s.data.toList (a+1))).data.toList=none → attrP s.data.toList k=none) ∧
   ((h:a < s.size) → ¬ (s[a] ≠ 34∧s[a] ≠ 39) → ∀ v,s.data.toList[runL (fun b=>b != s[a] && b != 60) s.data.toList (a+1)]? = some s[a] → readX (s.extract (a+1) (runL (fun b=>b != s[a] && b != 60) s.data.toList (a+1))).data.toList=some v → attrP s.data.toList k=some (⟨xbehind (s.extract k t).data.toList,v,true⟩,runL (fun b=>b != s[a] && b != 60) s.data.toList (a+1)+1)))):=by
  refine ⟨_,rfl,fun h=>?_,fun h=>⟨_,rfl,fun ha=>?_,fun ha hq=>?_,fun ha hq hn=>?_,fun ha hq hu hv=>?_,fun ha hq v hu hv=>?_⟩⟩
  ·unfold attrP; simp only; rw [if_pos (by rw [len_data]; exact h)]
  ·unfold attrP; simp only; rw [if_neg (by rw [len_data]; omega),List.getElem?_eq_none (by rw [len_data]; omega)]
  ·unfold attrP; simp only; rw [if_neg (by rw [len_data]; omega),getL s _ ha]; simp only; rw [if_pos hq]
  ·unfold attrP; simp only; rw [if_neg (by rw [len_data]; omega),getL s _ ha]; simp only; rw [if_neg hq,if_pos hn]
  ·unfold attrP; simp only; rw [if_neg (by rw [len_data]; omega),getL s _ ha]; simp only; rw [if_neg hq,if_neg (by simpa using hu),ext_mid,ext_mid,hv]; rfl
  ·unfold attrP; simp only; rw [if_neg (by rw [len_data]; omega),getL s _ ha]; simp only; rw [if_neg hq,if_neg (by simpa using hu),ext_mid,ext_mid,hv]; rfl
 obtain ⟨t,hte,HT0,HV2⟩:=HV.out;rw [← hte] at KT ht;clear HV;generalize attrP s.data.toList k=R at HT0 HV2 ⊢;by_cases hts:t=s.size
 ·have hR:=hid (HT0 hts);have q0:((t:Int)==(s.size:Int))=true:=by rw [beq_iff_eq]; omega
  clear HT0 HV2 hts
  go_enter Tryz.func102,Tryz.ntmps102
  go_wp2_with fail
  refine (KT.out _).mono ?_
  rintro e w' ⟨rfl,rfl⟩;generalize World.alloc _ _=W0 at hr0' hb0 hlt0 ⊢;obtain ⟨c0,c1,c2,f0,f1,f2⟩:=hr0'.rc3;have hr0:=hid hr0';clear hr0';go_wp2;have hr5:=rc_store3 hr0.out (.string ⟨#[]⟩) (.string ⟨#[]⟩) (.bool false);have hb5:=rc_below3 hb0 w.heap.size (Nat.le_refl _) (.string ⟨#[]⟩) (.string ⟨#[]⟩) (.bool false);generalize World.setCell _ _ _=w5 at hr5 hb5 ⊢;obtain ⟨d0,d1,d2,_,_,_⟩:=hr5.rc3
  try simp only [Exit.inBlock,Exit.then]
  refine bodyPost_ret (v:=.tuple #[.agg #[.string ⟨#[]⟩,.string ⟨#[]⟩,.bool false],.int .i64 (-1)]) (by simp [results,Tryz.results102,go_sem,d0,d1,d2]; try rfl) rfl ?_
  exact ⟨by rw [hR.out]; rfl,hb5⟩
 obtain ⟨a,hae,HN',HQ',HX',HY',HZ'⟩:=HV2 (by omega);have HN:=hid HN';have HQ:=hid HQ';have HX:=hid HX';have HY:=hid HY';have HZ:=hid HZ';have q0:((t:Int)==(s.size:Int))=false:=by rw [beq_eq_false_iff_ne]; omega
 have KO:=hid (fun w'=>rover_at s (t+1) ((t:Int)+1) (by omega) w' (by omega) (by omega));have hale:=run_le (p:=xblk) (l:=s.data.toList) (k:=t+1) (by rw [len_data]; omega);rw [len_data] at hale;rw [← hae] at KO hale;have hkt:(k:Int)≤(t:Int):=by omega
 have hts2:(t:Int)≤(s.size:Int):=by omega
 have hw1:IntKind.i64.wrap ((t:Int)+1)=((t+1:Nat):Int):=by rw [IntKind.wrap_i64]; omega
 have hxs:(s.extract k t).size≤s.size:=by rw [ByteArray.size_extract]; omega
 clear HT0 HV2 HN' HQ' HX' HY' HZ' hae hte hts
 go_enter Tryz.func102,Tryz.ntmps102
 go_wp2_with fail
 refine (KT.out _).mono ?_
 rintro e w' ⟨rfl,rfl⟩;clear KT;generalize World.alloc _ _=W0 at hr0' hb0 hlt0 ⊢;obtain ⟨c0,c1,c2,f0,f1,f2⟩:=hr0'.rc3;have hr0:=hid hr0';clear hr0';go_wp2
 go_loop [7] (fun v=>∃ x:ByteArray,v=.string x∧x.size≤s.size∧Hid (x.data.toList.reverse.dropWhile xblk=(s.extract k t).data.toList.reverse.dropWhile xblk)) (fun v=>lenV v)
 case atStart=>exact ⟨_,rfl,hxs,show _=_ from rfl⟩
 case round =>
  obtain ⟨x,rfl,hx,hr⟩:=hrel;by_cases h0:0 < x.size
  ·have hlt:x.size - 1 < x.size:=by omega
   have hbx:=u8_bd x[x.size - 1];have hwx:IntKind.i64.wrap ((x.size:Int) - 1)=((x.size - 1:Nat):Int):=by rw [IntKind.wrap_i64]; omega
   have hnx:((x.size:Int) - 1).toNat=x.size - 1:=by omega
   cases hxb:xblk x[x.size - 1] with
   | true =>
    have KH:=hid (fun w'=>hasX_of hxb w');have hr2:Hid ((x.extract 0 (x.size - 1)).data.toList.reverse.dropWhile xblk=(s.extract k t).data.toList.reverse.dropWhile xblk):=show _=_ by rw [← hr.out]; exact rev_step x hlt hxb
    have hz:(x.extract 0 (x.size - 1)).size < x.size∧(x.extract 0 (x.size - 1)).size≤s.size:=by rw [ByteArray.size_extract]; omega
    clear hr hxb HN HQ HX HY HZ KO;go_wp2_with (go_at_call 92; refine (KH.out _).mono ?_; rintro e w' ⟨rfl,rfl⟩)
    go_round
    case rel=>exact ⟨_,rfl,hz.2,hr2⟩
    case measure=>exact hz.1
   | false =>
    have KH:=hid (fun w'=>hasX_of hxb w');have HU:Hid (x=⟨(xbehind (s.extract k t).data.toList).toArray⟩):=show _=_ by unfold xbehind; rw [← hr.out,rev_stop x hlt hxb]; apply ByteArray.ext; simp
    clear hr hxb;by_cases ha:a=s.size
    ·have hR:=hid (HN.out ha);have q3:((a:Int)==(s.size:Int))=true:=by rw [beq_iff_eq]; omega
     clear HN HQ HX HY HZ;go_wp2_with first | (go_at_call 92; refine (KH.out _).mono ?_; rintro e w' ⟨rfl,rfl⟩) | (go_at_call 61; refine (KO.out _).mono ?_; rintro e w' ⟨rfl,rfl⟩) | (go_at_call 59; refine (KU.out _).mono ?_; rintro e w' ⟨rfl,rfl⟩) | (go_at_call 58; refine (KI.out _).mono ?_; rintro e w' ⟨rfl,rfl⟩) | (go_at_call 128; refine (KR.out _).mono ?_; rintro e w3 ⟨rfl,hw3⟩; obtain ⟨c0,c1,c2,f0,f1,f2⟩:=(hr0.out.below hw3 hlt0).rc3)

     have hr5:=rc_store3 hr0.out (.string ⟨#[]⟩) (.string ⟨#[]⟩) (.bool false);have hb5:=rc_below3 hb0 w.heap.size (Nat.le_refl _) (.string ⟨#[]⟩) (.string ⟨#[]⟩) (.bool false);generalize World.setCell _ _ _=w5 at hr5 hb5 ⊢;obtain ⟨d0,d1,d2,_,_,_⟩:=hr5.rc3
     try simp only [Exit.inBlock,Exit.then]
     refine bodyPost_ret (v:=.tuple #[.agg #[.string ⟨#[]⟩,.string ⟨#[]⟩,.bool false],.int .i64 (-1)]) (by simp [results,Tryz.results102,go_sem,d0,d1,d2]; try rfl) rfl ?_
     exact ⟨by rw [hR.out]; rfl,hb5⟩
    have hal:a < s.size:=by omega
    have hbd:=u8_bd s[a];have he:=one_ext s a hal;by_cases hq:s[a] ≠ 34∧s[a] ≠ 39
    ·have hR:=hid (HQ.out hal hq);have q1:((s[a].toNat:Int)==34)=false:=u8_ne (b:=34) hq.1;have q1n:((s[a].toNat:Int) != 34)=true:=by rw [bne,q1]; rfl
     have q2:((s[a].toNat:Int)==39)=false:=u8_ne (b:=39) hq.2;have q2n:((s[a].toNat:Int) != 39)=true:=by rw [bne,q2]; rfl
     have q3:((a:Int)==(s.size:Int))=false:=by rw [beq_eq_false_iff_ne]; omega
     clear HN HQ HX HY HZ hq;go_wp2_with first | (go_at_call 92; refine (KH.out _).mono ?_; rintro e w' ⟨rfl,rfl⟩) | (go_at_call 61; refine (KO.out _).mono ?_; rintro e w' ⟨rfl,rfl⟩) | (go_at_call 59; refine (KU.out _).mono ?_; rintro e w' ⟨rfl,rfl⟩) | (go_at_call 58; refine (KI.out _).mono ?_; rintro e w' ⟨rfl,rfl⟩) | (go_at_call 128; refine (KR.out _).mono ?_; rintro e w3 ⟨rfl,hw3⟩; obtain ⟨c0,c1,c2,f0,f1,f2⟩:=(hr0.out.below hw3 hlt0).rc3)

     have hr5:=rc_store3 hr0.out (.string ⟨#[]⟩) (.string ⟨#[]⟩) (.bool false);have hb5:=rc_below3 hb0 w.heap.size (Nat.le_refl _) (.string ⟨#[]⟩) (.string ⟨#[]⟩) (.bool false);generalize World.setCell _ _ _=w5 at hr5 hb5 ⊢;obtain ⟨d0,d1,d2,_,_,_⟩:=hr5.rc3
     try simp only [Exit.inBlock,Exit.then]
     refine bodyPost_ret (v:=.tuple #[.agg #[.string ⟨#[]⟩,.string ⟨#[]⟩,.bool false],.int .i64 (-1)]) (by simp [results,Tryz.results102,go_sem,d0,d1,d2]; try rfl) rfl ?_
     exact ⟨by rw [hR.out]; rfl,hb5⟩
    have q3:((a:Int)==(s.size:Int))=false:=by rw [beq_eq_false_iff_ne]; omega
    have KU:=hid (fun w'=>ruptoQ s a hal w' hs);have hu:=run_le (p:=fun b=>b != s[a] && b != 60) (l:=s.data.toList) (k:=a+1) (by rw [len_data]; omega);rw [len_data] at hu;have HX2:=hid (HX.out hal hq);have HY2:=hid (HY.out hal hq);have HZ2:=hid (HZ.out hal hq);clear HN HQ HX HY HZ;generalize runL (fun b=>b != s[a] && b != 60) s.data.toList (a+1)=u at KU hu HX2 HY2 HZ2;have KI:=hid (fun w'=>risQ s a u hal w' hs (by omega));have hw4:IntKind.i64.wrap ((a:Int)+1)=((a+1:Nat):Int):=by rw [IntKind.wrap_i64]; omega
    have hb1:(a:Int)+1≤(s.size:Int):=by omega
    have hb2:(a:Int)+1≤(u:Int):=by omega
    have hb3:(u:Int)≤(s.size:Int):=by omega
    have hn1:((a:Int)+1).toNat=a+1:=by omega
    have KR:=hid (fun w'=>rread_any (s.extract (a+1) u) w' (by rw [ByteArray.size_extract]; omega))
    have hq34:s[a]=34∨s[a]=39:=by
     by_cases h:s[a]=34
     ·exact .inl h
     ·exact .inr (Classical.byContradiction fun h2=>hq ⟨h,h2⟩)
    clear hq
    cases hi:decide (s.data.toList[u]? = some s[a]) with
    | false =>
     rw [hi] at KI;have hR:=hid (HX2.out (by simpa using hi));clear HX2 HY2 HZ2 hi
     rcases hq34 with hq | hq
     ·have q1:((s[a].toNat:Int)==34)=true:=u8_eq (b:=34) hq;have q1n:((s[a].toNat:Int) != 34)=false:=by rw [bne,q1]; rfl
      clear hq;go_wp2_with first | (go_at_call 92; refine (KH.out _).mono ?_; rintro e w' ⟨rfl,rfl⟩) | (go_at_call 61; refine (KO.out _).mono ?_; rintro e w' ⟨rfl,rfl⟩) | (go_at_call 59; refine (KU.out _).mono ?_; rintro e w' ⟨rfl,rfl⟩) | (go_at_call 58; refine (KI.out _).mono ?_; rintro e w' ⟨rfl,rfl⟩) | (go_at_call 128; refine (KR.out _).mono ?_; rintro e w3 ⟨rfl,hw3⟩; obtain ⟨c0,c1,c2,f0,f1,f2⟩:=(hr0.out.below hw3 hlt0).rc3)

      have hr5:=rc_store3 hr0.out (.string ⟨#[]⟩) (.string ⟨#[]⟩) (.bool false);have hb5:=rc_below3 hb0 w.heap.size (Nat.le_refl _) (.string ⟨#[]⟩) (.string ⟨#[]⟩) (.bool false);generalize World.setCell _ _ _=w5 at hr5 hb5 ⊢;obtain ⟨d0,d1,d2,_,_,_⟩:=hr5.rc3
      try simp only [Exit.inBlock,Exit.then]
      refine bodyPost_ret (v:=.tuple #[.agg #[.string ⟨#[]⟩,.string ⟨#[]⟩,.bool false],.int .i64 (-1)]) (by simp [results,Tryz.results102,go_sem,d0,d1,d2]; try rfl) rfl ?_
      exact ⟨by rw [hR.out]; rfl,hb5⟩
     ·have q1:((s[a].toNat:Int)==34)=false:=u8_ne (b:=34) (by rw [hq]; decide);have q1n:((s[a].toNat:Int) != 34)=true:=by rw [bne,q1]; rfl
      have q2:((s[a].toNat:Int)==39)=true:=u8_eq (b:=39) hq;have q2n:((s[a].toNat:Int) != 39)=false:=by rw [bne,q2]; rfl
      clear hq;go_wp2_with first | (go_at_call 92; refine (KH.out _).mono ?_; rintro e w' ⟨rfl,rfl⟩) | (go_at_call 61; refine (KO.out _).mono ?_; rintro e w' ⟨rfl,rfl⟩) | (go_at_call 59; refine (KU.out _).mono ?_; rintro e w' ⟨rfl,rfl⟩) | (go_at_call 58; refine (KI.out _).mono ?_; rintro e w' ⟨rfl,rfl⟩) | (go_at_call 128; refine (KR.out _).mono ?_; rintro e w3 ⟨rfl,hw3⟩; obtain ⟨c0,c1,c2,f0,f1,f2⟩:=(hr0.out.below hw3 hlt0).rc3)

      have hr5:=rc_store3 hr0.out (.string ⟨#[]⟩) (.string ⟨#[]⟩) (.bool false);have hb5:=rc_below3 hb0 w.heap.size (Nat.le_refl _) (.string ⟨#[]⟩) (.string ⟨#[]⟩) (.bool false);generalize World.setCell _ _ _=w5 at hr5 hb5 ⊢;obtain ⟨d0,d1,d2,_,_,_⟩:=hr5.rc3
      try simp only [Exit.inBlock,Exit.then]
      refine bodyPost_ret (v:=.tuple #[.agg #[.string ⟨#[]⟩,.string ⟨#[]⟩,.bool false],.int .i64 (-1)]) (by simp [results,Tryz.results102,go_sem,d0,d1,d2]; try rfl) rfl ?_
      exact ⟨by rw [hR.out]; rfl,hb5⟩
    | true =>
     rw [hi] at KI;have hi2:s.data.toList[u]? = some s[a]:=by simpa using hi
     cases hv:readX (s.extract (a+1) u).data.toList with
     | none =>
      have hR:=hid (HY2.out hi2 hv);have ev:readR (s.extract (a+1) u).data.toList=.tuple #[.string ⟨#[]⟩,.bool false]:=(readR_none hv).symm;rw [ev] at KR;clear HX2 HY2 HZ2 hi hi2 hv ev
      rcases hq34 with hq | hq
      ·have q1:((s[a].toNat:Int)==34)=true:=u8_eq (b:=34) hq;have q1n:((s[a].toNat:Int) != 34)=false:=by rw [bne,q1]; rfl
       clear hq;go_wp2_with first | (go_at_call 92; refine (KH.out _).mono ?_; rintro e w' ⟨rfl,rfl⟩) | (go_at_call 61; refine (KO.out _).mono ?_; rintro e w' ⟨rfl,rfl⟩) | (go_at_call 59; refine (KU.out _).mono ?_; rintro e w' ⟨rfl,rfl⟩) | (go_at_call 58; refine (KI.out _).mono ?_; rintro e w' ⟨rfl,rfl⟩) | (go_at_call 128; refine (KR.out _).mono ?_; rintro e w3 ⟨rfl,hw3⟩; obtain ⟨c0,c1,c2,f0,f1,f2⟩:=(hr0.out.below hw3 hlt0).rc3)

       have hr5:=rc_store3 (hr0.out.below hw3 hlt0) (.string ⟨#[]⟩) (.string ⟨#[]⟩) (.bool false);have hb5:=rc_below3 (hb0.trans (hw3.mono hb0.size)) w.heap.size (Nat.le_refl _) (.string ⟨#[]⟩) (.string ⟨#[]⟩) (.bool false);generalize World.setCell _ _ _=w5 at hr5 hb5 ⊢;obtain ⟨d0,d1,d2,_,_,_⟩:=hr5.rc3
       try simp only [Exit.inBlock,Exit.then]
       refine bodyPost_ret (v:=.tuple #[.agg #[.string ⟨#[]⟩,.string ⟨#[]⟩,.bool false],.int .i64 (-1)]) (by simp [results,Tryz.results102,go_sem,d0,d1,d2]; try rfl) rfl ?_
       exact ⟨by rw [hR.out]; rfl,hb5⟩
      ·have q1:((s[a].toNat:Int)==34)=false:=u8_ne (b:=34) (by rw [hq]; decide);have q1n:((s[a].toNat:Int) != 34)=true:=by rw [bne,q1]; rfl
       have q2:((s[a].toNat:Int)==39)=true:=u8_eq (b:=39) hq;have q2n:((s[a].toNat:Int) != 39)=false:=by rw [bne,q2]; rfl
       clear hq;go_wp2_with first | (go_at_call 92; refine (KH.out _).mono ?_; rintro e w' ⟨rfl,rfl⟩) | (go_at_call 61; refine (KO.out _).mono ?_; rintro e w' ⟨rfl,rfl⟩) | (go_at_call 59; refine (KU.out _).mono ?_; rintro e w' ⟨rfl,rfl⟩) | (go_at_call 58; refine (KI.out _).mono ?_; rintro e w' ⟨rfl,rfl⟩) | (go_at_call 128; refine (KR.out _).mono ?_; rintro e w3 ⟨rfl,hw3⟩; obtain ⟨c0,c1,c2,f0,f1,f2⟩:=(hr0.out.below hw3 hlt0).rc3)

       have hr5:=rc_store3 (hr0.out.below hw3 hlt0) (.string ⟨#[]⟩) (.string ⟨#[]⟩) (.bool false);have hb5:=rc_below3 (hb0.trans (hw3.mono hb0.size)) w.heap.size (Nat.le_refl _) (.string ⟨#[]⟩) (.string ⟨#[]⟩) (.bool false);generalize World.setCell _ _ _=w5 at hr5 hb5 ⊢;obtain ⟨d0,d1,d2,_,_,_⟩:=hr5.rc3
       try simp only [Exit.inBlock,Exit.then]
       refine bodyPost_ret (v:=.tuple #[.agg #[.string ⟨#[]⟩,.string ⟨#[]⟩,.bool false],.int .i64 (-1)]) (by simp [results,Tryz.results102,go_sem,d0,d1,d2]; try rfl) rfl ?_
       exact ⟨by rw [hR.out]; rfl,hb5⟩
     | some v =>
      have hR:=hid (HZ2.out v hi2 hv);have ev:readR (s.extract (a+1) u).data.toList=.tuple #[.string ⟨v.toArray⟩,.bool true]:=(readR_some hv).symm;rw [ev] at KR;clear HX2 HY2 HZ2 hi hi2 hv ev
      rcases hq34 with hq | hq
      ·have q1:((s[a].toNat:Int)==34)=true:=u8_eq (b:=34) hq;have q1n:((s[a].toNat:Int) != 34)=false:=by rw [bne,q1]; rfl
       clear hq;go_wp2_with first | (go_at_call 92; refine (KH.out _).mono ?_; rintro e w' ⟨rfl,rfl⟩) | (go_at_call 61; refine (KO.out _).mono ?_; rintro e w' ⟨rfl,rfl⟩) | (go_at_call 59; refine (KU.out _).mono ?_; rintro e w' ⟨rfl,rfl⟩) | (go_at_call 58; refine (KI.out _).mono ?_; rintro e w' ⟨rfl,rfl⟩) | (go_at_call 128; refine (KR.out _).mono ?_; rintro e w3 ⟨rfl,hw3⟩; obtain ⟨c0,c1,c2,f0,f1,f2⟩:=(hr0.out.below hw3 hlt0).rc3)

       have hr5:=rc_store3 (hr0.out.below hw3 hlt0) (.string ⟨(xbehind (s.extract k t).data.toList).toArray⟩) (.string ⟨v.toArray⟩) (.bool true);have hb5:=rc_below3 (hb0.trans (hw3.mono hb0.size)) w.heap.size (Nat.le_refl _) (.string ⟨(xbehind (s.extract k t).data.toList).toArray⟩) (.string ⟨v.toArray⟩) (.bool true);rw [← HU.out] at hr5 hb5;generalize World.setCell _ _ _=w5 at hr5 hb5 ⊢;obtain ⟨d0,d1,d2,_,_,_⟩:=hr5.rc3
       try simp only [Exit.inBlock,Exit.then]
       refine bodyPost_ret (v:=.tuple #[.agg #[.string x,.string ⟨v.toArray⟩,.bool true],.int .i64 ((u+1:Nat):Int)]) (by simp [results,Tryz.results102,go_sem,d0,d1,d2]; try rfl) rfl ?_
       exact ⟨by rw [hR.out,HU.out]; rfl,hb5⟩
      ·have q1:((s[a].toNat:Int)==34)=false:=u8_ne (b:=34) (by rw [hq]; decide);have q1n:((s[a].toNat:Int) != 34)=true:=by rw [bne,q1]; rfl
       have q2:((s[a].toNat:Int)==39)=true:=u8_eq (b:=39) hq;have q2n:((s[a].toNat:Int) != 39)=false:=by rw [bne,q2]; rfl
       clear hq;go_wp2_with first | (go_at_call 92; refine (KH.out _).mono ?_; rintro e w' ⟨rfl,rfl⟩) | (go_at_call 61; refine (KO.out _).mono ?_; rintro e w' ⟨rfl,rfl⟩) | (go_at_call 59; refine (KU.out _).mono ?_; rintro e w' ⟨rfl,rfl⟩) | (go_at_call 58; refine (KI.out _).mono ?_; rintro e w' ⟨rfl,rfl⟩) | (go_at_call 128; refine (KR.out _).mono ?_; rintro e w3 ⟨rfl,hw3⟩; obtain ⟨c0,c1,c2,f0,f1,f2⟩:=(hr0.out.below hw3 hlt0).rc3)

       have hr5:=rc_store3 (hr0.out.below hw3 hlt0) (.string ⟨(xbehind (s.extract k t).data.toList).toArray⟩) (.string ⟨v.toArray⟩) (.bool true);have hb5:=rc_below3 (hb0.trans (hw3.mono hb0.size)) w.heap.size (Nat.le_refl _) (.string ⟨(xbehind (s.extract k t).data.toList).toArray⟩) (.string ⟨v.toArray⟩) (.bool true);rw [← HU.out] at hr5 hb5;generalize World.setCell _ _ _=w5 at hr5 hb5 ⊢;obtain ⟨d0,d1,d2,_,_,_⟩:=hr5.rc3
       try simp only [Exit.inBlock,Exit.then]
       refine bodyPost_ret (v:=.tuple #[.agg #[.string x,.string ⟨v.toArray⟩,.bool true],.int .i64 ((u+1:Nat):Int)]) (by simp [results,Tryz.results102,go_sem,d0,d1,d2]; try rfl) rfl ?_
       exact ⟨by rw [hR.out,HU.out]; rfl,hb5⟩
  ·have HU:Hid (x=⟨(xbehind (s.extract k t).data.toList).toArray⟩):=show _=_ by
    unfold xbehind;rw [← hr.out]
    have:x.data.toList=[]:=List.eq_nil_of_length_eq_zero (by rw [len_data]; omega)
    rw [this]
    apply ByteArray.ext
    have:=congrArg List.toArray this
    simpa using this
   clear hr;by_cases ha:a=s.size
   ·have hR:=hid (HN.out ha);have q3:((a:Int)==(s.size:Int))=true:=by rw [beq_iff_eq]; omega
    clear HN HQ HX HY HZ;go_wp2_with first | (go_at_call 92; refine (KH.out _).mono ?_; rintro e w' ⟨rfl,rfl⟩) | (go_at_call 61; refine (KO.out _).mono ?_; rintro e w' ⟨rfl,rfl⟩) | (go_at_call 59; refine (KU.out _).mono ?_; rintro e w' ⟨rfl,rfl⟩) | (go_at_call 58; refine (KI.out _).mono ?_; rintro e w' ⟨rfl,rfl⟩) | (go_at_call 128; refine (KR.out _).mono ?_; rintro e w3 ⟨rfl,hw3⟩; obtain ⟨c0,c1,c2,f0,f1,f2⟩:=(hr0.out.below hw3 hlt0).rc3)

    have hr5:=rc_store3 hr0.out (.string ⟨#[]⟩) (.string ⟨#[]⟩) (.bool false);have hb5:=rc_below3 hb0 w.heap.size (Nat.le_refl _) (.string ⟨#[]⟩) (.string ⟨#[]⟩) (.bool false);generalize World.setCell _ _ _=w5 at hr5 hb5 ⊢;obtain ⟨d0,d1,d2,_,_,_⟩:=hr5.rc3
    try simp only [Exit.inBlock,Exit.then]
    refine bodyPost_ret (v:=.tuple #[.agg #[.string ⟨#[]⟩,.string ⟨#[]⟩,.bool false],.int .i64 (-1)]) (by simp [results,Tryz.results102,go_sem,d0,d1,d2]; try rfl) rfl ?_
    exact ⟨by rw [hR.out]; rfl,hb5⟩
   have hal:a < s.size:=by omega
   have hbd:=u8_bd s[a];have he:=one_ext s a hal;by_cases hq:s[a] ≠ 34∧s[a] ≠ 39
   ·have hR:=hid (HQ.out hal hq);have q1:((s[a].toNat:Int)==34)=false:=u8_ne (b:=34) hq.1;have q1n:((s[a].toNat:Int) != 34)=true:=by rw [bne,q1]; rfl
    have q2:((s[a].toNat:Int)==39)=false:=u8_ne (b:=39) hq.2;have q2n:((s[a].toNat:Int) != 39)=true:=by rw [bne,q2]; rfl
    have q3:((a:Int)==(s.size:Int))=false:=by rw [beq_eq_false_iff_ne]; omega
    clear HN HQ HX HY HZ hq;go_wp2_with first | (go_at_call 92; refine (KH.out _).mono ?_; rintro e w' ⟨rfl,rfl⟩) | (go_at_call 61; refine (KO.out _).mono ?_; rintro e w' ⟨rfl,rfl⟩) | (go_at_call 59; refine (KU.out _).mono ?_; rintro e w' ⟨rfl,rfl⟩) | (go_at_call 58; refine (KI.out _).mono ?_; rintro e w' ⟨rfl,rfl⟩) | (go_at_call 128; refine (KR.out _).mono ?_; rintro e w3 ⟨rfl,hw3⟩; obtain ⟨c0,c1,c2,f0,f1,f2⟩:=(hr0.out.below hw3 hlt0).rc3)

    have hr5:=rc_store3 hr0.out (.string ⟨#[]⟩) (.string ⟨#[]⟩) (.bool false);have hb5:=rc_below3 hb0 w.heap.size (Nat.le_refl _) (.string ⟨#[]⟩) (.string ⟨#[]⟩) (.bool false);generalize World.setCell _ _ _=w5 at hr5 hb5 ⊢;obtain ⟨d0,d1,d2,_,_,_⟩:=hr5.rc3
    try simp only [Exit.inBlock,Exit.then]
    refine bodyPost_ret (v:=.tuple #[.agg #[.string ⟨#[]⟩,.string ⟨#[]⟩,.bool false],.int .i64 (-1)]) (by simp [results,Tryz.results102,go_sem,d0,d1,d2]; try rfl) rfl ?_
    exact ⟨by rw [hR.out]; rfl,hb5⟩
   have q3:((a:Int)==(s.size:Int))=false:=by rw [beq_eq_false_iff_ne]; omega
   have KU:=hid (fun w'=>ruptoQ s a hal w' hs);have hu:=run_le (p:=fun b=>b != s[a] && b != 60) (l:=s.data.toList) (k:=a+1) (by rw [len_data]; omega);rw [len_data] at hu;have HX2:=hid (HX.out hal hq);have HY2:=hid (HY.out hal hq);have HZ2:=hid (HZ.out hal hq);clear HN HQ HX HY HZ;generalize runL (fun b=>b != s[a] && b != 60) s.data.toList (a+1)=u at KU hu HX2 HY2 HZ2;have KI:=hid (fun w'=>risQ s a u hal w' hs (by omega));have hw4:IntKind.i64.wrap ((a:Int)+1)=((a+1:Nat):Int):=by rw [IntKind.wrap_i64]; omega
   have hb1:(a:Int)+1≤(s.size:Int):=by omega
   have hb2:(a:Int)+1≤(u:Int):=by omega
   have hb3:(u:Int)≤(s.size:Int):=by omega
   have hn1:((a:Int)+1).toNat=a+1:=by omega
   have KR:=hid (fun w'=>rread_any (s.extract (a+1) u) w' (by rw [ByteArray.size_extract]; omega))
   have hq34:s[a]=34∨s[a]=39:=by
    by_cases h:s[a]=34
    ·exact .inl h
    ·exact .inr (Classical.byContradiction fun h2=>hq ⟨h,h2⟩)
   clear hq
   cases hi:decide (s.data.toList[u]? = some s[a]) with
   | false =>
    rw [hi] at KI;have hR:=hid (HX2.out (by simpa using hi));clear HX2 HY2 HZ2 hi
    rcases hq34 with hq | hq
    ·have q1:((s[a].toNat:Int)==34)=true:=u8_eq (b:=34) hq;have q1n:((s[a].toNat:Int) != 34)=false:=by rw [bne,q1]; rfl
     clear hq;go_wp2_with first | (go_at_call 92; refine (KH.out _).mono ?_; rintro e w' ⟨rfl,rfl⟩) | (go_at_call 61; refine (KO.out _).mono ?_; rintro e w' ⟨rfl,rfl⟩) | (go_at_call 59; refine (KU.out _).mono ?_; rintro e w' ⟨rfl,rfl⟩) | (go_at_call 58; refine (KI.out _).mono ?_; rintro e w' ⟨rfl,rfl⟩) | (go_at_call 128; refine (KR.out _).mono ?_; rintro e w3 ⟨rfl,hw3⟩; obtain ⟨c0,c1,c2,f0,f1,f2⟩:=(hr0.out.below hw3 hlt0).rc3)

     have hr5:=rc_store3 hr0.out (.string ⟨#[]⟩) (.string ⟨#[]⟩) (.bool false);have hb5:=rc_below3 hb0 w.heap.size (Nat.le_refl _) (.string ⟨#[]⟩) (.string ⟨#[]⟩) (.bool false);generalize World.setCell _ _ _=w5 at hr5 hb5 ⊢;obtain ⟨d0,d1,d2,_,_,_⟩:=hr5.rc3
     try simp only [Exit.inBlock,Exit.then]
     refine bodyPost_ret (v:=.tuple #[.agg #[.string ⟨#[]⟩,.string ⟨#[]⟩,.bool false],.int .i64 (-1)]) (by simp [results,Tryz.results102,go_sem,d0,d1,d2]; try rfl) rfl ?_
     exact ⟨by rw [hR.out]; rfl,hb5⟩
    ·have q1:((s[a].toNat:Int)==34)=false:=u8_ne (b:=34) (by rw [hq]; decide);have q1n:((s[a].toNat:Int) != 34)=true:=by rw [bne,q1]; rfl
     have q2:((s[a].toNat:Int)==39)=true:=u8_eq (b:=39) hq;have q2n:((s[a].toNat:Int) != 39)=false:=by rw [bne,q2]; rfl
     clear hq;go_wp2_with first | (go_at_call 92; refine (KH.out _).mono ?_; rintro e w' ⟨rfl,rfl⟩) | (go_at_call 61; refine (KO.out _).mono ?_; rintro e w' ⟨rfl,rfl⟩) | (go_at_call 59; refine (KU.out _).mono ?_; rintro e w' ⟨rfl,rfl⟩) | (go_at_call 58; refine (KI.out _).mono ?_; rintro e w' ⟨rfl,rfl⟩) | (go_at_call 128; refine (KR.out _).mono ?_; rintro e w3 ⟨rfl,hw3⟩; obtain ⟨c0,c1,c2,f0,f1,f2⟩:=(hr0.out.below hw3 hlt0).rc3)

     have hr5:=rc_store3 hr0.out (.string ⟨#[]⟩) (.string ⟨#[]⟩) (.bool false);have hb5:=rc_below3 hb0 w.heap.size (Nat.le_refl _) (.string ⟨#[]⟩) (.string ⟨#[]⟩) (.bool false);generalize World.setCell _ _ _=w5 at hr5 hb5 ⊢;obtain ⟨d0,d1,d2,_,_,_⟩:=hr5.rc3
     try simp only [Exit.inBlock,Exit.then]
     refine bodyPost_ret (v:=.tuple #[.agg #[.string ⟨#[]⟩,.string ⟨#[]⟩,.bool false],.int .i64 (-1)]) (by simp [results,Tryz.results102,go_sem,d0,d1,d2]; try rfl) rfl ?_
     exact ⟨by rw [hR.out]; rfl,hb5⟩
   | true =>
    rw [hi] at KI;have hi2:s.data.toList[u]? = some s[a]:=by simpa using hi
    cases hv:readX (s.extract (a+1) u).data.toList with
    | none =>
     have hR:=hid (HY2.out hi2 hv);have ev:readR (s.extract (a+1) u).data.toList=.tuple #[.string ⟨#[]⟩,.bool false]:=(readR_none hv).symm;rw [ev] at KR;clear HX2 HY2 HZ2 hi hi2 hv ev
     rcases hq34 with hq | hq
     ·have q1:((s[a].toNat:Int)==34)=true:=u8_eq (b:=34) hq;have q1n:((s[a].toNat:Int) != 34)=false:=by rw [bne,q1]; rfl
      clear hq;go_wp2_with first | (go_at_call 92; refine (KH.out _).mono ?_; rintro e w' ⟨rfl,rfl⟩) | (go_at_call 61; refine (KO.out _).mono ?_; rintro e w' ⟨rfl,rfl⟩) | (go_at_call 59; refine (KU.out _).mono ?_; rintro e w' ⟨rfl,rfl⟩) | (go_at_call 58; refine (KI.out _).mono ?_; rintro e w' ⟨rfl,rfl⟩) | (go_at_call 128; refine (KR.out _).mono ?_; rintro e w3 ⟨rfl,hw3⟩; obtain ⟨c0,c1,c2,f0,f1,f2⟩:=(hr0.out.below hw3 hlt0).rc3)

      have hr5:=rc_store3 (hr0.out.below hw3 hlt0) (.string ⟨#[]⟩) (.string ⟨#[]⟩) (.bool false);have hb5:=rc_below3 (hb0.trans (hw3.mono hb0.size)) w.heap.size (Nat.le_refl _) (.string ⟨#[]⟩) (.string ⟨#[]⟩) (.bool false);generalize World.setCell _ _ _=w5 at hr5 hb5 ⊢;obtain ⟨d0,d1,d2,_,_,_⟩:=hr5.rc3
      try simp only [Exit.inBlock,Exit.then]
      refine bodyPost_ret (v:=.tuple #[.agg #[.string ⟨#[]⟩,.string ⟨#[]⟩,.bool false],.int .i64 (-1)]) (by simp [results,Tryz.results102,go_sem,d0,d1,d2]; try rfl) rfl ?_
      exact ⟨by rw [hR.out]; rfl,hb5⟩
     ·have q1:((s[a].toNat:Int)==34)=false:=u8_ne (b:=34) (by rw [hq]; decide);have q1n:((s[a].toNat:Int) != 34)=true:=by rw [bne,q1]; rfl
      have q2:((s[a].toNat:Int)==39)=true:=u8_eq (b:=39) hq;have q2n:((s[a].toNat:Int) != 39)=false:=by rw [bne,q2]; rfl
      clear hq;go_wp2_with first | (go_at_call 92; refine (KH.out _).mono ?_; rintro e w' ⟨rfl,rfl⟩) | (go_at_call 61; refine (KO.out _).mono ?_; rintro e w' ⟨rfl,rfl⟩) | (go_at_call 59; refine (KU.out _).mono ?_; rintro e w' ⟨rfl,rfl⟩) | (go_at_call 58; refine (KI.out _).mono ?_; rintro e w' ⟨rfl,rfl⟩) | (go_at_call 128; refine (KR.out _).mono ?_; rintro e w3 ⟨rfl,hw3⟩; obtain ⟨c0,c1,c2,f0,f1,f2⟩:=(hr0.out.below hw3 hlt0).rc3)

      have hr5:=rc_store3 (hr0.out.below hw3 hlt0) (.string ⟨#[]⟩) (.string ⟨#[]⟩) (.bool false);have hb5:=rc_below3 (hb0.trans (hw3.mono hb0.size)) w.heap.size (Nat.le_refl _) (.string ⟨#[]⟩) (.string ⟨#[]⟩) (.bool false);generalize World.setCell _ _ _=w5 at hr5 hb5 ⊢;obtain ⟨d0,d1,d2,_,_,_⟩:=hr5.rc3
      try simp only [Exit.inBlock,Exit.then]
      refine bodyPost_ret (v:=.tuple #[.agg #[.string ⟨#[]⟩,.string ⟨#[]⟩,.bool false],.int .i64 (-1)]) (by simp [results,Tryz.results102,go_sem,d0,d1,d2]; try rfl) rfl ?_
      exact ⟨by rw [hR.out]; rfl,hb5⟩
    | some v =>
     have hR:=hid (HZ2.out v hi2 hv);have ev:readR (s.extract (a+1) u).data.toList=.tuple #[.string ⟨v.toArray⟩,.bool true]:=(readR_some hv).symm;rw [ev] at KR;clear HX2 HY2 HZ2 hi hi2 hv ev
     rcases hq34 with hq | hq
     ·have q1:((s[a].toNat:Int)==34)=true:=u8_eq (b:=34) hq;have q1n:((s[a].toNat:Int) != 34)=false:=by rw [bne,q1]; rfl
      clear hq;go_wp2_with first | (go_at_call 92; refine (KH.out _).mono ?_; rintro e w' ⟨rfl,rfl⟩) | (go_at_call 61; refine (KO.out _).mono ?_; rintro e w' ⟨rfl,rfl⟩) | (go_at_call 59; refine (KU.out _).mono ?_; rintro e w' ⟨rfl,rfl⟩) | (go_at_call 58; refine (KI.out _).mono ?_; rintro e w' ⟨rfl,rfl⟩) | (go_at_call 128; refine (KR.out _).mono ?_; rintro e w3 ⟨rfl,hw3⟩; obtain ⟨c0,c1,c2,f0,f1,f2⟩:=(hr0.out.below hw3 hlt0).rc3)

      have hr5:=rc_store3 (hr0.out.below hw3 hlt0) (.string ⟨(xbehind (s.extract k t).data.toList).toArray⟩) (.string ⟨v.toArray⟩) (.bool true);have hb5:=rc_below3 (hb0.trans (hw3.mono hb0.size)) w.heap.size (Nat.le_refl _) (.string ⟨(xbehind (s.extract k t).data.toList).toArray⟩) (.string ⟨v.toArray⟩) (.bool true);rw [← HU.out] at hr5 hb5;generalize World.setCell _ _ _=w5 at hr5 hb5 ⊢;obtain ⟨d0,d1,d2,_,_,_⟩:=hr5.rc3
      try simp only [Exit.inBlock,Exit.then]
      refine bodyPost_ret (v:=.tuple #[.agg #[.string x,.string ⟨v.toArray⟩,.bool true],.int .i64 ((u+1:Nat):Int)]) (by simp [results,Tryz.results102,go_sem,d0,d1,d2]; try rfl) rfl ?_
      exact ⟨by rw [hR.out,HU.out]; rfl,hb5⟩
     ·have q1:((s[a].toNat:Int)==34)=false:=u8_ne (b:=34) (by rw [hq]; decide);have q1n:((s[a].toNat:Int) != 34)=true:=by rw [bne,q1]; rfl
      have q2:((s[a].toNat:Int)==39)=true:=u8_eq (b:=39) hq;have q2n:((s[a].toNat:Int) != 39)=false:=by rw [bne,q2]; rfl
      clear hq;go_wp2_with first | (go_at_call 92; refine (KH.out _).mono ?_; rintro e w' ⟨rfl,rfl⟩) | (go_at_call 61; refine (KO.out _).mono ?_; rintro e w' ⟨rfl,rfl⟩) | (go_at_call 59; refine (KU.out _).mono ?_; rintro e w' ⟨rfl,rfl⟩) | (go_at_call 58; refine (KI.out _).mono ?_; rintro e w' ⟨rfl,rfl⟩) | (go_at_call 128; refine (KR.out _).mono ?_; rintro e w3 ⟨rfl,hw3⟩; obtain ⟨c0,c1,c2,f0,f1,f2⟩:=(hr0.out.below hw3 hlt0).rc3)

      have hr5:=rc_store3 (hr0.out.below hw3 hlt0) (.string ⟨(xbehind (s.extract k t).data.toList).toArray⟩) (.string ⟨v.toArray⟩) (.bool true);have hb5:=rc_below3 (hb0.trans (hw3.mono hb0.size)) w.heap.size (Nat.le_refl _) (.string ⟨(xbehind (s.extract k t).data.toList).toArray⟩) (.string ⟨v.toArray⟩) (.bool true);rw [← HU.out] at hr5 hb5;generalize World.setCell _ _ _=w5 at hr5 hb5 ⊢;obtain ⟨d0,d1,d2,_,_,_⟩:=hr5.rc3
      try simp only [Exit.inBlock,Exit.then]
      refine bodyPost_ret (v:=.tuple #[.agg #[.string x,.string ⟨v.toArray⟩,.bool true],.int .i64 ((u+1:Nat):Int)]) (by simp [results,Tryz.results102,go_sem,d0,d1,d2]; try rfl) rfl ?_
      exact ⟨by rw [hR.out,HU.out]; rfl,hb5⟩
set_option maxHeartbeats 1000000 in
set_option maxRecDepth 100000 in
theorem rbehind_any (l:List UInt8) (n:Nat) (w:World) (hl:l.length≤140737488355328) (hn:n≤4) :
  Calls Tryz.prog 64 #[.string ⟨l.toArray⟩,.int .i64 (n:Int)] w fun e w'=>e=.returned (.string ⟨(l.drop n).toArray⟩)∧w'=w:=by
 have z1:=size_list l;by_cases h:l.length < n
 ·have r1:(l.length:Int) < (n:Int):=by omega
  have HD:Hid (l.drop n=[]):=show _=_ from List.drop_eq_nil_of_le (by omega)
  go_enter Tryz.func64,Tryz.ntmps64
  go_wp2;go_ret;exact ⟨by rw [HD.out]; rfl,rfl⟩
 ·have r1:¬ (l.length:Int) < (n:Int):=by omega
  have r2:(n:Int)≤(l.length:Int):=by omega
  have HD:=hid (drop_extract l n (by omega))
  go_enter Tryz.func64,Tryz.ntmps64
  go_wp2;go_ret;exact ⟨by rw [← HD.out]; rfl,rfl⟩
structure rg15Ops (ops:Array Oper):Prop where
 sz:ops.size=16
 p0:OpIs ops 0 (some 80) (.fieldAddr 24 (.tmp 3) 2)
 p1:OpIs ops 1 (some 81) (.load 22 (.tmp 80))
 p2:OpIs ops 2 (some 82) (.move (.tmp 15))
 p3:OpIs ops 3 (some 83) (.move (.tmp 0))
 p4:OpIs ops 4 (some 84) (.move (.tmp 8))
 p5:OpIs ops 5 (some 85) (.indexAddr 40 (.tmp 83) (.tmp 84))
 p6:OpIs ops 6 (some 86) (.fieldAddr 49 (.tmp 85) 3)
 p7:OpIs ops 7 (some 87) (.load 9 (.tmp 86))
 p8:OpIs ops 8 (some 88) (.call { callee:=.value (.func 64),args:=#[.tmp 87,.const (.int .i64 4)],argTypes:=#[9,3] })
 p9:OpIs ops 9 (some 89) (.move (.tmp 11))
 p10:OpIs ops 10 (some 90) (.move (.tmp 13))
 p11:OpIs ops 11 (some 91) (.build 51 #[(0,.tmp 82),(1,.tmp 88),(2,.tmp 89),(3,.tmp 90)])
 p12:OpIs ops 12 (some 92) (.buildSlice 22 1 #[(0,.tmp 91)])
 p13:OpIs ops 13 (some 93) (.call { callee:=.builtin .append,args:=#[.tmp 81,.tmp 92],argTypes:=#[22,22] })
 p14:OpIs ops 14 (some 94) (.fieldAddr 24 (.tmp 3) 2)
 p15:OpIs ops 15 none (.store 22 (.tmp 94) (.tmp 93))
 w1_0:Waits ops 1 0
 w5_3:Waits ops 5 3
 w5_4:Waits ops 5 4
 w6_5:Waits ops 6 5
 w7_6:Waits ops 7 6
 w8_7:Waits ops 8 7
 w11_2:Waits ops 11 2
 w11_8:Waits ops 11 8
 w11_9:Waits ops 11 9
 w11_10:Waits ops 11 10
 w12_11:Waits ops 12 11
 w13_1:Waits ops 13 1
 w13_12:Waits ops 13 12
 w15_13:Waits ops 15 13
 w15_14:Waits ops 15 14
def rg15D:Nat → Nat
 | 0=>80
 | 1=>81
 | 2=>82
 | 3=>83
 | 4=>84
 | 5=>85
 | 6=>86
 | 7=>87
 | 8=>88
 | 9=>89
 | 10=>90
 | 11=>91
 | 12=>92
 | 14=>94
 | 13=>93
 | _=>2000
def rg15R (B b n cap k tn tc:Nat) (vo:Option Addr) (ad:Addr) (wid:Int) (tx st ev:List UInt8):Nat → Value → World → Prop
 | 0=>fun v w=>v=.pointer (some ⟨b,2,none⟩)
 | 1=>fun v w=>v=.slice vo tn tc
 | 2=>fun v w=>v=.int .i64 wid
 | 3=>fun v w=>v=.slice (some ad) n cap
 | 4=>fun v w=>v=.int .i64 (k:Int)
 | 5=>fun v w=>v=.pointer (some (ad.add (k * 4)))
 | 6=>fun v w=>v=.pointer (some ⟨(ad.add (k * 4)).block,(ad.add (k * 4)).off+3,none⟩)
 | 7=>fun v w=>v=.string ⟨tx.toArray⟩
 | 8=>fun v w=>v=.string ⟨(tx.drop 4).toArray⟩
 | 9=>fun v w=>v=.string ⟨st.toArray⟩
 | 10=>fun v w=>v=.string ⟨ev.toArray⟩
 | 11=>fun v w=>v=.agg #[.int .i64 wid,.string ⟨(tx.drop 4).toArray⟩,.string ⟨st.toArray⟩,.string ⟨ev.toArray⟩]
 | 12=>fun v w=>∃ g2,v=.slice (some ⟨g2,0,none⟩) 1 1∧g2 < w.heap.size∧∀ (j:Nat) (u:Value),(wtCells ⟨wid,tx.drop 4,st,ev⟩)[j]? = some u → w.cell? ((⟨g2,0,none⟩:Addr).add j)=some u
 | 14=>fun v w=>v=.pointer (some ⟨b,2,none⟩)
 | _=>fun _ _=>True
def rg15P (a0:Act) (W:World) (B b n cap k tn tc:Nat) (vo:Option Addr) (ad:Addr) (wid:Int) (tx st ev:List UInt8):MP where
 a0:=a0
 lo:=80
 hi:=95
 n:=96
 k:=16
 W:=W
 D:=rg15D
 R:=rg15R B b n cap k tn tc vo ad wid tx st ev
theorem rg15_inj:∀ j,j < 16 → ∀ i,i < 15 → j ≠ i → rg15D j ≠ rg15D i:=by decide +kernel
theorem rg15_st (B b n cap k tn tc:Nat) (vo:Option Addr) (ad:Addr) (wid:Int) (tx st ev:List UInt8) {u u':World} (hb:Below u.heap.size u u'):∀ j v,j < 16 → rg15R B b n cap k tn tc vo ad wid tx st ev j v u → rg15R B b n cap k tn tc vo ad wid tx st ev j v u':=by
 intro j v hj h
 rcases (show j=0∨j=1∨j=2∨j=3∨j=4∨j=5∨j=6∨j=7∨j=8∨j=9∨j=10∨j=11∨j=12∨j=13∨j=14∨j=15 by omega) with rfl | rfl | rfl | rfl | rfl | rfl | rfl | rfl | rfl | rfl | rfl | rfl | rfl | rfl | rfl | rfl
 ·exact h
 ·exact h
 ·exact h
 ·exact h
 ·exact h
 ·exact h
 ·exact h
 ·exact h
 ·exact h
 ·exact h
 ·exact h
 ·exact h
 ·obtain ⟨g2,h1,h3,h4⟩:=h; exact ⟨g2,h1,Nat.lt_of_lt_of_le h3 hb.size,fun j u hj=>cell_below hb (by rw [add_block]; exact h3) (h4 j u hj)⟩
 ·exact h
 ·exact h
 ·exact h
end Go.Proofs.YtdbalahkmeknaaaGreatDoor
