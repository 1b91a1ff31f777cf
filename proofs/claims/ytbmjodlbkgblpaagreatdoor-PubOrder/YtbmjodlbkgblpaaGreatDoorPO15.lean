/-
  XChk2, XChk3, NdOwn, XAwake, RefDig, PR1, PC1, StrSplit.
-/
import Derived.Test.YtbmjodlbkgblpaaGreatDoorPO14
import Derived.OneCell
import Derived.WalkMore
import Derived.Lib.OthersKept
import Derived.Deep.AppendLies
import Derived.Lib.FrozenHead2
import Derived.Deep.CutRange
import Derived.Defers
import Derived.Recover
import Derived.Laws.Pointers
import Derived.Laws.RangeString
set_option linter.unusedVariables false
set_option linter.unusedSimpArgs false
set_option maxRecDepth 20000
namespace Go.Proofs.YtbmjodlbkgblpaaGreatDoor
open Go.RowKit Sc
set_option maxHeartbeats 4000000 in
set_option maxRecDepth 100000 in
theorem xattrs_any (v:Value) (ps:List Par) (w:World) (hsm:SmallP 140737488355328 ps) (hv:ParsAt w v ps) :
  Calls Tryz.prog 129 #[v] w fun e w'=>e=.returned (.bool (attrsOk ps))∧Below w.heap.size w w':=by
 have HV:=hid hv;obtain ⟨ao,cap,rfl,hc⟩:=hv.open;have HC:=hid hc;have HS:=hid hsm.2;have hz:=hsm.1;clear hc hv hsm;by_cases h16:16 < ps.length
 ·have hR:Hid (attrsOk ps=false):=show _=_ by unfold attrsOk; rw [decide_eq_false (by omega)]; rfl
  generalize attrsOk ps=R at hR ⊢;obtain ⟨n,hn⟩:∃ n,n=ps.length:=⟨_,rfl⟩
  rw [← hn] at h16 hz ⊢;have r16:(16:Int) < (n:Int):=by omega
  clear HC HS hn HV
  go_enter Tryz.func129,Tryz.ntmps129
  go_wp2;go_ret;exact ⟨ret_bool hR.out.symm,Below.refl _ _⟩
 have hl:ps.length≤16:=by omega
 have HB:=hid (fun j (hj:j < ps.length)=>attrs_bad hl hj);have HT:=hid (fun j m (hj:j < ps.length) (hm:m < j)=>attrs_twice hl hj hm);have HE:Hid (((ps.take ps.length).all attrOk && distinctX (ps.take ps.length))=true → attrsOk ps=true):=fun h=>by rw [attrsOk_is ps hl]; rw [List.take_length] at h; exact h
 have HN:=hid (fun j (hj:j < ps.length)=>@attrs_snoc ps j hj);generalize attrsOk ps=R at HB HT HE ⊢;obtain ⟨n,hn⟩:∃ n,n=ps.length:=⟨_,rfl⟩
 have KF:=hid (fun nm w' (h':ParsAt w' (.slice ao ps.length cap) ps)=>xfind_any (.slice ao ps.length cap) ps nm w' (by omega) h');rw [← hn] at hl hz HE h16 HV KF ⊢;have r16:¬ (16:Int) < (n:Int):=by omega
 have HL:=hid hn;clear hn
 go_enter Tryz.func129,Tryz.ntmps129
 go_wp2
 go_loopw [10] (fun i wr=>∃ (j:Nat),j≤n∧i=.int .i64 j∧Below w.heap.size w wr∧Hid (((ps.take j).all attrOk && distinctX (ps.take j))=true)) (fun i _=>n - (intOf i).toNat)
 case atStart=>exact ⟨0,Nat.zero_le _,rfl,Below.refl _ _,show _=_ from rfl⟩
 case round =>
  obtain ⟨j,hjn,rfl,hb,ha⟩:=hrel;by_cases hlt:j < n
  ·have hjl:j < ps.length:=by have:=HL.out; omega
   obtain ⟨ad,hao,hab,c0,c1,c2⟩:=HC.out j hjl;subst hao;obtain ⟨s1,s2⟩:=HS.out ps[j] (List.getElem_mem hjl);have a0:=cell_below hb (by rw [add_block]; exact hab) c0;have a1:=cell_below hb (by simp only [add_block]; exact hab) c1;have a2:=cell_below hb (by simp only [add_block]; exact hab) c2;have KN:=hid (fun w'=>xname_list ps[j].name w' s1);have KS:=hid (fun w'=>xsigns_list ps[j].value w' s2);have HB1:=hid (HB.out j hjl);have HO:=hid (find_own hjl 0 (Nat.zero_le _));have HT1:=hid (fun m hm=>HT.out j m hjl hm);have HN1:=hid (HN.out j hjl ha.out);have hok:attrOk ps[j]=(nameX ps[j].name && (ps[j].has && signsX ps[j].value)):=rfl;have q6:(j:Int) < (n:Int):=by omega
   have hrow:=rc_row3 wr (.string ⟨ps[j].name.toArray⟩) (.string ⟨ps[j].value.toArray⟩) (.bool ps[j].has) 173;have hbn:Below w.heap.size w (wr.alloc (.cells #[.string ⟨ps[j].name.toArray⟩,.string ⟨ps[j].value.toArray⟩,.bool ps[j].has] 173)):=hb.alloc hb.size _;have hltn:=alloc_lt wr (.cells #[.string ⟨ps[j].name.toArray⟩,.string ⟨ps[j].value.toArray⟩,.bool ps[j].has] 173);have KFj:=hid (KF.out ps[j].name);clear HB HT HN s1 s2 ha c0 c1 c2;generalize hP:ps[j]=P at a0 a1 a2 KN KS HB1 HT1 HN1 hok hrow hbn hltn HO KFj;obtain ⟨pn,pv,ph⟩:=P;simp only at a0 a1 a2 KN KS HT1 HN1 hok hrow hbn hltn HO KFj;rw [List.drop_zero] at HO
   cases hnm:nameX pn with
   | false =>
    rw [hnm] at KN;have hR:=hid (HB1.out (by rw [hok,hnm]; rfl));clear hok HB1 HT1 HN1 hP hnm HC HS HO;go_wp2_with (go_at_call 128; refine (KN.out _).mono ?_; rintro e w' ⟨rfl,rfl⟩)
    go_ret;exact ⟨ret_bool hR.out.symm,hbn⟩
   | true =>
    rw [hnm] at KN;by_cases hf:findX pn ps 0=(j:Int)
    ·have hdis:=HO.out.1 hf;rw [hf] at KFj
     have HD:Hid ((ps.take j).all (fun q=>!(q.name==pn))=true):=show _=_ by
      rw [List.all_eq_true];intro q hq;obtain ⟨m,hm,rfl⟩:=List.mem_take_iff_getElem.1 hq
      have:=hdis m (by omega) (Nat.zero_le _)
      rw [Bool.not_eq_true',beq_eq_false_iff_ne]; exact this
     have q7:((j:Int)==(j:Int))=true:=by simp
     have q7n:((j:Int) != (j:Int))=false:=by simp
     cases ph with
     | false =>
      have hR:=hid (HB1.out (by rw [hok,hnm]; rfl));clear hok HB1 HT1 HN1 hP hnm HC HS HO hf hdis;go_wp2_with (go_at_call 128; refine (KN.out _).mono ?_; rintro e w' ⟨rfl,rfl⟩)
      generalize World.alloc _ _=W0 at hrow hbn hltn ⊢;refine (KFj.out _ (HV.out.below (by simpa using hbn))).mono ?_
      rintro e w2 ⟨rfl,hw2⟩;obtain ⟨d0,d1,d2,_,_,_⟩:=(hrow.below hw2 hltn).rc3;go_wp2;go_ret;exact ⟨ret_bool hR.out.symm,hbn.trans (hw2.mono hbn.size)⟩
     | true =>
      cases hsg:signsX pv with
      | false =>
       rw [hsg] at KS;have hR:=hid (HB1.out (by rw [hok,hnm,hsg]; rfl));clear hok HB1 HT1 HN1 hP hnm HC HS HO hf hdis hsg;go_wp2_with (go_at_call 128; refine (KN.out _).mono ?_; rintro e w' ⟨rfl,rfl⟩)
       generalize World.alloc _ _=W0 at hrow hbn hltn ⊢;refine (KFj.out _ (HV.out.below (by simpa using hbn))).mono ?_
       rintro e w2 ⟨rfl,hw2⟩;obtain ⟨d0,d1,d2,_,_,_⟩:=(hrow.below hw2 hltn).rc3;go_wp2_with (go_at_call 151; refine (KS.out _).mono ?_; rintro e w' ⟨rfl,hw'⟩; rw [hw']; clear hw' w')
       go_ret;exact ⟨ret_bool hR.out.symm,hbn.trans (hw2.mono hbn.size)⟩
      | true =>
       rw [hsg] at KS;have hN:=hid (HN1.out (by rw [hok,hnm,hsg]; rfl) HD.out);clear hok HB1 HT1 HN1 hP hnm HC HS HO hf hdis hsg;go_wp2_with (go_at_call 128; refine (KN.out _).mono ?_; rintro e w' ⟨rfl,rfl⟩)
       generalize World.alloc _ _=W0 at hrow hbn hltn ⊢;refine (KFj.out _ (HV.out.below (by simpa using hbn))).mono ?_
       rintro e w2 ⟨rfl,hw2⟩;obtain ⟨d0,d1,d2,_,_,_⟩:=(hrow.below hw2 hltn).rc3;go_wp2_with (go_at_call 151; refine (KS.out _).mono ?_; rintro e w' ⟨rfl,hw'⟩; rw [hw']; clear hw' w')
       go_roundw
       case rel=>exact ⟨j+1,by omega,by go_num,hbn.trans (hw2.mono hbn.size),hN⟩
       case measure=>simp [intOf]; omega
    ·have hR:Hid (R=false):=by
      have hx:¬ ∀ m (hm:m < j),0≤m → (ps[m]'(by omega)).name ≠ pn:=fun hh=>hf (HO.out.2 hh);have hy:∃ m,∃ hm:m < j,(ps[m]'(by omega)).name=pn:=Classical.byContradiction fun hh=>hx fun m hm _ e=>hh ⟨m,hm,e⟩;obtain ⟨m,hm,he⟩:=hy;exact HT1.out m hm (by rw [beq_iff_eq]; exact he)
     generalize findX pn ps 0=F at KFj hf;have q7:(F==(j:Int))=false:=by rw [beq_eq_false_iff_ne]; exact hf
     have q7n:(F != (j:Int))=true:=by rw [bne,q7]; rfl
     clear hok HB1 HT1 HN1 hP hnm HC HS HO hf;go_wp2_with (go_at_call 128; refine (KN.out _).mono ?_; rintro e w' ⟨rfl,rfl⟩)
     generalize World.alloc _ _=W0 at hrow hbn hltn ⊢;refine (KFj.out _ (HV.out.below (by simpa using hbn))).mono ?_
     rintro e w2 ⟨rfl,hw2⟩;go_wp2;go_ret;exact ⟨ret_bool hR.out.symm,hbn.trans (hw2.mono hbn.size)⟩
  ·have hE:Hid (R=true):=HE.out (by
    have:=ha.out
    have e:j=n:=by omega
    rw [e] at this;exact this)
   clear ha;go_wp2;go_ret;exact ⟨ret_bool hE.out.symm,hb⟩
def placedB (x y:Nd):Bool:=!(decide (x.deep < y.deep) && !x.text.isEmpty) && (decide (1≤y.deep) && (decide (y.deep≤x.deep+1) && decide (y.deep < 8)))
set_option maxHeartbeats 2000000 in
set_option maxRecDepth 100000 in
theorem xplaced_first (ad:Addr) (n cap:Nat) (c:NdC) (w:World) (h0:0 < n) (hc:NdAt w ad 0 c) :
  Calls Tryz.prog 127 #[.slice (some ad) n cap,.int .i64 0] w fun e w'=>e=.returned (.bool (c.nd.deep==0))∧Below w.heap.size w w':=by
 have c0:=hc.c0;rw [Nat.zero_mul] at c0;have ez:ad.add 0=ad:=by cases ad; unfold Addr.add; split <;> simp_all
 have c1:=c0;rw [ez] at c1;have q:(0:Int) < (n:Int):=by omega
 go_enter Tryz.func127,Tryz.ntmps127
 go_wp2;go_ret;exact ⟨rfl,Below.refl _ _⟩
set_option maxHeartbeats 4000000 in
set_option maxRecDepth 100000 in
theorem xplaced_next (ad:Addr) (n cap i:Nat) (x y:NdC) (w:World) (hn:n≤1000000) (hi:i+1 < n) (hx:NdAt w ad i x) (hy:NdAt w ad (i+1) y) (hxf:∃ po pn pc,x.a=.slice po pn pc) (hd:x.nd.deep < 8) (hd0:-9223372036854775808≤x.nd.deep) :
  Calls Tryz.prog 127 #[.slice (some ad) n cap,.int .i64 ((i+1:Nat):Int)] w fun e w'=>e=.returned (.bool (placedB x.nd y.nd))∧Below w.heap.size w w':=by
 obtain ⟨c0,c1,c2,c3⟩:=hx;obtain ⟨d0,d1,d2,d3⟩:=hy;obtain ⟨⟨xd,xn,xps,xt⟩,xa⟩:=x;obtain ⟨⟨yd,yn,yps,yt⟩,ya⟩:=y;simp only at c0 c1 c2 c3 d0 d1 d2 d3 hxf hd hd0 ⊢;obtain ⟨po,pn,pc,rfl⟩:=hxf;have hP:placedB ⟨xd,xn,xps,xt⟩ ⟨yd,yn,yps,yt⟩=(!(decide (xd < yd) && !xt.isEmpty) && (decide (1≤yd) && (decide (yd≤xd+1) && decide (yd < 8)))):=rfl;generalize placedB ⟨xd,xn,xps,xt⟩ ⟨yd,yn,yps,yt⟩=R at hP ⊢;have q:((i+1:Nat):Int) < (n:Int):=by omega
 have qz:(((i+1:Nat):Int)==0)=false:=by rw [beq_eq_false_iff_ne]; omega
 have hw1:IntKind.i64.wrap (((i+1:Nat):Int) - 1)=(i:Int):=by rw [IntKind.wrap_i64]; omega
 have q2:(i:Int) < (n:Int):=by omega
 have hw2:IntKind.i64.wrap (xd+1)=xd+1:=by rw [IntKind.wrap_i64]; omega
 have hb:Below w.heap.size w (w.alloc (.cells #[.int .i64 xd,.string ⟨xn.toArray⟩,.slice po pn pc,.string ⟨xt.toArray⟩] 160)):=(Below.refl _ w).alloc (Nat.le_refl _) _;generalize hI:((i+1:Nat):Int)=I at q qz hw1 ⊢;have hIn:I.toNat=i+1:=by omega
 have hI0:0≤I:=by omega
 clear hI;have fin:∀ (b1 b2 b3:Bool),decide (1≤yd)=b1 → decide (yd≤xd+1)=b2 → decide (yd < 8)=b3 → R=(!(decide (xd < yd) && !xt.isEmpty) && (b1 && (b2 && b3))):=fun b1 b2 b3 e1 e2 e3=>by rw [hP,e1,e2,e3]
 have HF:=hid fin;clear hP fin;by_cases hA:xd < yd
 ·have hAd:decide (xd < yd)=true:=decide_eq_true hA
  cases hte:xt.isEmpty with
  | false =>
   have HR:Hid (R=false):=show _=_ by rw [HF.out _ _ _ rfl rfl rfl,hAd,hte]; rfl
   clear HF
   go_enter Tryz.func127,Tryz.ntmps127
   go_wp2;go_ret;exact ⟨ret_bool HR.out.symm,hb⟩
  | true =>
   have HF2:Hid (R=(decide (1≤yd) && (decide (yd≤xd+1) && decide (yd < 8)))):=show _=_ by rw [HF.out _ _ _ rfl rfl rfl,hAd,hte]; rfl
   clear HF;by_cases h1:1≤yd
   ·by_cases h2:yd≤xd+1
    ·by_cases h3:yd < 8
     ·have HR:Hid (R=true):=show _=_ by rw [HF2.out,decide_eq_true h1,decide_eq_true h2,decide_eq_true h3]; rfl
      clear HF2
      go_enter Tryz.func127,Tryz.ntmps127
      go_wp2;go_ret;exact ⟨ret_bool (by first | (rw [HR.out]; done) | (rw [HR.out]; simp [*]; done) | (rw [HR.out]; simp [*]; omega)),hb⟩
     ·have HR:Hid (R=false):=show _=_ by rw [HF2.out,decide_eq_false h3]; simp
      clear HF2
      go_enter Tryz.func127,Tryz.ntmps127
      go_wp2;go_ret;exact ⟨ret_bool (by first | (rw [HR.out]; done) | (rw [HR.out]; simp [*]; done) | (rw [HR.out]; simp [*]; omega)),hb⟩
    ·have HR:Hid (R=false):=show _=_ by rw [HF2.out,decide_eq_false h2]; simp
     clear HF2
     go_enter Tryz.func127,Tryz.ntmps127
     go_wp2;go_ret;exact ⟨ret_bool (by first | (rw [HR.out]; done) | (rw [HR.out]; simp [*]; done) | (rw [HR.out]; simp [*]; omega)),hb⟩
   ·have HR:Hid (R=false):=show _=_ by rw [HF2.out,decide_eq_false h1]; simp
    clear HF2
    go_enter Tryz.func127,Tryz.ntmps127
    go_wp2;go_ret;exact ⟨ret_bool (by first | (rw [HR.out]; done) | (rw [HR.out]; simp [*]; done) | (rw [HR.out]; simp [*]; omega)),hb⟩
 ·have hAd:decide (xd < yd)=false:=decide_eq_false hA;have HF2:Hid (R=(decide (1≤yd) && (decide (yd≤xd+1) && decide (yd < 8)))):=show _=_ by rw [HF.out _ _ _ rfl rfl rfl,hAd]; rfl
  clear HF;by_cases h1:1≤yd
  ·have h2:yd≤xd+1:=by omega
   have h3:yd < 8:=by omega
   have HR:Hid (R=true):=show _=_ by rw [HF2.out,decide_eq_true h1,decide_eq_true h2,decide_eq_true h3]; rfl
   clear HF2
   go_enter Tryz.func127,Tryz.ntmps127
   go_wp2;go_ret;exact ⟨ret_bool (by first | (rw [HR.out]; done) | (rw [HR.out]; simp [*]; done) | (rw [HR.out]; simp [*]; omega)),hb⟩
  ·have HR:Hid (R=false):=show _=_ by rw [HF2.out,decide_eq_false h1]; simp
   clear HF2
   go_enter Tryz.func127,Tryz.ntmps127
   go_wp2;go_ret;exact ⟨ret_bool (by first | (rw [HR.out]; done) | (rw [HR.out]; simp [*]; done) | (rw [HR.out]; simp [*]; omega)),hb⟩
def okK (cs:List NdC) (m:Nat) (h:m < cs.length):Prop:=(m=0 → cs[m].nd.deep=0)∧(∀ h2:0 < m,placedB (cs[m - 1]'(by omega)).nd cs[m].nd=true)∧nodeOk cs[m].nd=true
theorem placedB_iff (x y:Nd):placedB x y=true ↔ (x.deep < y.deep → x.text=[])∧1≤y.deep∧y.deep≤x.deep+1∧y.deep < 8:=by
 unfold placedB;simp only [Bool.and_eq_true,Bool.not_eq_true',Bool.and_eq_false_iff,decide_eq_true_eq,decide_eq_false_iff_not,Bool.not_eq_false',List.isEmpty_iff]
 constructor
 ·rintro ⟨h1,h2,h3,h4⟩;exact ⟨fun h=>h1.resolve_left (fun k=>k h),h2,h3,h4⟩
 ·rintro ⟨h1,h2,h3,h4⟩;refine ⟨?_,h2,h3,h4⟩
  by_cases h:x.deep < y.deep
  ·exact .inr (h1 h)
  ·exact .inl h
theorem okK_all {cs:List NdC} (hp:0 < cs.length) (h200:cs.length≤200) (h:∀ m (hm:m < cs.length),okK cs m hm):checkX (ndsL cs)=0:=by
 refine chk_ok hp h200 ((h 0 hp).1 rfl) fun i hi=>?_
 refine ⟨fun h0=>?_,(h i hi).2.2,fun h2 hd=>?_⟩
 ·have:=(placedB_iff _ _).1 ((h i hi).2.1 h0)
  exact ⟨this.2.1,this.2.2.1⟩
 ·have:=(placedB_iff _ _).1 ((h (i+1) h2).2.1 (by omega))
  simp only [Nat.add_sub_cancel] at this;exact this.1 hd
theorem okK_node {cs:List NdC} {m:Nat} (hm:m < cs.length) (h:nodeOk cs[m].nd=false):checkX (ndsL cs)=130:=chk_bad hm fun hk=>by
 rw [hk.2.1] at h; cases h
theorem okK_place {cs:List NdC} {m:Nat} (hm:m+1 < cs.length) (h:placedB cs[m].nd cs[m+1].nd=false):checkX (ndsL cs)=130:=by
 by_cases h1:1≤cs[m+1].nd.deep∧cs[m+1].nd.deep≤cs[m].nd.deep+1
 ·by_cases h2:cs[m+1].nd.deep < 8
  ·refine chk_bad (i:=m) (by omega) fun hk=>?_
   have:placedB cs[m].nd cs[m+1].nd=true:=(placedB_iff _ _).2 ⟨fun hd=>hk.2.2 hm hd,h1.1,h1.2,h2⟩
   rw [this] at h; cases h
  ·exact chk_bad hm fun hk=>h2 (node_facts hk.2.1).1
 ·exact chk_bad hm fun hk=>h1 (hk.1 (by omega))
set_option maxHeartbeats 4000000 in
set_option maxRecDepth 100000 in
theorem xcheck_any (v:Value) (cs:List NdC) (w:World) (hz:cs.length≤140737488355328) (hsm:∀ c ∈ cs,SmallN 140737488355328 c.nd) (hv:NdsAt w v cs) :
  Calls Tryz.prog 103 #[v] w fun e w'=>e=.returned (.int .i64 (checkX (ndsL cs)))∧Below w.heap.size w w':=by
 obtain ⟨ao,cap,rfl,hc⟩:=hv;have HC:=hid hc;have HS:=hid hsm;clear hc hsm;by_cases h0:cs.length < 1∨200 < cs.length
 ·have hR:=hid (chk_size h0);generalize checkX (ndsL cs)=R at hR ⊢;obtain ⟨n,hn⟩:∃ n,n=cs.length:=⟨_,rfl⟩
  rw [← hn] at h0 hz ⊢;clear HC HS hn;by_cases h1:n < 1
  ·have r1:((n:Int)==0)=true:=by rw [beq_iff_eq]; omega
   go_enter Tryz.func103,Tryz.ntmps103
   go_wp2;go_ret;exact ⟨ret_int hR.out.symm,Below.refl _ _⟩
  ·have r1:((n:Int)==0)=false:=by rw [beq_eq_false_iff_ne]; omega
   have r2:(200:Int) < (n:Int):=by omega
   go_enter Tryz.func103,Tryz.ntmps103
   go_wp2;go_ret;exact ⟨ret_int hR.out.symm,Below.refl _ _⟩
 have hp:0 < cs.length:=by omega
 have h200:cs.length≤200:=by omega
 obtain ⟨ad,hao,hab,_,_⟩:=HC.out 0 hp;subst hao;have HA:=hid (@okK_all cs hp h200);have HN:=hid (fun m (hm:m < cs.length)=>@okK_node cs m hm);have HP:=hid (fun m (hm:m+1 < cs.length)=>@okK_place cs m hm);have HH:=hid (@chk_head cs hp);generalize checkX (ndsL cs)=R at HA HN HP HH ⊢;obtain ⟨n,hn⟩:∃ n,n=cs.length:=⟨_,rfl⟩
 rw [← hn] at h200 hz ⊢;have HL:=hid hn;have r1:((n:Int)==0)=false:=by rw [beq_eq_false_iff_ne]; omega
 have r2:¬ (200:Int) < (n:Int):=by omega
 clear h0 hn
 go_enter Tryz.func103,Tryz.ntmps103
 go_wp2
 go_loopw [15] (fun i wr=>∃ (j:Nat),j≤n∧i=.int .i64 j∧Below w.heap.size w wr∧Hid (∀ m (hm:m < cs.length),m < j → okK cs m hm)) (fun i _=>n - (intOf i).toNat)
 case atStart=>exact ⟨0,Nat.zero_le _,rfl,Below.refl _ _,fun m _ hm=>by omega⟩
 case round =>
  obtain ⟨j,hjn,rfl,hb,ha⟩:=hrel;by_cases hlt:j < n
  ·have hj1:j < cs.length:=by have:=HL.out; omega
   obtain ⟨ad2,hao,hab2,cN,pa⟩:=HC.out j hj1;have ead:ad2=ad:=(Option.some.inj hao).symm;subst ead;obtain ⟨s1,s2,s3,s4⟩:=HS.out cs[j] (List.getElem_mem hj1);have cN':=cN.below hb hab2;have q6:(j:Int) < (n:Int):=by omega
   obtain ⟨po,pc,hpf⟩:=pa.form;have hrow:=rc_row4 wr (.int .i64 cs[j].nd.deep) (.string ⟨cs[j].nd.name.toArray⟩) cs[j].a (.string ⟨cs[j].nd.text.toArray⟩) 160;have hbn:Below w.heap.size w (wr.alloc (.cells #[.int .i64 cs[j].nd.deep,.string ⟨cs[j].nd.name.toArray⟩,cs[j].a,.string ⟨cs[j].nd.text.toArray⟩] 160)):=hb.alloc hb.size _;have hltn:=alloc_lt wr (.cells #[.int .i64 cs[j].nd.deep,.string ⟨cs[j].nd.name.toArray⟩,cs[j].a,.string ⟨cs[j].nd.text.toArray⟩] 160)
   have hpl:∃ pb:Bool,(pb=false → R=130)∧(pb=true → (j=0 → cs[j].nd.deep=0)∧(∀ h2:0 < j,placedB (cs[j - 1]'(by omega)).nd cs[j].nd=true)∧cs[j].nd.deep < 8)∧∀ w',Below w.heap.size w w' → Calls Tryz.prog 127 #[.slice (some ad2) n cap,.int .i64 (j:Int)] w' fun e w''=>e=.returned (.bool pb)∧Below w'.heap.size w' w'':=by
    by_cases hj0:j=0
    ·subst hj0;refine ⟨cs[0].nd.deep==0,fun h=>HH.out (by simpa using h),fun h=>⟨fun _=>by simpa using h,fun h2=>absurd h2 (by omega),?_⟩,fun w' hw'=>xplaced_first ad2 n cap cs[0] w' (by omega) (cN.below hw' hab2)⟩
     have:cs[0].nd.deep=0:=by simpa using h
     omega
    ·obtain ⟨i,rfl⟩:∃ i,j=i+1:=⟨j - 1,by omega⟩
     obtain ⟨ad3,hao3,hab3,cP,pP⟩:=HC.out i (by omega);have ead3:ad3=ad2:=(Option.some.inj hao3).symm;subst ead3;have hk:=ha.out i (by omega) (by omega);obtain ⟨_,_,_,t4⟩:=HS.out cs[i] (List.getElem_mem _);obtain ⟨qo,qc,hqf⟩:=pP.form;refine ⟨placedB cs[i].nd cs[i+1].nd,fun h=>HP.out i hj1 h,fun h=>⟨fun h2=>by omega,fun _=>h,((placedB_iff _ _).1 h).2.2.2⟩,fun w' hw'=>xplaced_next ad3 n cap i cs[i] cs[i+1] w' (by omega) (by have:=HL.out; omega) (cP.below hw' hab2) (cN.below hw' hab2) ⟨qo,_,qc,hqf⟩ (node_facts hk.2.2).1 (i64_of t4).1⟩
   obtain ⟨pb,hpb1,hpb2,KP'⟩:=hpl;have KP:=hid KP';have HP1:=hid hpb1;have HNj:=hid (HN.out j hj1)
   have HAj:Hid (pb=true → nodeOk cs[j].nd=true → ∀ m (hm:m < cs.length),m < j+1 → okK cs m hm):=fun h1 h2 m hm hmj=>by
    by_cases hq:m < j
    ·exact ha.out m hm hq
    ·have:m=j:=by omega
     subst this;exact ⟨(hpb2 h1).1,(hpb2 h1).2.1,h2⟩
   have HD8:Hid (pb=true → cs[j].nd.deep < 8):=fun h=>(hpb2 h).2.2;have KN:=hid (fun w'=>xname_list cs[j].nd.name w' s1);have KT:=hid (fun w'=>xtext_any cs[j].nd.text w' s2);have KA:=hid (fun w' (h':ParsAt w' cs[j].a cs[j].nd.attrs)=>xattrs_any cs[j].a cs[j].nd.attrs w' s3 h');have HPA:=hid pa;have hok:nodeOk cs[j].nd=(decide (cs[j].nd.deep < 8) && (nameX cs[j].nd.name && (attrsOk cs[j].nd.attrs && (signsX cs[j].nd.text && xtrim cs[j].nd.text==cs[j].nd.text)))):=rfl;clear hpb1 hpb2 KP' HN HP HC HS s1 s2 s3 s4 ha pa cN HH;generalize cs[j]=c at hrow hbn hltn HNj HAj KN KT KA HPA hok cN' HD8 hpf;obtain ⟨⟨cd,cn,ca,ct⟩,cv⟩:=c;simp only at hrow hbn hltn HNj HAj KN KT KA HPA hok HD8 hpf;subst hpf;obtain ⟨c0,c1,c2,c3⟩:=cN';simp only at c0 c1 c2 c3;generalize (signsX ct && xtrim ct==ct)=tb at KT hok
   cases pb with
   | false =>
    have hR:=hid (HP1.out rfl);clear hok HNj HAj HD8;go_wp2_with fail
    clear c0 c1 c2 c3;generalize World.alloc _ _=W0 at hrow hbn hltn ⊢;refine (KP.out _ hbn).mono ?_
    rintro e w2 ⟨rfl,hw2⟩;go_wp2;go_ret;exact ⟨ret_int hR.out.symm,hbn.trans (hw2.mono hbn.size)⟩
   | true =>
    rw [decide_eq_true (HD8.out rfl),Bool.true_and] at hok;have HA2:=hid (HAj.out rfl)
    cases hnm:nameX cn with
    | false =>
     have hR:=hid (HNj.out (by rw [hok,hnm]; rfl));rw [hnm] at KN;clear hok HNj HAj HD8 HA2 hnm HP1;go_wp2_with fail
     clear c0 c1 c2 c3;generalize World.alloc _ _=W0 at hrow hbn hltn ⊢;refine (KP.out _ hbn).mono ?_
     rintro e w2 ⟨rfl,hw2⟩;obtain ⟨d0,d1,d2,d3,_,_,_,_⟩:=(hrow.below hw2 hltn).rc4;go_wp2_with fail
     refine (KN.out _).mono ?_
     rintro e w2 ⟨rfl,rfl⟩;go_wp2;go_ret;exact ⟨ret_int hR.out.symm,hbn.trans (hw2.mono hbn.size)⟩
    | true =>
     rw [hnm,Bool.true_and] at hok;rw [hnm] at KN;clear hnm
     cases hat:attrsOk ca with
     | false =>
      have hR:=hid (HNj.out (by rw [hok,hat]; rfl));rw [hat] at KA;clear hok HNj HAj HD8 HA2 hat HP1;go_wp2_with fail
      clear c0 c1 c2 c3;generalize World.alloc _ _=W0 at hrow hbn hltn ⊢;refine (KP.out _ hbn).mono ?_
      rintro e w2 ⟨rfl,hw2⟩;obtain ⟨d0,d1,d2,d3,_,_,_,_⟩:=(hrow.below hw2 hltn).rc4;have hb2:=hbn.trans (hw2.mono hbn.size);go_wp2_with fail
      refine (KN.out _).mono ?_
      rintro e w2 ⟨rfl,rfl⟩;go_wp2_with fail
      refine (KA.out _ (HPA.out.below hb2)).mono ?_
      rintro e w3 ⟨rfl,hw3⟩;go_wp2;go_ret;exact ⟨ret_int hR.out.symm,hb2.trans (hw3.mono hb2.size)⟩
     | true =>
      rw [hat,Bool.true_and] at hok;rw [hat] at KA;clear hat
      cases tb with
      | false =>
       have hR:=hid (HNj.out hok);clear hok HNj HAj HD8 HA2 HP1;go_wp2_with fail
       clear c0 c1 c2 c3;generalize World.alloc _ _=W0 at hrow hbn hltn ⊢;refine (KP.out _ hbn).mono ?_
       rintro e w2 ⟨rfl,hw2⟩;have hrow2:=hrow.below hw2 hltn;obtain ⟨d0,d1,d2,d3,_,_,_,_⟩:=hrow2.rc4;have hb2:=hbn.trans (hw2.mono hbn.size);go_wp2_with fail
       refine (KN.out _).mono ?_
       rintro e w2 ⟨rfl,rfl⟩;go_wp2_with fail
       refine (KA.out _ (HPA.out.below hb2)).mono ?_
       rintro e w3 ⟨rfl,hw3⟩;obtain ⟨g0,g1,g2,g3,_,_,_,_⟩:=(hrow2.below hw3 (Nat.lt_of_lt_of_le hltn hw2.size)).rc4;have hb3:=hb2.trans (hw3.mono hb2.size);go_wp2_with fail
       refine (KT.out _).mono ?_
       rintro e w4 ⟨rfl,hw4⟩;go_wp2;go_ret;exact ⟨ret_int hR.out.symm,hb3.trans (hw4.mono hb3.size)⟩
      | true =>
       have hN:=hid (HA2.out hok);clear hok HNj HAj HD8 HA2 HP1;go_wp2_with fail
       clear c0 c1 c2 c3;generalize World.alloc _ _=W0 at hrow hbn hltn ⊢;refine (KP.out _ hbn).mono ?_
       rintro e w2 ⟨rfl,hw2⟩;have hrow2:=hrow.below hw2 hltn;obtain ⟨d0,d1,d2,d3,_,_,_,_⟩:=hrow2.rc4;have hb2:=hbn.trans (hw2.mono hbn.size);go_wp2_with fail
       refine (KN.out _).mono ?_
       rintro e w2 ⟨rfl,rfl⟩;go_wp2_with fail
       refine (KA.out _ (HPA.out.below hb2)).mono ?_
       rintro e w3 ⟨rfl,hw3⟩;obtain ⟨g0,g1,g2,g3,_,_,_,_⟩:=(hrow2.below hw3 (Nat.lt_of_lt_of_le hltn hw2.size)).rc4;have hb3:=hb2.trans (hw3.mono hb2.size);go_wp2_with fail
       refine (KT.out _).mono ?_
       rintro e w4 ⟨rfl,hw4⟩;go_wp2;go_roundw
       case rel=>exact ⟨j+1,by omega,by go_num,hb3.trans (hw4.mono hb3.size),hN⟩
       case measure=>simp [intOf]; omega
  ·have hE:Hid (R=0):=HA.out fun m hm=>ha.out m hm (by have:=HL.out; omega);clear ha;go_wp2;go_ret;exact ⟨ret_int hE.out.symm,hb⟩
def ndsCells (cs:List NdC):List Value:=cs.flatMap ndCells
theorem ndCells_len (c:NdC):(ndCells c).length=4:=rfl
theorem ndsCells_get (cs:List NdC) (k:Nat) (hk:k < cs.length) (j:Nat) (u:Value) (h:(ndCells cs[k])[j]? = some u):(ndsCells cs)[k * 4+j]? = some u:=by
 induction cs generalizing k with
 | nil=>simp at hk
 | cons c cs ih =>
  have e:ndsCells (c :: cs)=ndCells c++ndsCells cs:=rfl
  cases k with
  | zero =>
   have hj:j < 4:=by have:=(List.getElem?_eq_some_iff.1 h).1; simpa [ndCells] using this
   rw [e,List.getElem?_append_left (by rw [ndCells_len]; omega),Nat.zero_mul,Nat.zero_add];exact h
  | succ k =>
   have:=ih k (by simpa using hk) (by simpa using h)
   rw [e,List.getElem?_append_right (by rw [ndCells_len]; omega),ndCells_len,show (k+1) * 4+j - 4=k * 4+j by omega];exact this
theorem row_at {w:World} {g:Nat} {e:TypeId} {l:List Value} (h:RowIs w g e l) {j:Nat} {u:Value} (hu:l[j]? = some u):w.cell? ⟨g,j,none⟩=some u:=by
 obtain ⟨hj,rfl⟩:=List.getElem?_eq_some_iff.1 hu;exact h.cell j hj
theorem add_zero_lit (g j:Nat):(⟨g,0,none⟩:Addr).add j=⟨g,j,none⟩:=by unfold Addr.add; split <;> simp_all
theorem row_nds {w:World} {g cap:Nat} {cs:List NdC} (h:RowIs w g 160 (ndsCells cs)) (hp:∀ k (hk:k < cs.length),ParsAt w cs[k].a cs[k].nd.attrs):NdsAt w (.slice (some ⟨g,0,none⟩) cs.length cap) cs:=by
 refine ⟨_,cap,rfl,fun k hk=>⟨_,rfl,(Array.getElem?_eq_some_iff.1 h).1,?_,hp k hk⟩⟩
 have c:∀ j u,(ndCells cs[k])[j]? = some u → w.cell? ⟨g,k * 4+j,none⟩=some u:=fun j u hj=>row_at h (ndsCells_get cs k hk j u hj);refine ⟨?_,?_,?_,?_⟩
 ·rw [add_zero_lit]; exact c 0 _ rfl
 ·rw [add_zero_lit]; exact c 1 _ rfl
 ·rw [add_zero_lit]; exact c 2 _ rfl
 ·rw [add_zero_lit]; exact c 3 _ rfl
theorem ref_stop {most n d:Int} (h:922337203685477580 < n∨most < d∨most - d < 10 * n) (hm:most≤9223372036854775807) (hd:0≤d):d > most∨n > (most - d) / 10:=by omega
set_option maxHeartbeats 600000 in
theorem refnumber_any (s:ByteArray) (most:Int) (w:World) (hs:s.size≤maxLen) (hm0:-9223372036854775808≤most) (hm1:most≤9223372036854775807) :
  Calls Tryz.prog 111 #[.string s,.int .i64 most] w fun e w'=>e=.returned (.tuple #[.int .i64 (numV most s.data.toList).1,.int .i64 (numV most s.data.toList).2])∧w'=w:=by
 have hs0:=hs;unfold maxLen at hs;by_cases he:s.size=0
 ·have hE:=isE_true he
  have hv:numV most s.data.toList=(0,10):=by
   have:s.data.toList=[]:=List.eq_nil_of_length_eq_zero (by rw [len_data,he])
   rw [numV,if_pos (Or.inl this)]
  have HV:Hid (numV most s.data.toList=(0,10)):=hv; clear hv
  go_enter Tryz.func111,Tryz.ntmps111
  go_wp2;go_ret2;exact ⟨ret_pair 0 10 HV.out,rfl⟩
 have hE:=isE_false (s:=s) (by omega);have hne:=data_ne (s:=s) (by omega);by_cases ha:allB 1 s.data.toList=true
 ·have hdig:Hid (∀ k (hk:k < s.size),48≤(s[k].toNat:Int)∧(s[k].toNat:Int)≤57):=fun k hk=>digit_at ha k hk
  have HV:Hid (numV most s.data.toList=match numL most 0 s.data.toList with | some n=>(n,0) | none=>(0,9)):=by
   show _=_
   rw [numV,if_neg (by simp [hne,ha])]
   rfl
  clear hne
  go_enter Tryz.func111,Tryz.ntmps111
  go_wp2_with (go_at_call 35; refine (refall_any _ _ _ hs0).mono ?_; rintro e w' ⟨rfl,rfl⟩)
  go_loop [6,7] (fun n i=>∃ (k:Nat) (m:Int),k≤s.size∧i=.int .i64 k∧n=.int .i64 m∧0≤m∧m≤9223372036854775807∧Hid (numL most 0 s.data.toList=numL most m (s.data.toList.drop k))) (fun _ i=>s.size - (intOf i).toNat)
  case atStart=>exact ⟨0,0,Nat.zero_le _,rfl,rfl,by omega,by omega,rfl⟩
  case round =>
   obtain ⟨k,m,hk,rfl,rfl,hm0',hm1',hnum⟩:=hrel;by_cases hlt:k < s.size
   ·have hd:=hdig.out k hlt;by_cases h0:922337203685477580 < m
    ·have HS:Hid (numL most m (s.data.toList.drop k)=none):=numL_stop hlt (ref_stop (Or.inl h0) hm1 (by omega));go_wp2;go_ret2;exact ⟨ret_pair 0 9 (by rw [HV.out,hnum.out,HS.out]),rfl⟩
    ·by_cases h1:most < (s[k].toNat:Int) - 48
     ·have HS:Hid (numL most m (s.data.toList.drop k)=none):=numL_stop hlt (ref_stop (Or.inr (Or.inl h1)) hm1 (by omega));go_wp2;go_ret2;exact ⟨ret_pair 0 9 (by rw [HV.out,hnum.out,HS.out]),rfl⟩
     ·by_cases h2:most - ((s[k].toNat:Int) - 48) < 10 * m
      ·have HS:Hid (numL most m (s.data.toList.drop k)=none):=numL_stop hlt (ref_stop (Or.inr (Or.inr h2)) hm1 (by omega));go_wp2;go_ret2;exact ⟨ret_pair 0 9 (by rw [HV.out,hnum.out,HS.out]),rfl⟩
      ·have hst:=numL_go (most:=most) (n:=m) hlt (by omega);have HS:Hid (numL most m (s.data.toList.drop k)=numL most (10 * m+((s[k].toNat:Int) - 48)) (s.data.toList.drop (k+1))):=hst;clear hst;go_wp2
       go_round
       case rel=>exact ⟨k+1,10 * m+((s[k].toNat:Int) - 48),by omega,by go_num,by go_num,by omega,by omega,show _=_ by rw [hnum.out,HS.out]⟩
       case measure=>simp [intOf]; omega
   ·have HD:Hid (s.data.toList.drop k=[]):=drop_all s k (by omega);go_wp2;go_ret2;exact ⟨ret_pair m 0 (by rw [HV.out,hnum.out,HD.out]; rfl),rfl⟩
 ·have ha':allB 1 s.data.toList=false:=by simpa using ha
  have HV:Hid (numV most s.data.toList=(0,10)):=by show _=_; rw [numV,if_pos (Or.inr ha')]
  clear ha hne
  go_enter Tryz.func111,Tryz.ntmps111
  go_wp2_with (go_at_call 35; refine (refall_any _ _ _ hs0).mono ?_; rintro e w' ⟨rfl,rfl⟩)
  go_ret2;exact ⟨ret_pair 0 10 HV.out,rfl⟩
set_option maxHeartbeats 1000000 in
set_option maxRecDepth 100000 in
theorem rtext14_any (l:List UInt8) (w:World) (h:l.length≤140737488355328) :
  Calls Tryz.prog 38 #[.string ⟨l.toArray⟩] w fun e w'=>e=.returned (.bool (textP l))∧w'=w:=by
 have KS:=hid (fun w'=>signs_list l w' h);have KT:=hid (fun w'=>trimX_list l w' h);have zl:=size_list l;have hv:textP l=(decide (l.length≤128) && (signsX l && xtrim l==l)):=rfl;generalize textP l=R at hv ⊢;by_cases h1:l.length≤128
 ·rw [decide_eq_true h1,Bool.true_and] at hv;have r1:(l.length:Int)≤128:=by omega
  cases hs:signsX l with
  | false =>
   rw [hs] at KS hv;have HV:Hid (R=false):=hv;clear hv hs KT
   go_enter Tryz.func38,Tryz.ntmps38
   go_wp2_with (go_at_call 66; refine (KS.out _).mono ?_; rintro e w' ⟨rfl,hw'⟩; rw [hw']; clear hw' w')
   go_ret;exact ⟨ret_bool HV.out.symm,rfl⟩
  | true =>
   rw [hs] at KS hv;have HV:Hid (R=(xtrim l==l)):=hv;clear hv hs;generalize xtrim l=t at KT HV
   go_enter Tryz.func38,Tryz.ntmps38
   go_wp2_with fail
   refine (KS.out _).mono ?_
   rintro e w' ⟨rfl,hw'⟩; rw [hw']; clear hw' w'
   go_wp2_with fail
   refine (KT.out _).mono ?_
   rintro e w' ⟨rfl,hw'⟩; rw [hw']; clear hw' w'
   go_wp2;go_ret;exact ⟨ret_bool HV.out.symm,rfl⟩
 ·rw [decide_eq_false h1,Bool.false_and] at hv;have HV:=hid hv;have r1:¬ (l.length:Int)≤128:=by omega
  clear hv KS KT
  go_enter Tryz.func38,Tryz.ntmps38
  go_wp2;go_ret;exact ⟨ret_bool HV.out.symm,rfl⟩
set_option maxHeartbeats 1000000 in
set_option maxRecDepth 100000 in
theorem rident_any (s:ByteArray) (w:World) (hs:s.size≤140737488355328) :
  Calls Tryz.prog 37 #[.string s] w fun e w'=>e=.returned (.bool (identP s.data.toList))∧w'=w:=by
 have HS:=hid (all_snocX idc s);have HB:=hid (all_badX idc s);have HT:Hid (∀ k,s.size≤k → (s.data.toList.take k).all idc=true → s.data.toList.all idc=true):=fun k hk ha=>by rw [take_all s k hk] at ha; exact ha
 have hl:=len_data s;have hv:identP s.data.toList=(s.data.toList.all idc && (decide (1≤s.size) && decide (s.size≤64))):=by unfold identP; rw [hl]
 have HVB:Hid (s.data.toList.all idc=false → identP s.data.toList=false):=fun h=>by rw [hv,h]; rfl
 have HVG:Hid (s.data.toList.all idc=true → identP s.data.toList=(decide (1≤s.size) && decide (s.size≤64))):=fun h=>by rw [hv,h]; rfl
 generalize identP s.data.toList=R at HVB HVG ⊢;generalize s.data.toList.all idc=A at HB HT HVB HVG;clear hv hl
 go_enter Tryz.func37,Tryz.ntmps37
 go_wp2
 go_loop [3] (fun i=>∃ k:Nat,k≤s.size∧i=.int .i64 k∧Hid ((s.data.toList.take k).all idc=true)) (fun i=>s.size - (intOf i).toNat)
 case atStart=>exact ⟨0,Nat.zero_le _,rfl,show _=_ by simp⟩
 case round =>
  obtain ⟨k,hk,rfl,ha⟩:=hrel;by_cases hlt:k < s.size
  ·have hbd:=u8_bd s[k];by_cases h33:(s[k].toNat:Int) < 33
   ·have hR:Hid (R=false):=HVB.out (HB.out k hlt (by unfold idc; rw [decide_eq_false (by omega)]; rfl));clear ha HS HB HT HVB HVG;go_wp2;go_ret;exact ⟨ret_bool hR.out.symm,rfl⟩
   ·by_cases h126:126 < (s[k].toNat:Int)
    ·have hR:Hid (R=false):=HVB.out (HB.out k hlt (by unfold idc; rw [decide_eq_false (p:=s[k].toNat≤126) (by omega)]; simp));clear ha HS HB HT HVB HVG;go_wp2;go_ret;exact ⟨ret_bool hR.out.symm,rfl⟩
    ·have ha2:Hid ((s.data.toList.take (k+1)).all idc=true):=HS.out k hlt ha.out (by unfold idc; rw [decide_eq_true (by omega),decide_eq_true (by omega)]; rfl);clear ha HS HB HT HVB HVG;go_wp2
     go_round
     case rel=>exact ⟨k+1,by omega,by go_num,ha2⟩
     case measure=>simp [intOf]; omega
  ·have hR:=hid (HVG.out (HT.out k (by omega) ha.out));clear ha HS HB HT HVB HVG;by_cases h1:1≤s.size
   ·have q1:(1:Int)≤(s.size:Int):=by omega
    go_wp2;go_ret;exact ⟨ret_bool (by rw [hR.out,decide_eq_true h1]; simp; omega),rfl⟩
   ·have q1:¬ (1:Int)≤(s.size:Int):=by omega
    go_wp2;go_ret;exact ⟨ret_bool (by rw [hR.out,decide_eq_false h1]; simp),rfl⟩
theorem ident_list (l:List UInt8) (w:World) (h:l.length≤140737488355328) :
  Calls Tryz.prog 37 #[.string ⟨l.toArray⟩] w fun e w'=>e=.returned (.bool (identP l))∧w'=w:=rident_any ⟨l.toArray⟩ w (by rw [size_list]; exact h)
theorem below_iter (w:World) (s:ByteArray) (pos:Nat):Below w.heap.size w (w.iter s pos):=(Below.refl _ w).alloc (Nat.le_refl _) _
set_option maxHeartbeats 1000000 in
set_option maxRecDepth 100000 in
theorem pident_any (s:ByteArray) (w:World) (hs:s.size≤140737488355328) :
  Calls Tryz.prog 102 #[.string s] w fun e w'=>e=.returned (.bool (identP s.data.toList))∧Below w.heap.size w w':=by
 have HS:=hid (all_snocX idc s);have HB:=hid (all_badX idc s);have HT:Hid (∀ k,s.size≤k → (s.data.toList.take k).all idc=true → s.data.toList.all idc=true):=fun k hk ha=>by rw [take_all s k hk] at ha; exact ha
 have hl:=len_data s;have hv:identP s.data.toList=(s.data.toList.all idc && (decide (1≤s.size) && decide (s.size≤64))):=by unfold identP; rw [hl]
 by_cases h0:s.size=0
 ·have e:s=⟨#[]⟩:=by
   have:s.data.toList=[]:=List.eq_nil_of_length_eq_zero (by rw [hl]; exact h0)
   apply ByteArray.ext
   apply Array.ext'
   exact this
  have hR:Hid (identP s.data.toList=false):=show _=_ by rw [hv,decide_eq_false (p:=1≤s.size) (by omega)]; simp
  clear hv HS HB HT hl h0;subst e;generalize identP _=R at hR ⊢
  go_enter Tryz.func102,Tryz.ntmps102
  go_wp2;go_ret;exact ⟨ret_bool hR.out.symm,Below.refl _ _⟩
 have he1:(s.data.toList==[])=false:=by rw [beq_eq_false_iff_ne]; intro e; rw [e] at hl; simp at hl; omega
 have he2:s.data.toList.isEmpty=false:=by cases hh:s.data.toList with | nil=>rw [hh] at hl; simp at hl; omega | cons a r=>rfl
 have he3:s.toList.isEmpty=false:=by rw [ByteArray.toList_eq]; exact he2
 by_cases h64:64 < s.size
 ·have q64:(64:Int) < (s.size:Int):=by omega
  have hR:Hid (identP s.data.toList=false):=show _=_ by rw [hv,decide_eq_false (p:=s.size≤64) (by omega)]; simp
  clear hv HS HB HT hl;generalize identP s.data.toList=R at hR ⊢
  go_enter Tryz.func102,Tryz.ntmps102
  go_wp2;go_ret;exact ⟨ret_bool hR.out.symm,Below.refl _ _⟩
 have q64:¬ (64:Int) < (s.size:Int):=by omega
 have hv:identP s.data.toList=s.data.toList.all idc:=by rw [hv,decide_eq_true (p:=1≤s.size) (by omega),decide_eq_true (p:=s.size≤64) (by omega)]; simp
 rw [hv];generalize s.data.toList.all idc=R at HB HT ⊢;clear hv hl
 go_enter Tryz.func102,Tryz.ntmps102
 go_wp2
 go_loopw [4] (fun v wr=>∃ k:Nat,k≤s.size∧wr=w.iter s k∧Hid ((s.data.toList.take k).all idc=true)) (fun _ wr=>s.size - wr.iterPos w.heap.size)
 case atStart=>exact ⟨0,Nat.zero_le _,rfl,show _=_ by simp⟩
 case round =>
  obtain ⟨k,hk,rfl,ha⟩:=hrel;by_cases hlt:k < s.size
  ·have hbd:=u8_bd s[k];by_cases h128:s[k].toNat < 128
   ·have hnx:∀ ty,(Instr.next (.pointer (some ⟨w.heap.size,0,none⟩)) true ty).run Tryz.prog (w.iter s k)=_:=fun ty=>run_next_ascii w s k ty hlt h128;by_cases h33:(s[k].toNat:Int) < 33
    ·have hR:Hid (R=false):=HB.out k hlt (by unfold idc; rw [decide_eq_false (by omega)]; rfl);clear ha HS HB HT;go_wp2;go_ret;exact ⟨ret_bool hR.out.symm,below_iter _ _ _⟩
    ·by_cases h126:126 < (s[k].toNat:Int)
     ·have hR:Hid (R=false):=HB.out k hlt (by unfold idc; rw [decide_eq_false (p:=s[k].toNat≤126) (by omega)]; simp);clear ha HS HB HT;go_wp2;go_ret;exact ⟨ret_bool hR.out.symm,below_iter _ _ _⟩
     ·have ha2:Hid ((s.data.toList.take (k+1)).all idc=true):=HS.out k hlt ha.out (by unfold idc; rw [decide_eq_true (by omega),decide_eq_true (by omega)]; rfl);clear ha HS HB HT;go_wp2;go_roundw
      case rel=>exact ⟨k+1,by omega,rfl,ha2⟩
      case measure=>simp; omega
   ·have hnx:∀ ty,(Instr.next (.pointer (some ⟨w.heap.size,0,none⟩)) true ty).run Tryz.prog (w.iter s k)=_:=fun ty=>run_next_any w s k ty hlt;have hd:=(decode_high s k hlt (by omega)).1;have hR:Hid (R=false):=HB.out k hlt (by unfold idc; rw [decide_eq_false (p:=s[k].toNat≤126) (by omega)]; simp);generalize Utf8.decode s k=D at hnx hd;have r1:¬ (D.1:Int) < 33:=by omega
    have r2:(126:Int) < (D.1:Int):=by omega
    clear ha HS HB HT;go_wp2;go_ret;exact ⟨ret_bool hR.out.symm,below_iter _ _ _⟩
  ·have hnx:∀ ty,(Instr.next (.pointer (some ⟨w.heap.size,0,none⟩)) true ty).run Tryz.prog (w.iter s k)=_:=fun ty=>run_next_end w s k ty hlt;have hR:Hid (R=true):=HT.out k (by omega) ha.out;clear ha HS HB HT;go_wp2;go_ret;exact ⟨ret_bool hR.out.symm,below_iter _ _ _⟩
theorem pident_list (l:List UInt8) (w:World) (h:l.length≤140737488355328) :
  Calls Tryz.prog 102 #[.string ⟨l.toArray⟩] w fun e w'=>e=.returned (.bool (identP l))∧Below w.heap.size w w':=pident_any ⟨l.toArray⟩ w (by rw [size_list]; exact h)
theorem name_note:nameX noteK=true:=by decide +kernel
theorem check_note (l:List UInt8):checkX [⟨0,noteK,[],l⟩]=if (signsX l && xtrim l==l)=true then 0 else 130:=by
 have e:stepsX [⟨0,noteK,[],l⟩]=(signsX l && xtrim l==l):=by
  unfold stepsX;unfold nodeOk
  simp [name_note,attrs_none]
 unfold checkX;rw [e]
 cases (signsX l && xtrim l==l) <;> simp
def noteC (l:List UInt8):List NdC:=[⟨⟨0,noteK,[],l⟩,.slice none 0 0⟩]
theorem note_nds (w:World) (l:List UInt8):NdsAt (w.alloc (.cells #[.int .i64 0,.string ⟨#[110,111,116,101]⟩,.slice none 0 0,.string ⟨l.toArray⟩] 160)) (.slice (some ⟨w.heap.size,0,none⟩) 1 1) (noteC l):=by
 refine row_nds (cs:=noteC l) (rc_row4 w _ _ _ _ _) (fun k hk=>?_)
 simp [noteC] at hk
 subst hk;exact Or.inl ⟨rfl,rfl⟩
set_option maxHeartbeats 1000000 in
set_option maxRecDepth 100000 in
theorem ptext_any (l:List UInt8) (w:World) (h:l.length≤140737488355328) :
  Calls Tryz.prog 78 #[.string ⟨l.toArray⟩] w fun e w'=>e=.returned (.bool (textP l))∧Below w.heap.size w w':=by
 have zl:=size_list l;have hv:textP l=(decide (l.length≤128) && (signsX l && xtrim l==l)):=rfl;generalize textP l=R at hv ⊢;by_cases h1:l.length≤128
 ·rw [decide_eq_true h1,Bool.true_and] at hv;have r1:(l.length:Int)≤128:=by omega
  have K:=hid (xcheck_any _ (noteC l) _ (by simp [noteC]) (by
   intro c hc
   simp [noteC] at hc
   subst hc;exact ⟨by simp [noteK],by simp only; omega,⟨by simp,fun p hp=>by simp at hp⟩,by rfl⟩) (note_nds w l))
  rw [show ndsL (noteC l)=[⟨0,noteK,[],l⟩] from rfl,check_note] at K;generalize (signsX l && xtrim l==l)=T at K hv;have hbn:Below w.heap.size w (w.alloc (.cells #[.int .i64 0,.string ⟨#[110,111,116,101]⟩,.slice none 0 0,.string ⟨l.toArray⟩] 160)):=(Below.refl _ w).alloc (Nat.le_refl _) _;have HV:=hid hv;clear hv
  cases T with
  | false =>
   rw [if_neg (by simp)] at K
   go_enter Tryz.func78,Tryz.ntmps78
   go_wp2_with fail
   refine K.out.mono ?_
   rintro e w' ⟨rfl,hw'⟩;go_wp2;go_ret;exact ⟨ret_bool HV.out.symm,hbn.trans (hw'.mono hbn.size)⟩
  | true =>
   rw [if_pos rfl] at K
   go_enter Tryz.func78,Tryz.ntmps78
   go_wp2_with fail
   refine K.out.mono ?_
   rintro e w' ⟨rfl,hw'⟩;go_wp2;go_ret;exact ⟨ret_bool HV.out.symm,hbn.trans (hw'.mono hbn.size)⟩
 ·rw [decide_eq_false h1,Bool.false_and] at hv;have HV:=hid hv;have r1:¬ (l.length:Int)≤128:=by omega
  clear hv
  go_enter Tryz.func78,Tryz.ntmps78
  go_wp2;go_ret;exact ⟨ret_bool HV.out.symm,Below.refl _ _⟩
theorem splitL_count (c:UInt8) (l:List UInt8):(splitL c l).length=Lib.countByte l c+1:=by
 unfold Lib.countByte
 induction l with
 | nil=>rfl
 | cons x l ih =>
  obtain ⟨p,ps,hp⟩:=splitL_cons c l;rw [splitL];rw [hp] at ih ⊢;by_cases h:x=c
  ·rw [if_pos h,h,List.count_cons_self]; simp at ih ⊢; omega
  ·rw [if_neg h,List.count_cons_of_ne h]; simpa using ih
def filledS (ps:List (List UInt8)) (n:Nat):List Value:=strs ps++List.replicate (n - ps.length) (.string .empty)
theorem filledS_len (ps:List (List UInt8)) (n:Nat) (h:ps.length≤n):(filledS ps n).length=n:=by simp [filledS,strs]; omega
theorem filledS_full (ps:List (List UInt8)) (n:Nat) (h:ps.length=n):filledS ps n=strs ps:=by simp [filledS,h]
theorem filledS_set (ps:List (List UInt8)) (n:Nat) (p:List UInt8) (h:ps.length < n):(filledS ps n).set ps.length (.string ⟨p.toArray⟩)=filledS (ps++[p]) n:=by
 have e:n - ps.length=(n - (ps.length+1))+1:=by omega
 have hl:(strs ps).length=ps.length:=strs_length ps;unfold filledS;rw [List.set_append_right _ _ (by omega),hl,Nat.sub_self,e,List.replicate_succ,List.set_cons_zero,strs_append,List.append_assoc,List.length_append]
 rfl
end Go.Proofs.YtbmjodlbkgblpaaGreatDoor
