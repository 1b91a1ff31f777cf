/-
  RX9, XChk, XChk2, XChk3, NdOwn.
-/
import Derived.Test.YtldkidljjbkmbaaGreatDoorPX09
import Derived.OneCell
set_option linter.unusedVariables false
set_option linter.unusedSimpArgs false
set_option maxRecDepth 20000
namespace Go.Proofs.YtldkidljjbkmbaaGreatDoor
open Go.RowKit Sc
theorem steps_iff:∀ l:List Nd,stepsX l=true ↔ ∀ i (h:i < l.length),okN l i h
 | []=>by simp [stepsX]
 | [x]=>by
  constructor
  ·intro h i hi
   have:i=0:=by simp at hi; exact hi
   subst this;exact ⟨fun hp=>absurd hp (by omega),h,fun h2=>absurd h2 (by simp)⟩
  ·intro h;exact (h 0 (by simp)).2.1
 | x :: y :: r=>by
  have hnx:nextOk x y=true ↔ (1≤y.deep∧y.deep≤x.deep+1)∧(x.deep < y.deep → x.text=[]):=by
   unfold nextOk;rw [Bool.and_eq_true,decide_eq_true_iff,Bool.or_eq_true,Bool.not_eq_true',decide_eq_false_iff_not,List.isEmpty_iff]
   constructor
   ·rintro ⟨h1,h2⟩;exact ⟨h1,fun h=>h2.resolve_left (fun h3=>h3 h)⟩
   ·rintro ⟨h1,h2⟩;refine ⟨h1,?_⟩
    by_cases h:x.deep < y.deep
    ·exact .inr (h2 h)
    ·exact .inl h
  rw [stepsX,Bool.and_eq_true,Bool.and_eq_true,steps_iff (y :: r),hnx]
  constructor
  ·rintro ⟨h1,h2,h3⟩ i hi
   match i,hi with
   | 0,hi=>exact ⟨fun hp=>absurd hp (by omega),h1,fun _ hd=>h2.2 hd⟩
   | 1,hi=>exact ⟨fun _=>h2.1,(h3 0 (by simp)).2.1,fun h4 hd=>(h3 0 (by simp)).2.2 (by simpa using h4) hd⟩
   | j+2,hi =>
    have h:=h3 (j+1) (by simpa using hi);exact ⟨fun _=>h.1 (by omega),h.2.1,fun h4 hd=>h.2.2 (by simp only [List.length_cons] at h4 ⊢; omega) hd⟩
  ·intro h;have h0:=h 0 (by simp);have h1:=h 1 (by simp);refine ⟨h0.2.1,⟨h1.1 (by omega),fun hd=>h0.2.2 (by simp) hd⟩,fun i hi=>?_⟩
   have hh:=h (i+1) (by simpa using hi);refine ⟨fun hp=>?_,hh.2.1,fun h4 hd=>hh.2.2 (by simpa using h4) hd⟩
   obtain ⟨j,rfl⟩:∃ j,i=j+1:=⟨i - 1,by omega⟩
   exact hh.1 (by omega)
def okC (cs:List NdC) (i:Nat) (h:i < cs.length):Prop :=
 (0 < i → 1≤cs[i].nd.deep∧cs[i].nd.deep≤(cs[i - 1]'(by omega)).nd.deep+1)∧nodeOk cs[i].nd=true∧(∀ h2:i+1 < cs.length,cs[i].nd.deep < cs[i+1].nd.deep → cs[i].nd.text=[])
theorem okC_iff (cs:List NdC) (i:Nat) (h:i < cs.length):okC cs i h ↔ okN (ndsL cs) i (by rw [ndsL_len]; exact h):=by
 unfold okC okN
 simp [ndsL]
theorem chk_bad {cs:List NdC} {i:Nat} (h:i < cs.length) (hb:¬ okC cs i h):checkX (ndsL cs)=130:=by
 unfold checkX;rw [if_pos];refine .inr (.inr (.inr ?_))
 cases hs:stepsX (ndsL cs) with
 | false=>rfl
 | true=>exact absurd ((okC_iff cs i h).2 ((steps_iff _).1 hs i _)) hb
theorem chk_head {cs:List NdC} (h:0 < cs.length) (hb:cs[0].nd.deep ≠ 0):checkX (ndsL cs)=130:=by
 unfold checkX;rw [if_pos];refine .inr (.inr (.inl ?_))
 rw [List.head?_eq_getElem?]
 simpa [ndsL,h] using hb
theorem chk_ok {cs:List NdC} (h:0 < cs.length) (h2:cs.length≤200) (h0:cs[0].nd.deep=0) (ha:∀ i (hi:i < cs.length),okC cs i hi):checkX (ndsL cs)=0:=by
 unfold checkX;rw [if_neg];have e:=ndsL_len cs;have hs:stepsX (ndsL cs)=true:=(steps_iff _).2 fun i hi=>(okC_iff cs i (by rw [← e]; exact hi)).1 (ha i _);rintro (h3 | h3 | h3 | h3)
 ·omega
 ·omega
 ·apply h3
  rw [List.head?_eq_getElem?]
  simpa [ndsL,h] using h0
 ·rw [hs] at h3; cases h3
theorem chk_size {cs:List NdC} (h:cs.length < 1∨200 < cs.length):checkX (ndsL cs)=130:=by
 unfold checkX;rw [if_pos];rw [ndsL_len]
 rcases h with h | h
 ·exact .inl h
 ·exact .inr (.inl h)
def findX (nm:List UInt8):List Par → Nat → Int
 | [],_=>-1
 | p :: ps,k=>if p.name=nm then (k:Int) else findX nm ps (k+1)
theorem findX_at {nm:List UInt8} {l:List Par} {k:Nat} (hk:k < l.length):findX nm (l.drop k) k=if l[k].name=nm then (k:Int) else findX nm (l.drop (k+1)) (k+1):=by
 rw [List.drop_eq_getElem_cons hk,findX]
theorem findX_end {nm:List UInt8} {l:List Par} {k:Nat} (hk:l.length≤k):findX nm (l.drop k) k=-1:=by
 rw [List.drop_eq_nil_of_le hk]; rfl
theorem find_own {l:List Par} {j:Nat} (hj:j < l.length):∀ k,k≤j → (findX l[j].name (l.drop k) k=(j:Int) ↔ ∀ m (hm:m < j),k≤m → (l[m]'(by omega)).name ≠ l[j].name):=by
 intro k hk
 induction hd:j - k generalizing k with
 | zero =>
  have:k=j:=by omega
  subst this;rw [findX_at hj,if_pos rfl];exact ⟨fun _ m hm hk=>by omega,fun _=>rfl⟩
 | succ n ih =>
  have hkl:k < l.length:=by omega
  rw [findX_at hkl];by_cases h:l[k].name=l[j].name
  ·rw [if_pos h]
   constructor
   ·intro e; omega
   ·intro e; exact absurd h (e k (by omega) (Nat.le_refl _))
  ·rw [if_neg h,ih (k+1) (by omega) (by omega)]
   constructor
   ·intro e m hm hkm;by_cases hq:m=k
    ·subst hq; exact h
    ·exact e m hm (by omega)
   ·intro e m hm hkm;exact e m hm (by omega)
set_option maxHeartbeats 2000000 in
set_option maxRecDepth 100000 in
theorem xfind_any (v:Value) (ps:List Par) (nm:List UInt8) (w:World) (hz:ps.length≤140737488355328) (hv:ParsAt w v ps) :
  Calls Tryz.prog 100 #[v,.string ⟨nm.toArray⟩] w fun e w'=>e=.returned (.int .i64 (findX nm ps 0))∧Below w.heap.size w w':=by
 obtain ⟨ao,cap,rfl,hc⟩:=hv.open;have HC:=hid hc;clear hc hv;obtain ⟨R,hR⟩:∃ R,R=findX nm ps 0:=⟨_,rfl⟩
 rw [← hR];have HR:Hid (R=findX nm (ps.drop 0) 0):=hR;obtain ⟨n,hn⟩:∃ n,n=ps.length:=⟨_,rfl⟩
 rw [← hn] at hz ⊢;have HL:=hid hn;clear hn hR
 go_enter Tryz.func100,Tryz.ntmps100
 go_wp2
 go_loopw [9] (fun i wr=>∃ k:Nat,k≤n∧i=.int .i64 k∧Hid (R=findX nm (ps.drop k) k)∧Below w.heap.size w wr) (fun i _=>n - (intOf i).toNat)
 case atStart=>exact ⟨0,Nat.zero_le _,rfl,HR,Below.refl _ _⟩
 case round =>
  obtain ⟨k,hk,rfl,hv,hb⟩:=hrel;clear HR;by_cases hlt:k < n
  ·have hkl:k < ps.length:=by have:=HL.out; omega
   obtain ⟨ad,hao,hab,c0,c1,c2⟩:=HC.out k hkl;subst hao;have hv2:=hv.out;rw [findX_at hkl] at hv2;have q6:(k:Int) < (n:Int):=by omega
   have a0:=cell_below hb (by rw [add_block]; exact hab) c0;have a1:=cell_below hb (by simp only [add_block]; exact hab) c1;have a2:=cell_below hb (by simp only [add_block]; exact hab) c2;have hbn:Below w.heap.size w (wr.alloc (.cells #[.string ⟨ps[k].name.toArray⟩,.string ⟨ps[k].value.toArray⟩,.bool ps[k].has] 78)):=hb.alloc hb.size _;clear c0 c1 c2;generalize ps[k]=P at a0 a1 a2 hv2 hbn;obtain ⟨pn,pv,ph⟩:=P;simp only at a0 a1 a2 hv2 hbn;by_cases he:pn=nm
   ·rw [if_pos he] at hv2;have hE:=hid hv2;have e1:(pn==nm)=true:=by rw [beq_iff_eq]; exact he
    clear hv hv2 he;go_wp2;go_ret;exact ⟨by rw [hE.out]; rfl,hbn⟩
   ·rw [if_neg he] at hv2;have hE:=hid hv2;have e1:(pn==nm)=false:=by rw [beq_eq_false_iff_ne]; exact he
    clear hv hv2 he;go_wp2;go_roundw
    case rel=>exact ⟨k+1,by omega,by go_num,hE,hbn⟩
    case measure=>simp [intOf]; omega
  ·have hE:Hid (R=-1):=show _=_ by rw [hv.out]; exact findX_end (by have:=HL.out; omega)
   clear hv;go_wp2;go_ret;exact ⟨by rw [hE.out]; rfl,hb⟩
set_option maxHeartbeats 4000000 in
set_option maxRecDepth 100000 in
theorem xattrs_any (v:Value) (ps:List Par) (w:World) (hsm:SmallP 140737488355328 ps) (hv:ParsAt w v ps) :
  Calls Tryz.prog 67 #[v] w fun e w'=>e=.returned (.bool (attrsOk ps))∧Below w.heap.size w w':=by
 have HV:=hid hv;obtain ⟨ao,cap,rfl,hc⟩:=hv.open;have HC:=hid hc;have HS:=hid hsm.2;have hz:=hsm.1;clear hc hv hsm;by_cases h16:16 < ps.length
 ·have hR:Hid (attrsOk ps=false):=show _=_ by unfold attrsOk; rw [decide_eq_false (by omega)]; rfl
  generalize attrsOk ps=R at hR ⊢;obtain ⟨n,hn⟩:∃ n,n=ps.length:=⟨_,rfl⟩
  rw [← hn] at h16 hz ⊢;have r16:(16:Int) < (n:Int):=by omega
  clear HC HS hn HV
  go_enter Tryz.func67,Tryz.ntmps67
  go_wp2;go_ret;exact ⟨ret_bool hR.out.symm,Below.refl _ _⟩
 have hl:ps.length≤16:=by omega
 have HB:=hid (fun j (hj:j < ps.length)=>attrs_bad hl hj);have HT:=hid (fun j m (hj:j < ps.length) (hm:m < j)=>attrs_twice hl hj hm);have HE:Hid (((ps.take ps.length).all attrOk && distinctX (ps.take ps.length))=true → attrsOk ps=true):=fun h=>by rw [attrsOk_is ps hl]; rw [List.take_length] at h; exact h
 have HN:=hid (fun j (hj:j < ps.length)=>@attrs_snoc ps j hj);generalize attrsOk ps=R at HB HT HE ⊢;obtain ⟨n,hn⟩:∃ n,n=ps.length:=⟨_,rfl⟩
 have KF:=hid (fun nm w' (h':ParsAt w' (.slice ao ps.length cap) ps)=>xfind_any (.slice ao ps.length cap) ps nm w' (by omega) h');rw [← hn] at hl hz HE h16 HV KF ⊢;have r16:¬ (16:Int) < (n:Int):=by omega
 have HL:=hid hn;clear hn
 go_enter Tryz.func67,Tryz.ntmps67
 go_wp2
 go_loopw [10] (fun i wr=>∃ (j:Nat),j≤n∧i=.int .i64 j∧Below w.heap.size w wr∧Hid (((ps.take j).all attrOk && distinctX (ps.take j))=true)) (fun i _=>n - (intOf i).toNat)
 case atStart=>exact ⟨0,Nat.zero_le _,rfl,Below.refl _ _,show _=_ from rfl⟩
 case round =>
  obtain ⟨j,hjn,rfl,hb,ha⟩:=hrel;by_cases hlt:j < n
  ·have hjl:j < ps.length:=by have:=HL.out; omega
   obtain ⟨ad,hao,hab,c0,c1,c2⟩:=HC.out j hjl;subst hao;obtain ⟨s1,s2⟩:=HS.out ps[j] (List.getElem_mem hjl);have a0:=cell_below hb (by rw [add_block]; exact hab) c0;have a1:=cell_below hb (by simp only [add_block]; exact hab) c1;have a2:=cell_below hb (by simp only [add_block]; exact hab) c2;have KN:=hid (fun w'=>xname_list ps[j].name w' s1);have KS:=hid (fun w'=>xsigns_list ps[j].value w' s2);have HB1:=hid (HB.out j hjl);have HO:=hid (find_own hjl 0 (Nat.zero_le _));have HT1:=hid (fun m hm=>HT.out j m hjl hm);have HN1:=hid (HN.out j hjl ha.out);have hok:attrOk ps[j]=(nameX ps[j].name && (ps[j].has && signsX ps[j].value)):=rfl;have q6:(j:Int) < (n:Int):=by omega
   have hrow:=rc_row3 wr (.string ⟨ps[j].name.toArray⟩) (.string ⟨ps[j].value.toArray⟩) (.bool ps[j].has) 78;have hbn:Below w.heap.size w (wr.alloc (.cells #[.string ⟨ps[j].name.toArray⟩,.string ⟨ps[j].value.toArray⟩,.bool ps[j].has] 78)):=hb.alloc hb.size _;have hltn:=alloc_lt wr (.cells #[.string ⟨ps[j].name.toArray⟩,.string ⟨ps[j].value.toArray⟩,.bool ps[j].has] 78);have KFj:=hid (KF.out ps[j].name);clear HB HT HN s1 s2 ha c0 c1 c2;generalize hP:ps[j]=P at a0 a1 a2 KN KS HB1 HT1 HN1 hok hrow hbn hltn HO KFj;obtain ⟨pn,pv,ph⟩:=P;simp only at a0 a1 a2 KN KS HT1 HN1 hok hrow hbn hltn HO KFj;rw [List.drop_zero] at HO
   cases hnm:nameX pn with
   | false =>
    rw [hnm] at KN;have hR:=hid (HB1.out (by rw [hok,hnm]; rfl));clear hok HB1 HT1 HN1 hP hnm HC HS HO;go_wp2_with (go_at_call 66; refine (KN.out _).mono ?_; rintro e w' ⟨rfl,rfl⟩)
    go_ret;exact ⟨ret_bool hR.out.symm,hbn⟩
   | true =>
    rw [hnm] at KN;by_cases hf:findX pn ps 0=(j:Int)
    ·have hdis:=HO.out.1 hf;rw [hf] at KFj
     have HD:Hid ((ps.take j).all (fun q=>!(q.name==pn))=true):=show _=_ by
      rw [List.all_eq_true];intro q hq;obtain ⟨m,hm,rfl⟩:=List.mem_take_iff_getElem.1 hq
      have:=hdis m (by omega) (Nat.zero_le _)
      rw [Bool.not_eq_true',beq_eq_false_iff_ne]; exact this
     have q7:((j:Int)==(j:Int))=true:=by simp
     have q7n:((j:Int) != (j:Int))=false:=by simp
     cases ph with
     | false =>
      have hR:=hid (HB1.out (by rw [hok,hnm]; rfl));clear hok HB1 HT1 HN1 hP hnm HC HS HO hf hdis;go_wp2_with (go_at_call 66; refine (KN.out _).mono ?_; rintro e w' ⟨rfl,rfl⟩)
      generalize World.alloc _ _=W0 at hrow hbn hltn ⊢;refine (KFj.out _ (HV.out.below (by simpa using hbn))).mono ?_
      rintro e w2 ⟨rfl,hw2⟩;obtain ⟨d0,d1,d2,_,_,_⟩:=(hrow.below hw2 hltn).rc3;go_wp2;go_ret;exact ⟨ret_bool hR.out.symm,hbn.trans (hw2.mono hbn.size)⟩
     | true =>
      cases hsg:signsX pv with
      | false =>
       rw [hsg] at KS;have hR:=hid (HB1.out (by rw [hok,hnm,hsg]; rfl));clear hok HB1 HT1 HN1 hP hnm HC HS HO hf hdis hsg;go_wp2_with (go_at_call 66; refine (KN.out _).mono ?_; rintro e w' ⟨rfl,rfl⟩)
       generalize World.alloc _ _=W0 at hrow hbn hltn ⊢;refine (KFj.out _ (HV.out.below (by simpa using hbn))).mono ?_
       rintro e w2 ⟨rfl,hw2⟩;obtain ⟨d0,d1,d2,_,_,_⟩:=(hrow.below hw2 hltn).rc3;go_wp2_with (go_at_call 101; refine (KS.out _).mono ?_; rintro e w' ⟨rfl,hw'⟩; rw [hw']; clear hw' w')
       go_ret;exact ⟨ret_bool hR.out.symm,hbn.trans (hw2.mono hbn.size)⟩
      | true =>
       rw [hsg] at KS;have hN:=hid (HN1.out (by rw [hok,hnm,hsg]; rfl) HD.out);clear hok HB1 HT1 HN1 hP hnm HC HS HO hf hdis hsg;go_wp2_with (go_at_call 66; refine (KN.out _).mono ?_; rintro e w' ⟨rfl,rfl⟩)
       generalize World.alloc _ _=W0 at hrow hbn hltn ⊢;refine (KFj.out _ (HV.out.below (by simpa using hbn))).mono ?_
       rintro e w2 ⟨rfl,hw2⟩;obtain ⟨d0,d1,d2,_,_,_⟩:=(hrow.below hw2 hltn).rc3;go_wp2_with (go_at_call 101; refine (KS.out _).mono ?_; rintro e w' ⟨rfl,hw'⟩; rw [hw']; clear hw' w')
       go_roundw
       case rel=>exact ⟨j+1,by omega,by go_num,hbn.trans (hw2.mono hbn.size),hN⟩
       case measure=>simp [intOf]; omega
    ·have hR:Hid (R=false):=by
      have hx:¬ ∀ m (hm:m < j),0≤m → (ps[m]'(by omega)).name ≠ pn:=fun hh=>hf (HO.out.2 hh);have hy:∃ m,∃ hm:m < j,(ps[m]'(by omega)).name=pn:=Classical.byContradiction fun hh=>hx fun m hm _ e=>hh ⟨m,hm,e⟩;obtain ⟨m,hm,he⟩:=hy;exact HT1.out m hm (by rw [beq_iff_eq]; exact he)
     generalize findX pn ps 0=F at KFj hf;have q7:(F==(j:Int))=false:=by rw [beq_eq_false_iff_ne]; exact hf
     have q7n:(F != (j:Int))=true:=by rw [bne,q7]; rfl
     clear hok HB1 HT1 HN1 hP hnm HC HS HO hf;go_wp2_with (go_at_call 66; refine (KN.out _).mono ?_; rintro e w' ⟨rfl,rfl⟩)
     generalize World.alloc _ _=W0 at hrow hbn hltn ⊢;refine (KFj.out _ (HV.out.below (by simpa using hbn))).mono ?_
     rintro e w2 ⟨rfl,hw2⟩;go_wp2;go_ret;exact ⟨ret_bool hR.out.symm,hbn.trans (hw2.mono hbn.size)⟩
  ·have hE:Hid (R=true):=HE.out (by
    have:=ha.out
    have e:j=n:=by omega
    rw [e] at this;exact this)
   clear ha;go_wp2;go_ret;exact ⟨ret_bool hE.out.symm,hb⟩
def placedB (x y:Nd):Bool:=!(decide (x.deep < y.deep) && !x.text.isEmpty) && (decide (1≤y.deep) && (decide (y.deep≤x.deep+1) && decide (y.deep < 8)))
set_option maxHeartbeats 2000000 in
set_option maxRecDepth 100000 in
theorem xplaced_first (ad:Addr) (n cap:Nat) (c:NdC) (w:World) (h0:0 < n) (hc:NdAt w ad 0 c) :
  Calls Tryz.prog 65 #[.slice (some ad) n cap,.int .i64 0] w fun e w'=>e=.returned (.bool (c.nd.deep==0))∧Below w.heap.size w w':=by
 have c0:=hc.c0;rw [Nat.zero_mul] at c0;have ez:ad.add 0=ad:=by cases ad; unfold Addr.add; split <;> simp_all
 have c1:=c0;rw [ez] at c1;have q:(0:Int) < (n:Int):=by omega
 go_enter Tryz.func65,Tryz.ntmps65
 go_wp2;go_ret;exact ⟨rfl,Below.refl _ _⟩
set_option maxHeartbeats 4000000 in
set_option maxRecDepth 100000 in
theorem xplaced_next (ad:Addr) (n cap i:Nat) (x y:NdC) (w:World) (hn:n≤1000000) (hi:i+1 < n) (hx:NdAt w ad i x) (hy:NdAt w ad (i+1) y) (hxf:∃ po pn pc,x.a=.slice po pn pc) (hd:x.nd.deep < 8) (hd0:-9223372036854775808≤x.nd.deep) :
  Calls Tryz.prog 65 #[.slice (some ad) n cap,.int .i64 ((i+1:Nat):Int)] w fun e w'=>e=.returned (.bool (placedB x.nd y.nd))∧Below w.heap.size w w':=by
 obtain ⟨c0,c1,c2,c3⟩:=hx;obtain ⟨d0,d1,d2,d3⟩:=hy;obtain ⟨⟨xd,xn,xps,xt⟩,xa⟩:=x;obtain ⟨⟨yd,yn,yps,yt⟩,ya⟩:=y;simp only at c0 c1 c2 c3 d0 d1 d2 d3 hxf hd hd0 ⊢;obtain ⟨po,pn,pc,rfl⟩:=hxf;have hP:placedB ⟨xd,xn,xps,xt⟩ ⟨yd,yn,yps,yt⟩=(!(decide (xd < yd) && !xt.isEmpty) && (decide (1≤yd) && (decide (yd≤xd+1) && decide (yd < 8)))):=rfl;generalize placedB ⟨xd,xn,xps,xt⟩ ⟨yd,yn,yps,yt⟩=R at hP ⊢;have q:((i+1:Nat):Int) < (n:Int):=by omega
 have qz:(((i+1:Nat):Int)==0)=false:=by rw [beq_eq_false_iff_ne]; omega
 have hw1:IntKind.i64.wrap (((i+1:Nat):Int) - 1)=(i:Int):=by rw [IntKind.wrap_i64]; omega
 have q2:(i:Int) < (n:Int):=by omega
 have hw2:IntKind.i64.wrap (xd+1)=xd+1:=by rw [IntKind.wrap_i64]; omega
 have hb:Below w.heap.size w (w.alloc (.cells #[.int .i64 xd,.string ⟨xn.toArray⟩,.slice po pn pc,.string ⟨xt.toArray⟩] 82)):=(Below.refl _ w).alloc (Nat.le_refl _) _;generalize hI:((i+1:Nat):Int)=I at q qz hw1 ⊢;have hIn:I.toNat=i+1:=by omega
 have hI0:0≤I:=by omega
 clear hI;have fin:∀ (b1 b2 b3:Bool),decide (1≤yd)=b1 → decide (yd≤xd+1)=b2 → decide (yd < 8)=b3 → R=(!(decide (xd < yd) && !xt.isEmpty) && (b1 && (b2 && b3))):=fun b1 b2 b3 e1 e2 e3=>by rw [hP,e1,e2,e3]
 have HF:=hid fin;clear hP fin;by_cases hA:xd < yd
 ·have hAd:decide (xd < yd)=true:=decide_eq_true hA
  cases hte:xt.isEmpty with
  | false =>
   have HR:Hid (R=false):=show _=_ by rw [HF.out _ _ _ rfl rfl rfl,hAd,hte]; rfl
   clear HF
   go_enter Tryz.func65,Tryz.ntmps65
   go_wp2;go_ret;exact ⟨ret_bool HR.out.symm,hb⟩
  | true =>
   have HF2:Hid (R=(decide (1≤yd) && (decide (yd≤xd+1) && decide (yd < 8)))):=show _=_ by rw [HF.out _ _ _ rfl rfl rfl,hAd,hte]; rfl
   clear HF;by_cases h1:1≤yd
   ·by_cases h2:yd≤xd+1
    ·by_cases h3:yd < 8
     ·have HR:Hid (R=true):=show _=_ by rw [HF2.out,decide_eq_true h1,decide_eq_true h2,decide_eq_true h3]; rfl
      clear HF2
      go_enter Tryz.func65,Tryz.ntmps65
      go_wp2;go_ret;exact ⟨ret_bool (by first | (rw [HR.out]; done) | (rw [HR.out]; simp [*]; done) | (rw [HR.out]; simp [*]; omega)),hb⟩
     ·have HR:Hid (R=false):=show _=_ by rw [HF2.out,decide_eq_false h3]; simp
      clear HF2
      go_enter Tryz.func65,Tryz.ntmps65
      go_wp2;go_ret;exact ⟨ret_bool (by first | (rw [HR.out]; done) | (rw [HR.out]; simp [*]; done) | (rw [HR.out]; simp [*]; omega)),hb⟩
    ·have HR:Hid (R=false):=show _=_ by rw [HF2.out,decide_eq_false h2]; simp
     clear HF2
     go_enter Tryz.func65,Tryz.ntmps65
     go_wp2;go_ret;exact ⟨ret_bool (by first | (rw [HR.out]; done) | (rw [HR.out]; simp [*]; done) | (rw [HR.out]; simp [*]; omega)),hb⟩
   ·have HR:Hid (R=false):=show _=_ by rw [HF2.out,decide_eq_false h1]; simp
    clear HF2
    go_enter Tryz.func65,Tryz.ntmps65
    go_wp2;go_ret;exact ⟨ret_bool (by first | (rw [HR.out]; done) | (rw [HR.out]; simp [*]; done) | (rw [HR.out]; simp [*]; omega)),hb⟩
 ·have hAd:decide (xd < yd)=false:=decide_eq_false hA;have HF2:Hid (R=(decide (1≤yd) && (decide (yd≤xd+1) && decide (yd < 8)))):=show _=_ by rw [HF.out _ _ _ rfl rfl rfl,hAd]; rfl
  clear HF;by_cases h1:1≤yd
  ·have h2:yd≤xd+1:=by omega
   have h3:yd < 8:=by omega
   have HR:Hid (R=true):=show _=_ by rw [HF2.out,decide_eq_true h1,decide_eq_true h2,decide_eq_true h3]; rfl
   clear HF2
   go_enter Tryz.func65,Tryz.ntmps65
   go_wp2;go_ret;exact ⟨ret_bool (by first | (rw [HR.out]; done) | (rw [HR.out]; simp [*]; done) | (rw [HR.out]; simp [*]; omega)),hb⟩
  ·have HR:Hid (R=false):=show _=_ by rw [HF2.out,decide_eq_false h1]; simp
   clear HF2
   go_enter Tryz.func65,Tryz.ntmps65
   go_wp2;go_ret;exact ⟨ret_bool (by first | (rw [HR.out]; done) | (rw [HR.out]; simp [*]; done) | (rw [HR.out]; simp [*]; omega)),hb⟩
def okK (cs:List NdC) (m:Nat) (h:m < cs.length):Prop:=(m=0 → cs[m].nd.deep=0)∧(∀ h2:0 < m,placedB (cs[m - 1]'(by omega)).nd cs[m].nd=true)∧nodeOk cs[m].nd=true
theorem placedB_iff (x y:Nd):placedB x y=true ↔ (x.deep < y.deep → x.text=[])∧1≤y.deep∧y.deep≤x.deep+1∧y.deep < 8:=by
 unfold placedB;simp only [Bool.and_eq_true,Bool.not_eq_true',Bool.and_eq_false_iff,decide_eq_true_eq,decide_eq_false_iff_not,Bool.not_eq_false',List.isEmpty_iff]
 constructor
 ·rintro ⟨h1,h2,h3,h4⟩;exact ⟨fun h=>h1.resolve_left (fun k=>k h),h2,h3,h4⟩
 ·rintro ⟨h1,h2,h3,h4⟩;refine ⟨?_,h2,h3,h4⟩
  by_cases h:x.deep < y.deep
  ·exact .inr (h1 h)
  ·exact .inl h
theorem okK_all {cs:List NdC} (hp:0 < cs.length) (h200:cs.length≤200) (h:∀ m (hm:m < cs.length),okK cs m hm):checkX (ndsL cs)=0:=by
 refine chk_ok hp h200 ((h 0 hp).1 rfl) fun i hi=>?_
 refine ⟨fun h0=>?_,(h i hi).2.2,fun h2 hd=>?_⟩
 ·have:=(placedB_iff _ _).1 ((h i hi).2.1 h0)
  exact ⟨this.2.1,this.2.2.1⟩
 ·have:=(placedB_iff _ _).1 ((h (i+1) h2).2.1 (by omega))
  simp only [Nat.add_sub_cancel] at this;exact this.1 hd
theorem okK_node {cs:List NdC} {m:Nat} (hm:m < cs.length) (h:nodeOk cs[m].nd=false):checkX (ndsL cs)=130:=chk_bad hm fun hk=>by
 rw [hk.2.1] at h; cases h
theorem okK_place {cs:List NdC} {m:Nat} (hm:m+1 < cs.length) (h:placedB cs[m].nd cs[m+1].nd=false):checkX (ndsL cs)=130:=by
 by_cases h1:1≤cs[m+1].nd.deep∧cs[m+1].nd.deep≤cs[m].nd.deep+1
 ·by_cases h2:cs[m+1].nd.deep < 8
  ·refine chk_bad (i:=m) (by omega) fun hk=>?_
   have:placedB cs[m].nd cs[m+1].nd=true:=(placedB_iff _ _).2 ⟨fun hd=>hk.2.2 hm hd,h1.1,h1.2,h2⟩
   rw [this] at h; cases h
  ·exact chk_bad hm fun hk=>h2 (node_facts hk.2.1).1
 ·exact chk_bad hm fun hk=>h1 (hk.1 (by omega))
set_option maxHeartbeats 4000000 in
set_option maxRecDepth 100000 in
theorem xcheck_any (v:Value) (cs:List NdC) (w:World) (hz:cs.length≤140737488355328) (hsm:∀ c ∈ cs,SmallN 140737488355328 c.nd) (hv:NdsAt w v cs) :
  Calls Tryz.prog 45 #[v] w fun e w'=>e=.returned (.int .i64 (checkX (ndsL cs)))∧Below w.heap.size w w':=by
 obtain ⟨ao,cap,rfl,hc⟩:=hv;have HC:=hid hc;have HS:=hid hsm;clear hc hsm;by_cases h0:cs.length < 1∨200 < cs.length
 ·have hR:=hid (chk_size h0);generalize checkX (ndsL cs)=R at hR ⊢;obtain ⟨n,hn⟩:∃ n,n=cs.length:=⟨_,rfl⟩
  rw [← hn] at h0 hz ⊢;clear HC HS hn;by_cases h1:n < 1
  ·have r1:((n:Int)==0)=true:=by rw [beq_iff_eq]; omega
   go_enter Tryz.func45,Tryz.ntmps45
   go_wp2;go_ret;exact ⟨ret_int hR.out.symm,Below.refl _ _⟩
  ·have r1:((n:Int)==0)=false:=by rw [beq_eq_false_iff_ne]; omega
   have r2:(200:Int) < (n:Int):=by omega
   go_enter Tryz.func45,Tryz.ntmps45
   go_wp2;go_ret;exact ⟨ret_int hR.out.symm,Below.refl _ _⟩
 have hp:0 < cs.length:=by omega
 have h200:cs.length≤200:=by omega
 obtain ⟨ad,hao,hab,_,_⟩:=HC.out 0 hp;subst hao;have HA:=hid (@okK_all cs hp h200);have HN:=hid (fun m (hm:m < cs.length)=>@okK_node cs m hm);have HP:=hid (fun m (hm:m+1 < cs.length)=>@okK_place cs m hm);have HH:=hid (@chk_head cs hp);generalize checkX (ndsL cs)=R at HA HN HP HH ⊢;obtain ⟨n,hn⟩:∃ n,n=cs.length:=⟨_,rfl⟩
 rw [← hn] at h200 hz ⊢;have HL:=hid hn;have r1:((n:Int)==0)=false:=by rw [beq_eq_false_iff_ne]; omega
 have r2:¬ (200:Int) < (n:Int):=by omega
 clear h0 hn
 go_enter Tryz.func45,Tryz.ntmps45
 go_wp2
 go_loopw [15] (fun i wr=>∃ (j:Nat),j≤n∧i=.int .i64 j∧Below w.heap.size w wr∧Hid (∀ m (hm:m < cs.length),m < j → okK cs m hm)) (fun i _=>n - (intOf i).toNat)
 case atStart=>exact ⟨0,Nat.zero_le _,rfl,Below.refl _ _,fun m _ hm=>by omega⟩
 case round =>
  obtain ⟨j,hjn,rfl,hb,ha⟩:=hrel;by_cases hlt:j < n
  ·have hj1:j < cs.length:=by have:=HL.out; omega
   obtain ⟨ad2,hao,hab2,cN,pa⟩:=HC.out j hj1;have ead:ad2=ad:=(Option.some.inj hao).symm;subst ead;obtain ⟨s1,s2,s3,s4⟩:=HS.out cs[j] (List.getElem_mem hj1);have cN':=cN.below hb hab2;have q6:(j:Int) < (n:Int):=by omega
   obtain ⟨po,pc,hpf⟩:=pa.form;have hrow:=rc_row4 wr (.int .i64 cs[j].nd.deep) (.string ⟨cs[j].nd.name.toArray⟩) cs[j].a (.string ⟨cs[j].nd.text.toArray⟩) 82;have hbn:Below w.heap.size w (wr.alloc (.cells #[.int .i64 cs[j].nd.deep,.string ⟨cs[j].nd.name.toArray⟩,cs[j].a,.string ⟨cs[j].nd.text.toArray⟩] 82)):=hb.alloc hb.size _;have hltn:=alloc_lt wr (.cells #[.int .i64 cs[j].nd.deep,.string ⟨cs[j].nd.name.toArray⟩,cs[j].a,.string ⟨cs[j].nd.text.toArray⟩] 82)
   have hpl:∃ pb:Bool,(pb=false → R=130)∧(pb=true → (j=0 → cs[j].nd.deep=0)∧(∀ h2:0 < j,placedB (cs[j - 1]'(by omega)).nd cs[j].nd=true)∧cs[j].nd.deep < 8)∧∀ w',Below w.heap.size w w' → Calls Tryz.prog 65 #[.slice (some ad2) n cap,.int .i64 (j:Int)] w' fun e w''=>e=.returned (.bool pb)∧Below w'.heap.size w' w'':=by
    by_cases hj0:j=0
    ·subst hj0;refine ⟨cs[0].nd.deep==0,fun h=>HH.out (by simpa using h),fun h=>⟨fun _=>by simpa using h,fun h2=>absurd h2 (by omega),?_⟩,fun w' hw'=>xplaced_first ad2 n cap cs[0] w' (by omega) (cN.below hw' hab2)⟩
     have:cs[0].nd.deep=0:=by simpa using h
     omega
    ·obtain ⟨i,rfl⟩:∃ i,j=i+1:=⟨j - 1,by omega⟩
     obtain ⟨ad3,hao3,hab3,cP,pP⟩:=HC.out i (by omega);have ead3:ad3=ad2:=(Option.some.inj hao3).symm;subst ead3;have hk:=ha.out i (by omega) (by omega);obtain ⟨_,_,_,t4⟩:=HS.out cs[i] (List.getElem_mem _);obtain ⟨qo,qc,hqf⟩:=pP.form;refine ⟨placedB cs[i].nd cs[i+1].nd,fun h=>HP.out i hj1 h,fun h=>⟨fun h2=>by omega,fun _=>h,((placedB_iff _ _).1 h).2.2.2⟩,fun w' hw'=>xplaced_next ad3 n cap i cs[i] cs[i+1] w' (by omega) (by have:=HL.out; omega) (cP.below hw' hab2) (cN.below hw' hab2) ⟨qo,_,qc,hqf⟩ (node_facts hk.2.2).1 (i64_of t4).1⟩
   obtain ⟨pb,hpb1,hpb2,KP'⟩:=hpl;have KP:=hid KP';have HP1:=hid hpb1;have HNj:=hid (HN.out j hj1)
   have HAj:Hid (pb=true → nodeOk cs[j].nd=true → ∀ m (hm:m < cs.length),m < j+1 → okK cs m hm):=fun h1 h2 m hm hmj=>by
    by_cases hq:m < j
    ·exact ha.out m hm hq
    ·have:m=j:=by omega
     subst this;exact ⟨(hpb2 h1).1,(hpb2 h1).2.1,h2⟩
   have HD8:Hid (pb=true → cs[j].nd.deep < 8):=fun h=>(hpb2 h).2.2;have KN:=hid (fun w'=>xname_list cs[j].nd.name w' s1);have KT:=hid (fun w'=>xtext_any cs[j].nd.text w' s2);have KA:=hid (fun w' (h':ParsAt w' cs[j].a cs[j].nd.attrs)=>xattrs_any cs[j].a cs[j].nd.attrs w' s3 h');have HPA:=hid pa;have hok:nodeOk cs[j].nd=(decide (cs[j].nd.deep < 8) && (nameX cs[j].nd.name && (attrsOk cs[j].nd.attrs && (signsX cs[j].nd.text && xtrim cs[j].nd.text==cs[j].nd.text)))):=rfl;clear hpb1 hpb2 KP' HN HP HC HS s1 s2 s3 s4 ha pa cN HH;generalize cs[j]=c at hrow hbn hltn HNj HAj KN KT KA HPA hok cN' HD8 hpf;obtain ⟨⟨cd,cn,ca,ct⟩,cv⟩:=c;simp only at hrow hbn hltn HNj HAj KN KT KA HPA hok HD8 hpf;subst hpf;obtain ⟨c0,c1,c2,c3⟩:=cN';simp only at c0 c1 c2 c3;generalize (signsX ct && xtrim ct==ct)=tb at KT hok
   cases pb with
   | false =>
    have hR:=hid (HP1.out rfl);clear hok HNj HAj HD8;go_wp2_with fail
    clear c0 c1 c2 c3;generalize World.alloc _ _=W0 at hrow hbn hltn ⊢;refine (KP.out _ hbn).mono ?_
    rintro e w2 ⟨rfl,hw2⟩;go_wp2;go_ret;exact ⟨ret_int hR.out.symm,hbn.trans (hw2.mono hbn.size)⟩
   | true =>
    rw [decide_eq_true (HD8.out rfl),Bool.true_and] at hok;have HA2:=hid (HAj.out rfl)
    cases hnm:nameX cn with
    | false =>
     have hR:=hid (HNj.out (by rw [hok,hnm]; rfl));rw [hnm] at KN;clear hok HNj HAj HD8 HA2 hnm HP1;go_wp2_with fail
     clear c0 c1 c2 c3;generalize World.alloc _ _=W0 at hrow hbn hltn ⊢;refine (KP.out _ hbn).mono ?_
     rintro e w2 ⟨rfl,hw2⟩;obtain ⟨d0,d1,d2,d3,_,_,_,_⟩:=(hrow.below hw2 hltn).rc4;go_wp2_with fail
     refine (KN.out _).mono ?_
     rintro e w2 ⟨rfl,rfl⟩;go_wp2;go_ret;exact ⟨ret_int hR.out.symm,hbn.trans (hw2.mono hbn.size)⟩
    | true =>
     rw [hnm,Bool.true_and] at hok;rw [hnm] at KN;clear hnm
     cases hat:attrsOk ca with
     | false =>
      have hR:=hid (HNj.out (by rw [hok,hat]; rfl));rw [hat] at KA;clear hok HNj HAj HD8 HA2 hat HP1;go_wp2_with fail
      clear c0 c1 c2 c3;generalize World.alloc _ _=W0 at hrow hbn hltn ⊢;refine (KP.out _ hbn).mono ?_
      rintro e w2 ⟨rfl,hw2⟩;obtain ⟨d0,d1,d2,d3,_,_,_,_⟩:=(hrow.below hw2 hltn).rc4;have hb2:=hbn.trans (hw2.mono hbn.size);go_wp2_with fail
      refine (KN.out _).mono ?_
      rintro e w2 ⟨rfl,rfl⟩;go_wp2_with fail
      refine (KA.out _ (HPA.out.below hb2)).mono ?_
      rintro e w3 ⟨rfl,hw3⟩;go_wp2;go_ret;exact ⟨ret_int hR.out.symm,hb2.trans (hw3.mono hb2.size)⟩
     | true =>
      rw [hat,Bool.true_and] at hok;rw [hat] at KA;clear hat
      cases tb with
      | false =>
       have hR:=hid (HNj.out hok);clear hok HNj HAj HD8 HA2 HP1;go_wp2_with fail
       clear c0 c1 c2 c3;generalize World.alloc _ _=W0 at hrow hbn hltn ⊢;refine (KP.out _ hbn).mono ?_
       rintro e w2 ⟨rfl,hw2⟩;have hrow2:=hrow.below hw2 hltn;obtain ⟨d0,d1,d2,d3,_,_,_,_⟩:=hrow2.rc4;have hb2:=hbn.trans (hw2.mono hbn.size);go_wp2_with fail
       refine (KN.out _).mono ?_
       rintro e w2 ⟨rfl,rfl⟩;go_wp2_with fail
       refine (KA.out _ (HPA.out.below hb2)).mono ?_
       rintro e w3 ⟨rfl,hw3⟩;obtain ⟨g0,g1,g2,g3,_,_,_,_⟩:=(hrow2.below hw3 (Nat.lt_of_lt_of_le hltn hw2.size)).rc4;have hb3:=hb2.trans (hw3.mono hb2.size);go_wp2_with fail
       refine (KT.out _).mono ?_
       rintro e w4 ⟨rfl,hw4⟩;go_wp2;go_ret;exact ⟨ret_int hR.out.symm,hb3.trans (hw4.mono hb3.size)⟩
      | true =>
       have hN:=hid (HA2.out hok);clear hok HNj HAj HD8 HA2 HP1;go_wp2_with fail
       clear c0 c1 c2 c3;generalize World.alloc _ _=W0 at hrow hbn hltn ⊢;refine (KP.out _ hbn).mono ?_
       rintro e w2 ⟨rfl,hw2⟩;have hrow2:=hrow.below hw2 hltn;obtain ⟨d0,d1,d2,d3,_,_,_,_⟩:=hrow2.rc4;have hb2:=hbn.trans (hw2.mono hbn.size);go_wp2_with fail
       refine (KN.out _).mono ?_
       rintro e w2 ⟨rfl,rfl⟩;go_wp2_with fail
       refine (KA.out _ (HPA.out.below hb2)).mono ?_
       rintro e w3 ⟨rfl,hw3⟩;obtain ⟨g0,g1,g2,g3,_,_,_,_⟩:=(hrow2.below hw3 (Nat.lt_of_lt_of_le hltn hw2.size)).rc4;have hb3:=hb2.trans (hw3.mono hb2.size);go_wp2_with fail
       refine (KT.out _).mono ?_
       rintro e w4 ⟨rfl,hw4⟩;go_wp2;go_roundw
       case rel=>exact ⟨j+1,by omega,by go_num,hb3.trans (hw4.mono hb3.size),hN⟩
       case measure=>simp [intOf]; omega
  ·have hE:Hid (R=0):=HA.out fun m hm=>ha.out m hm (by have:=HL.out; omega);clear ha;go_wp2;go_ret;exact ⟨ret_int hE.out.symm,hb⟩
def ndsCells (cs:List NdC):List Value:=cs.flatMap ndCells
theorem ndCells_len (c:NdC):(ndCells c).length=4:=rfl
theorem ndsCells_get (cs:List NdC) (k:Nat) (hk:k < cs.length) (j:Nat) (u:Value) (h:(ndCells cs[k])[j]? = some u):(ndsCells cs)[k * 4+j]? = some u:=by
 induction cs generalizing k with
 | nil=>simp at hk
 | cons c cs ih =>
  have e:ndsCells (c :: cs)=ndCells c++ndsCells cs:=rfl
  cases k with
  | zero =>
   have hj:j < 4:=by have:=(List.getElem?_eq_some_iff.1 h).1; simpa [ndCells] using this
   rw [e,List.getElem?_append_left (by rw [ndCells_len]; omega),Nat.zero_mul,Nat.zero_add];exact h
  | succ k =>
   have:=ih k (by simpa using hk) (by simpa using h)
   rw [e,List.getElem?_append_right (by rw [ndCells_len]; omega),ndCells_len,show (k+1) * 4+j - 4=k * 4+j by omega];exact this
end Go.Proofs.YtldkidljjbkmbaaGreatDoor
