/-
  RX7, RX9, XChk.
-/
import Derived.Test.YtdnekampnkhmfaaGreatDoorPM09
set_option linter.unusedVariables false
set_option linter.unusedSimpArgs false
set_option maxRecDepth 20000
namespace Go.Proofs.YtdnekampnkhmfaaGreatDoor
open Go.RowKit Sc
theorem distinct_snoc (p:Par):∀ l:List Par,distinctX (l++[p])=(distinctX l && l.all (fun q=>!(q.name==p.name)))
 | []=>rfl
 | x :: l=>by
  rw [List.cons_append,distinctX,distinct_snoc p l,distinctX,List.all_cons,List.all_append];have e:(p.name==x.name)=(x.name==p.name):=by rw [Bool.eq_iff_iff]; simp; exact eq_comm
  simp only [List.all_cons,List.all_nil,Bool.and_true,e];generalize (l.all fun q=>!(q.name==x.name))=a;generalize (l.all fun q=>!(q.name==p.name))=b;generalize distinctX l=c;generalize (x.name==p.name)=d
  cases a <;> cases b <;> cases c <;> cases d <;> rfl
theorem distinct_front:∀ a b:List Par,distinctX (a++b)=true → distinctX a=true
 | [],b,_=>rfl
 | x :: a,b,h=>by
  rw [List.cons_append,distinctX,List.all_append,Bool.and_eq_true,Bool.and_eq_true] at h;rw [distinctX,h.1.1,distinct_front a b h.2]; rfl
def attrOk (p:Par):Bool:=nameX p.name && (p.has && signsX p.value)
theorem attrsOk_is (l:List Par) (h:l.length≤16):attrsOk l=(l.all attrOk && distinctX l):=by
 unfold attrsOk; rw [decide_eq_true h]; rfl
theorem attrs_snoc {l:List Par} {j:Nat} (hj:j < l.length) (ha:((l.take j).all attrOk && distinctX (l.take j))=true) (h1:attrOk l[j]=true) (h2:(l.take j).all (fun q=>!(q.name==l[j].name))=true):((l.take (j+1)).all attrOk && distinctX (l.take (j+1)))=true:=by
 rw [Bool.and_eq_true] at ha;rw [List.take_succ_eq_append_getElem hj,distinct_snoc,List.all_append,ha.1,ha.2,h2]
 simp [h1]
theorem attrs_bad {l:List Par} {j:Nat} (hl:l.length≤16) (hj:j < l.length) (h1:attrOk l[j]=false):attrsOk l=false:=by
 rw [attrsOk_is l hl]
 have:l.all attrOk=false:=by rw [List.all_eq_false]; exact ⟨l[j],List.getElem_mem hj,by simp [h1]⟩
 rw [this]; rfl
theorem attrs_twice {l:List Par} {j m:Nat} (hl:l.length≤16) (hj:j < l.length) (hm:m < j) (h1:(l[m].name==l[j].name)=true):attrsOk l=false:=by
 rw [attrsOk_is l hl]
 have:distinctX l=false:=by
  cases hd:distinctX l with
  | false=>rfl
  | true =>
   have e:=List.take_append_drop (j+1) l;rw [← e] at hd;have h3:=distinct_front _ _ hd;rw [List.take_succ_eq_append_getElem hj,distinct_snoc,Bool.and_eq_true,List.all_eq_true] at h3;have h4:=h3.2 l[m] (by rw [List.mem_take_iff_getElem]; exact ⟨m,by omega,rfl⟩);rw [h1] at h4; cases h4
 rw [this]; simp
theorem name_list (l:List UInt8) (w:World) (h:l.length≤140737488355328) :
  Calls Tryz.prog 116 #[.string ⟨l.toArray⟩] w fun e w'=>e=.returned (.bool (nameX l))∧w'=w:=rname_any ⟨l.toArray⟩ w (by rw [size_list]; exact h)
theorem signs_list (l:List UInt8) (w:World) (h:l.length≤140737488355328) :
  Calls Tryz.prog 69 #[.string ⟨l.toArray⟩] w fun e w'=>e=.returned (.bool (signsX l))∧w'=w:=rsigns_any ⟨l.toArray⟩ w (by rw [size_list]; exact h)
theorem ParsAt.open {w:World} {v:Value} {ps:List Par} (h:ParsAt w v ps):∃ ao cap,v=.slice ao ps.length cap∧∀ k (hk:k < ps.length),∃ a,ao=some a∧a.block < w.heap.size∧ParAt w a k ps[k]:=by
 rcases h with ⟨rfl,rfl⟩ | ⟨a,cap,rfl,hc⟩
 ·exact ⟨none,0,rfl,fun k hk=>by simp at hk⟩
 ·exact ⟨some a,cap,rfl,fun k hk=>⟨a,rfl,(hc k hk).1,(hc k hk).2⟩⟩
set_option maxHeartbeats 4000000 in
set_option maxRecDepth 100000 in
theorem rattrs_any (v:Value) (ps:List Par) (w:World) (hsm:SmallP 140737488355328 ps) (hv:ParsAt w v ps) :
  Calls Tryz.prog 117 #[v] w fun e w'=>e=.returned (.bool (attrsOk ps))∧∃ q,w'=w.drewN q:=by
 obtain ⟨ao,cap,rfl,hc⟩:=hv.open;have HC:=hid hc;have HS:=hid hsm.2;have hz:=hsm.1;clear hc hv hsm;by_cases h16:16 < ps.length
 ·have hR:Hid (attrsOk ps=false):=show _=_ by unfold attrsOk; rw [decide_eq_false (by omega)]; rfl
  generalize attrsOk ps=R at hR ⊢;obtain ⟨n,hn⟩:∃ n,n=ps.length:=⟨_,rfl⟩
  rw [← hn] at h16 hz ⊢;clear HC HS hn
  go_enter Tryz.func117,Tryz.ntmps117
  go_wp2;go_ret;exact ⟨ret_bool hR.out.symm,0,rfl⟩
 have hl:ps.length≤16:=by omega
 have HB:=hid (fun j (hj:j < ps.length)=>attrs_bad hl hj);have HT:=hid (fun j m (hj:j < ps.length) (hm:m < j)=>attrs_twice hl hj hm);have HE:Hid (((ps.take ps.length).all attrOk && distinctX (ps.take ps.length))=true → attrsOk ps=true):=fun h=>by rw [attrsOk_is ps hl]; rw [List.take_length] at h; exact h
 have HN:=hid (fun j (hj:j < ps.length)=>@attrs_snoc ps j hj);generalize attrsOk ps=R at HB HT HE ⊢;obtain ⟨n,hn⟩:∃ n,n=ps.length:=⟨_,rfl⟩
 rw [← hn] at hl hz HE h16 ⊢;have HL:=hid hn;clear hn
 go_enter Tryz.func117,Tryz.ntmps117
 go_wp2
 go_loopw [3] (fun i wr=>∃ (j q:Nat),j≤n∧i=.int .i64 j∧wr=w.drewN q∧Hid (((ps.take j).all attrOk && distinctX (ps.take j))=true)) (fun i _=>n - (intOf i).toNat)
 case atStart=>exact ⟨0,0,Nat.zero_le _,rfl,rfl,show _=_ from rfl⟩
 case round =>
  obtain ⟨j,q,hjn,rfl,rfl,ha⟩:=hrel;by_cases hlt:j < n
  ·have hjl:j < ps.length:=by have:=HL.out; omega
   obtain ⟨ad,hao,hab,c0,c1,c2⟩:=HC.out j hjl;subst hao;obtain ⟨s1,s2⟩:=HS.out ps[j] (List.getElem_mem hjl);have KN:=hid (fun w'=>name_list ps[j].name w' s1);have KS:=hid (fun w'=>signs_list ps[j].value w' s2);have HB1:=hid (HB.out j hjl);have HT1:=hid (fun m hm=>HT.out j m hjl hm);have HN1:=hid (HN.out j hjl ha.out);have hok:attrOk ps[j]=(nameX ps[j].name && (ps[j].has && signsX ps[j].value)):=rfl;have q6:(j:Int) < (n:Int):=by omega
   clear HB HT HN HE s1 s2 ha;generalize hP:ps[j]=P at c0 c1 c2 KN KS HB1 HT1 HN1 hok;obtain ⟨pn,pv,ph⟩:=P;simp only at c0 c1 c2 KN KS HT1 HN1 hok
   cases hnm:nameX pn with
   | false =>
    rw [hnm] at KN;have hR:=hid (HB1.out (by rw [hok,hnm]; rfl));clear hok HB1 HT1 HN1 hP hnm HC HS;go_wp2_with (go_at_call 116; refine (KN.out _).mono ?_; rintro e w' ⟨rfl,rfl⟩)
    go_ret;exact ⟨ret_bool hR.out.symm,q,rfl⟩
   | true =>
    rw [hnm] at KN
    cases ph with
    | false =>
     have hR:=hid (HB1.out (by rw [hok]; simp));clear hok HB1 HT1 HN1 hP hnm HC HS;go_wp2_with (go_at_call 116; refine (KN.out _).mono ?_; rintro e w' ⟨rfl,rfl⟩)
     go_ret;exact ⟨ret_bool hR.out.symm,q,rfl⟩
    | true =>
     cases hsg:signsX pv with
     | false =>
      rw [hsg] at KS;have hR:=hid (HB1.out (by rw [hok,hsg]; simp));clear hok HB1 HT1 HN1 hP hnm hsg HC HS;go_wp2_with first | (go_at_call 116; refine (KN.out _).mono ?_; rintro e w' ⟨rfl,rfl⟩) | (go_at_call 69; refine (KS.out _).mono ?_; rintro e w' ⟨rfl,rfl⟩)
      go_ret;exact ⟨ret_bool hR.out.symm,q,rfl⟩
     | true =>
      rw [hsg] at KS;have HN2:=hid (HN1.out (by rw [hok,hnm,hsg]; rfl));clear hok HB1 HN1 hnm hsg;go_wp2_with first | (go_at_call 116; refine (KN.out _).mono ?_; rintro e w' ⟨rfl,rfl⟩) | (go_at_call 69; refine (KS.out _).mono ?_; rintro e w' ⟨rfl,rfl⟩)
      clear KN KS
      go_loopw [4] (fun i wr=>∃ (m q:Nat),m≤j∧i=.int .i64 m∧wr=w.drewN q∧Hid ((ps.take m).all (fun q=>!(q.name==pn))=true)) (fun i _=>j - (intOf i).toNat)
      case atStart=>exact ⟨0,q,Nat.zero_le _,rfl,rfl,show _=_ from rfl⟩
      case round =>
       obtain ⟨m,q2,hmj,rfl,rfl,hall⟩:=hrel;by_cases hml:m < j
       ·have hmn:m < ps.length:=by omega
        obtain ⟨ad2,hao2,hab2,d0,d1,d2⟩:=HC.out m hmn;have ead:ad2=ad:=(Option.some.inj hao2).symm;subst ead;have HT2:=hid (HT1.out m hml);have hsn:Hid ((ps[m].name==pn)=false → (ps.take (m+1)).all (fun q=>!(q.name==pn))=true):=fun h=>by rw [List.take_succ_eq_append_getElem hmn,List.all_append,hall.out]; simp [h]
        have q7:(m:Int) < (j:Int):=by omega
        have q8:(m:Int) < (n:Int):=by omega
        clear HT1 HN2 hall HC HS hao2;generalize ps[m]=M at d0 d1 d2 HT2 hsn;obtain ⟨mn,mv,mh⟩:=M;simp only at d0 d1 d2 HT2 hsn
        cases hcmp:(mn==pn) with
        | true =>
         have hR:=hid (HT2.out hcmp);clear HT2 hsn hP;go_wp2
         go_quiet (fail)
         go_wp2;go_ret;exact ⟨ret_bool hR.out.symm,q2+nq,by first | rfl | simp⟩
        | false =>
         have hall2:=hid (hsn.out hcmp);clear HT2 hsn hP;go_wp2
         go_quiet (fail)
         go_wp2;go_roundw
         case rel=>exact ⟨m+1,q2+nq,by omega,by go_num,rfl,hall2⟩
         case measure=>simp [intOf]; omega
       ·have hmj2:m=j:=by omega
        subst hmj2;have ha2:=hid (HN2.out (by have:=hall.out; simpa [hP] using this));clear HT1 HN2 hall HC HS hP;go_wp2;go_roundw
        case rel=>exact ⟨m+1,q2,by omega,by go_num,rfl,ha2⟩
        case measure=>simp [intOf]; omega
  ·have hR:=hid (HE.out (by have h:=ha.out; rw [show j=n by omega] at h; exact h));clear HB HT HN HE ha HC HS;go_wp2;go_ret;exact ⟨ret_bool hR.out.symm,q,rfl⟩
def okN (l:List Nd) (i:Nat) (h:i < l.length):Prop :=
 (0 < i → 1≤l[i].deep∧l[i].deep≤(l[i - 1]'(by omega)).deep+1)∧nodeOk l[i]=true∧(∀ h2:i+1 < l.length,l[i].deep < l[i+1].deep → l[i].text=[])
theorem steps_iff:∀ l:List Nd,stepsX l=true ↔ ∀ i (h:i < l.length),okN l i h
 | []=>by simp [stepsX]
 | [x]=>by
  constructor
  ·intro h i hi
   have:i=0:=by simp at hi; exact hi
   subst this;exact ⟨fun hp=>absurd hp (by omega),h,fun h2=>absurd h2 (by simp)⟩
  ·intro h;exact (h 0 (by simp)).2.1
 | x :: y :: r=>by
  have hnx:nextOk x y=true ↔ (1≤y.deep∧y.deep≤x.deep+1)∧(x.deep < y.deep → x.text=[]):=by
   unfold nextOk;rw [Bool.and_eq_true,decide_eq_true_iff,Bool.or_eq_true,Bool.not_eq_true',decide_eq_false_iff_not,List.isEmpty_iff]
   constructor
   ·rintro ⟨h1,h2⟩;exact ⟨h1,fun h=>h2.resolve_left (fun h3=>h3 h)⟩
   ·rintro ⟨h1,h2⟩;refine ⟨h1,?_⟩
    by_cases h:x.deep < y.deep
    ·exact .inr (h2 h)
    ·exact .inl h
  rw [stepsX,Bool.and_eq_true,Bool.and_eq_true,steps_iff (y :: r),hnx]
  constructor
  ·rintro ⟨h1,h2,h3⟩ i hi
   match i,hi with
   | 0,hi=>exact ⟨fun hp=>absurd hp (by omega),h1,fun _ hd=>h2.2 hd⟩
   | 1,hi=>exact ⟨fun _=>h2.1,(h3 0 (by simp)).2.1,fun h4 hd=>(h3 0 (by simp)).2.2 (by simpa using h4) hd⟩
   | j+2,hi =>
    have h:=h3 (j+1) (by simpa using hi);exact ⟨fun _=>h.1 (by omega),h.2.1,fun h4 hd=>h.2.2 (by simp only [List.length_cons] at h4 ⊢; omega) hd⟩
  ·intro h;have h0:=h 0 (by simp);have h1:=h 1 (by simp);refine ⟨h0.2.1,⟨h1.1 (by omega),fun hd=>h0.2.2 (by simp) hd⟩,fun i hi=>?_⟩
   have hh:=h (i+1) (by simpa using hi);refine ⟨fun hp=>?_,hh.2.1,fun h4 hd=>hh.2.2 (by simpa using h4) hd⟩
   obtain ⟨j,rfl⟩:∃ j,i=j+1:=⟨i - 1,by omega⟩
   exact hh.1 (by omega)
def okC (cs:List NdC) (i:Nat) (h:i < cs.length):Prop :=
 (0 < i → 1≤cs[i].nd.deep∧cs[i].nd.deep≤(cs[i - 1]'(by omega)).nd.deep+1)∧nodeOk cs[i].nd=true∧(∀ h2:i+1 < cs.length,cs[i].nd.deep < cs[i+1].nd.deep → cs[i].nd.text=[])
theorem okC_iff (cs:List NdC) (i:Nat) (h:i < cs.length):okC cs i h ↔ okN (ndsL cs) i (by rw [ndsL_len]; exact h):=by
 unfold okC okN
 simp [ndsL]
theorem chk_bad {cs:List NdC} {i:Nat} (h:i < cs.length) (hb:¬ okC cs i h):checkX (ndsL cs)=130:=by
 unfold checkX;rw [if_pos];refine .inr (.inr (.inr ?_))
 cases hs:stepsX (ndsL cs) with
 | false=>rfl
 | true=>exact absurd ((okC_iff cs i h).2 ((steps_iff _).1 hs i _)) hb
theorem chk_head {cs:List NdC} (h:0 < cs.length) (hb:cs[0].nd.deep ≠ 0):checkX (ndsL cs)=130:=by
 unfold checkX;rw [if_pos];refine .inr (.inr (.inl ?_))
 rw [List.head?_eq_getElem?]
 simpa [ndsL,h] using hb
theorem chk_ok {cs:List NdC} (h:0 < cs.length) (h2:cs.length≤200) (h0:cs[0].nd.deep=0) (ha:∀ i (hi:i < cs.length),okC cs i hi):checkX (ndsL cs)=0:=by
 unfold checkX;rw [if_neg];have e:=ndsL_len cs;have hs:stepsX (ndsL cs)=true:=(steps_iff _).2 fun i hi=>(okC_iff cs i (by rw [← e]; exact hi)).1 (ha i _);rintro (h3 | h3 | h3 | h3)
 ·omega
 ·omega
 ·apply h3
  rw [List.head?_eq_getElem?]
  simpa [ndsL,h] using h0
 ·rw [hs] at h3; cases h3
theorem chk_size {cs:List NdC} (h:cs.length < 1∨200 < cs.length):checkX (ndsL cs)=130:=by
 unfold checkX;rw [if_pos];rw [ndsL_len]
 rcases h with h | h
 ·exact .inl h
 ·exact .inr (.inl h)
theorem trimX_list (l:List UInt8) (w:World) (h:l.length≤140737488355328) :
  Calls Tryz.prog 70 #[.string ⟨l.toArray⟩] w fun e w'=>e=.returned (.string ⟨(xtrim l).toArray⟩)∧w'=w:=rtrimX_any ⟨l.toArray⟩ w (by rw [size_list]; exact h)
theorem box4 (wr:World) (v0 v1 v2 v3:Value) (t:TypeId):RowC4 (wr.alloc (.cells #[v0,v1,v2,v3] t)) wr.heap.size v0 v1 v2 v3:=(rc_row4 wr v0 v1 v2 v3 t).rc4
set_option maxHeartbeats 16000000 in
set_option maxRecDepth 100000 in
theorem rcheck13_any (v:Value) (cs:List NdC) (w:World) (hz:cs.length≤140737488355328) (hsm:∀ c ∈ cs,SmallN 140737488355328 c.nd) (hv:NdsAt w v cs) :
  Calls Tryz.prog 62 #[v] w fun e w'=>e=.returned (.int .i64 (checkX (ndsL cs)))∧Below w.heap.size w w':=by
 obtain ⟨ao,cap,rfl,hc⟩:=hv;have HC:=hid hc;have HS:=hid hsm;clear hc hsm;by_cases h0:cs.length < 1∨200 < cs.length
 ·have hR:=hid (chk_size h0);generalize checkX (ndsL cs)=R at hR ⊢;obtain ⟨n,hn⟩:∃ n,n=cs.length:=⟨_,rfl⟩
  rw [← hn] at h0 hz ⊢;clear HC HS hn;by_cases h1:n < 1
  ·have r1:(n:Int) < 1:=by omega
   have r1d:decide ((n:Int) < 1)=true:=decide_eq_true r1
   go_enter Tryz.func62,Tryz.ntmps62
   go_wp2;go_ret;exact ⟨ret_int hR.out.symm,Below.refl _ _⟩
  ·have r1:¬ (n:Int) < 1:=by omega
   have r1d:decide ((n:Int) < 1)=false:=decide_eq_false r1;have r2:(200:Int) < (n:Int):=by omega
   go_enter Tryz.func62,Tryz.ntmps62
   go_wp2;go_ret;exact ⟨ret_int hR.out.symm,Below.refl _ _⟩
 have hp:0 < cs.length:=by omega
 have h200:cs.length≤200:=by omega
 obtain ⟨ad,hao,hab,⟨z0,z1,z2,z3⟩,pz⟩:=HC.out 0 hp;subst hao;have HB:=hid (fun i (h:i < cs.length)=>@chk_bad cs i h);have HH:=hid (@chk_head cs hp);have HO:=hid (@chk_ok cs hp h200);generalize checkX (ndsL cs)=R at HB HH HO ⊢;obtain ⟨n,hn⟩:∃ n,n=cs.length:=⟨_,rfl⟩
 rw [← hn] at h200 hz ⊢;have HL:=hid hn;have r1:¬ (n:Int) < 1:=by omega
 have r1d:decide ((n:Int) < 1)=false:=decide_eq_false r1;have r2:¬ (200:Int) < (n:Int):=by omega
 have r2d:decide ((200:Int) < (n:Int))=false:=decide_eq_false r2;have r3:(0:Int) < (n:Int):=by omega
 clear hn h0 z1 z2 z3 pz;by_cases hdn:cs[0].nd.deep ≠ 0
 ·have hR:=hid (HH.out hdn);have r4:(cs[0].nd.deep==0)=false:=by simpa using hdn
  have r4n:(cs[0].nd.deep != 0)=true:=by simpa using hdn
  generalize cs[0].nd.deep=d0 at z0 r4 r4n;have z0':w.cell? ad=some (.int .i64 d0):=by simpa [Addr.add] using z0
  clear HC HS HB HH HO hdn
  go_enter Tryz.func62,Tryz.ntmps62
  go_wp2;go_ret;exact ⟨ret_int hR.out.symm,Below.refl _ _⟩
 have hd0:cs[0].nd.deep=0:=Classical.not_not.1 hdn;rw [hd0] at z0;have HO2:=hid (HO.out hd0);have z0':w.cell? ad=some (.int .i64 0):=by simpa [Addr.add] using z0
 clear HO HH
 go_enter Tryz.func62,Tryz.ntmps62
 go_wp2;clear z0 z0'
 go_loopw [3] (fun i wr=>∃ (j:Nat),j≤n∧i=.int .i64 j∧Below w.heap.size w wr∧Hid (∀ k (h:k < cs.length),k < j → okC cs k h)) (fun i _=>n - (intOf i).toNat)
 case atStart=>exact ⟨0,Nat.zero_le _,rfl,Below.refl _ _,fun k _ h=>absurd h (by omega)⟩
 case round =>
  obtain ⟨j,hjn,rfl,hb,ha⟩:=hrel;by_cases hlt:j < n
  ·have hj1:j < cs.length:=by have:=HL.out; omega
   obtain ⟨ad2,hao,hab2,c0,pa⟩:=HC.out j hj1;have ead:ad2=ad:=(Option.some.inj hao).symm;subst ead;obtain ⟨s1,s2,s3,s4⟩:=HS.out cs[j] (List.getElem_mem hj1);have c0:=c0.below hb hab2;have HBad:=hid (HB.out j hj1);have hok:okC cs j hj1=((0 < j → 1≤cs[j].nd.deep∧cs[j].nd.deep≤(cs[j - 1]'(by omega)).nd.deep+1)∧nodeOk cs[j].nd=true∧(∀ h2:j+1 < cs.length,cs[j].nd.deep < cs[j+1].nd.deep → cs[j].nd.text=[])):=rfl;have HOk1:Hid ((0 < j → 1≤cs[j].nd.deep∧cs[j].nd.deep≤(cs[j - 1]'(by omega)).nd.deep+1) → nodeOk cs[j].nd=true → (∀ h2:j+1 < cs.length,cs[j].nd.deep < cs[j+1].nd.deep → cs[j].nd.text=[]) → ∀ k (h:k < cs.length),k < j+1 → okC cs k h):=fun a1 a2 a3 k h hk=>by
    by_cases hkj:k < j
    ·exact ha.out k h hkj
    ·have:k=j:=by omega
     subst this; exact ⟨a1,a2,a3⟩
   rw [hok] at HBad;obtain ⟨W0,hW0⟩:∃ W0,W0=wr.alloc (.cells #[.int .i64 cs[j].nd.deep,.string ⟨cs[j].nd.name.toArray⟩,cs[j].a,.string ⟨cs[j].nd.text.toArray⟩] 52):=⟨_,rfl⟩
   have hWb:Below w.heap.size w W0:=by rw [hW0]; exact hb.alloc hb.size _
   have hWr:Below wr.heap.size wr W0:=by rw [hW0]; exact (Below.refl _ wr).alloc (Nat.le_refl _) _
   have BX:RowC4 W0 wr.heap.size (.int .i64 cs[j].nd.deep) (.string ⟨cs[j].nd.name.toArray⟩) cs[j].a (.string ⟨cs[j].nd.text.toArray⟩):=by rw [hW0]; exact box4 _ _ _ _ _ _
   have hBW:Hid (∀ m,Below w.heap.size w (W0.drewN m)):=fun m=>hWb.trans (belowD _ _ _);have HX:Hid (∀ h:j+1 < n,∃ xd,W0.cell? (ad2.add ((j+1) * 4))=some (.int .i64 xd)∧xd=(cs[j+1]'(by have:=HL.out; omega)).nd.deep):=fun h=>by
    obtain ⟨ad3,hao3,hab3,c3,_⟩:=HC.out (j+1) (by have:=HL.out; omega)
    have:ad3=ad2:=(Option.some.inj hao3).symm
    subst this;exact ⟨_,(c3.below hWb hab2).c0,rfl⟩
   have HP:Hid ((h:0 < j) → ∃ pd,W0.cell? (ad2.add ((j - 1) * 4))=some (.int .i64 pd)∧pd=(cs[j - 1]'(by omega)).nd.deep∧0≤pd∧pd < 8):=fun h=>by
    obtain ⟨ad3,hao3,hab3,c3,_⟩:=HC.out (j - 1) (by omega)
    have:ad3=ad2:=(Option.some.inj hao3).symm
    subst this;have hk:=ha.out (j - 1) (by omega) (by omega);refine ⟨_,(c3.below hWb hab2).c0,rfl,?_,?_⟩
    ·by_cases h1:0 < j - 1
     ·have:=(hk.1 h1).1; omega
     ·have e:j - 1=0:=by omega
      have:(cs[j - 1]'(by omega)).nd.deep=0:=by simp only [e]; exact hd0
      omega
    ·exact (node_facts hk.2.1).1
   have KN:=hid (fun w'=>name_list cs[j].nd.name w' s1);have KS:=hid (fun w'=>signs_list cs[j].nd.text w' s2);have KT:=hid (fun w'=>trimX_list cs[j].nd.text w' s2);have KA:=hid (fun m=>rattrs_any cs[j].a cs[j].nd.attrs (W0.drewN m) s3 (pa.below (hBW.out m)));have s5:=i64_of s4;have hform:=pa.form;clear HC HS HB HO2 ha s1 s2 s3 s4 hok pa hWb hWr;generalize cs[j]=c at c0 HBad HOk1 hW0 BX KN KS KT KA s5 hform;obtain ⟨⟨cd,cn,ca,ct⟩,cv⟩:=c;simp only at c0 HBad HOk1 hW0 BX KN KS KT KA s5 hform;obtain ⟨pao,pcap,rfl⟩:=hform;obtain ⟨c0,c1,c2,c3⟩:=c0;simp only at c0 c1 c2 c3;have q6:(j:Int) < (n:Int):=by omega
   go_wp2;clear c0 c1 c2 c3;rw [← hW0];obtain ⟨b0,b1,b2,b3,_,_,_,_⟩:=BX;clear hW0;have hj2:((j:Int)+1).toNat=j+1:=by omega
   by_cases hj0:0 < j
   ·obtain ⟨pd,p0,hpd',hp1,hp2⟩:=HP.out hj0;have hpd:=hid hpd';clear hpd';have t0:(0:Int) < (j:Int):=by omega
    have t0d:decide ((0:Int) < (j:Int))=true:=decide_eq_true t0;have t5:((j - 1:Nat):Int) < (n:Int):=by omega
    have hwj:IntKind.i64.wrap ((j:Int) - 1)=((j - 1:Nat):Int):=by rw [IntKind.wrap_i64]; omega
    have hwp:IntKind.i64.wrap (pd+1)=pd+1:=by rw [IntKind.wrap_i64]; omega
    by_cases ht1:cd < 1
    ·have t1:decide (cd < 1)=true:=decide_eq_true ht1;have hR:=hid (HBad.out fun e=>absurd (e.1 hj0).1 (by omega));clear HBad HOk1 HX
     go_quiet (first | (go_at_call 116; exact Calls.quiet_of_same (KN.out _)) | (go_at_call 117; exact Calls.quiet_of (KA.out _)) | (go_at_call 69; exact Calls.quiet_of_same (KS.out _)) | (go_at_call 70; exact Calls.quiet_of_same (KT.out _)))
     go_wp2;go_ret;exact ⟨ret_int hR.out.symm,by first | exact hBW.out _ | (rw [World.drewN_drewN]; exact hBW.out _)⟩
    have t1:decide (cd < 1)=false:=decide_eq_false ht1;by_cases ht2:pd+1 < cd
    ·have t2:decide (pd+1 < cd)=true:=decide_eq_true ht2;have hR:=hid (HBad.out fun e=>absurd (e.1 hj0).2 (by rw [← hpd.out]; omega));clear HBad HOk1 HX
     go_quiet (first | (go_at_call 116; exact Calls.quiet_of_same (KN.out _)) | (go_at_call 117; exact Calls.quiet_of (KA.out _)) | (go_at_call 69; exact Calls.quiet_of_same (KS.out _)) | (go_at_call 70; exact Calls.quiet_of_same (KT.out _)))
     go_wp2;go_ret;exact ⟨ret_int hR.out.symm,by first | exact hBW.out _ | (rw [World.drewN_drewN]; exact hBW.out _)⟩
    have t2:decide (pd+1 < cd)=false:=decide_eq_false ht2;by_cases h8:8≤cd
    ·have r8:(8:Int)≤cd:=h8;have r8d:decide ((8:Int)≤cd)=true:=decide_eq_true h8;have hR:=hid (HBad.out fun e=>by have e2:=e.2.1; unfold nodeOk at e2; simp only at e2; simp at e2; omega);clear HBad HOk1 HX
     go_quiet (first | (go_at_call 116; exact Calls.quiet_of_same (KN.out _)) | (go_at_call 117; exact Calls.quiet_of (KA.out _)) | (go_at_call 69; exact Calls.quiet_of_same (KS.out _)) | (go_at_call 70; exact Calls.quiet_of_same (KT.out _)))
     go_wp2;go_ret;exact ⟨ret_int hR.out.symm,by first | exact hBW.out _ | (rw [World.drewN_drewN]; exact hBW.out _)⟩
    have r8:¬ (8:Int)≤cd:=h8;have r8d:decide ((8:Int)≤cd)=false:=decide_eq_false h8
    cases hnm:nameX cn with
    | false =>
     rw [hnm] at KN;have hR:=hid (HBad.out fun e=>by have e2:=e.2.1; unfold nodeOk at e2; simp only at e2; rw [hnm] at e2; simp at e2);clear HBad HOk1 HX
     go_quiet (first | (go_at_call 116; exact Calls.quiet_of_same (KN.out _)) | (go_at_call 117; exact Calls.quiet_of (KA.out _)) | (go_at_call 69; exact Calls.quiet_of_same (KS.out _)) | (go_at_call 70; exact Calls.quiet_of_same (KT.out _)))
     go_wp2;go_ret;exact ⟨ret_int hR.out.symm,by first | exact hBW.out _ | (rw [World.drewN_drewN]; exact hBW.out _)⟩
    | true =>
     rw [hnm] at KN
     cases hat:attrsOk ca with
     | false =>
      rw [hat] at KA;have hR:=hid (HBad.out fun e=>by have e2:=e.2.1; unfold nodeOk at e2; simp only at e2; rw [hat] at e2; simp at e2);clear HBad HOk1 HX
      go_quiet (first | (go_at_call 116; exact Calls.quiet_of_same (KN.out _)) | (go_at_call 117; exact Calls.quiet_of (KA.out _)) | (go_at_call 69; exact Calls.quiet_of_same (KS.out _)) | (go_at_call 70; exact Calls.quiet_of_same (KT.out _)))
      go_wp2;go_ret;exact ⟨ret_int hR.out.symm,by first | exact hBW.out _ | (rw [World.drewN_drewN]; exact hBW.out _)⟩
     | true =>
      rw [hat] at KA
      cases hsg:signsX ct with
      | false =>
       rw [hsg] at KS;have hR:=hid (HBad.out fun e=>by have e2:=e.2.1; unfold nodeOk at e2; simp only at e2; rw [hsg] at e2; simp at e2);clear HBad HOk1 HX
       go_quiet (first | (go_at_call 116; exact Calls.quiet_of_same (KN.out _)) | (go_at_call 117; exact Calls.quiet_of (KA.out _)) | (go_at_call 69; exact Calls.quiet_of_same (KS.out _)) | (go_at_call 70; exact Calls.quiet_of_same (KT.out _)))
       go_wp2;go_ret;exact ⟨ret_int hR.out.symm,by first | exact hBW.out _ | (rw [World.drewN_drewN]; exact hBW.out _)⟩
      | true =>
       rw [hsg] at KS;by_cases htr:xtrim ct=ct
       ·have r9:(xtrim ct==ct)=true:=by simp [htr]
        have r9n:(xtrim ct != ct)=false:=by simp [htr]
        have HOk2:=hid (HOk1.out (fun _=>⟨by omega,by rw [← hpd.out]; omega⟩) (by unfold nodeOk; simp only; rw [hnm,hat,hsg,decide_eq_true (by omega:cd < 8)]; simpa using htr));by_cases hn1:j+1 < n
        ·obtain ⟨xd,x0,hxd'⟩:=HX.out hn1;have hxd:=hid hxd';clear hxd';have q9:(j:Int)+1 < (n:Int):=by omega
         have q9d:decide ((j:Int)+1 < (n:Int))=true:=decide_eq_true q9;by_cases hgt:cd < xd
         ·have r5:decide (cd < xd)=true:=decide_eq_true hgt;by_cases hem:ct=[]
          ·subst hem;have hall:=hid (HOk2.out fun _ _=>rfl);clear HBad HOk1 HOk2 HX
           go_quiet (first | (go_at_call 116; exact Calls.quiet_of_same (KN.out _)) | (go_at_call 117; exact Calls.quiet_of (KA.out _)) | (go_at_call 69; exact Calls.quiet_of_same (KS.out _)) | (go_at_call 70; exact Calls.quiet_of_same (KT.out _)))
           go_wp2
           go_quiet (fail)
           go_wp2;go_roundw
           case rel=>exact ⟨j+1,by omega,by go_num,by first | exact hBW.out _ | (rw [World.drewN_drewN]; exact hBW.out _),hall⟩
           case measure=>simp [intOf]; omega
          ·have r6:(ct==([]:List UInt8))=false:=by simpa using hem
           have r6n:(ct != ([]:List UInt8))=true:=by simpa using hem
           have r6e:ct.isEmpty=false:=by cases ct with | nil=>exact absurd rfl hem | cons a b=>rfl
           have hR:=hid (HBad.out fun e=>hem (e.2.2 (by have:=HL.out; omega) (by rw [← hxd.out]; exact hgt)));clear HBad HOk1 HOk2 HX hxd
           go_quiet (first | (go_at_call 116; exact Calls.quiet_of_same (KN.out _)) | (go_at_call 117; exact Calls.quiet_of (KA.out _)) | (go_at_call 69; exact Calls.quiet_of_same (KS.out _)) | (go_at_call 70; exact Calls.quiet_of_same (KT.out _)))
           go_wp2
           go_quiet (fail)
           go_wp2;go_ret;exact ⟨ret_int hR.out.symm,by first | exact hBW.out _ | (rw [World.drewN_drewN]; exact hBW.out _)⟩
         ·have r5:decide (cd < xd)=false:=decide_eq_false hgt;have hall:=hid (HOk2.out fun h2 hlt=>absurd hlt (by rw [← hxd.out]; exact hgt));clear HBad HOk1 HOk2 HX hxd
          go_quiet (first | (go_at_call 116; exact Calls.quiet_of_same (KN.out _)) | (go_at_call 117; exact Calls.quiet_of (KA.out _)) | (go_at_call 69; exact Calls.quiet_of_same (KS.out _)) | (go_at_call 70; exact Calls.quiet_of_same (KT.out _)))
          go_wp2
          go_quiet (fail)
          go_wp2;go_roundw
          case rel=>exact ⟨j+1,by omega,by go_num,by first | exact hBW.out _ | (rw [World.drewN_drewN]; exact hBW.out _),hall⟩
          case measure=>simp [intOf]; omega
        ·have q9:¬ (j:Int)+1 < (n:Int):=by omega
         have q9d:decide ((j:Int)+1 < (n:Int))=false:=decide_eq_false q9;have hall:=hid (HOk2.out fun h2=>absurd h2 (by have:=HL.out; omega));clear HBad HOk1 HOk2 HX
         go_quiet (first | (go_at_call 116; exact Calls.quiet_of_same (KN.out _)) | (go_at_call 117; exact Calls.quiet_of (KA.out _)) | (go_at_call 69; exact Calls.quiet_of_same (KS.out _)) | (go_at_call 70; exact Calls.quiet_of_same (KT.out _)))
         go_wp2
         go_quiet (fail)
         go_wp2;go_roundw
         case rel=>exact ⟨j+1,by omega,by go_num,by first | exact hBW.out _ | (rw [World.drewN_drewN]; exact hBW.out _),hall⟩
         case measure=>simp [intOf]; omega
       ·have r9:(xtrim ct==ct)=false:=by simp [htr]
        have r9n:(xtrim ct != ct)=true:=by simp [htr]
        have hR:=hid (HBad.out fun e=>by have e2:=e.2.1; unfold nodeOk at e2; simp only at e2; rw [hnm,hat,hsg] at e2; simp at e2; exact htr e2.2);clear HBad HOk1 HX
        go_quiet (first | (go_at_call 116; exact Calls.quiet_of_same (KN.out _)) | (go_at_call 117; exact Calls.quiet_of (KA.out _)) | (go_at_call 69; exact Calls.quiet_of_same (KS.out _)) | (go_at_call 70; exact Calls.quiet_of_same (KT.out _)))
        go_wp2;go_ret;exact ⟨ret_int hR.out.symm,by first | exact hBW.out _ | (rw [World.drewN_drewN]; exact hBW.out _)⟩
   ·have t0:¬ (0:Int) < (j:Int):=by omega
    have t0d:decide ((0:Int) < (j:Int))=false:=decide_eq_false t0;by_cases h8:8≤cd
    ·have r8:(8:Int)≤cd:=h8;have r8d:decide ((8:Int)≤cd)=true:=decide_eq_true h8;have hR:=hid (HBad.out fun e=>by have e2:=e.2.1; unfold nodeOk at e2; simp only at e2; simp at e2; omega);clear HBad HOk1 HX
     go_quiet (first | (go_at_call 116; exact Calls.quiet_of_same (KN.out _)) | (go_at_call 117; exact Calls.quiet_of (KA.out _)) | (go_at_call 69; exact Calls.quiet_of_same (KS.out _)) | (go_at_call 70; exact Calls.quiet_of_same (KT.out _)))
     go_wp2;go_ret;exact ⟨ret_int hR.out.symm,by first | exact hBW.out _ | (rw [World.drewN_drewN]; exact hBW.out _)⟩
    have r8:¬ (8:Int)≤cd:=h8;have r8d:decide ((8:Int)≤cd)=false:=decide_eq_false h8
    cases hnm:nameX cn with
    | false =>
     rw [hnm] at KN;have hR:=hid (HBad.out fun e=>by have e2:=e.2.1; unfold nodeOk at e2; simp only at e2; rw [hnm] at e2; simp at e2);clear HBad HOk1 HX
     go_quiet (first | (go_at_call 116; exact Calls.quiet_of_same (KN.out _)) | (go_at_call 117; exact Calls.quiet_of (KA.out _)) | (go_at_call 69; exact Calls.quiet_of_same (KS.out _)) | (go_at_call 70; exact Calls.quiet_of_same (KT.out _)))
     go_wp2;go_ret;exact ⟨ret_int hR.out.symm,by first | exact hBW.out _ | (rw [World.drewN_drewN]; exact hBW.out _)⟩
    | true =>
     rw [hnm] at KN
     cases hat:attrsOk ca with
     | false =>
      rw [hat] at KA;have hR:=hid (HBad.out fun e=>by have e2:=e.2.1; unfold nodeOk at e2; simp only at e2; rw [hat] at e2; simp at e2);clear HBad HOk1 HX
      go_quiet (first | (go_at_call 116; exact Calls.quiet_of_same (KN.out _)) | (go_at_call 117; exact Calls.quiet_of (KA.out _)) | (go_at_call 69; exact Calls.quiet_of_same (KS.out _)) | (go_at_call 70; exact Calls.quiet_of_same (KT.out _)))
      go_wp2;go_ret;exact ⟨ret_int hR.out.symm,by first | exact hBW.out _ | (rw [World.drewN_drewN]; exact hBW.out _)⟩
     | true =>
      rw [hat] at KA
      cases hsg:signsX ct with
      | false =>
       rw [hsg] at KS;have hR:=hid (HBad.out fun e=>by have e2:=e.2.1; unfold nodeOk at e2; simp only at e2; rw [hsg] at e2; simp at e2);clear HBad HOk1 HX
       go_quiet (first | (go_at_call 116; exact Calls.quiet_of_same (KN.out _)) | (go_at_call 117; exact Calls.quiet_of (KA.out _)) | (go_at_call 69; exact Calls.quiet_of_same (KS.out _)) | (go_at_call 70; exact Calls.quiet_of_same (KT.out _)))
       go_wp2;go_ret;exact ⟨ret_int hR.out.symm,by first | exact hBW.out _ | (rw [World.drewN_drewN]; exact hBW.out _)⟩
      | true =>
       rw [hsg] at KS;by_cases htr:xtrim ct=ct
       ·have r9:(xtrim ct==ct)=true:=by simp [htr]
        have r9n:(xtrim ct != ct)=false:=by simp [htr]
        have HOk2:=hid (HOk1.out (fun h=>absurd h hj0) (by unfold nodeOk; simp only; rw [hnm,hat,hsg,decide_eq_true (by omega:cd < 8)]; simpa using htr));by_cases hn1:j+1 < n
        ·obtain ⟨xd,x0,hxd'⟩:=HX.out hn1;have hxd:=hid hxd';clear hxd';have q9:(j:Int)+1 < (n:Int):=by omega
         have q9d:decide ((j:Int)+1 < (n:Int))=true:=decide_eq_true q9;by_cases hgt:cd < xd
         ·have r5:decide (cd < xd)=true:=decide_eq_true hgt;by_cases hem:ct=[]
          ·subst hem;have hall:=hid (HOk2.out fun _ _=>rfl);clear HBad HOk1 HOk2 HX
           go_quiet (first | (go_at_call 116; exact Calls.quiet_of_same (KN.out _)) | (go_at_call 117; exact Calls.quiet_of (KA.out _)) | (go_at_call 69; exact Calls.quiet_of_same (KS.out _)) | (go_at_call 70; exact Calls.quiet_of_same (KT.out _)))
           go_wp2
           go_quiet (fail)
           go_wp2;go_roundw
           case rel=>exact ⟨j+1,by omega,by go_num,by first | exact hBW.out _ | (rw [World.drewN_drewN]; exact hBW.out _),hall⟩
           case measure=>simp [intOf]; omega
          ·have r6:(ct==([]:List UInt8))=false:=by simpa using hem
           have r6n:(ct != ([]:List UInt8))=true:=by simpa using hem
           have r6e:ct.isEmpty=false:=by cases ct with | nil=>exact absurd rfl hem | cons a b=>rfl
           have hR:=hid (HBad.out fun e=>hem (e.2.2 (by have:=HL.out; omega) (by rw [← hxd.out]; exact hgt)));clear HBad HOk1 HOk2 HX hxd
           go_quiet (first | (go_at_call 116; exact Calls.quiet_of_same (KN.out _)) | (go_at_call 117; exact Calls.quiet_of (KA.out _)) | (go_at_call 69; exact Calls.quiet_of_same (KS.out _)) | (go_at_call 70; exact Calls.quiet_of_same (KT.out _)))
           go_wp2
           go_quiet (fail)
           go_wp2;go_ret;exact ⟨ret_int hR.out.symm,by first | exact hBW.out _ | (rw [World.drewN_drewN]; exact hBW.out _)⟩
         ·have r5:decide (cd < xd)=false:=decide_eq_false hgt;have hall:=hid (HOk2.out fun h2 hlt=>absurd hlt (by rw [← hxd.out]; exact hgt));clear HBad HOk1 HOk2 HX hxd
          go_quiet (first | (go_at_call 116; exact Calls.quiet_of_same (KN.out _)) | (go_at_call 117; exact Calls.quiet_of (KA.out _)) | (go_at_call 69; exact Calls.quiet_of_same (KS.out _)) | (go_at_call 70; exact Calls.quiet_of_same (KT.out _)))
          go_wp2
          go_quiet (fail)
          go_wp2;go_roundw
          case rel=>exact ⟨j+1,by omega,by go_num,by first | exact hBW.out _ | (rw [World.drewN_drewN]; exact hBW.out _),hall⟩
          case measure=>simp [intOf]; omega
        ·have q9:¬ (j:Int)+1 < (n:Int):=by omega
         have q9d:decide ((j:Int)+1 < (n:Int))=false:=decide_eq_false q9;have hall:=hid (HOk2.out fun h2=>absurd h2 (by have:=HL.out; omega));clear HBad HOk1 HOk2 HX
         go_quiet (first | (go_at_call 116; exact Calls.quiet_of_same (KN.out _)) | (go_at_call 117; exact Calls.quiet_of (KA.out _)) | (go_at_call 69; exact Calls.quiet_of_same (KS.out _)) | (go_at_call 70; exact Calls.quiet_of_same (KT.out _)))
         go_wp2
         go_quiet (fail)
         go_wp2;go_roundw
         case rel=>exact ⟨j+1,by omega,by go_num,by first | exact hBW.out _ | (rw [World.drewN_drewN]; exact hBW.out _),hall⟩
         case measure=>simp [intOf]; omega
       ·have r9:(xtrim ct==ct)=false:=by simp [htr]
        have r9n:(xtrim ct != ct)=true:=by simp [htr]
        have hR:=hid (HBad.out fun e=>by have e2:=e.2.1; unfold nodeOk at e2; simp only at e2; rw [hnm,hat,hsg] at e2; simp at e2; exact htr e2.2);clear HBad HOk1 HX
        go_quiet (first | (go_at_call 116; exact Calls.quiet_of_same (KN.out _)) | (go_at_call 117; exact Calls.quiet_of (KA.out _)) | (go_at_call 69; exact Calls.quiet_of_same (KS.out _)) | (go_at_call 70; exact Calls.quiet_of_same (KT.out _)))
        go_wp2;go_ret;exact ⟨ret_int hR.out.symm,by first | exact hBW.out _ | (rw [World.drewN_drewN]; exact hBW.out _)⟩
  ·have hR:=hid (HO2.out fun i hi=>ha.out i hi (by have:=HL.out; omega));clear HC HS HB HO2 ha;go_wp2;go_ret;exact ⟨ret_int hR.out.symm,hb⟩
def findX (nm:List UInt8):List Par → Nat → Int
 | [],_=>-1
 | p :: ps,k=>if p.name=nm then (k:Int) else findX nm ps (k+1)
theorem findX_at {nm:List UInt8} {l:List Par} {k:Nat} (hk:k < l.length):findX nm (l.drop k) k=if l[k].name=nm then (k:Int) else findX nm (l.drop (k+1)) (k+1):=by
 rw [List.drop_eq_getElem_cons hk,findX]
theorem findX_end {nm:List UInt8} {l:List Par} {k:Nat} (hk:l.length≤k):findX nm (l.drop k) k=-1:=by
 rw [List.drop_eq_nil_of_le hk]; rfl
theorem find_own {l:List Par} {j:Nat} (hj:j < l.length):∀ k,k≤j → (findX l[j].name (l.drop k) k=(j:Int) ↔ ∀ m (hm:m < j),k≤m → (l[m]'(by omega)).name ≠ l[j].name):=by
 intro k hk
 induction hd:j - k generalizing k with
 | zero =>
  have:k=j:=by omega
  subst this;rw [findX_at hj,if_pos rfl];exact ⟨fun _ m hm hk=>by omega,fun _=>rfl⟩
 | succ n ih =>
  have hkl:k < l.length:=by omega
  rw [findX_at hkl];by_cases h:l[k].name=l[j].name
  ·rw [if_pos h]
   constructor
   ·intro e; omega
   ·intro e; exact absurd h (e k (by omega) (Nat.le_refl _))
  ·rw [if_neg h,ih (k+1) (by omega) (by omega)]
   constructor
   ·intro e m hm hkm;by_cases hq:m=k
    ·subst hq; exact h
    ·exact e m hm (by omega)
   ·intro e m hm hkm;exact e m hm (by omega)
set_option maxHeartbeats 2000000 in
set_option maxRecDepth 100000 in
theorem xfind_any (v:Value) (ps:List Par) (nm:List UInt8) (w:World) (hz:ps.length≤140737488355328) (hv:ParsAt w v ps) :
  Calls Tryz.prog 128 #[v,.string ⟨nm.toArray⟩] w fun e w'=>e=.returned (.int .i64 (findX nm ps 0))∧Below w.heap.size w w':=by
 obtain ⟨ao,cap,rfl,hc⟩:=hv.open;have HC:=hid hc;clear hc hv;obtain ⟨R,hR⟩:∃ R,R=findX nm ps 0:=⟨_,rfl⟩
 rw [← hR];have HR:Hid (R=findX nm (ps.drop 0) 0):=hR;obtain ⟨n,hn⟩:∃ n,n=ps.length:=⟨_,rfl⟩
 rw [← hn] at hz ⊢;have HL:=hid hn;clear hn hR
 go_enter Tryz.func128,Tryz.ntmps128
 go_wp2
 go_loopw [9] (fun i wr=>∃ k:Nat,k≤n∧i=.int .i64 k∧Hid (R=findX nm (ps.drop k) k)∧Below w.heap.size w wr) (fun i _=>n - (intOf i).toNat)
 case atStart=>exact ⟨0,Nat.zero_le _,rfl,HR,Below.refl _ _⟩
 case round =>
  obtain ⟨k,hk,rfl,hv,hb⟩:=hrel;clear HR;by_cases hlt:k < n
  ·have hkl:k < ps.length:=by have:=HL.out; omega
   obtain ⟨ad,hao,hab,c0,c1,c2⟩:=HC.out k hkl;subst hao;have hv2:=hv.out;rw [findX_at hkl] at hv2;have q6:(k:Int) < (n:Int):=by omega
   have a0:=cell_below hb (by rw [add_block]; exact hab) c0;have a1:=cell_below hb (by simp only [add_block]; exact hab) c1;have a2:=cell_below hb (by simp only [add_block]; exact hab) c2;have hbn:Below w.heap.size w (wr.alloc (.cells #[.string ⟨ps[k].name.toArray⟩,.string ⟨ps[k].value.toArray⟩,.bool ps[k].has] 59)):=hb.alloc hb.size _;clear c0 c1 c2;generalize ps[k]=P at a0 a1 a2 hv2 hbn;obtain ⟨pn,pv,ph⟩:=P;simp only at a0 a1 a2 hv2 hbn;by_cases he:pn=nm
   ·rw [if_pos he] at hv2;have hE:=hid hv2;have e1:(pn==nm)=true:=by rw [beq_iff_eq]; exact he
    clear hv hv2 he;go_wp2;go_ret;exact ⟨by rw [hE.out]; rfl,hbn⟩
   ·rw [if_neg he] at hv2;have hE:=hid hv2;have e1:(pn==nm)=false:=by rw [beq_eq_false_iff_ne]; exact he
    clear hv hv2 he;go_wp2;go_roundw
    case rel=>exact ⟨k+1,by omega,by go_num,hE,hbn⟩
    case measure=>simp [intOf]; omega
  ·have hE:Hid (R=-1):=show _=_ by rw [hv.out]; exact findX_end (by have:=HL.out; omega)
   clear hv;go_wp2;go_ret;exact ⟨by rw [hE.out]; rfl,hb⟩
end Go.Proofs.YtdnekampnkhmfaaGreatDoor
