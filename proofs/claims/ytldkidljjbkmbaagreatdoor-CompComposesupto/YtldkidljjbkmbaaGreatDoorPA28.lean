/-
  RX2, RX3, RX4, RX7, RX8, RX9, XElL, RefDig.
-/
import Derived.Test.YtldkidljjbkmbaaGreatDoorPA27
set_option linter.unusedVariables false
set_option linter.unusedSimpArgs false
set_option maxRecDepth 20000
namespace Go.Proofs.YtldkidljjbkmbaaGreatDoor
open Go.RowKit Sc
set_option maxHeartbeats 2000000 in
set_option maxRecDepth 100000 in
theorem rtrimX_any (s:ByteArray) (w:World) (hs:s.size≤140737488355328) :
  Calls Tryz.prog 62 #[.string s] w fun e w'=>e=.returned (.string ⟨(xtrim s.data.toList).toArray⟩)∧w'=w:=by
 unfold xtrim
 go_enter Tryz.func62,Tryz.ntmps62
 go_wp2
 go_loop [0] (fun v=>∃ t:ByteArray,v=.string t∧t.size≤s.size∧Hid (t.data.toList.dropWhile xblk=s.data.toList.dropWhile xblk)) (fun v=>lenV v)
 case atStart=>exact ⟨s,rfl,Nat.le_refl _,show _=_ from rfl⟩
 case round =>
  obtain ⟨t,rfl,ht,hd⟩:=hrel;by_cases h0:0 < t.size
  ·have hbd:=u8_bd t[0]
   cases hx:xblk t[0] with
   | true =>
    have KH:=hid (fun w'=>hasX_of hx w')
    have hd2:Hid ((t.extract 1 t.size).data.toList.dropWhile xblk=s.data.toList.dropWhile xblk):=show _=_ by
     rw [ext_list,← hd.out];have e:=drop_cons t 0 h0;rw [List.drop_zero] at e;rw [List.take_of_length_le (by rw [List.length_drop,len_data]; omega)]
     show (t.data.toList.drop 1).dropWhile xblk=_
     conv=>rhs; rw [e]
     rw [List.dropWhile_cons,if_pos hx]
    have hz:(t.extract 1 t.size).size < t.size∧(t.extract 1 t.size).size≤s.size:=by rw [ByteArray.size_extract]; omega
    clear hd hx;go_wp2_with (go_at_call 88; refine (KH.out _).mono ?_; rintro e w' ⟨rfl,rfl⟩)
    go_round
    case rel=>exact ⟨_,rfl,hz.2,hd2⟩
    case measure=>exact hz.1
   | false =>
    have KH:=hid (fun w'=>hasX_of hx w')
    have hd2:Hid (s.data.toList.dropWhile xblk=t.data.toList):=show _=_ by
     rw [← hd.out];have e:=drop_cons t 0 h0;rw [List.drop_zero] at e;rw [e,List.dropWhile_cons,if_neg (by simp [hx])]
    clear hd hx;go_wp2_with (go_at_call 88; refine (KH.out _).mono ?_; rintro e w' ⟨rfl,rfl⟩)
    go_loop [0] (fun v=>∃ u:ByteArray,v=.string u∧u.size≤s.size∧Hid (u.data.toList.reverse.dropWhile xblk=t.data.toList.reverse.dropWhile xblk)) (fun v=>lenV v)
    case atStart=>exact ⟨t,rfl,ht,show _=_ from rfl⟩
    case round =>
     clear KH hbd;obtain ⟨u,rfl,hu,hr⟩:=hrel;by_cases hu0:0 < u.size
     ·have hlt:u.size - 1 < u.size:=by omega
      have hbd:=u8_bd u[u.size - 1];have hw1:IntKind.i64.wrap ((u.size:Int) - 1)=((u.size - 1:Nat):Int):=by rw [IntKind.wrap_i64]; omega
      have hn1:((u.size:Int) - 1).toNat=u.size - 1:=by omega
      cases hx:xblk u[u.size - 1] with
      | true =>
       have KH:=hid (fun w'=>hasX_of hx w');have hr2:Hid ((u.extract 0 (u.size - 1)).data.toList.reverse.dropWhile xblk=t.data.toList.reverse.dropWhile xblk):=show _=_ by rw [← hr.out]; exact rev_step u hlt hx
       have hz:(u.extract 0 (u.size - 1)).size < u.size∧(u.extract 0 (u.size - 1)).size≤s.size:=by rw [ByteArray.size_extract]; omega
       clear hr hx;go_wp2_with (go_at_call 88; refine (KH.out _).mono ?_; rintro e w' ⟨rfl,rfl⟩)
       go_round
       case rel=>exact ⟨_,rfl,hz.2,hr2⟩
       case measure=>exact hz.1
      | false =>
       have KH:=hid (fun w'=>hasX_of hx w');have hE:Hid (u=⟨((s.data.toList.dropWhile xblk).reverse.dropWhile xblk).reverse.toArray⟩):=show _=_ by rw [hd2.out,← hr.out,rev_stop u hlt hx]; apply ByteArray.ext; simp
       clear hr hx;go_wp2_with (go_at_call 88; refine (KH.out _).mono ?_; rintro e w' ⟨rfl,rfl⟩)
       go_ret;exact ⟨by rw [← hE.out]; rfl,rfl⟩
     ·have hE:Hid (u=⟨((s.data.toList.dropWhile xblk).reverse.dropWhile xblk).reverse.toArray⟩):=show _=_ by
       rw [hd2.out,← hr.out]
       have:u.data.toList=[]:=List.eq_nil_of_length_eq_zero (by rw [len_data]; omega)
       rw [this]
       apply ByteArray.ext
       have:=congrArg List.toArray this
       simpa using this
      clear hr;go_wp2;go_ret;exact ⟨by rw [← hE.out]; rfl,rfl⟩
  ·have hd2:Hid (s.data.toList.dropWhile xblk=t.data.toList):=show _=_ by
    rw [← hd.out]
    have:t.data.toList=[]:=List.eq_nil_of_length_eq_zero (by rw [len_data]; omega)
    rw [this]; rfl
   clear hd;go_wp2
   go_loop [0] (fun v=>∃ u:ByteArray,v=.string u∧u.size≤s.size∧Hid (u.data.toList.reverse.dropWhile xblk=t.data.toList.reverse.dropWhile xblk)) (fun v=>lenV v)
   case atStart=>exact ⟨t,rfl,ht,show _=_ from rfl⟩
   case round =>
    clear h0;obtain ⟨u,rfl,hu,hr⟩:=hrel;by_cases hu0:0 < u.size
    ·have hlt:u.size - 1 < u.size:=by omega
     have hbd:=u8_bd u[u.size - 1];have hw1:IntKind.i64.wrap ((u.size:Int) - 1)=((u.size - 1:Nat):Int):=by rw [IntKind.wrap_i64]; omega
     have hn1:((u.size:Int) - 1).toNat=u.size - 1:=by omega
     cases hx:xblk u[u.size - 1] with
     | true =>
      have KH:=hid (fun w'=>hasX_of hx w');have hr2:Hid ((u.extract 0 (u.size - 1)).data.toList.reverse.dropWhile xblk=t.data.toList.reverse.dropWhile xblk):=show _=_ by rw [← hr.out]; exact rev_step u hlt hx
      have hz:(u.extract 0 (u.size - 1)).size < u.size∧(u.extract 0 (u.size - 1)).size≤s.size:=by rw [ByteArray.size_extract]; omega
      clear hr hx;go_wp2_with (go_at_call 88; refine (KH.out _).mono ?_; rintro e w' ⟨rfl,rfl⟩)
      go_round
      case rel=>exact ⟨_,rfl,hz.2,hr2⟩
      case measure=>exact hz.1
     | false =>
      have KH:=hid (fun w'=>hasX_of hx w');have hE:Hid (u=⟨((s.data.toList.dropWhile xblk).reverse.dropWhile xblk).reverse.toArray⟩):=show _=_ by rw [hd2.out,← hr.out,rev_stop u hlt hx]; apply ByteArray.ext; simp
      clear hr hx;go_wp2_with (go_at_call 88; refine (KH.out _).mono ?_; rintro e w' ⟨rfl,rfl⟩)
      go_ret;exact ⟨by rw [← hE.out]; rfl,rfl⟩
    ·have hE:Hid (u=⟨((s.data.toList.dropWhile xblk).reverse.dropWhile xblk).reverse.toArray⟩):=show _=_ by
      rw [hd2.out,← hr.out]
      have:u.data.toList=[]:=List.eq_nil_of_length_eq_zero (by rw [len_data]; omega)
      rw [this]
      apply ByteArray.ext
      have:=congrArg List.toArray this
      simpa using this
     clear hr;go_wp2;go_ret;exact ⟨by rw [← hE.out]; rfl,rfl⟩
theorem esc_snoc (s:ByteArray) (k:Nat) (h:k < s.size) {t:List UInt8} (ht:escS s[k]=t):escX (s.data.toList.take k)++t=escX (s.data.toList.take (k+1)):=by
 rw [take_snoc s k h,escX_app,← ht]
 congr 1
 simp [escX]
theorem glueB (a:List UInt8) (t:Array UInt8):(⟨a.toArray⟩:ByteArray)++⟨t⟩=⟨(a++t.toList).toArray⟩:=by
 rw [ByteArray.mk_append_mk]
theorem one_ext (s:ByteArray) (k:Nat) (h:k < s.size):s.extract k (k+1)=⟨#[s[k]]⟩:=by
 rw [ext_list,drop_cons s k h,Nat.add_sub_cancel_left]; rfl
set_option maxHeartbeats 2000000 in
set_option maxRecDepth 100000 in
theorem rescaped_any (s:ByteArray) (w:World) (hs:s.size≤1048576) :
  Calls Tryz.prog 97 #[.string s] w fun e w'=>e=.returned (.string ⟨(escX s.data.toList).toArray⟩)∧w'=w:=by
 have HS:Hid (∀ (k:Nat) (h:k < s.size) (t:Array UInt8),escS s[k]=t.toList → (⟨(escX (s.data.toList.take k)).toArray⟩:ByteArray)++⟨t⟩=⟨(escX (s.data.toList.take (k+1))).toArray⟩):=fun k h t ht=>by rw [glueB,esc_snoc s k h ht]
 have HT:Hid (∀ k,s.size≤k → escX (s.data.toList.take k)=escX s.data.toList):=fun k hk=>by rw [take_all s k hk]
 have HL:Hid (∀ k,(escX (s.data.toList.take k)).length≤6291456):=fun k=>by
  have:=escX_len (s.data.toList.take k)
  rw [List.length_take,len_data] at this; omega
 generalize escX s.data.toList=R at HT ⊢
 go_enter Tryz.func97,Tryz.ntmps97
 go_wp2
 go_loop [3,4] (fun o i=>∃ k:Nat,k≤s.size∧i=.int .i64 k∧o=.string ⟨(escX (s.data.toList.take k)).toArray⟩) (fun _ i=>s.size - (intOf i).toNat)
 case atStart=>exact ⟨0,Nat.zero_le _,rfl,rfl⟩
 case round =>
  obtain ⟨k,hk,rfl,rfl⟩:=hrel;by_cases hlt:k < s.size
  ·have hbd:=u8_bd s[k];have hw1:IntKind.i64.wrap ((k:Int)+1)=((k+1:Nat):Int):=by rw [IntKind.wrap_i64]; omega
   have hll:=HL.out k;have hz:=size_list (escX (s.data.toList.take k));by_cases h38:s[k]=38
   ·have q1:((s[k].toNat:Int)==38)=true:=u8_eq (b:=38) h38;have HA:=hid (HS.out k hlt #[38,97,109,112,59] (by rw [h38]; rfl));clear h38 HT HS HL;go_wp2
    go_round
    case rel=>exact ⟨k+1,by omega,by go_num,by rw [← HA.out]⟩
    case measure=>simp [intOf]; omega
   have q1:((s[k].toNat:Int)==38)=false:=u8_ne (b:=38) h38;by_cases h60:s[k]=60
   ·have q2:((s[k].toNat:Int)==60)=true:=u8_eq (b:=60) h60;have HA:=hid (HS.out k hlt #[38,108,116,59] (by rw [h60]; rfl));clear h38 h60 HT HS HL;go_wp2
    go_round
    case rel=>exact ⟨k+1,by omega,by go_num,by rw [← HA.out]⟩
    case measure=>simp [intOf]; omega
   have q2:((s[k].toNat:Int)==60)=false:=u8_ne (b:=60) h60;by_cases h62:s[k]=62
   ·have q3:((s[k].toNat:Int)==62)=true:=u8_eq (b:=62) h62;have HA:=hid (HS.out k hlt #[38,103,116,59] (by rw [h62]; rfl));clear h38 h60 h62 HT HS HL;go_wp2
    go_round
    case rel=>exact ⟨k+1,by omega,by go_num,by rw [← HA.out]⟩
    case measure=>simp [intOf]; omega
   have q3:((s[k].toNat:Int)==62)=false:=u8_ne (b:=62) h62;by_cases h34:s[k]=34
   ·have q4:((s[k].toNat:Int)==34)=true:=u8_eq (b:=34) h34;have HA:=hid (HS.out k hlt #[38,113,117,111,116,59] (by rw [h34]; rfl));clear h38 h60 h62 h34 HT HS HL;go_wp2
    go_round
    case rel=>exact ⟨k+1,by omega,by go_num,by rw [← HA.out]⟩
    case measure=>simp [intOf]; omega
   have q4:((s[k].toNat:Int)==34)=false:=u8_ne (b:=34) h34;have HA:=hid (HS.out k hlt #[s[k]] (by unfold escS; rw [if_neg h38,if_neg h60,if_neg h62,if_neg h34]));have he:=one_ext s k hlt;have hb1:((k+1:Nat):Int)≤(s.size:Int):=by omega
   clear h38 h60 h62 h34 HT HS HL;go_wp2
   go_round
   case rel=>exact ⟨k+1,by omega,by go_num,by rw [← HA.out,← he]⟩
   case measure=>simp [intOf]; omega
  ·have hR:=hid (HT.out k (by omega));clear HT HS HL;go_wp2;go_ret;exact ⟨by rw [← hR.out]; rfl,rfl⟩
theorem belowD (B:Nat) (w:World) (n:Nat):Below B w (w.drewN n):=⟨rfl,rfl,rfl,Nat.le_refl _,fun _ _=>rfl⟩
theorem name_list (l:List UInt8) (w:World) (h:l.length≤140737488355328) :
  Calls Tryz.prog 95 #[.string ⟨l.toArray⟩] w fun e w'=>e=.returned (.bool (nameX l))∧w'=w:=rname_any ⟨l.toArray⟩ w (by rw [size_list]; exact h)
theorem signs_list (l:List UInt8) (w:World) (h:l.length≤140737488355328) :
  Calls Tryz.prog 61 #[.string ⟨l.toArray⟩] w fun e w'=>e=.returned (.bool (signsX l))∧w'=w:=rsigns_any ⟨l.toArray⟩ w (by rw [size_list]; exact h)
set_option maxHeartbeats 4000000 in
set_option maxRecDepth 100000 in
theorem rattrs_any (v:Value) (ps:List Par) (w:World) (hsm:SmallP 140737488355328 ps) (hv:ParsAt w v ps) :
  Calls Tryz.prog 96 #[v] w fun e w'=>e=.returned (.bool (attrsOk ps))∧∃ q,w'=w.drewN q:=by
 obtain ⟨ao,cap,rfl,hc⟩:=hv.open;have HC:=hid hc;have HS:=hid hsm.2;have hz:=hsm.1;clear hc hv hsm;by_cases h16:16 < ps.length
 ·have hR:Hid (attrsOk ps=false):=show _=_ by unfold attrsOk; rw [decide_eq_false (by omega)]; rfl
  generalize attrsOk ps=R at hR ⊢;obtain ⟨n,hn⟩:∃ n,n=ps.length:=⟨_,rfl⟩
  rw [← hn] at h16 hz ⊢;clear HC HS hn
  go_enter Tryz.func96,Tryz.ntmps96
  go_wp2;go_ret;exact ⟨ret_bool hR.out.symm,0,rfl⟩
 have hl:ps.length≤16:=by omega
 have HB:=hid (fun j (hj:j < ps.length)=>attrs_bad hl hj);have HT:=hid (fun j m (hj:j < ps.length) (hm:m < j)=>attrs_twice hl hj hm);have HE:Hid (((ps.take ps.length).all attrOk && distinctX (ps.take ps.length))=true → attrsOk ps=true):=fun h=>by rw [attrsOk_is ps hl]; rw [List.take_length] at h; exact h
 have HN:=hid (fun j (hj:j < ps.length)=>@attrs_snoc ps j hj);generalize attrsOk ps=R at HB HT HE ⊢;obtain ⟨n,hn⟩:∃ n,n=ps.length:=⟨_,rfl⟩
 rw [← hn] at hl hz HE h16 ⊢;have HL:=hid hn;clear hn
 go_enter Tryz.func96,Tryz.ntmps96
 go_wp2
 go_loopw [3] (fun i wr=>∃ (j q:Nat),j≤n∧i=.int .i64 j∧wr=w.drewN q∧Hid (((ps.take j).all attrOk && distinctX (ps.take j))=true)) (fun i _=>n - (intOf i).toNat)
 case atStart=>exact ⟨0,0,Nat.zero_le _,rfl,rfl,show _=_ from rfl⟩
 case round =>
  obtain ⟨j,q,hjn,rfl,rfl,ha⟩:=hrel;by_cases hlt:j < n
  ·have hjl:j < ps.length:=by have:=HL.out; omega
   obtain ⟨ad,hao,hab,c0,c1,c2⟩:=HC.out j hjl;subst hao;obtain ⟨s1,s2⟩:=HS.out ps[j] (List.getElem_mem hjl);have KN:=hid (fun w'=>name_list ps[j].name w' s1);have KS:=hid (fun w'=>signs_list ps[j].value w' s2);have HB1:=hid (HB.out j hjl);have HT1:=hid (fun m hm=>HT.out j m hjl hm);have HN1:=hid (HN.out j hjl ha.out);have hok:attrOk ps[j]=(nameX ps[j].name && (ps[j].has && signsX ps[j].value)):=rfl;have q6:(j:Int) < (n:Int):=by omega
   clear HB HT HN HE s1 s2 ha;generalize hP:ps[j]=P at c0 c1 c2 KN KS HB1 HT1 HN1 hok;obtain ⟨pn,pv,ph⟩:=P;simp only at c0 c1 c2 KN KS HT1 HN1 hok
   cases hnm:nameX pn with
   | false =>
    rw [hnm] at KN;have hR:=hid (HB1.out (by rw [hok,hnm]; rfl));clear hok HB1 HT1 HN1 hP hnm HC HS;go_wp2_with (go_at_call 95; refine (KN.out _).mono ?_; rintro e w' ⟨rfl,rfl⟩)
    go_ret;exact ⟨ret_bool hR.out.symm,q,rfl⟩
   | true =>
    rw [hnm] at KN
    cases ph with
    | false =>
     have hR:=hid (HB1.out (by rw [hok]; simp));clear hok HB1 HT1 HN1 hP hnm HC HS;go_wp2_with (go_at_call 95; refine (KN.out _).mono ?_; rintro e w' ⟨rfl,rfl⟩)
     go_ret;exact ⟨ret_bool hR.out.symm,q,rfl⟩
    | true =>
     cases hsg:signsX pv with
     | false =>
      rw [hsg] at KS;have hR:=hid (HB1.out (by rw [hok,hsg]; simp));clear hok HB1 HT1 HN1 hP hnm hsg HC HS;go_wp2_with first | (go_at_call 95; refine (KN.out _).mono ?_; rintro e w' ⟨rfl,rfl⟩) | (go_at_call 61; refine (KS.out _).mono ?_; rintro e w' ⟨rfl,rfl⟩)
      go_ret;exact ⟨ret_bool hR.out.symm,q,rfl⟩
     | true =>
      rw [hsg] at KS;have HN2:=hid (HN1.out (by rw [hok,hnm,hsg]; rfl));clear hok HB1 HN1 hnm hsg;go_wp2_with first | (go_at_call 95; refine (KN.out _).mono ?_; rintro e w' ⟨rfl,rfl⟩) | (go_at_call 61; refine (KS.out _).mono ?_; rintro e w' ⟨rfl,rfl⟩)
      clear KN KS
      go_loopw [4] (fun i wr=>∃ (m q:Nat),m≤j∧i=.int .i64 m∧wr=w.drewN q∧Hid ((ps.take m).all (fun q=>!(q.name==pn))=true)) (fun i _=>j - (intOf i).toNat)
      case atStart=>exact ⟨0,q,Nat.zero_le _,rfl,rfl,show _=_ from rfl⟩
      case round =>
       obtain ⟨m,q2,hmj,rfl,rfl,hall⟩:=hrel;by_cases hml:m < j
       ·have hmn:m < ps.length:=by omega
        obtain ⟨ad2,hao2,hab2,d0,d1,d2⟩:=HC.out m hmn;have ead:ad2=ad:=(Option.some.inj hao2).symm;subst ead;have HT2:=hid (HT1.out m hml);have hsn:Hid ((ps[m].name==pn)=false → (ps.take (m+1)).all (fun q=>!(q.name==pn))=true):=fun h=>by rw [List.take_succ_eq_append_getElem hmn,List.all_append,hall.out]; simp [h]
        have q7:(m:Int) < (j:Int):=by omega
        have q8:(m:Int) < (n:Int):=by omega
        clear HT1 HN2 hall HC HS hao2;generalize ps[m]=M at d0 d1 d2 HT2 hsn;obtain ⟨mn,mv,mh⟩:=M;simp only at d0 d1 d2 HT2 hsn
        cases hcmp:(mn==pn) with
        | true =>
         have hR:=hid (HT2.out hcmp);clear HT2 hsn hP;go_wp2
         go_quiet (fail)
         go_wp2;go_ret;exact ⟨ret_bool hR.out.symm,q2+nq,by first | rfl | simp⟩
        | false =>
         have hall2:=hid (hsn.out hcmp);clear HT2 hsn hP;go_wp2
         go_quiet (fail)
         go_wp2;go_roundw
         case rel=>exact ⟨m+1,q2+nq,by omega,by go_num,rfl,hall2⟩
         case measure=>simp [intOf]; omega
       ·have hmj2:m=j:=by omega
        subst hmj2;have ha2:=hid (HN2.out (by have:=hall.out; simpa [hP] using this));clear HT1 HN2 hall HC HS hP;go_wp2;go_roundw
        case rel=>exact ⟨m+1,q2,by omega,by go_num,rfl,ha2⟩
        case measure=>simp [intOf]; omega
  ·have hR:=hid (HE.out (by have h:=ha.out; rw [show j=n by omega] at h; exact h));clear HB HT HN HE ha HC HS;go_wp2;go_ret;exact ⟨ret_bool hR.out.symm,q,rfl⟩
theorem cellD {w W:World} {q:Nat} {a:Addr} {v:Value} (hW:W=w.drewN q) (h:w.cell? a=some v):W.cell? a=some v:=by subst hW; exact h
theorem trimX_list (l:List UInt8) (w:World) (h:l.length≤140737488355328) :
  Calls Tryz.prog 62 #[.string ⟨l.toArray⟩] w fun e w'=>e=.returned (.string ⟨(xtrim l).toArray⟩)∧w'=w:=rtrimX_any ⟨l.toArray⟩ w (by rw [size_list]; exact h)
theorem box4 (wr:World) (v0 v1 v2 v3:Value) (t:TypeId):RowC4 (wr.alloc (.cells #[v0,v1,v2,v3] t)) wr.heap.size v0 v1 v2 v3:=(rc_row4 wr v0 v1 v2 v3 t).rc4
set_option maxHeartbeats 16000000 in
set_option maxRecDepth 100000 in
theorem rcheck13_any (v:Value) (cs:List NdC) (w:World) (hz:cs.length≤140737488355328) (hsm:∀ c ∈ cs,SmallN 140737488355328 c.nd) (hv:NdsAt w v cs) :
  Calls Tryz.prog 63 #[v] w fun e w'=>e=.returned (.int .i64 (checkX (ndsL cs)))∧Below w.heap.size w w':=by
 obtain ⟨ao,cap,rfl,hc⟩:=hv;have HC:=hid hc;have HS:=hid hsm;clear hc hsm;by_cases h0:cs.length < 1∨200 < cs.length
 ·have hR:=hid (chk_size h0);generalize checkX (ndsL cs)=R at hR ⊢;obtain ⟨n,hn⟩:∃ n,n=cs.length:=⟨_,rfl⟩
  rw [← hn] at h0 hz ⊢;clear HC HS hn;by_cases h1:n < 1
  ·have r1:(n:Int) < 1:=by omega
   have r1d:decide ((n:Int) < 1)=true:=decide_eq_true r1
   go_enter Tryz.func63,Tryz.ntmps63
   go_wp2;go_ret;exact ⟨ret_int hR.out.symm,Below.refl _ _⟩
  ·have r1:¬ (n:Int) < 1:=by omega
   have r1d:decide ((n:Int) < 1)=false:=decide_eq_false r1;have r2:(200:Int) < (n:Int):=by omega
   go_enter Tryz.func63,Tryz.ntmps63
   go_wp2;go_ret;exact ⟨ret_int hR.out.symm,Below.refl _ _⟩
 have hp:0 < cs.length:=by omega
 have h200:cs.length≤200:=by omega
 obtain ⟨ad,hao,hab,⟨z0,z1,z2,z3⟩,pz⟩:=HC.out 0 hp;subst hao;have HB:=hid (fun i (h:i < cs.length)=>@chk_bad cs i h);have HH:=hid (@chk_head cs hp);have HO:=hid (@chk_ok cs hp h200);generalize checkX (ndsL cs)=R at HB HH HO ⊢;obtain ⟨n,hn⟩:∃ n,n=cs.length:=⟨_,rfl⟩
 rw [← hn] at h200 hz ⊢;have HL:=hid hn;have r1:¬ (n:Int) < 1:=by omega
 have r1d:decide ((n:Int) < 1)=false:=decide_eq_false r1;have r2:¬ (200:Int) < (n:Int):=by omega
 have r2d:decide ((200:Int) < (n:Int))=false:=decide_eq_false r2;have r3:(0:Int) < (n:Int):=by omega
 clear hn h0 z1 z2 z3 pz;by_cases hdn:cs[0].nd.deep ≠ 0
 ·have hR:=hid (HH.out hdn);have r4:(cs[0].nd.deep==0)=false:=by simpa using hdn
  have r4n:(cs[0].nd.deep != 0)=true:=by simpa using hdn
  generalize cs[0].nd.deep=d0 at z0 r4 r4n;have z0':w.cell? ad=some (.int .i64 d0):=by simpa [Addr.add] using z0
  clear HC HS HB HH HO hdn
  go_enter Tryz.func63,Tryz.ntmps63
  go_wp2;go_ret;exact ⟨ret_int hR.out.symm,Below.refl _ _⟩
 have hd0:cs[0].nd.deep=0:=Classical.not_not.1 hdn;rw [hd0] at z0;have HO2:=hid (HO.out hd0);have z0':w.cell? ad=some (.int .i64 0):=by simpa [Addr.add] using z0
 clear HO HH
 go_enter Tryz.func63,Tryz.ntmps63
 go_wp2;clear z0 z0'
 go_loopw [3] (fun i wr=>∃ (j:Nat),j≤n∧i=.int .i64 j∧Below w.heap.size w wr∧Hid (∀ k (h:k < cs.length),k < j → okC cs k h)) (fun i _=>n - (intOf i).toNat)
 case atStart=>exact ⟨0,Nat.zero_le _,rfl,Below.refl _ _,fun k _ h=>absurd h (by omega)⟩
 case round =>
  obtain ⟨j,hjn,rfl,hb,ha⟩:=hrel;by_cases hlt:j < n
  ·have hj1:j < cs.length:=by have:=HL.out; omega
   obtain ⟨ad2,hao,hab2,c0,pa⟩:=HC.out j hj1;have ead:ad2=ad:=(Option.some.inj hao).symm;subst ead;obtain ⟨s1,s2,s3,s4⟩:=HS.out cs[j] (List.getElem_mem hj1);have c0:=c0.below hb hab2;have HBad:=hid (HB.out j hj1);have hok:okC cs j hj1=((0 < j → 1≤cs[j].nd.deep∧cs[j].nd.deep≤(cs[j - 1]'(by omega)).nd.deep+1)∧nodeOk cs[j].nd=true∧(∀ h2:j+1 < cs.length,cs[j].nd.deep < cs[j+1].nd.deep → cs[j].nd.text=[])):=rfl
   have HOk1:Hid ((0 < j → 1≤cs[j].nd.deep∧cs[j].nd.deep≤(cs[j - 1]'(by omega)).nd.deep+1) → nodeOk cs[j].nd=true → (∀ h2:j+1 < cs.length,cs[j].nd.deep < cs[j+1].nd.deep → cs[j].nd.text=[]) → ∀ k (h:k < cs.length),k < j+1 → okC cs k h):=fun a1 a2 a3 k h hk=>by
    by_cases hkj:k < j
    ·exact ha.out k h hkj
    ·have:k=j:=by omega
     subst this; exact ⟨a1,a2,a3⟩
   rw [hok] at HBad;obtain ⟨W0,hW0⟩:∃ W0,W0=wr.alloc (.cells #[.int .i64 cs[j].nd.deep,.string ⟨cs[j].nd.name.toArray⟩,cs[j].a,.string ⟨cs[j].nd.text.toArray⟩] 82):=⟨_,rfl⟩
   have hWb:Below w.heap.size w W0:=by rw [hW0]; exact hb.alloc hb.size _
   have hWr:Below wr.heap.size wr W0:=by rw [hW0]; exact (Below.refl _ wr).alloc (Nat.le_refl _) _
   have BX:RowC4 W0 wr.heap.size (.int .i64 cs[j].nd.deep) (.string ⟨cs[j].nd.name.toArray⟩) cs[j].a (.string ⟨cs[j].nd.text.toArray⟩):=by rw [hW0]; exact box4 _ _ _ _ _ _
   have hBW:Hid (∀ m,Below w.heap.size w (W0.drewN m)):=fun m=>hWb.trans (belowD _ _ _)
   have HX:Hid (∀ h:j+1 < n,∃ xd,W0.cell? (ad2.add ((j+1) * 4))=some (.int .i64 xd)∧xd=(cs[j+1]'(by have:=HL.out; omega)).nd.deep):=fun h=>by
    obtain ⟨ad3,hao3,hab3,c3,_⟩:=HC.out (j+1) (by have:=HL.out; omega)
    have:ad3=ad2:=(Option.some.inj hao3).symm
    subst this;exact ⟨_,(c3.below hWb hab2).c0,rfl⟩
   have HP:Hid ((h:0 < j) → ∃ pd,W0.cell? (ad2.add ((j - 1) * 4))=some (.int .i64 pd)∧pd=(cs[j - 1]'(by omega)).nd.deep∧0≤pd∧pd < 8):=fun h=>by
    obtain ⟨ad3,hao3,hab3,c3,_⟩:=HC.out (j - 1) (by omega)
    have:ad3=ad2:=(Option.some.inj hao3).symm
    subst this;have hk:=ha.out (j - 1) (by omega) (by omega);refine ⟨_,(c3.below hWb hab2).c0,rfl,?_,?_⟩
    ·by_cases h1:0 < j - 1
     ·have:=(hk.1 h1).1; omega
     ·have e:j - 1=0:=by omega
      have:(cs[j - 1]'(by omega)).nd.deep=0:=by simp only [e]; exact hd0
      omega
    ·exact (node_facts hk.2.1).1
   have KN:=hid (fun w'=>name_list cs[j].nd.name w' s1);have KS:=hid (fun w'=>signs_list cs[j].nd.text w' s2);have KT:=hid (fun w'=>trimX_list cs[j].nd.text w' s2);have KA:=hid (fun m=>rattrs_any cs[j].a cs[j].nd.attrs (W0.drewN m) s3 (pa.below (hBW.out m)));have s5:=i64_of s4;have hform:=pa.form;clear HC HS HB HO2 ha s1 s2 s3 s4 hok pa hWb hWr;generalize cs[j]=c at c0 HBad HOk1 hW0 BX KN KS KT KA s5 hform;obtain ⟨⟨cd,cn,ca,ct⟩,cv⟩:=c;simp only at c0 HBad HOk1 hW0 BX KN KS KT KA s5 hform;obtain ⟨pao,pcap,rfl⟩:=hform;obtain ⟨c0,c1,c2,c3⟩:=c0;simp only at c0 c1 c2 c3;have q6:(j:Int) < (n:Int):=by omega
   go_wp2;clear c0 c1 c2 c3;rw [← hW0];obtain ⟨b0,b1,b2,b3,_,_,_,_⟩:=BX;clear hW0;have hj2:((j:Int)+1).toNat=j+1:=by omega
   by_cases hj0:0 < j
   ·obtain ⟨pd,p0,hpd',hp1,hp2⟩:=HP.out hj0;have hpd:=hid hpd';clear hpd';have t0:(0:Int) < (j:Int):=by omega
    have t0d:decide ((0:Int) < (j:Int))=true:=decide_eq_true t0;have t5:((j - 1:Nat):Int) < (n:Int):=by omega
    have hwj:IntKind.i64.wrap ((j:Int) - 1)=((j - 1:Nat):Int):=by rw [IntKind.wrap_i64]; omega
    have hwp:IntKind.i64.wrap (pd+1)=pd+1:=by rw [IntKind.wrap_i64]; omega
    by_cases ht1:cd < 1
    ·have t1:decide (cd < 1)=true:=decide_eq_true ht1;have hR:=hid (HBad.out fun e=>absurd (e.1 hj0).1 (by omega));clear HBad HOk1 HX
     go_quiet (first | (go_at_call 95; exact Calls.quiet_of_same (KN.out _)) | (go_at_call 96; exact Calls.quiet_of (KA.out _)) | (go_at_call 61; exact Calls.quiet_of_same (KS.out _)) | (go_at_call 62; exact Calls.quiet_of_same (KT.out _)))
     go_wp2;go_ret;exact ⟨ret_int hR.out.symm,by first | exact hBW.out _ | (rw [World.drewN_drewN]; exact hBW.out _)⟩
    have t1:decide (cd < 1)=false:=decide_eq_false ht1;by_cases ht2:pd+1 < cd
    ·have t2:decide (pd+1 < cd)=true:=decide_eq_true ht2;have hR:=hid (HBad.out fun e=>absurd (e.1 hj0).2 (by rw [← hpd.out]; omega));clear HBad HOk1 HX
     go_quiet (first | (go_at_call 95; exact Calls.quiet_of_same (KN.out _)) | (go_at_call 96; exact Calls.quiet_of (KA.out _)) | (go_at_call 61; exact Calls.quiet_of_same (KS.out _)) | (go_at_call 62; exact Calls.quiet_of_same (KT.out _)))
     go_wp2;go_ret;exact ⟨ret_int hR.out.symm,by first | exact hBW.out _ | (rw [World.drewN_drewN]; exact hBW.out _)⟩
    have t2:decide (pd+1 < cd)=false:=decide_eq_false ht2;by_cases h8:8≤cd
    ·have r8:(8:Int)≤cd:=h8;have r8d:decide ((8:Int)≤cd)=true:=decide_eq_true h8;have hR:=hid (HBad.out fun e=>by have e2:=e.2.1; unfold nodeOk at e2; simp only at e2; simp at e2; omega);clear HBad HOk1 HX
     go_quiet (first | (go_at_call 95; exact Calls.quiet_of_same (KN.out _)) | (go_at_call 96; exact Calls.quiet_of (KA.out _)) | (go_at_call 61; exact Calls.quiet_of_same (KS.out _)) | (go_at_call 62; exact Calls.quiet_of_same (KT.out _)))
     go_wp2;go_ret;exact ⟨ret_int hR.out.symm,by first | exact hBW.out _ | (rw [World.drewN_drewN]; exact hBW.out _)⟩
    have r8:¬ (8:Int)≤cd:=h8;have r8d:decide ((8:Int)≤cd)=false:=decide_eq_false h8
    cases hnm:nameX cn with
    | false =>
     rw [hnm] at KN;have hR:=hid (HBad.out fun e=>by have e2:=e.2.1; unfold nodeOk at e2; simp only at e2; rw [hnm] at e2; simp at e2);clear HBad HOk1 HX
     go_quiet (first | (go_at_call 95; exact Calls.quiet_of_same (KN.out _)) | (go_at_call 96; exact Calls.quiet_of (KA.out _)) | (go_at_call 61; exact Calls.quiet_of_same (KS.out _)) | (go_at_call 62; exact Calls.quiet_of_same (KT.out _)))
     go_wp2;go_ret;exact ⟨ret_int hR.out.symm,by first | exact hBW.out _ | (rw [World.drewN_drewN]; exact hBW.out _)⟩
    | true =>
     rw [hnm] at KN
     cases hat:attrsOk ca with
     | false =>
      rw [hat] at KA;have hR:=hid (HBad.out fun e=>by have e2:=e.2.1; unfold nodeOk at e2; simp only at e2; rw [hat] at e2; simp at e2);clear HBad HOk1 HX
      go_quiet (first | (go_at_call 95; exact Calls.quiet_of_same (KN.out _)) | (go_at_call 96; exact Calls.quiet_of (KA.out _)) | (go_at_call 61; exact Calls.quiet_of_same (KS.out _)) | (go_at_call 62; exact Calls.quiet_of_same (KT.out _)))
      go_wp2;go_ret;exact ⟨ret_int hR.out.symm,by first | exact hBW.out _ | (rw [World.drewN_drewN]; exact hBW.out _)⟩
     | true =>
      rw [hat] at KA
      cases hsg:signsX ct with
      | false =>
       rw [hsg] at KS;have hR:=hid (HBad.out fun e=>by have e2:=e.2.1; unfold nodeOk at e2; simp only at e2; rw [hsg] at e2; simp at e2);clear HBad HOk1 HX
       go_quiet (first | (go_at_call 95; exact Calls.quiet_of_same (KN.out _)) | (go_at_call 96; exact Calls.quiet_of (KA.out _)) | (go_at_call 61; exact Calls.quiet_of_same (KS.out _)) | (go_at_call 62; exact Calls.quiet_of_same (KT.out _)))
       go_wp2;go_ret;exact ⟨ret_int hR.out.symm,by first | exact hBW.out _ | (rw [World.drewN_drewN]; exact hBW.out _)⟩
      | true =>
       rw [hsg] at KS;by_cases htr:xtrim ct=ct
       ·have r9:(xtrim ct==ct)=true:=by simp [htr]
        have r9n:(xtrim ct != ct)=false:=by simp [htr]
        have HOk2:=hid (HOk1.out (fun _=>⟨by omega,by rw [← hpd.out]; omega⟩) (by unfold nodeOk; simp only; rw [hnm,hat,hsg,decide_eq_true (by omega:cd < 8)]; simpa using htr));by_cases hn1:j+1 < n
        ·obtain ⟨xd,x0,hxd'⟩:=HX.out hn1;have hxd:=hid hxd';clear hxd';have q9:(j:Int)+1 < (n:Int):=by omega
         have q9d:decide ((j:Int)+1 < (n:Int))=true:=decide_eq_true q9;by_cases hgt:cd < xd
         ·have r5:decide (cd < xd)=true:=decide_eq_true hgt;by_cases hem:ct=[]
          ·subst hem;have hall:=hid (HOk2.out fun _ _=>rfl);clear HBad HOk1 HOk2 HX
           go_quiet (first | (go_at_call 95; exact Calls.quiet_of_same (KN.out _)) | (go_at_call 96; exact Calls.quiet_of (KA.out _)) | (go_at_call 61; exact Calls.quiet_of_same (KS.out _)) | (go_at_call 62; exact Calls.quiet_of_same (KT.out _)))
           go_wp2
           go_quiet (fail)
           go_wp2;go_roundw
           case rel=>exact ⟨j+1,by omega,by go_num,by first | exact hBW.out _ | (rw [World.drewN_drewN]; exact hBW.out _),hall⟩
           case measure=>simp [intOf]; omega
          ·have r6:(ct==([]:List UInt8))=false:=by simpa using hem
           have r6n:(ct != ([]:List UInt8))=true:=by simpa using hem
           have r6e:ct.isEmpty=false:=by cases ct with | nil=>exact absurd rfl hem | cons a b=>rfl
           have hR:=hid (HBad.out fun e=>hem (e.2.2 (by have:=HL.out; omega) (by rw [← hxd.out]; exact hgt)));clear HBad HOk1 HOk2 HX hxd
           go_quiet (first | (go_at_call 95; exact Calls.quiet_of_same (KN.out _)) | (go_at_call 96; exact Calls.quiet_of (KA.out _)) | (go_at_call 61; exact Calls.quiet_of_same (KS.out _)) | (go_at_call 62; exact Calls.quiet_of_same (KT.out _)))
           go_wp2
           go_quiet (fail)
           go_wp2;go_ret;exact ⟨ret_int hR.out.symm,by first | exact hBW.out _ | (rw [World.drewN_drewN]; exact hBW.out _)⟩
         ·have r5:decide (cd < xd)=false:=decide_eq_false hgt;have hall:=hid (HOk2.out fun h2 hlt=>absurd hlt (by rw [← hxd.out]; exact hgt));clear HBad HOk1 HOk2 HX hxd
          go_quiet (first | (go_at_call 95; exact Calls.quiet_of_same (KN.out _)) | (go_at_call 96; exact Calls.quiet_of (KA.out _)) | (go_at_call 61; exact Calls.quiet_of_same (KS.out _)) | (go_at_call 62; exact Calls.quiet_of_same (KT.out _)))
          go_wp2
          go_quiet (fail)
          go_wp2;go_roundw
          case rel=>exact ⟨j+1,by omega,by go_num,by first | exact hBW.out _ | (rw [World.drewN_drewN]; exact hBW.out _),hall⟩
          case measure=>simp [intOf]; omega
        ·have q9:¬ (j:Int)+1 < (n:Int):=by omega
         have q9d:decide ((j:Int)+1 < (n:Int))=false:=decide_eq_false q9;have hall:=hid (HOk2.out fun h2=>absurd h2 (by have:=HL.out; omega));clear HBad HOk1 HOk2 HX
         go_quiet (first | (go_at_call 95; exact Calls.quiet_of_same (KN.out _)) | (go_at_call 96; exact Calls.quiet_of (KA.out _)) | (go_at_call 61; exact Calls.quiet_of_same (KS.out _)) | (go_at_call 62; exact Calls.quiet_of_same (KT.out _)))
         go_wp2
         go_quiet (fail)
         go_wp2;go_roundw
         case rel=>exact ⟨j+1,by omega,by go_num,by first | exact hBW.out _ | (rw [World.drewN_drewN]; exact hBW.out _),hall⟩
         case measure=>simp [intOf]; omega
       ·have r9:(xtrim ct==ct)=false:=by simp [htr]
        have r9n:(xtrim ct != ct)=true:=by simp [htr]
        have hR:=hid (HBad.out fun e=>by have e2:=e.2.1; unfold nodeOk at e2; simp only at e2; rw [hnm,hat,hsg] at e2; simp at e2; exact htr e2.2);clear HBad HOk1 HX
        go_quiet (first | (go_at_call 95; exact Calls.quiet_of_same (KN.out _)) | (go_at_call 96; exact Calls.quiet_of (KA.out _)) | (go_at_call 61; exact Calls.quiet_of_same (KS.out _)) | (go_at_call 62; exact Calls.quiet_of_same (KT.out _)))
        go_wp2;go_ret;exact ⟨ret_int hR.out.symm,by first | exact hBW.out _ | (rw [World.drewN_drewN]; exact hBW.out _)⟩
   ·have t0:¬ (0:Int) < (j:Int):=by omega
    have t0d:decide ((0:Int) < (j:Int))=false:=decide_eq_false t0;by_cases h8:8≤cd
    ·have r8:(8:Int)≤cd:=h8;have r8d:decide ((8:Int)≤cd)=true:=decide_eq_true h8;have hR:=hid (HBad.out fun e=>by have e2:=e.2.1; unfold nodeOk at e2; simp only at e2; simp at e2; omega);clear HBad HOk1 HX
     go_quiet (first | (go_at_call 95; exact Calls.quiet_of_same (KN.out _)) | (go_at_call 96; exact Calls.quiet_of (KA.out _)) | (go_at_call 61; exact Calls.quiet_of_same (KS.out _)) | (go_at_call 62; exact Calls.quiet_of_same (KT.out _)))
     go_wp2;go_ret;exact ⟨ret_int hR.out.symm,by first | exact hBW.out _ | (rw [World.drewN_drewN]; exact hBW.out _)⟩
    have r8:¬ (8:Int)≤cd:=h8;have r8d:decide ((8:Int)≤cd)=false:=decide_eq_false h8
    cases hnm:nameX cn with
    | false =>
     rw [hnm] at KN;have hR:=hid (HBad.out fun e=>by have e2:=e.2.1; unfold nodeOk at e2; simp only at e2; rw [hnm] at e2; simp at e2);clear HBad HOk1 HX
     go_quiet (first | (go_at_call 95; exact Calls.quiet_of_same (KN.out _)) | (go_at_call 96; exact Calls.quiet_of (KA.out _)) | (go_at_call 61; exact Calls.quiet_of_same (KS.out _)) | (go_at_call 62; exact Calls.quiet_of_same (KT.out _)))
     go_wp2;go_ret;exact ⟨ret_int hR.out.symm,by first | exact hBW.out _ | (rw [World.drewN_drewN]; exact hBW.out _)⟩
    | true =>
     rw [hnm] at KN
     cases hat:attrsOk ca with
     | false =>
      rw [hat] at KA;have hR:=hid (HBad.out fun e=>by have e2:=e.2.1; unfold nodeOk at e2; simp only at e2; rw [hat] at e2; simp at e2);clear HBad HOk1 HX
      go_quiet (first | (go_at_call 95; exact Calls.quiet_of_same (KN.out _)) | (go_at_call 96; exact Calls.quiet_of (KA.out _)) | (go_at_call 61; exact Calls.quiet_of_same (KS.out _)) | (go_at_call 62; exact Calls.quiet_of_same (KT.out _)))
      go_wp2;go_ret;exact ⟨ret_int hR.out.symm,by first | exact hBW.out _ | (rw [World.drewN_drewN]; exact hBW.out _)⟩
     | true =>
      rw [hat] at KA
      cases hsg:signsX ct with
      | false =>
       rw [hsg] at KS;have hR:=hid (HBad.out fun e=>by have e2:=e.2.1; unfold nodeOk at e2; simp only at e2; rw [hsg] at e2; simp at e2);clear HBad HOk1 HX
       go_quiet (first | (go_at_call 95; exact Calls.quiet_of_same (KN.out _)) | (go_at_call 96; exact Calls.quiet_of (KA.out _)) | (go_at_call 61; exact Calls.quiet_of_same (KS.out _)) | (go_at_call 62; exact Calls.quiet_of_same (KT.out _)))
       go_wp2;go_ret;exact ⟨ret_int hR.out.symm,by first | exact hBW.out _ | (rw [World.drewN_drewN]; exact hBW.out _)⟩
      | true =>
       rw [hsg] at KS;by_cases htr:xtrim ct=ct
       ·have r9:(xtrim ct==ct)=true:=by simp [htr]
        have r9n:(xtrim ct != ct)=false:=by simp [htr]
        have HOk2:=hid (HOk1.out (fun h=>absurd h hj0) (by unfold nodeOk; simp only; rw [hnm,hat,hsg,decide_eq_true (by omega:cd < 8)]; simpa using htr));by_cases hn1:j+1 < n
        ·obtain ⟨xd,x0,hxd'⟩:=HX.out hn1;have hxd:=hid hxd';clear hxd';have q9:(j:Int)+1 < (n:Int):=by omega
         have q9d:decide ((j:Int)+1 < (n:Int))=true:=decide_eq_true q9;by_cases hgt:cd < xd
         ·have r5:decide (cd < xd)=true:=decide_eq_true hgt;by_cases hem:ct=[]
          ·subst hem;have hall:=hid (HOk2.out fun _ _=>rfl);clear HBad HOk1 HOk2 HX
           go_quiet (first | (go_at_call 95; exact Calls.quiet_of_same (KN.out _)) | (go_at_call 96; exact Calls.quiet_of (KA.out _)) | (go_at_call 61; exact Calls.quiet_of_same (KS.out _)) | (go_at_call 62; exact Calls.quiet_of_same (KT.out _)))
           go_wp2
           go_quiet (fail)
           go_wp2;go_roundw
           case rel=>exact ⟨j+1,by omega,by go_num,by first | exact hBW.out _ | (rw [World.drewN_drewN]; exact hBW.out _),hall⟩
           case measure=>simp [intOf]; omega
          ·have r6:(ct==([]:List UInt8))=false:=by simpa using hem
           have r6n:(ct != ([]:List UInt8))=true:=by simpa using hem
           have r6e:ct.isEmpty=false:=by cases ct with | nil=>exact absurd rfl hem | cons a b=>rfl
           have hR:=hid (HBad.out fun e=>hem (e.2.2 (by have:=HL.out; omega) (by rw [← hxd.out]; exact hgt)));clear HBad HOk1 HOk2 HX hxd
           go_quiet (first | (go_at_call 95; exact Calls.quiet_of_same (KN.out _)) | (go_at_call 96; exact Calls.quiet_of (KA.out _)) | (go_at_call 61; exact Calls.quiet_of_same (KS.out _)) | (go_at_call 62; exact Calls.quiet_of_same (KT.out _)))
           go_wp2
           go_quiet (fail)
           go_wp2;go_ret;exact ⟨ret_int hR.out.symm,by first | exact hBW.out _ | (rw [World.drewN_drewN]; exact hBW.out _)⟩
         ·have r5:decide (cd < xd)=false:=decide_eq_false hgt;have hall:=hid (HOk2.out fun h2 hlt=>absurd hlt (by rw [← hxd.out]; exact hgt));clear HBad HOk1 HOk2 HX hxd
          go_quiet (first | (go_at_call 95; exact Calls.quiet_of_same (KN.out _)) | (go_at_call 96; exact Calls.quiet_of (KA.out _)) | (go_at_call 61; exact Calls.quiet_of_same (KS.out _)) | (go_at_call 62; exact Calls.quiet_of_same (KT.out _)))
          go_wp2
          go_quiet (fail)
          go_wp2;go_roundw
          case rel=>exact ⟨j+1,by omega,by go_num,by first | exact hBW.out _ | (rw [World.drewN_drewN]; exact hBW.out _),hall⟩
          case measure=>simp [intOf]; omega
        ·have q9:¬ (j:Int)+1 < (n:Int):=by omega
         have q9d:decide ((j:Int)+1 < (n:Int))=false:=decide_eq_false q9;have hall:=hid (HOk2.out fun h2=>absurd h2 (by have:=HL.out; omega));clear HBad HOk1 HOk2 HX
         go_quiet (first | (go_at_call 95; exact Calls.quiet_of_same (KN.out _)) | (go_at_call 96; exact Calls.quiet_of (KA.out _)) | (go_at_call 61; exact Calls.quiet_of_same (KS.out _)) | (go_at_call 62; exact Calls.quiet_of_same (KT.out _)))
         go_wp2
         go_quiet (fail)
         go_wp2;go_roundw
         case rel=>exact ⟨j+1,by omega,by go_num,by first | exact hBW.out _ | (rw [World.drewN_drewN]; exact hBW.out _),hall⟩
         case measure=>simp [intOf]; omega
       ·have r9:(xtrim ct==ct)=false:=by simp [htr]
        have r9n:(xtrim ct != ct)=true:=by simp [htr]
        have hR:=hid (HBad.out fun e=>by have e2:=e.2.1; unfold nodeOk at e2; simp only at e2; rw [hnm,hat,hsg] at e2; simp at e2; exact htr e2.2);clear HBad HOk1 HX
        go_quiet (first | (go_at_call 95; exact Calls.quiet_of_same (KN.out _)) | (go_at_call 96; exact Calls.quiet_of (KA.out _)) | (go_at_call 61; exact Calls.quiet_of_same (KS.out _)) | (go_at_call 62; exact Calls.quiet_of_same (KT.out _)))
        go_wp2;go_ret;exact ⟨ret_int hR.out.symm,by first | exact hBW.out _ | (rw [World.drewN_drewN]; exact hBW.out _)⟩
  ·have hR:=hid (HO2.out fun i hi=>ha.out i hi (by have:=HL.out; omega));clear HC HS HB HO2 ha;go_wp2;go_ret;exact ⟨ret_int hR.out.symm,hb⟩
theorem step_appN {P:Program} {ops:Array Oper} {o:Oper} {a:Act} {w:World} {K:Act → World → Prop} {Q:Exit → Act → World → Prop} {E:Prop} (hgd:o.guard=none)
  (s x:Operand) (t:TypeId) (ho:o.op=Op.call { callee:=Callee.builtin Builtin.append,args:=#[s,x],argTypes:=#[t,t] }) (B:Nat) (i:TypeInfo)
  (z:Value) (ht:P.underlying t=some (TypeDesc.slice 82)) (hi:P.info? 82=some i) (hz:i.zero=some z) (hsize:i.size=4) (hby:i.bytes=64) (hzs:z.cells.size=4)
  (v:Value) (cs:List NdC) (hs:a.eval s=v) (hown:OwnN w B v cs) (ad:Addr) (k:Nat) (c:NdC) (hc:OwnP w B c.a c.nd.attrs) (hx:a.eval x=Value.slice (some ad) 1 k)
  (hnews:∀ (j:Nat) (u:Value),(ndCells c)[j]? = some u → w.cell? (ad.add j)=some u)
  (hlen:cs.length≤2000000) (hB:B≤w.heap.size)
  (h:∀ (v':Value) (w':World),OwnN w' B v' (cs++[c]) → FrN v w v' w' → K (a.put o.dst v') w'):if Region.wanted o (yielded ops a.tmps)=true then Oper.wp P o a w K Q else E:=by
 have hw:Region.wanted o (yielded ops a.tmps)=true:=by simp [Region.wanted,hgd]
 rw [if_pos hw]
 have one:∀ (ps:List Par) (B:Nat) (v:Value),OwnP w B v ps → v.oneCell'=true:=fun ps B v h=>by
  rcases h.2 with ⟨rfl,_⟩ | ⟨g,cap,cur,rfl,_⟩ <;> rfl
 obtain ⟨v',w',hrun,r1,hgr,_,hat⟩:=run_append_own_at (P:=P) w B t o.type 82 i z 4 64 ht hi hz hsize hby hzs (by decide) v cs.length (ndsCells cs) hown.1 ad 1 k (ndCells c) rfl hnews
  (by intro u hu; simp [ndCells] at hu; rcases hu with rfl | rfl | rfl | rfl <;> first | rfl | exact one _ _ _ hc) (by unfold maxLen; omega) (by omega) hB
 unfold Oper.wp
 simp [execOp,ho,resolve,invoke,builtin,hs,hx,hrun,Result.andThen]
 have keep:∀ (ps:List Par) (u:Value),OwnP w B u ps → OwnP w' B u ps:=fun ps u hu=>World.ownsRow.kept hu hgr (rows_neN hown.1 hu (by decide));refine h v' w' ⟨?_,?_⟩ (grown_fr hgr hat)
 ·have e:ndsCells (cs++[c])=ndsCells cs++ndCells c:=by simp [ndsCells]
  rw [e,List.length_append];exact r1
 ·intro c' hc'
  rcases List.mem_append.1 hc' with hc' | hc'
  ·exact keep _ _ (hown.2 c' hc')
  ·simp at hc'; subst hc'
   exact keep _ _ hc
theorem dig_ext (i:Int) (h0:0≤i) (h1:i < 10):(ByteArray.mk #[48,49,50,51,52,53,54,55,56,57]).extract i.toNat (i+1).toNat=⟨[digb i.toNat].toArray⟩:=by
 obtain ⟨n,rfl⟩:=Int.eq_ofNat_of_zero_le h0;have h:∀ n:Fin 10,(ByteArray.mk #[48,49,50,51,52,53,54,55,56,57]).extract n.val (n.val+1)=⟨[digb n.val].toArray⟩:=by decide +kernel
 exact h ⟨n,by omega⟩
end Go.Proofs.YtldkidljjbkmbaaGreatDoor
