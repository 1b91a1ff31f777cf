/-
  RefDig, PR1, PR3, RefHost, ScanKit, RefList, RefWhere.
-/
import Derived.Test.YtldkidljjbkmbaaGreatDoorPX11
import Derived.Test.YtldkidljjbkmbaaGreatDoorPA28
set_option linter.unusedVariables false
set_option linter.unusedSimpArgs false
set_option maxRecDepth 20000
namespace Go.Proofs.YtldkidljjbkmbaaGreatDoor
open Go.RowKit Sc
set_option maxHeartbeats 600000 in
theorem refdigits_any (k:Nat):∀ (n:Int) (w:World),n≤k → 0≤n → n≤9223372036854775807 →
  Calls Tryz.prog 41 #[.int .i64 n] w fun e w'=>e=.returned (.string ⟨(digL n.toNat).toArray⟩)∧∃ q,w'=w.drewN q:=by
 induction k with
 | zero =>
  intro n w hk h0 h1;have hn:n=0:=by omega
  subst hn
  go_enter Tryz.func41,Tryz.ntmps41
  go_wp2_with fail
  go_ret;exact ⟨by rw [digL_small (by omega)]; rfl,0,rfl⟩
 | succ k ih =>
  intro n w hk h0 h1;by_cases hn:n < 10
  ·have hE:Hid ((ByteArray.mk #[48,49,50,51,52,53,54,55,56,57]).extract n.toNat (n+1).toNat=⟨(digL n.toNat).toArray⟩):=by
    show _=_; rw [dig_ext n h0 hn,digL_small (by omega)]
   go_enter Tryz.func41,Tryz.ntmps41
   go_wp2_with fail
   go_ret;exact ⟨by rw [← hE.out]; rfl,0,rfl⟩
  ·have hq0:0≤n / 10:=by omega
   have hi:=fun w=>ih (n / 10) w (by omega) hq0 (by omega);have HI:Hid (∀ w:World,Calls Tryz.prog 41 #[.int .i64 (n / 10)] w fun e w'=>e=.returned (.string ⟨(digL (n / 10).toNat).toArray⟩)∧∃ q,w'=w.drewN q):=hi;clear hi ih;have e1:IntKind.i64.wrap (n.tdiv 10)=n / 10:=by rw [Int.tdiv_eq_ediv_of_nonneg h0]; simp [IntKind.wrap,IntKind.signed,IntKind.bits]; omega
   have e2:n.tmod 10=n % 10:=Int.tmod_eq_emod_of_nonneg h0;have e3:IntKind.i64.wrap (n % 10+1)=n % 10+1:=by simp [IntKind.wrap,IntKind.signed,IntKind.bits]; omega
   have e4:IntKind.i64.wrap (n % 10)=n % 10:=by simp [IntKind.wrap,IntKind.signed,IntKind.bits]; omega
   have g1:0≤n % 10:=by omega
   have e5:(ByteArray.mk #[48,49,50,51,52,53,54,55,56,57]).extract (n % 10).toNat (n % 10+1).toNat=⟨[digb (n % 10).toNat].toArray⟩:=dig_ext _ g1 (by omega);have g5:(digL (n / 10).toNat).length+1≤9223372036854775807:=by have:=digL_len19 (n:=(n / 10).toNat) (by omega); omega
   have hE:Hid ((ByteArray.mk (digL (n / 10).toNat).toArray)++⟨[digb (n % 10).toNat].toArray⟩=⟨(digL n.toNat).toArray⟩):=by
    show _=_
    rw [ByteArray.mk_append_mk,digL_big (n:=n.toNat) (by omega)];have a1:n.toNat / 10=(n / 10).toNat:=by omega
    have a2:digb (n % 10).toNat=digb n.toNat:=by unfold digb; congr 2; omega
    rw [a1,a2]
   have g2:n % 10 < 10:=by omega
   have g3:n % 10≤n % 10+1:=by omega
   have g4:n % 10+1≤10:=by omega
   go_enter Tryz.func41,Tryz.ntmps41
   go_wp2_with fail
   go_quiet ((go_at_call 41; exact Calls.quiet_of (HI.out _)))
   clear e1 e2 e3 e4 e5;go_wp2_with fail
   go_ret;exact ⟨by rw [← hE.out]; rfl,nq,rfl⟩
theorem ref_stop {most n d:Int} (h:922337203685477580 < n∨most < d∨most - d < 10 * n) (hm:most≤9223372036854775807) (hd:0≤d):d > most∨n > (most - d) / 10:=by omega
set_option maxHeartbeats 600000 in
theorem refnumber_any (s:ByteArray) (most:Int) (w:World) (hs:s.size≤maxLen) (hm0:-9223372036854775808≤most) (hm1:most≤9223372036854775807) :
  Calls Tryz.prog 122 #[.string s,.int .i64 most] w fun e w'=>e=.returned (.tuple #[.int .i64 (numV most s.data.toList).1,.int .i64 (numV most s.data.toList).2])∧w'=w:=by
 have hs0:=hs;unfold maxLen at hs;by_cases he:s.size=0
 ·have hE:=isE_true he
  have hv:numV most s.data.toList=(0,10):=by
   have:s.data.toList=[]:=List.eq_nil_of_length_eq_zero (by rw [len_data,he])
   rw [numV,if_pos (Or.inl this)]
  have HV:Hid (numV most s.data.toList=(0,10)):=hv; clear hv
  go_enter Tryz.func122,Tryz.ntmps122
  go_wp2;go_ret2;exact ⟨ret_pair 0 10 HV.out,rfl⟩
 have hE:=isE_false (s:=s) (by omega);have hne:=data_ne (s:=s) (by omega);by_cases ha:allB 1 s.data.toList=true
 ·have hdig:Hid (∀ k (hk:k < s.size),48≤(s[k].toNat:Int)∧(s[k].toNat:Int)≤57):=fun k hk=>digit_at ha k hk
  have HV:Hid (numV most s.data.toList=match numL most 0 s.data.toList with | some n=>(n,0) | none=>(0,9)):=by
   show _=_
   rw [numV,if_neg (by simp [hne,ha])]
   rfl
  clear hne
  go_enter Tryz.func122,Tryz.ntmps122
  go_wp2_with (go_at_call 147; refine (refall_any _ _ _ hs0).mono ?_; rintro e w' ⟨rfl,rfl⟩)
  go_loop [6,7] (fun n i=>∃ (k:Nat) (m:Int),k≤s.size∧i=.int .i64 k∧n=.int .i64 m∧0≤m∧m≤9223372036854775807∧Hid (numL most 0 s.data.toList=numL most m (s.data.toList.drop k))) (fun _ i=>s.size - (intOf i).toNat)
  case atStart=>exact ⟨0,0,Nat.zero_le _,rfl,rfl,by omega,by omega,rfl⟩
  case round =>
   obtain ⟨k,m,hk,rfl,rfl,hm0',hm1',hnum⟩:=hrel;by_cases hlt:k < s.size
   ·have hd:=hdig.out k hlt;by_cases h0:922337203685477580 < m
    ·have HS:Hid (numL most m (s.data.toList.drop k)=none):=numL_stop hlt (ref_stop (Or.inl h0) hm1 (by omega));go_wp2;go_ret2;exact ⟨ret_pair 0 9 (by rw [HV.out,hnum.out,HS.out]),rfl⟩
    ·by_cases h1:most < (s[k].toNat:Int) - 48
     ·have HS:Hid (numL most m (s.data.toList.drop k)=none):=numL_stop hlt (ref_stop (Or.inr (Or.inl h1)) hm1 (by omega));go_wp2;go_ret2;exact ⟨ret_pair 0 9 (by rw [HV.out,hnum.out,HS.out]),rfl⟩
     ·by_cases h2:most - ((s[k].toNat:Int) - 48) < 10 * m
      ·have HS:Hid (numL most m (s.data.toList.drop k)=none):=numL_stop hlt (ref_stop (Or.inr (Or.inr h2)) hm1 (by omega));go_wp2;go_ret2;exact ⟨ret_pair 0 9 (by rw [HV.out,hnum.out,HS.out]),rfl⟩
      ·have hst:=numL_go (most:=most) (n:=m) hlt (by omega);have HS:Hid (numL most m (s.data.toList.drop k)=numL most (10 * m+((s[k].toNat:Int) - 48)) (s.data.toList.drop (k+1))):=hst;clear hst;go_wp2
       go_round
       case rel=>exact ⟨k+1,10 * m+((s[k].toNat:Int) - 48),by omega,by go_num,by go_num,by omega,by omega,show _=_ by rw [hnum.out,HS.out]⟩
       case measure=>simp [intOf]; omega
   ·have HD:Hid (s.data.toList.drop k=[]):=drop_all s k (by omega);go_wp2;go_ret2;exact ⟨ret_pair m 0 (by rw [HV.out,hnum.out,HD.out]; rfl),rfl⟩
 ·have ha':allB 1 s.data.toList=false:=by simpa using ha
  have HV:Hid (numV most s.data.toList=(0,10)):=by show _=_; rw [numV,if_pos (Or.inr ha')]
  clear ha hne
  go_enter Tryz.func122,Tryz.ntmps122
  go_wp2_with (go_at_call 147; refine (refall_any _ _ _ hs0).mono ?_; rintro e w' ⟨rfl,rfl⟩)
  go_ret2;exact ⟨ret_pair 0 10 HV.out,rfl⟩
set_option maxHeartbeats 1000000 in
set_option maxRecDepth 100000 in
theorem rtext14_any (l:List UInt8) (w:World) (h:l.length≤140737488355328) :
  Calls Tryz.prog 39 #[.string ⟨l.toArray⟩] w fun e w'=>e=.returned (.bool (textP l))∧w'=w:=by
 have KS:=hid (fun w'=>signs_list l w' h);have KT:=hid (fun w'=>trimX_list l w' h);have zl:=size_list l;have hv:textP l=(decide (l.length≤128) && (signsX l && xtrim l==l)):=rfl;generalize textP l=R at hv ⊢;by_cases h1:l.length≤128
 ·rw [decide_eq_true h1,Bool.true_and] at hv;have r1:(l.length:Int)≤128:=by omega
  cases hs:signsX l with
  | false =>
   rw [hs] at KS hv;have HV:Hid (R=false):=hv;clear hv hs KT
   go_enter Tryz.func39,Tryz.ntmps39
   go_wp2_with (go_at_call 61; refine (KS.out _).mono ?_; rintro e w' ⟨rfl,hw'⟩; rw [hw']; clear hw' w')
   go_ret;exact ⟨ret_bool HV.out.symm,rfl⟩
  | true =>
   rw [hs] at KS hv;have HV:Hid (R=(xtrim l==l)):=hv;clear hv hs;generalize xtrim l=t at KT HV
   go_enter Tryz.func39,Tryz.ntmps39
   go_wp2_with fail
   refine (KS.out _).mono ?_
   rintro e w' ⟨rfl,hw'⟩; rw [hw']; clear hw' w'
   go_wp2_with fail
   refine (KT.out _).mono ?_
   rintro e w' ⟨rfl,hw'⟩; rw [hw']; clear hw' w'
   go_wp2;go_ret;exact ⟨ret_bool HV.out.symm,rfl⟩
 ·rw [decide_eq_false h1,Bool.false_and] at hv;have HV:=hid hv;have r1:¬ (l.length:Int)≤128:=by omega
  clear hv KS KT
  go_enter Tryz.func39,Tryz.ntmps39
  go_wp2;go_ret;exact ⟨ret_bool HV.out.symm,rfl⟩
set_option maxHeartbeats 1000000 in
set_option maxRecDepth 100000 in
theorem rident_any (s:ByteArray) (w:World) (hs:s.size≤140737488355328) :
  Calls Tryz.prog 38 #[.string s] w fun e w'=>e=.returned (.bool (identP s.data.toList))∧w'=w:=by
 have HS:=hid (all_snocX idc s);have HB:=hid (all_badX idc s);have HT:Hid (∀ k,s.size≤k → (s.data.toList.take k).all idc=true → s.data.toList.all idc=true):=fun k hk ha=>by rw [take_all s k hk] at ha; exact ha
 have hl:=len_data s;have hv:identP s.data.toList=(s.data.toList.all idc && (decide (1≤s.size) && decide (s.size≤64))):=by unfold identP; rw [hl]
 have HVB:Hid (s.data.toList.all idc=false → identP s.data.toList=false):=fun h=>by rw [hv,h]; rfl
 have HVG:Hid (s.data.toList.all idc=true → identP s.data.toList=(decide (1≤s.size) && decide (s.size≤64))):=fun h=>by rw [hv,h]; rfl
 generalize identP s.data.toList=R at HVB HVG ⊢;generalize s.data.toList.all idc=A at HB HT HVB HVG;clear hv hl
 go_enter Tryz.func38,Tryz.ntmps38
 go_wp2
 go_loop [3] (fun i=>∃ k:Nat,k≤s.size∧i=.int .i64 k∧Hid ((s.data.toList.take k).all idc=true)) (fun i=>s.size - (intOf i).toNat)
 case atStart=>exact ⟨0,Nat.zero_le _,rfl,show _=_ by simp⟩
 case round =>
  obtain ⟨k,hk,rfl,ha⟩:=hrel;by_cases hlt:k < s.size
  ·have hbd:=u8_bd s[k];by_cases h33:(s[k].toNat:Int) < 33
   ·have hR:Hid (R=false):=HVB.out (HB.out k hlt (by unfold idc; rw [decide_eq_false (by omega)]; rfl));clear ha HS HB HT HVB HVG;go_wp2;go_ret;exact ⟨ret_bool hR.out.symm,rfl⟩
   ·by_cases h126:126 < (s[k].toNat:Int)
    ·have hR:Hid (R=false):=HVB.out (HB.out k hlt (by unfold idc; rw [decide_eq_false (p:=s[k].toNat≤126) (by omega)]; simp));clear ha HS HB HT HVB HVG;go_wp2;go_ret;exact ⟨ret_bool hR.out.symm,rfl⟩
    ·have ha2:Hid ((s.data.toList.take (k+1)).all idc=true):=HS.out k hlt ha.out (by unfold idc; rw [decide_eq_true (by omega),decide_eq_true (by omega)]; rfl);clear ha HS HB HT HVB HVG;go_wp2
     go_round
     case rel=>exact ⟨k+1,by omega,by go_num,ha2⟩
     case measure=>simp [intOf]; omega
  ·have hR:=hid (HVG.out (HT.out k (by omega) ha.out));clear ha HS HB HT HVB HVG;by_cases h1:1≤s.size
   ·have q1:(1:Int)≤(s.size:Int):=by omega
    go_wp2;go_ret;exact ⟨ret_bool (by rw [hR.out,decide_eq_true h1]; simp; omega),rfl⟩
   ·have q1:¬ (1:Int)≤(s.size:Int):=by omega
    go_wp2;go_ret;exact ⟨ret_bool (by rw [hR.out,decide_eq_false h1]; simp),rfl⟩
theorem ident_list (l:List UInt8) (w:World) (h:l.length≤140737488355328) :
  Calls Tryz.prog 38 #[.string ⟨l.toArray⟩] w fun e w'=>e=.returned (.bool (identP l))∧w'=w:=rident_any ⟨l.toArray⟩ w (by rw [size_list]; exact h)
theorem pad_dig {n:Nat} (h:n < 1000):List.replicate (3 - (digL n).length) 48++digL n=d3 n:=by
 have hz:∀ m:Nat,digb m=UInt8.ofNat (48+m % 10):=fun m=>rfl;by_cases h1:n < 10
 ·rw [digL_small h1];have e1:n / 100 % 10=0:=by omega
  have e2:n / 10 % 10=0:=by omega
  simp only [d3,e1,e2,hz,List.length_cons,List.length_nil]
  rfl
 ·rw [digL_big h1];by_cases h2:n < 100
  ·rw [digL_small (by omega)];have e1:n / 100 % 10=0:=by omega
   simp only [d3,e1,hz,List.length_append,List.length_cons,List.length_nil]
   rfl
  ·rw [digL_big (by omega),digL_small (by omega)];have e1:n / 10 / 10 % 10=n / 100 % 10:=by omega
   simp only [d3,hz,e1,List.length_append,List.length_cons,List.length_nil]
   rfl
theorem dig_len {n:Nat} (h:n < 1000):1≤(digL n).length∧(digL n).length≤3:=by
 by_cases h1:n < 10
 ·rw [digL_small h1]; simp
 ·rw [digL_big h1];by_cases h2:n < 100
  ·rw [digL_small (by omega)]; simp
  ·rw [digL_big (by omega),digL_small (by omega)]; simp
theorem strip_ne_all:∀ n:Fin 1000,n.val=0∨stripZ (d3 n.val) ≠ []:=by decide +kernel
theorem strip_ne {n:Nat} (h0:0 < n) (h:n < 1000):stripZ (d3 n) ≠ []:=by
 rcases strip_ne_all ⟨n,h⟩ with e | e
 ·exact absurd e (by simp only; omega)
 ·exact e
set_option maxHeartbeats 1000000 in
set_option maxRecDepth 100000 in
theorem rdec_any (n:Int) (w:World):Calls Tryz.prog 43 #[.int .i64 n] w fun e w'=>e=.returned (.string ⟨(decL n).toArray⟩)∧∃ q,w'=w.drewN q:=by
 have hv:decL n=if n < 0∨1000 < n then [] else if n=0 then [48] else if n=1000 then [49] else [48,46]++stripZ (d3 n.toNat):=rfl
 generalize decL n=R at hv ⊢;by_cases h0:n < 0
 ·rw [if_pos (.inl h0)] at hv;have HV:=hid hv;clear hv
  go_enter Tryz.func43,Tryz.ntmps43
  go_wp2;go_ret;exact ⟨by rw [HV.out]; rfl,0,rfl⟩
 by_cases h1:1000 < n
 ·rw [if_pos (.inr h1)] at hv;have HV:=hid hv;clear hv
  go_enter Tryz.func43,Tryz.ntmps43
  go_wp2;go_ret;exact ⟨by rw [HV.out]; rfl,0,rfl⟩
 rw [if_neg (by omega)] at hv;by_cases h2:n=0
 ·rw [if_pos h2] at hv;have HV:=hid hv;subst h2;clear hv
  go_enter Tryz.func43,Tryz.ntmps43
  go_wp2;go_ret;exact ⟨by rw [HV.out]; rfl,0,rfl⟩
 by_cases h3:n=1000
 ·rw [if_neg h2,if_pos h3] at hv;have HV:=hid hv;subst h3;clear hv
  go_enter Tryz.func43,Tryz.ntmps43
  go_wp2;go_ret;exact ⟨by rw [HV.out]; rfl,0,rfl⟩
 rw [if_neg h2,if_neg h3] at hv;have HV:=hid hv;have q2:(n==0)=false:=by rw [beq_eq_false_iff_ne]; exact h2
 have q3:(n==1000)=false:=by rw [beq_eq_false_iff_ne]; exact h3
 have KD:=hid (fun w'=>refdigits_any n.toNat n w' (by omega) (by omega) (by omega));obtain ⟨k,hk⟩:∃ k,k=n.toNat:=⟨_,rfl⟩
 have hkn:(k:Int)=n:=by omega
 rw [← hk] at KD HV;have hdl:=dig_len (n:=k) (by omega);have HPD:=hid (pad_dig (n:=k) (by omega));have HNE:=hid (strip_ne (n:=k) (by omega) (by omega));clear hv hk h2 h3;generalize digL k=D at KD hdl HPD;generalize d3 k=T at HV HPD HNE;clear hkn
 go_enter Tryz.func43,Tryz.ntmps43
 go_wp2_with fail
 refine (KD.out _).mono ?_
 rintro e w1 ⟨rfl,q,rfl⟩;go_wp2
 go_loop [3] (fun v=>∃ i:Nat,v=.string ⟨(List.replicate i 48++D).toArray⟩∧D.length+i≤3) (fun v=>3 - lenV v)
 case atStart=>exact ⟨0,by simp,by omega⟩
 case round =>
  obtain ⟨i,rfl,hi⟩:=hrel;have zz:=size_list (List.replicate i 48++D);have hll:(List.replicate i 48++D).length=D.length+i:=by simp; omega
  rw [hll] at zz;by_cases h3:D.length+i=3
  ·have ei:3 - D.length=i:=by omega
   rw [ei] at HPD;have r5:¬ ((D.length+i:Nat):Int) < 3:=by omega
   rw [HPD.out] at zz hll ⊢;have hTl:T.length=3:=by omega
   rw [h3] at zz;clear HPD KD;go_wp2
   go_loop [3] (fun v=>∃ u:ByteArray,v=.string u∧u.size≤3∧Hid (stripZ u.data.toList=stripZ T)) (fun v=>lenV v)
   case atStart=>exact ⟨⟨T.toArray⟩,rfl,by omega,show _=_ by simp⟩
   case round =>
    obtain ⟨u,rfl,hu,hd⟩:=hrel
    have hu0:0 < u.size:=by
     apply Classical.byContradiction
     intro hh;have e:u.data.toList=[]:=List.eq_nil_of_length_eq_zero (by rw [len_data]; omega)
     have:=hd.out
     rw [e] at this;exact HNE.out this.symm
    have hlt:u.size - 1 < u.size:=by omega
    have hbd:=u8_bd u[u.size - 1];have hw1:IntKind.i64.wrap ((u.size:Int) - 1)=((u.size - 1:Nat):Int):=by rw [IntKind.wrap_i64]; omega
    have hn1:((u.size:Int) - 1).toNat=u.size - 1:=by omega
    by_cases hx:u[u.size - 1]=48
    ·have p1:((u[u.size - 1].toNat:Int)==48)=true:=u8_eq (b:=48) hx;have hd2:Hid (stripZ (u.extract 0 (u.size - 1)).data.toList=stripZ T):=show _=_ by rw [stripB_step u hlt hx]; exact hd.out
     have hz:(u.extract 0 (u.size - 1)).size < u.size∧(u.extract 0 (u.size - 1)).size≤3:=by rw [ByteArray.size_extract]; omega
     clear hd hx HV;go_wp2
     go_round
     case rel=>exact ⟨_,rfl,hz.2,hd2⟩
     case measure=>exact hz.1
    ·have p1:((u[u.size - 1].toNat:Int)==48)=false:=u8_ne (b:=48) hx;have hE:Hid (R=[48,46]++u.data.toList):=show _=_ by rw [HV.out,← hd.out,stripB_stop u hlt hx]
     have hgl:Hid ((⟨#[48,46]⟩:ByteArray)++u=⟨([48,46]++u.data.toList).toArray⟩):=show _=_ by apply ByteArray.ext; simp
     clear hd hx HV;go_wp2;go_ret;exact ⟨by rw [hE.out,← hgl.out]; rfl,q,rfl⟩
  ·have r5:((D.length+i:Nat):Int) < 3:=by omega
   have hgl:=glueLL [48] (List.replicate i 48++D);have hrep:[48]++(List.replicate i 48++D)=List.replicate (i+1) 48++D:=by rw [List.replicate_succ]; rfl
   rw [hrep] at hgl;have HGL:=hid hgl;clear hgl hrep HPD KD;go_wp2
   go_round
   case rel=>exact ⟨i+1,by rw [← HGL.out],by omega⟩
   case measure =>
    have zy:((⟨#[48]⟩:ByteArray)++⟨(List.replicate i 48++D).toArray⟩).size=D.length+i+1:=by rw [ByteArray.size_append,zz]; show 1+_=_; omega
    show 3 - ((⟨#[48]⟩:ByteArray)++⟨(List.replicate i 48++D).toArray⟩).size < 3 - (⟨(List.replicate i 48++D).toArray⟩:ByteArray).size
    rw [zy,zz];omega
set_option maxHeartbeats 400000 in
theorem refscheme_any (s:ByteArray) (w:World) :
  Calls Tryz.prog 87 #[.string s] w fun e w'=>e=.returned (.bool (schemeB s.data.toList))∧w'=w:=by
 have hb:schemeB s.data.toList=(s.toList==[115,105,112] || (s.toList==[115,105,112,115] || s.toList==[112,114,101,115])):=by rw [ByteArray.toList_eq]; rfl
 have HB:Hid _:=hb; clear hb
 cases h1:(s.toList==[115,105,112]) <;> cases h2:(s.toList==[115,105,112,115]) <;> cases h3:(s.toList==[112,114,101,115])
 all_goals (
  rw [h1,h2,h3] at HB
  go_enter Tryz.func87,Tryz.ntmps87
  go_wp2;go_ret;exact ⟨ret_bool HB.out.symm,rfl⟩)
theorem lab_empty {t:ByteArray} (h:t.size=0):labB t.data.toList=false:=by
 unfold labB; rw [len_data]; simp [h]
theorem lab_cls {t:ByteArray} (h:allB 64 t.data.toList=false):labB t.data.toList=false:=by
 unfold labB; simp [h]
theorem lab_first {t:ByteArray} (hp:0 < t.size) (h:t[0]=45):labB t.data.toList=false:=by
 unfold labB; rw [getD_s t 0 hp,h]; simp
theorem lab_last {t:ByteArray} (hp:t.size - 1 < t.size) (h:t[t.size - 1]=45):labB t.data.toList=false:=by
 unfold labB; rw [len_data,getD_s t _ hp,h]; simp
theorem lab_fine {t:ByteArray} (hp:0 < t.size) (ha:allB 64 t.data.toList=true) (h:¬ t[0]=45) (hq:t.size - 1 < t.size) (h2:¬ t[t.size - 1]=45):labB t.data.toList=true:=by
 unfold labB;rw [len_data,getD_s t 0 hp,getD_s t _ hq,ha]
 simp [h,h2]; omega
set_option maxHeartbeats 2000000 in
set_option maxRecDepth 100000 in
theorem refhost_any (s:ByteArray) (w:World) (hs:s.size≤140737488355328) :
  Calls Tryz.prog 121 #[.string s] w fun e w'=>e=.returned (.bool (hostB s.data.toList))∧Below w.heap.size w w':=by
 have hl:=len_data s;by_cases h0:s.size=0
 ·have hv:Hid (hostB s.data.toList=false):=host_short (by omega);clear hl
  go_enter Tryz.func121,Tryz.ntmps121
  go_wp2;go_ret;exact ⟨ret_bool hv.out.symm,Below.refl _ _⟩
 have hne:((s.size:Int)==0)=false:=by simpa using h0
 by_cases h64:64 < s.size
 ·have hv:Hid (hostB s.data.toList=false):=host_long (by omega);clear hl
  go_enter Tryz.func121,Tryz.ntmps121
  go_wp2;go_ret;exact ⟨ret_bool hv.out.symm,Below.refl _ _⟩
 by_cases hlow:(lowL s.data.toList==s.data.toList)=true
 ·have hlq:(lowL s.data.toList==s.toList)=true:=by rw [ByteArray.toList_eq]; exact hlow
  have hpos:0 < s.size:=by omega
  by_cases hbr:s[0]'hpos=91
  ·have hb1:(((s[0]'hpos).toNat:Int)==91)=true:=by rw [hbr]; rfl
   have hv:Hid (hostB s.data.toList=brkB s.data.toList):=host_brk (by omega) (by omega) hlow (by rw [getD_s s 0 (by omega)]; exact hbr);clear hlow hl hbr
   go_enter Tryz.func121,Tryz.ntmps121
   go_wp2_with (go_at_call 86; refine (reflower_txt _ _ hs).mono ?_; rintro e w1 ⟨rfl,hw1⟩)
   clear hlq hb1
   go_loop [3,4] (fun x i=>∃ k n:Nat,1≤k∧(k+1≤s.size∨k=1)∧n≤k∧i=.int .i64 k∧x=.int .i64 n∧Hid ((mid s.data.toList 1 k).all okc=true)∧Hid ((mid s.data.toList 1 k).count 58=n)) (fun _ i=>s.size - (intOf i).toNat)
   case atStart=>exact ⟨1,0,by omega,by omega,by omega,rfl,rfl,show _=_ by simp [mid],show _=_ by simp [mid]⟩
   case round =>
    obtain ⟨k,n,hk1,hk,hnk,rfl,rfl,hall,hcnt⟩:=hrel;by_cases hlt:k+1 < s.size
    ·have hbd:=u8_bd s[k];have hms:=mid_snoc s 1 k hk1 (by omega);by_cases h58:s[k]=58
     ·have e58:((s[k].toNat:Int)==58)=true:=by rw [h58]; rfl
      have ha2:Hid ((mid s.data.toList 1 (k+1)).all okc=true):=show _=_ by rw [hms,List.all_append,hall.out,h58]; decide
      have hc2:Hid ((mid s.data.toList 1 (k+1)).count 58=n+1):=show _=_ by rw [hms,List.count_append,hcnt.out,h58]; rfl
      clear hms h58 hall hcnt;go_wp2
      go_round
      case rel=>exact ⟨k+1,n+1,by omega,by omega,by omega,by go_num,by go_num,ha2,hc2⟩
      case measure=>simp [intOf]; omega
     ·have e58:((s[k].toNat:Int)==58)=false:=u8_ne h58
      have hc2:Hid ((mid s.data.toList 1 (k+1)).count 58=n):=show _=_ by
       rw [hms,List.count_append,hcnt.out]
       have:List.count 58 [s[k]]=0:=List.count_eq_zero.2 (by simp; intro e; exact h58 e.symm)
       omega
      by_cases h46:s[k]=46
      ·have e46:((s[k].toNat:Int) != 46)=false:=by rw [h46]; rfl
       have ha2:Hid ((mid s.data.toList 1 (k+1)).all okc=true):=show _=_ by rw [hms,List.all_append,hall.out,h46]; decide
       clear hms h58 h46 hall hcnt;go_wp2
       go_round
       case rel=>exact ⟨k+1,n,by omega,by omega,by omega,by go_num,by go_num,ha2,hc2⟩
       case measure=>simp [intOf]; omega
      ·have e46:((s[k].toNat:Int) != 46)=true:=by
        have:=u8_ne h46
        simp only [bne,Bool.not_eq_true']; exact this
       by_cases hx:isB s[k].toNat 4=true
       ·have ha2:Hid ((mid s.data.toList 1 (k+1)).all okc=true):=show _=_ by rw [hms,List.all_append,hall.out]; simp [okc,hx]
        have hx2:(bits BinOp.and IntKind.i64 (cls s[k].toNat) 4==0)=false:=by simpa [isB] using hx
        clear hms h58 h46 hall hcnt hx;go_wp2_with (go_at_call 119; refine (refclass_any _ _ hbd.1 hbd.2).mono ?_; rintro e w' ⟨rfl,rfl⟩)
        go_round
        case rel=>exact ⟨k+1,n,by omega,by omega,by omega,by go_num,by go_num,ha2,hc2⟩
        case measure=>simp [intOf]; omega
       ·have hx2:(bits BinOp.and IntKind.i64 (cls s[k].toNat) 4==0)=true:=by simpa [isB] using hx
        have hbad:Hid (brkB s.data.toList=false):=brk_bad hk1 hlt (by
         simp only [okc,Bool.or_eq_false_iff,beq_eq_false_iff_ne,ne_eq];exact ⟨h58,h46,by simpa using hx⟩)
        clear hms h58 h46 hall hcnt hx hc2;go_wp2_with (go_at_call 119; refine (refclass_any _ _ hbd.1 hbd.2).mono ?_; rintro e w' ⟨rfl,rfl⟩)
        go_ret;exact ⟨ret_bool (by rw [hv.out,hbad.out]),hw1⟩
    ·by_cases h4:4≤s.size
     ·have hke:k=s.size - 1:=by omega
      have hks:k < s.size:=by omega
      by_cases hla:s[k]=93
      ·have ela:((s[s.size - 1].toNat:Int)==93)=true:=by subst hke; rw [hla]; rfl
       have hend:Hid (brkB s.data.toList=decide (2≤n)):=brk_end h4 hke hall.out hcnt.out (by rw [getD_s s k hks,hla]);clear hla hall hcnt;go_wp2
       all_goals go_ret
       all_goals exact ⟨ret_bool (by rw [hv.out,hend.out]; simp; omega),hw1⟩
      ·have ela:((s[s.size - 1].toNat:Int)==93)=false:=by subst hke; exact u8_ne hla
       have hend:Hid (brkB s.data.toList=false):=brk_last hke (by rw [getD_s s k hks]; exact hla);clear hla hall hcnt;go_wp2
       all_goals go_ret
       all_goals exact ⟨ret_bool (by rw [hv.out,hend.out]),hw1⟩
     ·have hend:Hid (brkB s.data.toList=false):=brk_short h4;clear hall hcnt;go_wp2
      all_goals go_ret
      all_goals exact ⟨ret_bool (by rw [hv.out,hend.out]),hw1⟩
  ·have hb1:(((s[0]'hpos).toNat:Int)==91)=false:=u8_ne hbr;have hv:Hid (hostB s.data.toList=labAll (splitL 46 s.data.toList)):=host_lab (by omega) (by omega) hlow (by rw [getD_s s 0 hpos]; exact hbr);have hmem:=splitL_mem_len 46 s.data.toList;have hcnt:=splitL_len 46 s.data.toList;rw [hl] at hmem hcnt;obtain ⟨p0,ps0,hp0⟩:=splitL_cons 46 s.data.toList;have hnil:splitL 46 s.data.toList ≠ []:=by rw [hp0]; simp
   clear hlow hl hbr hp0;have HM:Hid _:=hmem; clear hmem
   have HN:Hid _:=hnil; clear hnil
   have HC:Hid _:=hcnt; clear hcnt
   go_enter Tryz.func121,Tryz.ntmps121
   go_wp2_with (first
    | (go_at_call 86; refine (reflower_txt _ _ hs).mono ?_; rintro e w1 ⟨rfl,hw1⟩)
    | (go_at_call 90; refine (split3_any s 46 _ (by omega)).mono ?_; rintro e w2 ⟨v,rfl,hown,hw2⟩))
   clear hlq hb1;have hw3:=hw1.trans (hw2.mono hw1.size);generalize splitL 46 s.data.toList=ps at hv hown HM HN HC;have hpl:=HC.out;obtain ⟨g,cap,rfl,hcells⟩:=own_strs hown HN.out;have HK:Hid _:=hcells; clear hcells hown HN HC hw1 hw2
   go_loop [6] (fun i=>∃ k:Nat,k≤ps.length∧i=.int .i64 k∧Hid (labAll (ps.take k)=true)) (fun i=>ps.length - (intOf i).toNat)
   case atStart=>exact ⟨0,by omega,rfl,rfl⟩
   case round =>
    obtain ⟨k,hk,rfl,hlab⟩:=hrel;by_cases hlt:k < ps.length
    ·have hc:=HK.out k hlt;have hpm:=HM.out ps[k] (List.getElem_mem hlt);obtain ⟨t,ht⟩:∃ t:ByteArray,t=⟨ps[k].toArray⟩:=⟨_,rfl⟩
     have htl:t.data.toList=ps[k]:=by rw [ht]
     rw [← ht] at hc;rw [← htl,len_data] at hpm;have hbad:labB t.data.toList=false → Hid (labAll ps=false):=fun h=>labAll_bad hlt (by rw [← htl]; exact h);have hgood:labB t.data.toList=true → Hid (labAll (ps.take (k+1))=true):=fun h=>labAll_snoc hlt hlab.out (by rw [← htl]; exact h);clear ht htl;have htm:t.size≤maxLen:=by unfold maxLen; omega
     by_cases hz:t.size=0
     ·have hE:=isE_true hz;have hb:=hbad (lab_empty hz);clear hbad hgood hlab;go_wp2;go_ret;exact ⟨ret_bool (by rw [hv.out,hb.out]),hw3⟩
     ·have hp:0 < t.size:=by omega
      have hq:t.size - 1 < t.size:=by omega
      have hE:=isE_false hp;by_cases ha:allB 64 t.data.toList=true
      ·by_cases hf:t[0]=45
       ·have ef:((t[0].toNat:Int)==45)=true:=by rw [hf]; rfl
        have hb:=hbad (lab_first hp hf);clear hbad hgood hlab hf;go_wp2_with (go_at_call 147; refine (refall_any _ _ _ htm).mono ?_; rintro e w' ⟨rfl,rfl⟩)
        go_ret;exact ⟨ret_bool (by rw [hv.out,hb.out]),hw3⟩
       ·have ef:((t[0].toNat:Int)==45)=false:=u8_ne hf;by_cases hg:t[t.size - 1]=45
        ·have eg:((t[t.size - 1].toNat:Int)==45)=true:=by rw [hg]; rfl
         have hb:=hbad (lab_last hq hg);clear hbad hgood hlab hf hg;go_wp2_with (go_at_call 147; refine (refall_any _ _ _ htm).mono ?_; rintro e w' ⟨rfl,rfl⟩)
         go_ret;exact ⟨ret_bool (by rw [hv.out,hb.out]),hw3⟩
        ·have eg:((t[t.size - 1].toNat:Int)==45)=false:=u8_ne hg;have hb:=hgood (lab_fine hp ha hf hq hg);clear hbad hgood hlab hf hg;go_wp2_with (go_at_call 147; refine (refall_any _ _ _ htm).mono ?_; rintro e w' ⟨rfl,rfl⟩)
         go_round
         case rel=>exact ⟨k+1,by omega,by go_num,hb⟩
         case measure=>simp [intOf]; omega
      ·have ha':allB 64 t.data.toList=false:=by simpa using ha
       have hb:=hbad (lab_cls ha');clear hbad hgood hlab ha;go_wp2_with (go_at_call 147; refine (refall_any _ _ _ htm).mono ?_; rintro e w' ⟨rfl,rfl⟩)
       go_ret;exact ⟨ret_bool (by rw [hv.out,hb.out]),hw3⟩
    ·have he:ps.take k=ps:=List.take_of_length_le (by omega);have hb:Hid (labAll ps=true):=show _=_ by rw [← hlab.out,he]
     clear hlab;go_wp2;go_ret;exact ⟨ret_bool (by rw [hv.out,hb.out]),hw3⟩
 ·have hlow':(lowL s.data.toList==s.data.toList)=false:=by simpa using hlow
  have hlq:(lowL s.data.toList==s.toList)=false:=by rw [ByteArray.toList_eq]; exact hlow'
  have hv:Hid (hostB s.data.toList=false):=host_caps hlow';clear hlow hlow' hl
  go_enter Tryz.func121,Tryz.ntmps121
  go_wp2_with (go_at_call 86; refine (reflower_txt _ _ hs).mono ?_; rintro e w1 ⟨rfl,hw1⟩)
  go_ret;exact ⟨ret_bool hv.out.symm,hw1⟩
theorem refsame_list (a b:List UInt8) (w:World) (ha:a.length≤140737488355328) (hb:b.length≤140737488355328) :
  Calls Tryz.prog 148 #[.string ⟨a.toArray⟩,.string ⟨b.toArray⟩] w fun e w'=>e=.returned (.bool (sameB a b))∧Below w.heap.size w w' :=
 refsame_any ⟨a.toArray⟩ ⟨b.toArray⟩ w (by simp [ByteArray.size]; omega) (by simp [ByteArray.size]; omega)
theorem apart_snoc {ps:List Par} {j:Nat} {nm:List UInt8} (hj:j < ps.length) (h:apartB (ps.take j) nm=true) (hs:sameB ps[j].name nm=false):apartB (ps.take (j+1)) nm=true:=by
 unfold apartB at *;rw [List.take_succ_eq_append_getElem hj,List.all_append,h]
 simp [hs]
theorem apart_bad {ps:List Par} {j k:Nat} {nm:List UInt8} (hj:j < ps.length) (hjk:j < k) (hs:sameB ps[j].name nm=true):apartB (ps.take k) nm=false:=by
 unfold apartB;rw [List.all_eq_false];refine ⟨ps[j],?_,by simp [hs]⟩
 rw [List.mem_take_iff_getElem];exact ⟨j,by omega,rfl⟩
set_option maxHeartbeats 2000000 in
set_option maxRecDepth 100000 in
theorem list_row (a:Addr) (cap:Nat) (ps:List Par) (w:World) (hsm:SmallP 140737488355328 ps) (hc:∀ k (hk:k < ps.length),a.block < w.heap.size∧ParAt w a k ps[k]) (h16:ps.length≤16) :
  Calls Tryz.prog 123 #[.slice (some a) ps.length cap] w fun e w'=>e=.returned (.bool (listB ps))∧Below w.heap.size w w':=by
 have hv:Hid (listB ps=listGo [] ps):=show _=_ by rw [listB,decide_eq_true h16]; rfl
 have HC:Hid _:=hc; clear hc
 have HS:Hid _:=hsm.2; clear hsm
 obtain ⟨n,hn⟩:∃ n,n=ps.length:=⟨_,rfl⟩
 rw [← hn] at h16 ⊢;have HN:Hid _:=hn; clear hn
 go_enter Tryz.func123,Tryz.ntmps123
 go_wp2
 go_loopw [3] (fun i wr=>∃ k:Nat,k≤n∧i=.int .i64 k∧Below w.heap.size w wr∧Hid (listGo [] ps=listGo (ps.take k) (ps.drop k))) (fun i _=>n - (intOf i).toNat)
 case atStart=>exact ⟨0,by omega,rfl,Below.refl _ _,show _=_ by simp⟩
 case round =>
  obtain ⟨k,hk,rfl,hb,hgo⟩:=hrel;by_cases hlt:k < n
  ·have hkl:k < ps.length:=by have:=HN.out; omega
   obtain ⟨hab,hpa⟩:=HC.out k hkl;obtain ⟨c0,c1,c2⟩:=hpa.below hb hab;have hss:=HS.out ps[k] (List.getElem_mem hkl);have hat:=listGo_at ps k hkl;generalize ps[k]=p at c0 c1 c2 hss hat;obtain ⟨nm,vl,hs⟩:=p;simp only at c0 c1 c2 hss hat;have HA:Hid _:=hat; clear hat hpa
   by_cases h1:1≤nm.length
   ·by_cases h2:nm.length≤64
    ·by_cases h3:vl.length≤64
     ·by_cases h4:hs=true∨vl=[]
      ·have hpb:parB ⟨nm,vl,hs⟩=true:=by
        simp [parB]
        refine ⟨by omega,h2,h3,?_⟩
        rcases h4 with h | h
        ·exact Or.inl h
        ·exact Or.inr h
       rw [hpb,Bool.true_and] at HA
       have h4':hs=true∨(hs=false∧vl.isEmpty=true):=by
        cases hs with
        | true=>exact Or.inl rfl
        | false=>right; rcases h4 with h | h <;> simp_all
       clear hpb h4;have hcell:∀ o1 o2 o3,(wr.alloc (.cells #[.string o1,o2,o3] 78)).cell? ⟨wr.heap.size,0,none⟩=some (.string o1):=fun o1 o2 o3=>by unfold World.cell?; rw [heap_alloc_new]; rfl
       have hb3:∀ o,Below w.heap.size w (wr.alloc o):=fun o=>hb.alloc hb.size o;have hsz3:∀ o,wr.heap.size < (wr.alloc o).heap.size:=fun o=>by simp
       rcases h4' with rfl | ⟨rfl,hie⟩
       all_goals (
        go_wp2;have hcell':=hcell ⟨nm.toArray⟩ (.string ⟨vl.toArray⟩);generalize hw3:wr.alloc (Obj.cells #[Value.string ⟨nm.toArray⟩,Value.string ⟨vl.toArray⟩,_] 78)=w3;have hcl:w3.cell? ⟨wr.heap.size,0,none⟩=some (.string ⟨nm.toArray⟩):=by rw [← hw3]; exact hcell' _
        have hbw:Below w.heap.size w w3:=by rw [← hw3]; exact hb3 _
        have hsw:wr.heap.size < w3.heap.size:=by rw [← hw3]; exact hsz3 _
        have HCL:Hid _:=hcl;clear hcell hcell' hb3 hsz3 hw3 c0 c1 c2 hb hcl
        go_loopw [5] (fun i wr2=>∃ j:Nat,j≤k∧i=.int .i64 j∧Below w3.heap.size w3 wr2∧Hid (apartB (ps.take j) nm=true)) (fun i _=>k - (intOf i).toNat)
        case atStart=>exact ⟨0,by omega,rfl,Below.refl _ _,rfl⟩
        case round =>
         obtain ⟨j,hj,rfl,hb4,hap⟩:=hrel;have hbx:=hbw.trans (hb4.mono hbw.size);by_cases hjk:j < k
         ·have hjl:j < ps.length:=by omega
          obtain ⟨d0,d1,d2⟩:=(HC.out j hjl).2.below hbx hab;have hcl2:=cell_below hb4 hsw HCL.out;have hsj:=(HS.out ps[j] (List.getElem_mem hjl)).1;have hjn:(j:Int) < (n:Int):=by omega
          cases hsm:sameB ps[j].name nm with
          | true =>
           have hbad:Hid (listB ps=false):=show _=_ by
            rw [hv.out,hgo.out,HA.out,apart_bad hjl hjk hsm]; rfl
           clear hap hgo HA;go_wp2
           go_region_law (go_simp; go_at_call 148; refine (refsame_list _ _ _ hsj hss.1).mono ?_; rintro e w5 ⟨rfl,h5⟩)
           all_goals (
            go_wp2;go_ret;exact ⟨ret_bool hbad.out.symm,hbx.drew.trans (h5.mono hbx.size)⟩)
          | false =>
           have hap2:Hid (apartB (ps.take (j+1)) nm=true):=apart_snoc hjl hap.out hsm;clear hap;go_wp2
           go_region_law (go_simp; go_at_call 148; refine (refsame_list _ _ _ hsj hss.1).mono ?_; rintro e w5 ⟨rfl,h5⟩)
           all_goals (
            go_wp2;go_roundw
            case rel=>exact ⟨j+1,by omega,by go_num,hb4.drew.trans (h5.mono hb4.size),hap2⟩
            case measure=>simp [intOf]; omega)
         ·have hjk':j=k:=by omega
          subst hjk'
          have hgo2:Hid (listGo [] ps=listGo (ps.take (j+1)) (ps.drop (j+1))):=show _=_ by
           rw [hgo.out,HA.out,hap.out,Bool.true_and]
          clear hap hgo HA;go_wp2;go_roundw
          case rel=>exact ⟨j+1,by omega,by go_num,hbx,hgo2⟩
          case measure=>simp [intOf]; omega)
      ·have hbad:Hid (listB ps=false):=show _=_ by
        have:parB ⟨nm,vl,hs⟩=false:=by simp [parB] at h4 ⊢; intro _ _ _; exact ⟨h4.1,h4.2⟩
        rw [hv.out,hgo.out,HA.out,this]; rfl
       obtain ⟨h4a,h4b⟩:hs=false∧¬ vl=[]:=by
        cases hs with
        | true=>exact absurd (Or.inl rfl) h4
        | false=>exact ⟨rfl,fun e=>h4 (Or.inr e)⟩
       subst h4a;have hie:vl.isEmpty=false:=by simpa using h4b
       clear h4 hgo HA h4b;go_wp2;go_ret;exact ⟨ret_bool hbad.out.symm,hb.alloc hb.size _⟩
     ·have hbad:Hid (listB ps=false):=show _=_ by
       have:parB ⟨nm,vl,hs⟩=false:=by simp [parB]; intro _ _ h; exact absurd h h3
       rw [hv.out,hgo.out,HA.out,this]; rfl
      clear hgo HA;go_wp2;go_ret;exact ⟨ret_bool hbad.out.symm,hb.alloc hb.size _⟩
    ·have hbad:Hid (listB ps=false):=show _=_ by
      have:parB ⟨nm,vl,hs⟩=false:=by simp [parB]; intro _ h; exact absurd h h2
      rw [hv.out,hgo.out,HA.out,this]; rfl
     clear hgo HA;go_wp2;go_ret;exact ⟨ret_bool hbad.out.symm,hb.alloc hb.size _⟩
   ·have hbad:Hid (listB ps=false):=show _=_ by
     have:parB ⟨nm,vl,hs⟩=false:=by simp [parB]; intro h; omega
     rw [hv.out,hgo.out,HA.out,this]; rfl
    clear hgo HA;go_wp2;go_ret;exact ⟨ret_bool hbad.out.symm,hb.alloc hb.size _⟩
  ·have hd:Hid (listB ps=true):=show _=_ by
    have e:=HN.out;rw [hv.out,hgo.out,List.drop_of_length_le (by omega)]; rfl
   clear hgo;go_wp2;go_ret;exact ⟨ret_bool hd.out.symm,hb⟩
set_option maxHeartbeats 400000 in
theorem list_long (a:Option Addr) (cap:Nat) (ps:List Par) (w:World) (h16:¬ ps.length≤16) :
  Calls Tryz.prog 123 #[.slice a ps.length cap] w fun e w'=>e=.returned (.bool (listB ps))∧Below w.heap.size w w':=by
 have hv:Hid (listB ps=false):=show _=_ by rw [listB,decide_eq_false h16]; rfl
 go_enter Tryz.func123,Tryz.ntmps123
 go_wp2;go_ret;exact ⟨ret_bool hv.out.symm,Below.refl _ _⟩
set_option maxHeartbeats 400000 in
theorem list_nil (a:Option Addr) (cap:Nat) (w:World) :
  Calls Tryz.prog 123 #[.slice a 0 cap] w fun e w'=>e=.returned (.bool true)∧w'=w:=by
 go_enter Tryz.func123,Tryz.ntmps123
 go_wp2
 go_loop [3] (fun i=>i=.int .i64 0) (fun i=>0)
 case atStart=>rfl
 case round =>
  subst hrel;go_wp2;go_ret;exact ⟨rfl,rfl⟩
theorem list_any (v:Value) (ps:List Par) (w:World) (hsm:SmallP 140737488355328 ps) (h:ParsAt w v ps) :
  Calls Tryz.prog 123 #[v] w fun e w'=>e=.returned (.bool (listB ps))∧Below w.heap.size w w':=by
 by_cases h16:ps.length≤16
 ·rcases h with ⟨rfl,rfl⟩ | ⟨a,cap,rfl,hc⟩
  ·refine (list_nil none 0 w).mono ?_
   rintro e w' ⟨rfl,rfl⟩;exact ⟨rfl,Below.refl _ _⟩
  ·exact list_row a cap ps w hsm hc h16
 ·obtain ⟨a,cap,rfl⟩:=h.form;exact list_long a cap ps w h16
theorem ret_where {p:List UInt8 × Int × Int} {x:List UInt8} {a b:Int} (h:p=(x,a,b)):Ending.returned (.tuple #[.string ⟨x.toArray⟩,.int .i64 a,.int .i64 b])=.returned (.tuple #[.string ⟨p.1.toArray⟩,.int .i64 p.2.1,.int .i64 p.2.2]):=by rw [h]
theorem reflower_cut (s:ByteArray) (k:Nat) (w:World) (hs:s.size≤140737488355328) (hk:k≤s.size) :
  Calls Tryz.prog 86 #[.string (s.extract 0 k)] w fun e w'=>e=.returned (.string ⟨(lowL (s.data.toList.take k)).toArray⟩)∧Below w.heap.size w w':=by
 have h:=reflower_txt (s.extract 0 k) w (by rw [ByteArray.size_extract]; omega);have e1:(s.extract 0 k).data.toList=s.data.toList.take k:=by rw [ext_list]; simp
 rw [e1] at h;exact h
theorem refhost_list (l:List UInt8) (w:World) (hs:l.length≤140737488355328) :
  Calls Tryz.prog 121 #[.string ⟨l.toArray⟩] w fun e w'=>e=.returned (.bool (hostB l))∧Below w.heap.size w w' :=
 refhost_any ⟨l.toArray⟩ w (by rw [size_list]; exact hs)
theorem refnumber_tail (s:ByteArray) (k:Nat) (most:Int) (w:World) (hs:s.size≤140737488355328) (hm0:-9223372036854775808≤most) (hm1:most≤9223372036854775807) :
  Calls Tryz.prog 122 #[.string (s.extract k s.size),.int .i64 most] w fun e w'=>e=.returned (.tuple #[.int .i64 (numV most (s.data.toList.drop k)).1,.int .i64 (numV most (s.data.toList.drop k)).2])∧w'=w:=by
 have h:=refnumber_any (s.extract k s.size) most w (by rw [ByteArray.size_extract]; unfold maxLen; omega) hm0 hm1;have e1:(s.extract k s.size).data.toList=s.data.toList.drop k:=by rw [ext_list,List.take_of_length_le (by rw [List.length_drop,len_data]; omega)]
 rw [e1] at h;exact h
end Go.Proofs.YtldkidljjbkmbaaGreatDoor
