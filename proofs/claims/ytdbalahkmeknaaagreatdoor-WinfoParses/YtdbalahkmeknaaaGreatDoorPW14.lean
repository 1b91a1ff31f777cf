/-
  XSmall, RX1, RX2, XName, RX3, RefTexts, RX7, XChk, XChk2, XChk3, XCatch, XDoc, RX10.
-/
import Derived.Test.YtdbalahkmeknaaaGreatDoorPW13
set_option linter.unusedVariables false
set_option linter.unusedSimpArgs false
set_option maxRecDepth 20000
namespace Go.Proofs.YtdbalahkmeknaaaGreatDoor
open Go.RowKit Sc
mutual
theorem elemC_small (K:Nat):∀ (n d:Nat) (s:List UInt8) (l:List Nd) (r:List UInt8),d+s.length≤K → elemC n d s=some (l,r) → ∀ x ∈ l,SmNd K x
 | 0,_,_,_,_,_,h=>by rw [elemC] at h; cases h
 | n+1,d,s,l,r,hk,h=>by
  rw [elemC] at h
  split at h
  ·cases h
  ·next h1 =>
   have h1':preX [60] s=true:=by simpa using h1
   have hp:=pre_len h1';simp only [List.length_cons,List.length_nil] at hp;have hd1:(s.drop 1).length=s.length - 1:=by rw [List.length_drop]
   split at h
   ·cases h
   ·next nm r1 hu =>
    obtain ⟨c,q,hq,_,hlq⟩:=up_head hu
    split at h
    ·cases h
    ·next ps r2 ha =>
     have hsm:=attrsC_small K _ _ _ _ _ ⟨by simp; omega,fun p hp=>by simp at hp⟩ ha;have ha':=attrsC_len _ _ _ _ _ ha
     split at h
     ·simp only [Option.some.injEq,Prod.mk.injEq] at h;rw [← h.1];intro x hx
      simp at hx
      subst hx;exact ⟨by simp only; omega,by simp,by have:=hsm.1; simp only; omega,hsm.2,by simp only; omega,by simp only; omega⟩
     ·split at h
      ·cases h
      ·split at h
       ·cases h
       ·next x y hu2 =>
        obtain ⟨c2,q2,hq2,_,hlq2⟩:=up_head hu2;have hd2:(r2.drop 1).length=r2.length - 1:=by rw [List.length_drop]
        have hql:1≤r1.length:=by rw [hq]; simp
        split at h
        ·cases h
        ·next t ks r3 hi =>
         have hin:=innC_small K n _ _ _ _ _ _ _ (by omega) (by omega) (fun x hx=>by simp at hx) hi
         cases hc:closeC nm r3 with
         | none=>rw [hc] at h; cases h
         | some r4 =>
          rw [hc] at h;simp only [Option.map_some,Option.some.injEq,Prod.mk.injEq] at h;rw [← h.1];intro z hz
          rcases List.mem_cons.1 hz with hz | hz
          ·subst hz;exact ⟨by simp only; omega,hin.1,by have:=hsm.1; simp only; omega,hsm.2,by simp only; omega,by simp only; omega⟩
          ·exact hin.2 z hz
theorem innC_small (K:Nat):∀ (n d:Nat) (txt:List UInt8) (ks:List Nd) (s t:List UInt8) (l:List Nd) (r:List UInt8),d+s.length≤K → txt.length+s.length≤K → (∀ x ∈ ks,SmNd K x) → innC n d txt ks s=some (t,l,r) → t.length≤K∧∀ x ∈ l,SmNd K x
 | 0,_,_,_,_,_,_,_,_,_,_,h=>by rw [innC] at h; cases h
 | n+1,d,txt,ks,s,t,l,r,hk,ht,hks,h=>by
  rw [innC] at h
  split at h
  ·cases hv:readX (xtrim txt) with
   | none=>rw [hv] at h; cases h
   | some u =>
    have h1:=readX_len hv;have h2:=xtrim_len txt;rw [hv] at h;simp only [Option.map_some,Option.some.injEq,Prod.mk.injEq] at h;obtain ⟨rfl,rfl,rfl⟩:=h;exact ⟨by omega,hks⟩
  ·split at h
   ·cases h
   ·next k2 r1 he =>
    have h1:=elemC_len n _ _ _ _ he;have h2:=elemC_small K n _ _ _ _ hk he
    split at h
    ·cases h
    ·next x y hu =>
     obtain ⟨c,q,hq,_,hlq⟩:=up_head hu;refine innC_small K n _ _ _ _ _ _ _ (by omega) (by rw [List.length_append]; omega) (fun z hz=>?_) h
     rcases List.mem_append.1 hz with hz | hz
     ·exact hks z hz
     ·exact h2 z hz
end
theorem SmNd.small {K:Nat} {x:Nd} (h:SmNd K x) (hK:K≤100000):SmallN 140737488355328 x:=by
 obtain ⟨h1,h2,h3,h4,h5,h6⟩:=h;refine ⟨by omega,by omega,⟨by omega,fun p hp=>?_⟩,?_⟩
 ·have:=h4 p hp; omega
 ·simp [Lit.wf,IntKind.min,IntKind.max,IntKind.signed,IntKind.bits]
  omega
theorem getB (s:ByteArray) (k:Nat) (h:k < s.size):s.data.toList[k]'(by rw [len_data]; exact h)=s[k]:=by
 have:=getL s k h
 rw [List.getElem?_eq_getElem (by rw [len_data]; exact h)] at this;exact Option.some.inj this
theorem all_snocX (p:UInt8 → Bool) (s:ByteArray) (k:Nat) (h:k < s.size) (ha:(s.data.toList.take k).all p=true) (hp:p s[k]=true):(s.data.toList.take (k+1)).all p=true:=by
 rw [take_snoc s k h,List.all_append,ha]; simp [hp]
theorem all_badX (p:UInt8 → Bool) (s:ByteArray) (k:Nat) (h:k < s.size) (hp:p s[k]=false):s.data.toList.all p=false:=by
 rw [List.all_eq_false];exact ⟨s[k],by rw [← getB s k h]; exact List.getElem_mem _,by simp [hp]⟩
theorem sign_low {b:UInt8} (hx:xblk b=false) (h:b.toNat < 32):signX b=false:=by
 unfold signX; rw [hx]; simp [h]
theorem sign_ok {b:UInt8} (h:¬ b.toNat < 32) (h2:¬ b=127):signX b=true:=by
 unfold signX; simp [h,h2]
theorem name_bad (s:ByteArray) (k:Nat) (h:k < s.size) (hp:namc s[k]=false):nameX s.data.toList=false:=by
 unfold nameX; rw [all_badX _ _ _ h hp]; rfl
theorem name_head (s:ByteArray) (h:0 < s.size) (hp:letX s[0]=false):nameX s.data.toList=false:=by
 unfold nameX
 have:s.data.toList.head? = some s[0]:=by
  rw [List.head?_eq_getElem?,getL s 0 h]
 rw [this]; simp [hp]
theorem name_end (s:ByteArray) (k:Nat) (hk:s.size≤k) (ha:(s.data.toList.take k).all namc=true) (hh:k=0∨∃ h:0 < s.size,letX s[0]=true):nameX s.data.toList=(decide (1≤s.size) && decide (s.size≤64)):=by
 rw [take_all s k hk] at ha;unfold nameX;rw [ha,len_data,Bool.true_and]
 rcases hh with hh | ⟨h,hl⟩
 ·have h0:s.size=0:=by omega
  have:s.data.toList=[]:=List.eq_nil_of_length_eq_zero (by rw [len_data]; exact h0)
  rw [this,h0]; rfl
 ·have:s.data.toList.head? = some s[0]:=by
   rw [List.head?_eq_getElem?,getL s 0 h]
  rw [this];have h1:decide (1≤s.size)=true:=decide_eq_true (by omega);rw [h1]; simp [hl]
theorem begins_any (c:UInt8) (w:World):Calls Tryz.prog 109 #[.int .u8 c.toNat] w fun e w'=>e=.returned (.bool (letX c))∧w'=w:=by
 have hbd:=u8_bd c;have KC:=hid (fun w'=>class_any c.toNat w' hbd.1 hbd.2);have hV:letX c=(isB c.toNat 2 || c==95):=rfl;by_cases h:c=95
 ·have q:((c.toNat:Int)==95)=true:=u8_eq (b:=95) h;have HV:Hid (letX c=true):=show _=_ by rw [hV,h]; rfl
  clear hV h
  go_enter Tryz.func109,Tryz.ntmps109
  go_wp2;go_ret;exact ⟨ret_bool HV.out.symm,rfl⟩
 ·have q:((c.toNat:Int)==95)=false:=u8_ne (b:=95) h;have HV:Hid (letX c=isB c.toNat 2):=show _=_ by rw [hV,beq_eq_false_iff_ne.2 h,Bool.or_false]
  clear hV h
  go_enter Tryz.func109,Tryz.ntmps109
  go_wp2_with (go_at_call 140; refine (KC.out _).mono ?_; rintro e w' ⟨rfl,rfl⟩)
  go_ret;exact ⟨by rw [HV.out]; exact ret_bool rfl,rfl⟩
theorem namc_is:∀ c:UInt8,namc c=(c==95 || (c==45 || (c==46 || (c==58 || isB c.toNat 3)))):=by apply byte_all; decide +kernel
theorem goesOn_any (c:UInt8) (w:World):Calls Tryz.prog 110 #[.int .u8 c.toNat] w fun e w'=>e=.returned (.bool (namc c))∧w'=w:=by
 have hbd:=u8_bd c;have KC:=hid (fun w'=>class_any c.toNat w' hbd.1 hbd.2);have hV:=namc_is c;generalize namc c=R at hV ⊢;by_cases h:c=95
 ·have q:((c.toNat:Int)==95)=true:=u8_eq (b:=95) h;have HV:Hid (R=true):=show _=_ by rw [hV,h]; rfl
  clear hV h
  go_enter Tryz.func110,Tryz.ntmps110
  go_wp2;go_ret;exact ⟨ret_bool HV.out.symm,rfl⟩
 have q:((c.toNat:Int)==95)=false:=u8_ne (b:=95) h;rw [beq_eq_false_iff_ne.2 h,Bool.false_or] at hV;clear h;by_cases h:c=45
 ·have q1:((c.toNat:Int)==45)=true:=u8_eq (b:=45) h;have HV:Hid (R=true):=show _=_ by rw [hV,h]; rfl
  clear hV h
  go_enter Tryz.func110,Tryz.ntmps110
  go_wp2;go_ret;exact ⟨ret_bool HV.out.symm,rfl⟩
 have q1:((c.toNat:Int)==45)=false:=u8_ne (b:=45) h;rw [beq_eq_false_iff_ne.2 h,Bool.false_or] at hV;clear h;by_cases h:c=46
 ·have q2:((c.toNat:Int)==46)=true:=u8_eq (b:=46) h;have HV:Hid (R=true):=show _=_ by rw [hV,h]; rfl
  clear hV h
  go_enter Tryz.func110,Tryz.ntmps110
  go_wp2;go_ret;exact ⟨ret_bool HV.out.symm,rfl⟩
 have q2:((c.toNat:Int)==46)=false:=u8_ne (b:=46) h;rw [beq_eq_false_iff_ne.2 h,Bool.false_or] at hV;clear h;by_cases h:c=58
 ·have q3:((c.toNat:Int)==58)=true:=u8_eq (b:=58) h;have HV:Hid (R=true):=show _=_ by rw [hV,h]; rfl
  clear hV h
  go_enter Tryz.func110,Tryz.ntmps110
  go_wp2;go_ret;exact ⟨ret_bool HV.out.symm,rfl⟩
 have q3:((c.toNat:Int)==58)=false:=u8_ne (b:=58) h;rw [beq_eq_false_iff_ne.2 h,Bool.false_or] at hV;clear h;have HV:=hid hV;clear hV
 go_enter Tryz.func110,Tryz.ntmps110
 go_wp2_with (go_at_call 140; refine (KC.out _).mono ?_; rintro e w' ⟨rfl,rfl⟩)
 go_ret;exact ⟨by rw [HV.out]; exact ret_bool rfl,rfl⟩
set_option maxHeartbeats 1000000 in
theorem xname_any (s:ByteArray) (w:World) (hs:s.size≤140737488355328) :
  Calls Tryz.prog 75 #[.string s] w fun e w'=>e=.returned (.bool (nameX s.data.toList))∧w'=w:=by
 have HG:=hid goesOn_any;have HE:=hid (name_end s);have HB:=hid (fun k h=>name_bad s k h);have HH:=hid (fun h=>name_head s h);have hl:=len_data s
 have hlong:s.size=0∨64 < s.size → nameX s.data.toList=false:=fun h=>by
  unfold nameX;rw [hl]
  rcases h with h | h
  ·have:s.data.toList=[]:=List.eq_nil_of_length_eq_zero (by omega)
   rw [this]; rfl
  ·rw [decide_eq_false (by omega)]; simp
 generalize nameX s.data.toList=R at HE HB HH hlong ⊢;by_cases h0:s.size=0
 ·have hR:Hid (R=false):=hlong (.inl h0)
  have e0:s=⟨#[]⟩:=by
   apply ByteArray.ext
   apply Array.eq_empty_of_size_eq_zero
   exact h0
  subst e0;clear HE HB HH hlong hl
  go_enter Tryz.func75,Tryz.ntmps75
  go_wp2;go_ret;exact ⟨ret_bool hR.out.symm,rfl⟩
 have e0:s.toList.isEmpty=false:=by
  rw [ByteArray.toList_eq,List.isEmpty_eq_false_iff];intro e;rw [e] at hl;exact h0 hl.symm
 by_cases h64:64 < s.size
 ·have hR:Hid (R=false):=hlong (.inr h64);have r1:(64:Int) < (s.size:Int):=by omega
  clear HE HB HH hlong hl h0
  go_enter Tryz.func75,Tryz.ntmps75
  go_wp2;go_ret;exact ⟨ret_bool hR.out.symm,rfl⟩
 have r1:¬ (64:Int) < (s.size:Int):=by omega
 have hp:0 < s.size:=by omega
 have KB:=hid (fun w'=>begins_any s[0] w');have hbd:=u8_bd s[0]
 cases hb:letX s[0] with
 | false =>
  rw [hb] at KB;have hR:Hid (R=false):=HH.out hp hb;clear HE HB HH hlong hl h0 hb
  go_enter Tryz.func75,Tryz.ntmps75
  go_wp2_with (go_at_call 109; refine (KB.out _).mono ?_; rintro e w' ⟨rfl,rfl⟩)
  go_ret;exact ⟨ret_bool hR.out.symm,rfl⟩
 | true =>
  rw [hb] at KB
  have HE2:Hid (∀ k,s.size≤k → (s.data.toList.take k).all namc=true → R=true):=fun k h1 h2=>by
   rw [HE.out k h1 h2 (.inr ⟨hp,hb⟩),decide_eq_true (by omega),decide_eq_true (by omega)]; rfl
  clear HE HH hlong hl h0 hb
  go_enter Tryz.func75,Tryz.ntmps75
  go_wp2_with (go_at_call 109; refine (KB.out _).mono ?_; rintro e w' ⟨rfl,rfl⟩)
  clear KB hbd
  go_loop [19] (fun i=>∃ k:Nat,k≤s.size∧i=.int .i64 k∧Hid ((s.data.toList.take k).all namc=true)) (fun i=>s.size - (intOf i).toNat)
  case atStart=>exact ⟨0,Nat.zero_le _,rfl,hid (by simp)⟩
  case round =>
   obtain ⟨k,hk,rfl,hv⟩:=hrel;by_cases hlt:k < s.size
   ·have KG:=hid (fun w'=>HG.out s[k] w');have hbd:=u8_bd s[k]
    cases hn:namc s[k] with
    | true =>
     rw [hn] at KG;have hv2:=hid (all_snocX namc s k hlt hv.out hn);clear hv hn;go_wp2_with (go_at_call 110; refine (KG.out _).mono ?_; rintro e w' ⟨rfl,rfl⟩)
     go_round
     case rel=>exact ⟨k+1,by omega,by go_num,hv2⟩
     case measure=>simp [intOf]; omega
    | false =>
     rw [hn] at KG;have hR:Hid (R=false):=HB.out k hlt hn;clear hv hn;go_wp2_with (go_at_call 110; refine (KG.out _).mono ?_; rintro e w' ⟨rfl,rfl⟩)
     go_ret;exact ⟨ret_bool hR.out.symm,rfl⟩
   ·have hR:Hid (R=true):=HE2.out k (by omega) hv.out;clear hv;go_wp2;go_ret;exact ⟨ret_bool hR.out.symm,rfl⟩
theorem xname_list (l:List UInt8) (w:World) (h:l.length≤140737488355328) :
  Calls Tryz.prog 75 #[.string ⟨l.toArray⟩] w fun e w'=>e=.returned (.bool (nameX l))∧w'=w:=xname_any ⟨l.toArray⟩ w (by rw [size_list]; exact h)
theorem xblk_idx:∀ c:UInt8,decide (Lib.indexByte [32,9,13,10] c < 0)=!xblk c:=by apply byte_all; decide +kernel
set_option maxHeartbeats 1000000 in
theorem xsigns_any (s:ByteArray) (w:World) (hs:s.size≤140737488355328) :
  Calls Tryz.prog 111 #[.string s] w fun e w'=>e=.returned (.bool (signsX s.data.toList))∧w'=w:=by
 have HB:Hid (∀ k (h:k < s.size),signX s[k]=false → signsX s.data.toList=false):=fun k h hp=>all_badX signX s k h hp;have HE:Hid (∀ k,s.size≤k → (s.data.toList.take k).all signX=true → signsX s.data.toList=true):=fun k h1 h2=>by rw [take_all s k h1] at h2; exact h2
 generalize signsX s.data.toList=R at HB HE ⊢
 go_enter Tryz.func111,Tryz.ntmps111
 go_wp2
 go_loop [6] (fun i=>∃ k:Nat,k≤s.size∧i=.int .i64 k∧Hid ((s.data.toList.take k).all signX=true)) (fun i=>s.size - (intOf i).toNat)
 case atStart=>exact ⟨0,Nat.zero_le _,rfl,hid (by simp)⟩
 case round =>
  obtain ⟨k,hk,rfl,hv⟩:=hrel;by_cases hlt:k < s.size
  ·have hbd:=u8_bd s[k];have KI:=hid (fun w'=>strIndexByte_any ⟨#[32,9,13,10]⟩ s[k] w');have hx:decide (Lib.indexByte (⟨#[32,9,13,10]⟩:ByteArray).data.toList s[k] < 0)=!xblk s[k]:=xblk_idx s[k];generalize Lib.indexByte (⟨#[32,9,13,10]⟩:ByteArray).data.toList s[k]=n at KI hx;by_cases h127:s[k]=127
   ·have q:((s[k].toNat:Int)==127)=true:=u8_eq (b:=127) h127;have hR:Hid (R=false):=HB.out k hlt (by rw [h127]; decide);clear hv h127 hx;go_wp2;go_ret;exact ⟨ret_bool hR.out.symm,rfl⟩
   have q:((s[k].toNat:Int)==127)=false:=u8_ne (b:=127) h127;by_cases h32:s[k].toNat < 32
   ·have r:(s[k].toNat:Int) < 32:=by omega
    cases hb:xblk s[k] with
    | true =>
     have hv2:=hid (all_snocX signX s k hlt hv.out (by unfold signX; rw [hb]; rfl));have hn:¬ n < 0:=of_decide_eq_false (by rw [hx,hb]; rfl);clear hv h127 hx hb;go_wp2_with (go_at_call 141; refine (KI.out _).mono ?_; rintro e w' ⟨rfl,rfl⟩)
     go_round
     case rel=>exact ⟨k+1,by omega,by go_num,hv2⟩
     case measure=>simp [intOf]; omega
    | false =>
     have hR:Hid (R=false):=HB.out k hlt (sign_low hb h32);have hn:n < 0:=of_decide_eq_true (by rw [hx,hb]; rfl);clear hv h127 hx hb;go_wp2_with (go_at_call 141; refine (KI.out _).mono ?_; rintro e w' ⟨rfl,rfl⟩)
     go_ret;exact ⟨ret_bool hR.out.symm,rfl⟩
   ·have r:¬ (s[k].toNat:Int) < 32:=by omega
    have hv2:=hid (all_snocX signX s k hlt hv.out (sign_ok h32 h127));clear hv h127 hx;go_wp2
    go_round
    case rel=>exact ⟨k+1,by omega,by go_num,hv2⟩
    case measure=>simp [intOf]; omega
  ·have hR:Hid (R=true):=HE.out k (by omega) hv.out;clear hv;go_wp2;go_ret;exact ⟨ret_bool hR.out.symm,rfl⟩
theorem xsigns_list (l:List UInt8) (w:World) (h:l.length≤140737488355328) :
  Calls Tryz.prog 111 #[.string ⟨l.toArray⟩] w fun e w'=>e=.returned (.bool (signsX l))∧w'=w:=xsigns_any ⟨l.toArray⟩ w (by rw [size_list]; exact h)
set_option maxHeartbeats 400000 in
theorem xtext_any (l:List UInt8) (w:World) (h:l.length≤140737488355328) :
  Calls Tryz.prog 77 #[.string ⟨l.toArray⟩] w fun e w'=>e=.returned (.bool (signsX l && xtrim l==l))∧Below w.heap.size w w':=by
 have KS:=hid (fun w'=>xsigns_list l w' h);have KT:=hid (fun w'=>xtrimAll_list l w' h)
 cases hs:signsX l with
 | false =>
  rw [hs] at KS;clear hs
  go_enter Tryz.func77,Tryz.ntmps77
  go_wp2_with fail
  refine (KS.out _).mono ?_
  rintro e w ⟨rfl,rfl⟩;go_wp2;go_ret;exact ⟨rfl,Below.refl _ _⟩
 | true =>
  rw [hs] at KS;clear hs;generalize xtrim l=t at KT ⊢
  go_enter Tryz.func77,Tryz.ntmps77
  go_wp2_with fail
  refine (KS.out _).mono ?_
  rintro e w ⟨rfl,rfl⟩;go_wp2_with fail
  refine (KT.out _).mono ?_
  rintro e w1 ⟨rfl,hw1⟩;go_wp2;go_ret;exact ⟨by simp,hw1⟩
theorem escS_len:∀ b:UInt8,(escS b).length≤6:=by apply byte_all; decide +kernel
theorem escX_len (l:List UInt8):(escX l).length≤6 * l.length:=by
 induction l with
 | nil=>simp [escX]
 | cons b r ih =>
  have:=escS_len b
  have e:escX (b :: r)=escS b++escX r:=by simp [escX]
  rw [e,List.length_append,List.length_cons]; omega
theorem own_strs {w:World} {B e:Nat} {v:Value} {ps:List (List UInt8)} (h:Own w B e v (strs ps)) (hne:ps ≠ []) :
  ∃ g cap,v=.slice (some ⟨g,0,none⟩) ps.length cap∧∀ j (hj:j < ps.length),w.cell? ⟨g,j,none⟩=some (.string ⟨(ps[j]).toArray⟩):=by
 rcases h.2 with ⟨rfl,hn⟩ | ⟨g,cap,cur,rfl,hb,hg,_⟩
 ·rw [strs_length] at hn;exact absurd (List.eq_nil_of_length_eq_zero hn) hne
 ·refine ⟨g,cap,by rw [strs_length],fun j hj=>?_⟩
  have:=World.ownsRow.cells h (g:=g) rfl j (.string ⟨(ps[j]).toArray⟩) (by simp [strs,hj])
  unfold Addr.add at this;by_cases h0:j=0
  ·subst h0; simpa using this
  ·simpa [h0] using this
theorem distinct_snoc (p:Par):∀ l:List Par,distinctX (l++[p])=(distinctX l && l.all (fun q=>!(q.name==p.name)))
 | []=>rfl
 | x :: l=>by
  rw [List.cons_append,distinctX,distinct_snoc p l,distinctX,List.all_cons,List.all_append];have e:(p.name==x.name)=(x.name==p.name):=by rw [Bool.eq_iff_iff]; simp; exact eq_comm
  simp only [List.all_cons,List.all_nil,Bool.and_true,e];generalize (l.all fun q=>!(q.name==x.name))=a;generalize (l.all fun q=>!(q.name==p.name))=b;generalize distinctX l=c;generalize (x.name==p.name)=d
  cases a <;> cases b <;> cases c <;> cases d <;> rfl
theorem distinct_front:∀ a b:List Par,distinctX (a++b)=true → distinctX a=true
 | [],b,_=>rfl
 | x :: a,b,h=>by
  rw [List.cons_append,distinctX,List.all_append,Bool.and_eq_true,Bool.and_eq_true] at h;rw [distinctX,h.1.1,distinct_front a b h.2]; rfl
def attrOk (p:Par):Bool:=nameX p.name && (p.has && signsX p.value)
theorem attrsOk_is (l:List Par) (h:l.length≤16):attrsOk l=(l.all attrOk && distinctX l):=by
 unfold attrsOk; rw [decide_eq_true h]; rfl
theorem attrs_snoc {l:List Par} {j:Nat} (hj:j < l.length) (ha:((l.take j).all attrOk && distinctX (l.take j))=true) (h1:attrOk l[j]=true) (h2:(l.take j).all (fun q=>!(q.name==l[j].name))=true):((l.take (j+1)).all attrOk && distinctX (l.take (j+1)))=true:=by
 rw [Bool.and_eq_true] at ha;rw [List.take_succ_eq_append_getElem hj,distinct_snoc,List.all_append,ha.1,ha.2,h2]
 simp [h1]
theorem attrs_bad {l:List Par} {j:Nat} (hl:l.length≤16) (hj:j < l.length) (h1:attrOk l[j]=false):attrsOk l=false:=by
 rw [attrsOk_is l hl]
 have:l.all attrOk=false:=by rw [List.all_eq_false]; exact ⟨l[j],List.getElem_mem hj,by simp [h1]⟩
 rw [this]; rfl
theorem attrs_twice {l:List Par} {j m:Nat} (hl:l.length≤16) (hj:j < l.length) (hm:m < j) (h1:(l[m].name==l[j].name)=true):attrsOk l=false:=by
 rw [attrsOk_is l hl]
 have:distinctX l=false:=by
  cases hd:distinctX l with
  | false=>rfl
  | true =>
   have e:=List.take_append_drop (j+1) l;rw [← e] at hd;have h3:=distinct_front _ _ hd;rw [List.take_succ_eq_append_getElem hj,distinct_snoc,Bool.and_eq_true,List.all_eq_true] at h3;have h4:=h3.2 l[m] (by rw [List.mem_take_iff_getElem]; exact ⟨m,by omega,rfl⟩);rw [h1] at h4; cases h4
 rw [this]; simp
theorem ParsAt.open {w:World} {v:Value} {ps:List Par} (h:ParsAt w v ps):∃ ao cap,v=.slice ao ps.length cap∧∀ k (hk:k < ps.length),∃ a,ao=some a∧a.block < w.heap.size∧ParAt w a k ps[k]:=by
 rcases h with ⟨rfl,rfl⟩ | ⟨a,cap,rfl,hc⟩
 ·exact ⟨none,0,rfl,fun k hk=>by simp at hk⟩
 ·exact ⟨some a,cap,rfl,fun k hk=>⟨a,rfl,(hc k hk).1,(hc k hk).2⟩⟩
def findX (nm:List UInt8):List Par → Nat → Int
 | [],_=>-1
 | p :: ps,k=>if p.name=nm then (k:Int) else findX nm ps (k+1)
theorem findX_at {nm:List UInt8} {l:List Par} {k:Nat} (hk:k < l.length):findX nm (l.drop k) k=if l[k].name=nm then (k:Int) else findX nm (l.drop (k+1)) (k+1):=by
 rw [List.drop_eq_getElem_cons hk,findX]
theorem findX_end {nm:List UInt8} {l:List Par} {k:Nat} (hk:l.length≤k):findX nm (l.drop k) k=-1:=by
 rw [List.drop_eq_nil_of_le hk]; rfl
theorem find_own {l:List Par} {j:Nat} (hj:j < l.length):∀ k,k≤j → (findX l[j].name (l.drop k) k=(j:Int) ↔ ∀ m (hm:m < j),k≤m → (l[m]'(by omega)).name ≠ l[j].name):=by
 intro k hk
 induction hd:j - k generalizing k with
 | zero =>
  have:k=j:=by omega
  subst this;rw [findX_at hj,if_pos rfl];exact ⟨fun _ m hm hk=>by omega,fun _=>rfl⟩
 | succ n ih =>
  have hkl:k < l.length:=by omega
  rw [findX_at hkl];by_cases h:l[k].name=l[j].name
  ·rw [if_pos h]
   constructor
   ·intro e; omega
   ·intro e; exact absurd h (e k (by omega) (Nat.le_refl _))
  ·rw [if_neg h,ih (k+1) (by omega) (by omega)]
   constructor
   ·intro e m hm hkm;by_cases hq:m=k
    ·subst hq; exact h
    ·exact e m hm (by omega)
   ·intro e m hm hkm;exact e m hm (by omega)
set_option maxHeartbeats 2000000 in
set_option maxRecDepth 100000 in
theorem xfind_any (v:Value) (ps:List Par) (nm:List UInt8) (w:World) (hz:ps.length≤140737488355328) (hv:ParsAt w v ps) :
  Calls Tryz.prog 36 #[v,.string ⟨nm.toArray⟩] w fun e w'=>e=.returned (.int .i64 (findX nm ps 0))∧Below w.heap.size w w':=by
 obtain ⟨ao,cap,rfl,hc⟩:=hv.open;have HC:=hid hc;clear hc hv;obtain ⟨R,hR⟩:∃ R,R=findX nm ps 0:=⟨_,rfl⟩
 rw [← hR];have HR:Hid (R=findX nm (ps.drop 0) 0):=hR;obtain ⟨n,hn⟩:∃ n,n=ps.length:=⟨_,rfl⟩
 rw [← hn] at hz ⊢;have HL:=hid hn;clear hn hR
 go_enter Tryz.func36,Tryz.ntmps36
 go_wp2
 go_loopw [9] (fun i wr=>∃ k:Nat,k≤n∧i=.int .i64 k∧Hid (R=findX nm (ps.drop k) k)∧Below w.heap.size w wr) (fun i _=>n - (intOf i).toNat)
 case atStart=>exact ⟨0,Nat.zero_le _,rfl,HR,Below.refl _ _⟩
 case round =>
  obtain ⟨k,hk,rfl,hv,hb⟩:=hrel;clear HR;by_cases hlt:k < n
  ·have hkl:k < ps.length:=by have:=HL.out; omega
   obtain ⟨ad,hao,hab,c0,c1,c2⟩:=HC.out k hkl;subst hao;have hv2:=hv.out;rw [findX_at hkl] at hv2;have q6:(k:Int) < (n:Int):=by omega
   have a0:=cell_below hb (by rw [add_block]; exact hab) c0;have a1:=cell_below hb (by simp only [add_block]; exact hab) c1;have a2:=cell_below hb (by simp only [add_block]; exact hab) c2;have hbn:Below w.heap.size w (wr.alloc (.cells #[.string ⟨ps[k].name.toArray⟩,.string ⟨ps[k].value.toArray⟩,.bool ps[k].has] 70)):=hb.alloc hb.size _;clear c0 c1 c2;generalize ps[k]=P at a0 a1 a2 hv2 hbn;obtain ⟨pn,pv,ph⟩:=P;simp only at a0 a1 a2 hv2 hbn;by_cases he:pn=nm
   ·rw [if_pos he] at hv2;have hE:=hid hv2;have e1:(pn==nm)=true:=by rw [beq_iff_eq]; exact he
    clear hv hv2 he;go_wp2;go_ret;exact ⟨by rw [hE.out]; rfl,hbn⟩
   ·rw [if_neg he] at hv2;have hE:=hid hv2;have e1:(pn==nm)=false:=by rw [beq_eq_false_iff_ne]; exact he
    clear hv hv2 he;go_wp2;go_roundw
    case rel=>exact ⟨k+1,by omega,by go_num,hE,hbn⟩
    case measure=>simp [intOf]; omega
  ·have hE:Hid (R=-1):=show _=_ by rw [hv.out]; exact findX_end (by have:=HL.out; omega)
   clear hv;go_wp2;go_ret;exact ⟨by rw [hE.out]; rfl,hb⟩
set_option maxHeartbeats 4000000 in
set_option maxRecDepth 100000 in
theorem xattrs_any (v:Value) (ps:List Par) (w:World) (hsm:SmallP 140737488355328 ps) (hv:ParsAt w v ps) :
  Calls Tryz.prog 76 #[v] w fun e w'=>e=.returned (.bool (attrsOk ps))∧Below w.heap.size w w':=by
 have HV:=hid hv;obtain ⟨ao,cap,rfl,hc⟩:=hv.open;have HC:=hid hc;have HS:=hid hsm.2;have hz:=hsm.1;clear hc hv hsm;by_cases h16:16 < ps.length
 ·have hR:Hid (attrsOk ps=false):=show _=_ by unfold attrsOk; rw [decide_eq_false (by omega)]; rfl
  generalize attrsOk ps=R at hR ⊢;obtain ⟨n,hn⟩:∃ n,n=ps.length:=⟨_,rfl⟩
  rw [← hn] at h16 hz ⊢;have r16:(16:Int) < (n:Int):=by omega
  clear HC HS hn HV
  go_enter Tryz.func76,Tryz.ntmps76
  go_wp2;go_ret;exact ⟨ret_bool hR.out.symm,Below.refl _ _⟩
 have hl:ps.length≤16:=by omega
 have HB:=hid (fun j (hj:j < ps.length)=>attrs_bad hl hj);have HT:=hid (fun j m (hj:j < ps.length) (hm:m < j)=>attrs_twice hl hj hm);have HE:Hid (((ps.take ps.length).all attrOk && distinctX (ps.take ps.length))=true → attrsOk ps=true):=fun h=>by rw [attrsOk_is ps hl]; rw [List.take_length] at h; exact h
 have HN:=hid (fun j (hj:j < ps.length)=>@attrs_snoc ps j hj);generalize attrsOk ps=R at HB HT HE ⊢;obtain ⟨n,hn⟩:∃ n,n=ps.length:=⟨_,rfl⟩
 have KF:=hid (fun nm w' (h':ParsAt w' (.slice ao ps.length cap) ps)=>xfind_any (.slice ao ps.length cap) ps nm w' (by omega) h');rw [← hn] at hl hz HE h16 HV KF ⊢;have r16:¬ (16:Int) < (n:Int):=by omega
 have HL:=hid hn;clear hn
 go_enter Tryz.func76,Tryz.ntmps76
 go_wp2
 go_loopw [10] (fun i wr=>∃ (j:Nat),j≤n∧i=.int .i64 j∧Below w.heap.size w wr∧Hid (((ps.take j).all attrOk && distinctX (ps.take j))=true)) (fun i _=>n - (intOf i).toNat)
 case atStart=>exact ⟨0,Nat.zero_le _,rfl,Below.refl _ _,show _=_ from rfl⟩
 case round =>
  obtain ⟨j,hjn,rfl,hb,ha⟩:=hrel;by_cases hlt:j < n
  ·have hjl:j < ps.length:=by have:=HL.out; omega
   obtain ⟨ad,hao,hab,c0,c1,c2⟩:=HC.out j hjl;subst hao;obtain ⟨s1,s2⟩:=HS.out ps[j] (List.getElem_mem hjl);have a0:=cell_below hb (by rw [add_block]; exact hab) c0;have a1:=cell_below hb (by simp only [add_block]; exact hab) c1;have a2:=cell_below hb (by simp only [add_block]; exact hab) c2;have KN:=hid (fun w'=>xname_list ps[j].name w' s1);have KS:=hid (fun w'=>xsigns_list ps[j].value w' s2);have HB1:=hid (HB.out j hjl);have HO:=hid (find_own hjl 0 (Nat.zero_le _));have HT1:=hid (fun m hm=>HT.out j m hjl hm);have HN1:=hid (HN.out j hjl ha.out);have hok:attrOk ps[j]=(nameX ps[j].name && (ps[j].has && signsX ps[j].value)):=rfl;have q6:(j:Int) < (n:Int):=by omega
   have hrow:=rc_row3 wr (.string ⟨ps[j].name.toArray⟩) (.string ⟨ps[j].value.toArray⟩) (.bool ps[j].has) 70;have hbn:Below w.heap.size w (wr.alloc (.cells #[.string ⟨ps[j].name.toArray⟩,.string ⟨ps[j].value.toArray⟩,.bool ps[j].has] 70)):=hb.alloc hb.size _;have hltn:=alloc_lt wr (.cells #[.string ⟨ps[j].name.toArray⟩,.string ⟨ps[j].value.toArray⟩,.bool ps[j].has] 70);have KFj:=hid (KF.out ps[j].name);clear HB HT HN s1 s2 ha c0 c1 c2;generalize hP:ps[j]=P at a0 a1 a2 KN KS HB1 HT1 HN1 hok hrow hbn hltn HO KFj;obtain ⟨pn,pv,ph⟩:=P;simp only at a0 a1 a2 KN KS HT1 HN1 hok hrow hbn hltn HO KFj;rw [List.drop_zero] at HO
   cases hnm:nameX pn with
   | false =>
    rw [hnm] at KN;have hR:=hid (HB1.out (by rw [hok,hnm]; rfl));clear hok HB1 HT1 HN1 hP hnm HC HS HO;go_wp2_with (go_at_call 75; refine (KN.out _).mono ?_; rintro e w' ⟨rfl,rfl⟩)
    go_ret;exact ⟨ret_bool hR.out.symm,hbn⟩
   | true =>
    rw [hnm] at KN;by_cases hf:findX pn ps 0=(j:Int)
    ·have hdis:=HO.out.1 hf;rw [hf] at KFj
     have HD:Hid ((ps.take j).all (fun q=>!(q.name==pn))=true):=show _=_ by
      rw [List.all_eq_true];intro q hq;obtain ⟨m,hm,rfl⟩:=List.mem_take_iff_getElem.1 hq
      have:=hdis m (by omega) (Nat.zero_le _)
      rw [Bool.not_eq_true',beq_eq_false_iff_ne]; exact this
     have q7:((j:Int)==(j:Int))=true:=by simp
     have q7n:((j:Int) != (j:Int))=false:=by simp
     cases ph with
     | false =>
      have hR:=hid (HB1.out (by rw [hok,hnm]; rfl));clear hok HB1 HT1 HN1 hP hnm HC HS HO hf hdis;go_wp2_with (go_at_call 75; refine (KN.out _).mono ?_; rintro e w' ⟨rfl,rfl⟩)
      generalize World.alloc _ _=W0 at hrow hbn hltn ⊢;refine (KFj.out _ (HV.out.below (by simpa using hbn))).mono ?_
      rintro e w2 ⟨rfl,hw2⟩;obtain ⟨d0,d1,d2,_,_,_⟩:=(hrow.below hw2 hltn).rc3;go_wp2;go_ret;exact ⟨ret_bool hR.out.symm,hbn.trans (hw2.mono hbn.size)⟩
     | true =>
      cases hsg:signsX pv with
      | false =>
       rw [hsg] at KS;have hR:=hid (HB1.out (by rw [hok,hnm,hsg]; rfl));clear hok HB1 HT1 HN1 hP hnm HC HS HO hf hdis hsg;go_wp2_with (go_at_call 75; refine (KN.out _).mono ?_; rintro e w' ⟨rfl,rfl⟩)
       generalize World.alloc _ _=W0 at hrow hbn hltn ⊢;refine (KFj.out _ (HV.out.below (by simpa using hbn))).mono ?_
       rintro e w2 ⟨rfl,hw2⟩;obtain ⟨d0,d1,d2,_,_,_⟩:=(hrow.below hw2 hltn).rc3;go_wp2_with (go_at_call 111; refine (KS.out _).mono ?_; rintro e w' ⟨rfl,hw'⟩; rw [hw']; clear hw' w')
       go_ret;exact ⟨ret_bool hR.out.symm,hbn.trans (hw2.mono hbn.size)⟩
      | true =>
       rw [hsg] at KS;have hN:=hid (HN1.out (by rw [hok,hnm,hsg]; rfl) HD.out);clear hok HB1 HT1 HN1 hP hnm HC HS HO hf hdis hsg;go_wp2_with (go_at_call 75; refine (KN.out _).mono ?_; rintro e w' ⟨rfl,rfl⟩)
       generalize World.alloc _ _=W0 at hrow hbn hltn ⊢;refine (KFj.out _ (HV.out.below (by simpa using hbn))).mono ?_
       rintro e w2 ⟨rfl,hw2⟩;obtain ⟨d0,d1,d2,_,_,_⟩:=(hrow.below hw2 hltn).rc3;go_wp2_with (go_at_call 111; refine (KS.out _).mono ?_; rintro e w' ⟨rfl,hw'⟩; rw [hw']; clear hw' w')
       go_roundw
       case rel=>exact ⟨j+1,by omega,by go_num,hbn.trans (hw2.mono hbn.size),hN⟩
       case measure=>simp [intOf]; omega
    ·have hR:Hid (R=false):=by
      have hx:¬ ∀ m (hm:m < j),0≤m → (ps[m]'(by omega)).name ≠ pn:=fun hh=>hf (HO.out.2 hh);have hy:∃ m,∃ hm:m < j,(ps[m]'(by omega)).name=pn:=Classical.byContradiction fun hh=>hx fun m hm _ e=>hh ⟨m,hm,e⟩;obtain ⟨m,hm,he⟩:=hy;exact HT1.out m hm (by rw [beq_iff_eq]; exact he)
     generalize findX pn ps 0=F at KFj hf;have q7:(F==(j:Int))=false:=by rw [beq_eq_false_iff_ne]; exact hf
     have q7n:(F != (j:Int))=true:=by rw [bne,q7]; rfl
     clear hok HB1 HT1 HN1 hP hnm HC HS HO hf;go_wp2_with (go_at_call 75; refine (KN.out _).mono ?_; rintro e w' ⟨rfl,rfl⟩)
     generalize World.alloc _ _=W0 at hrow hbn hltn ⊢;refine (KFj.out _ (HV.out.below (by simpa using hbn))).mono ?_
     rintro e w2 ⟨rfl,hw2⟩;go_wp2;go_ret;exact ⟨ret_bool hR.out.symm,hbn.trans (hw2.mono hbn.size)⟩
  ·have hE:Hid (R=true):=HE.out (by
    have:=ha.out
    have e:j=n:=by omega
    rw [e] at this;exact this)
   clear ha;go_wp2;go_ret;exact ⟨ret_bool hE.out.symm,hb⟩
def placedB (x y:Nd):Bool:=!(decide (x.deep < y.deep) && !x.text.isEmpty) && (decide (1≤y.deep) && (decide (y.deep≤x.deep+1) && decide (y.deep < 8)))
set_option maxHeartbeats 2000000 in
set_option maxRecDepth 100000 in
theorem xplaced_first (ad:Addr) (n cap:Nat) (c:NdC) (w:World) (h0:0 < n) (hc:NdAt w ad 0 c) :
  Calls Tryz.prog 74 #[.slice (some ad) n cap,.int .i64 0] w fun e w'=>e=.returned (.bool (c.nd.deep==0))∧Below w.heap.size w w':=by
 have c0:=hc.c0;rw [Nat.zero_mul] at c0;have ez:ad.add 0=ad:=by cases ad; unfold Addr.add; split <;> simp_all
 have c1:=c0;rw [ez] at c1;have q:(0:Int) < (n:Int):=by omega
 go_enter Tryz.func74,Tryz.ntmps74
 go_wp2;go_ret;exact ⟨rfl,Below.refl _ _⟩
set_option maxHeartbeats 4000000 in
set_option maxRecDepth 100000 in
theorem xplaced_next (ad:Addr) (n cap i:Nat) (x y:NdC) (w:World) (hn:n≤1000000) (hi:i+1 < n) (hx:NdAt w ad i x) (hy:NdAt w ad (i+1) y) (hxf:∃ po pn pc,x.a=.slice po pn pc) (hd:x.nd.deep < 8) (hd0:-9223372036854775808≤x.nd.deep) :
  Calls Tryz.prog 74 #[.slice (some ad) n cap,.int .i64 ((i+1:Nat):Int)] w fun e w'=>e=.returned (.bool (placedB x.nd y.nd))∧Below w.heap.size w w':=by
 obtain ⟨c0,c1,c2,c3⟩:=hx;obtain ⟨d0,d1,d2,d3⟩:=hy;obtain ⟨⟨xd,xn,xps,xt⟩,xa⟩:=x;obtain ⟨⟨yd,yn,yps,yt⟩,ya⟩:=y;simp only at c0 c1 c2 c3 d0 d1 d2 d3 hxf hd hd0 ⊢;obtain ⟨po,pn,pc,rfl⟩:=hxf;have hP:placedB ⟨xd,xn,xps,xt⟩ ⟨yd,yn,yps,yt⟩=(!(decide (xd < yd) && !xt.isEmpty) && (decide (1≤yd) && (decide (yd≤xd+1) && decide (yd < 8)))):=rfl;generalize placedB ⟨xd,xn,xps,xt⟩ ⟨yd,yn,yps,yt⟩=R at hP ⊢;have q:((i+1:Nat):Int) < (n:Int):=by omega
 have qz:(((i+1:Nat):Int)==0)=false:=by rw [beq_eq_false_iff_ne]; omega
 have hw1:IntKind.i64.wrap (((i+1:Nat):Int) - 1)=(i:Int):=by rw [IntKind.wrap_i64]; omega
 have q2:(i:Int) < (n:Int):=by omega
 have hw2:IntKind.i64.wrap (xd+1)=xd+1:=by rw [IntKind.wrap_i64]; omega
 have hb:Below w.heap.size w (w.alloc (.cells #[.int .i64 xd,.string ⟨xn.toArray⟩,.slice po pn pc,.string ⟨xt.toArray⟩] 49)):=(Below.refl _ w).alloc (Nat.le_refl _) _;generalize hI:((i+1:Nat):Int)=I at q qz hw1 ⊢;have hIn:I.toNat=i+1:=by omega
 have hI0:0≤I:=by omega
 clear hI;have fin:∀ (b1 b2 b3:Bool),decide (1≤yd)=b1 → decide (yd≤xd+1)=b2 → decide (yd < 8)=b3 → R=(!(decide (xd < yd) && !xt.isEmpty) && (b1 && (b2 && b3))):=fun b1 b2 b3 e1 e2 e3=>by rw [hP,e1,e2,e3]
 have HF:=hid fin;clear hP fin;by_cases hA:xd < yd
 ·have hAd:decide (xd < yd)=true:=decide_eq_true hA
  cases hte:xt.isEmpty with
  | false =>
   have HR:Hid (R=false):=show _=_ by rw [HF.out _ _ _ rfl rfl rfl,hAd,hte]; rfl
   clear HF
   go_enter Tryz.func74,Tryz.ntmps74
   go_wp2;go_ret;exact ⟨ret_bool HR.out.symm,hb⟩
  | true =>
   have HF2:Hid (R=(decide (1≤yd) && (decide (yd≤xd+1) && decide (yd < 8)))):=show _=_ by rw [HF.out _ _ _ rfl rfl rfl,hAd,hte]; rfl
   clear HF;by_cases h1:1≤yd
   ·by_cases h2:yd≤xd+1
    ·by_cases h3:yd < 8
     ·have HR:Hid (R=true):=show _=_ by rw [HF2.out,decide_eq_true h1,decide_eq_true h2,decide_eq_true h3]; rfl
      clear HF2
      go_enter Tryz.func74,Tryz.ntmps74
      go_wp2;go_ret;exact ⟨ret_bool (by first | (rw [HR.out]; done) | (rw [HR.out]; simp [*]; done) | (rw [HR.out]; simp [*]; omega)),hb⟩
     ·have HR:Hid (R=false):=show _=_ by rw [HF2.out,decide_eq_false h3]; simp
      clear HF2
      go_enter Tryz.func74,Tryz.ntmps74
      go_wp2;go_ret;exact ⟨ret_bool (by first | (rw [HR.out]; done) | (rw [HR.out]; simp [*]; done) | (rw [HR.out]; simp [*]; omega)),hb⟩
    ·have HR:Hid (R=false):=show _=_ by rw [HF2.out,decide_eq_false h2]; simp
     clear HF2
     go_enter Tryz.func74,Tryz.ntmps74
     go_wp2;go_ret;exact ⟨ret_bool (by first | (rw [HR.out]; done) | (rw [HR.out]; simp [*]; done) | (rw [HR.out]; simp [*]; omega)),hb⟩
   ·have HR:Hid (R=false):=show _=_ by rw [HF2.out,decide_eq_false h1]; simp
    clear HF2
    go_enter Tryz.func74,Tryz.ntmps74
    go_wp2;go_ret;exact ⟨ret_bool (by first | (rw [HR.out]; done) | (rw [HR.out]; simp [*]; done) | (rw [HR.out]; simp [*]; omega)),hb⟩
 ·have hAd:decide (xd < yd)=false:=decide_eq_false hA;have HF2:Hid (R=(decide (1≤yd) && (decide (yd≤xd+1) && decide (yd < 8)))):=show _=_ by rw [HF.out _ _ _ rfl rfl rfl,hAd]; rfl
  clear HF;by_cases h1:1≤yd
  ·have h2:yd≤xd+1:=by omega
   have h3:yd < 8:=by omega
   have HR:Hid (R=true):=show _=_ by rw [HF2.out,decide_eq_true h1,decide_eq_true h2,decide_eq_true h3]; rfl
   clear HF2
   go_enter Tryz.func74,Tryz.ntmps74
   go_wp2;go_ret;exact ⟨ret_bool (by first | (rw [HR.out]; done) | (rw [HR.out]; simp [*]; done) | (rw [HR.out]; simp [*]; omega)),hb⟩
  ·have HR:Hid (R=false):=show _=_ by rw [HF2.out,decide_eq_false h1]; simp
   clear HF2
   go_enter Tryz.func74,Tryz.ntmps74
   go_wp2;go_ret;exact ⟨ret_bool (by first | (rw [HR.out]; done) | (rw [HR.out]; simp [*]; done) | (rw [HR.out]; simp [*]; omega)),hb⟩
def okK (cs:List NdC) (m:Nat) (h:m < cs.length):Prop:=(m=0 → cs[m].nd.deep=0)∧(∀ h2:0 < m,placedB (cs[m - 1]'(by omega)).nd cs[m].nd=true)∧nodeOk cs[m].nd=true
theorem placedB_iff (x y:Nd):placedB x y=true ↔ (x.deep < y.deep → x.text=[])∧1≤y.deep∧y.deep≤x.deep+1∧y.deep < 8:=by
 unfold placedB;simp only [Bool.and_eq_true,Bool.not_eq_true',Bool.and_eq_false_iff,decide_eq_true_eq,decide_eq_false_iff_not,Bool.not_eq_false',List.isEmpty_iff]
 constructor
 ·rintro ⟨h1,h2,h3,h4⟩;exact ⟨fun h=>h1.resolve_left (fun k=>k h),h2,h3,h4⟩
 ·rintro ⟨h1,h2,h3,h4⟩;refine ⟨?_,h2,h3,h4⟩
  by_cases h:x.deep < y.deep
  ·exact .inr (h1 h)
  ·exact .inl h
theorem okK_all {cs:List NdC} (hp:0 < cs.length) (h200:cs.length≤200) (h:∀ m (hm:m < cs.length),okK cs m hm):checkX (ndsL cs)=0:=by
 refine chk_ok hp h200 ((h 0 hp).1 rfl) fun i hi=>?_
 refine ⟨fun h0=>?_,(h i hi).2.2,fun h2 hd=>?_⟩
 ·have:=(placedB_iff _ _).1 ((h i hi).2.1 h0)
  exact ⟨this.2.1,this.2.2.1⟩
 ·have:=(placedB_iff _ _).1 ((h (i+1) h2).2.1 (by omega))
  simp only [Nat.add_sub_cancel] at this;exact this.1 hd
theorem okK_node {cs:List NdC} {m:Nat} (hm:m < cs.length) (h:nodeOk cs[m].nd=false):checkX (ndsL cs)=130:=chk_bad hm fun hk=>by
 rw [hk.2.1] at h; cases h
theorem okK_place {cs:List NdC} {m:Nat} (hm:m+1 < cs.length) (h:placedB cs[m].nd cs[m+1].nd=false):checkX (ndsL cs)=130:=by
 by_cases h1:1≤cs[m+1].nd.deep∧cs[m+1].nd.deep≤cs[m].nd.deep+1
 ·by_cases h2:cs[m+1].nd.deep < 8
  ·refine chk_bad (i:=m) (by omega) fun hk=>?_
   have:placedB cs[m].nd cs[m+1].nd=true:=(placedB_iff _ _).2 ⟨fun hd=>hk.2.2 hm hd,h1.1,h1.2,h2⟩
   rw [this] at h; cases h
  ·exact chk_bad hm fun hk=>h2 (node_facts hk.2.1).1
 ·exact chk_bad hm fun hk=>h1 (hk.1 (by omega))
set_option maxHeartbeats 4000000 in
set_option maxRecDepth 100000 in
theorem xcheck_any (v:Value) (cs:List NdC) (w:World) (hz:cs.length≤140737488355328) (hsm:∀ c ∈ cs,SmallN 140737488355328 c.nd) (hv:NdsAt w v cs) :
  Calls Tryz.prog 38 #[v] w fun e w'=>e=.returned (.int .i64 (checkX (ndsL cs)))∧Below w.heap.size w w':=by
 obtain ⟨ao,cap,rfl,hc⟩:=hv;have HC:=hid hc;have HS:=hid hsm;clear hc hsm;by_cases h0:cs.length < 1∨200 < cs.length
 ·have hR:=hid (chk_size h0);generalize checkX (ndsL cs)=R at hR ⊢;obtain ⟨n,hn⟩:∃ n,n=cs.length:=⟨_,rfl⟩
  rw [← hn] at h0 hz ⊢;clear HC HS hn;by_cases h1:n < 1
  ·have r1:((n:Int)==0)=true:=by rw [beq_iff_eq]; omega
   go_enter Tryz.func38,Tryz.ntmps38
   go_wp2;go_ret;exact ⟨ret_int hR.out.symm,Below.refl _ _⟩
  ·have r1:((n:Int)==0)=false:=by rw [beq_eq_false_iff_ne]; omega
   have r2:(200:Int) < (n:Int):=by omega
   go_enter Tryz.func38,Tryz.ntmps38
   go_wp2;go_ret;exact ⟨ret_int hR.out.symm,Below.refl _ _⟩
 have hp:0 < cs.length:=by omega
 have h200:cs.length≤200:=by omega
 obtain ⟨ad,hao,hab,_,_⟩:=HC.out 0 hp;subst hao;have HA:=hid (@okK_all cs hp h200);have HN:=hid (fun m (hm:m < cs.length)=>@okK_node cs m hm);have HP:=hid (fun m (hm:m+1 < cs.length)=>@okK_place cs m hm);have HH:=hid (@chk_head cs hp);generalize checkX (ndsL cs)=R at HA HN HP HH ⊢;obtain ⟨n,hn⟩:∃ n,n=cs.length:=⟨_,rfl⟩
 rw [← hn] at h200 hz ⊢;have HL:=hid hn;have r1:((n:Int)==0)=false:=by rw [beq_eq_false_iff_ne]; omega
 have r2:¬ (200:Int) < (n:Int):=by omega
 clear h0 hn
 go_enter Tryz.func38,Tryz.ntmps38
 go_wp2
 go_loopw [15] (fun i wr=>∃ (j:Nat),j≤n∧i=.int .i64 j∧Below w.heap.size w wr∧Hid (∀ m (hm:m < cs.length),m < j → okK cs m hm)) (fun i _=>n - (intOf i).toNat)
 case atStart=>exact ⟨0,Nat.zero_le _,rfl,Below.refl _ _,fun m _ hm=>by omega⟩
 case round =>
  obtain ⟨j,hjn,rfl,hb,ha⟩:=hrel;by_cases hlt:j < n
  ·have hj1:j < cs.length:=by have:=HL.out; omega
   obtain ⟨ad2,hao,hab2,cN,pa⟩:=HC.out j hj1;have ead:ad2=ad:=(Option.some.inj hao).symm;subst ead;obtain ⟨s1,s2,s3,s4⟩:=HS.out cs[j] (List.getElem_mem hj1);have cN':=cN.below hb hab2;have q6:(j:Int) < (n:Int):=by omega
   obtain ⟨po,pc,hpf⟩:=pa.form;have hrow:=rc_row4 wr (.int .i64 cs[j].nd.deep) (.string ⟨cs[j].nd.name.toArray⟩) cs[j].a (.string ⟨cs[j].nd.text.toArray⟩) 49;have hbn:Below w.heap.size w (wr.alloc (.cells #[.int .i64 cs[j].nd.deep,.string ⟨cs[j].nd.name.toArray⟩,cs[j].a,.string ⟨cs[j].nd.text.toArray⟩] 49)):=hb.alloc hb.size _;have hltn:=alloc_lt wr (.cells #[.int .i64 cs[j].nd.deep,.string ⟨cs[j].nd.name.toArray⟩,cs[j].a,.string ⟨cs[j].nd.text.toArray⟩] 49)
   have hpl:∃ pb:Bool,(pb=false → R=130)∧(pb=true → (j=0 → cs[j].nd.deep=0)∧(∀ h2:0 < j,placedB (cs[j - 1]'(by omega)).nd cs[j].nd=true)∧cs[j].nd.deep < 8)∧∀ w',Below w.heap.size w w' → Calls Tryz.prog 74 #[.slice (some ad2) n cap,.int .i64 (j:Int)] w' fun e w''=>e=.returned (.bool pb)∧Below w'.heap.size w' w'':=by
    by_cases hj0:j=0
    ·subst hj0;refine ⟨cs[0].nd.deep==0,fun h=>HH.out (by simpa using h),fun h=>⟨fun _=>by simpa using h,fun h2=>absurd h2 (by omega),?_⟩,fun w' hw'=>xplaced_first ad2 n cap cs[0] w' (by omega) (cN.below hw' hab2)⟩
     have:cs[0].nd.deep=0:=by simpa using h
     omega
    ·obtain ⟨i,rfl⟩:∃ i,j=i+1:=⟨j - 1,by omega⟩
     obtain ⟨ad3,hao3,hab3,cP,pP⟩:=HC.out i (by omega);have ead3:ad3=ad2:=(Option.some.inj hao3).symm;subst ead3;have hk:=ha.out i (by omega) (by omega);obtain ⟨_,_,_,t4⟩:=HS.out cs[i] (List.getElem_mem _);obtain ⟨qo,qc,hqf⟩:=pP.form;refine ⟨placedB cs[i].nd cs[i+1].nd,fun h=>HP.out i hj1 h,fun h=>⟨fun h2=>by omega,fun _=>h,((placedB_iff _ _).1 h).2.2.2⟩,fun w' hw'=>xplaced_next ad3 n cap i cs[i] cs[i+1] w' (by omega) (by have:=HL.out; omega) (cP.below hw' hab2) (cN.below hw' hab2) ⟨qo,_,qc,hqf⟩ (node_facts hk.2.2).1 (i64_of t4).1⟩
   obtain ⟨pb,hpb1,hpb2,KP'⟩:=hpl;have KP:=hid KP';have HP1:=hid hpb1;have HNj:=hid (HN.out j hj1)
   have HAj:Hid (pb=true → nodeOk cs[j].nd=true → ∀ m (hm:m < cs.length),m < j+1 → okK cs m hm):=fun h1 h2 m hm hmj=>by
    by_cases hq:m < j
    ·exact ha.out m hm hq
    ·have:m=j:=by omega
     subst this;exact ⟨(hpb2 h1).1,(hpb2 h1).2.1,h2⟩
   have HD8:Hid (pb=true → cs[j].nd.deep < 8):=fun h=>(hpb2 h).2.2;have KN:=hid (fun w'=>xname_list cs[j].nd.name w' s1);have KT:=hid (fun w'=>xtext_any cs[j].nd.text w' s2);have KA:=hid (fun w' (h':ParsAt w' cs[j].a cs[j].nd.attrs)=>xattrs_any cs[j].a cs[j].nd.attrs w' s3 h');have HPA:=hid pa;have hok:nodeOk cs[j].nd=(decide (cs[j].nd.deep < 8) && (nameX cs[j].nd.name && (attrsOk cs[j].nd.attrs && (signsX cs[j].nd.text && xtrim cs[j].nd.text==cs[j].nd.text)))):=rfl;clear hpb1 hpb2 KP' HN HP HC HS s1 s2 s3 s4 ha pa cN HH;generalize cs[j]=c at hrow hbn hltn HNj HAj KN KT KA HPA hok cN' HD8 hpf;obtain ⟨⟨cd,cn,ca,ct⟩,cv⟩:=c;simp only at hrow hbn hltn HNj HAj KN KT KA HPA hok HD8 hpf;subst hpf;obtain ⟨c0,c1,c2,c3⟩:=cN';simp only at c0 c1 c2 c3;generalize (signsX ct && xtrim ct==ct)=tb at KT hok
   cases pb with
   | false =>
    have hR:=hid (HP1.out rfl);clear hok HNj HAj HD8;go_wp2_with fail
    clear c0 c1 c2 c3;generalize World.alloc _ _=W0 at hrow hbn hltn ⊢;refine (KP.out _ hbn).mono ?_
    rintro e w2 ⟨rfl,hw2⟩;go_wp2;go_ret;exact ⟨ret_int hR.out.symm,hbn.trans (hw2.mono hbn.size)⟩
   | true =>
    rw [decide_eq_true (HD8.out rfl),Bool.true_and] at hok;have HA2:=hid (HAj.out rfl)
    cases hnm:nameX cn with
    | false =>
     have hR:=hid (HNj.out (by rw [hok,hnm]; rfl));rw [hnm] at KN;clear hok HNj HAj HD8 HA2 hnm HP1;go_wp2_with fail
     clear c0 c1 c2 c3;generalize World.alloc _ _=W0 at hrow hbn hltn ⊢;refine (KP.out _ hbn).mono ?_
     rintro e w2 ⟨rfl,hw2⟩;obtain ⟨d0,d1,d2,d3,_,_,_,_⟩:=(hrow.below hw2 hltn).rc4;go_wp2_with fail
     refine (KN.out _).mono ?_
     rintro e w2 ⟨rfl,rfl⟩;go_wp2;go_ret;exact ⟨ret_int hR.out.symm,hbn.trans (hw2.mono hbn.size)⟩
    | true =>
     rw [hnm,Bool.true_and] at hok;rw [hnm] at KN;clear hnm
     cases hat:attrsOk ca with
     | false =>
      have hR:=hid (HNj.out (by rw [hok,hat]; rfl));rw [hat] at KA;clear hok HNj HAj HD8 HA2 hat HP1;go_wp2_with fail
      clear c0 c1 c2 c3;generalize World.alloc _ _=W0 at hrow hbn hltn ⊢;refine (KP.out _ hbn).mono ?_
      rintro e w2 ⟨rfl,hw2⟩;obtain ⟨d0,d1,d2,d3,_,_,_,_⟩:=(hrow.below hw2 hltn).rc4;have hb2:=hbn.trans (hw2.mono hbn.size);go_wp2_with fail
      refine (KN.out _).mono ?_
      rintro e w2 ⟨rfl,rfl⟩;go_wp2_with fail
      refine (KA.out _ (HPA.out.below hb2)).mono ?_
      rintro e w3 ⟨rfl,hw3⟩;go_wp2;go_ret;exact ⟨ret_int hR.out.symm,hb2.trans (hw3.mono hb2.size)⟩
     | true =>
      rw [hat,Bool.true_and] at hok;rw [hat] at KA;clear hat
      cases tb with
      | false =>
       have hR:=hid (HNj.out hok);clear hok HNj HAj HD8 HA2 HP1;go_wp2_with fail
       clear c0 c1 c2 c3;generalize World.alloc _ _=W0 at hrow hbn hltn ⊢;refine (KP.out _ hbn).mono ?_
       rintro e w2 ⟨rfl,hw2⟩;have hrow2:=hrow.below hw2 hltn;obtain ⟨d0,d1,d2,d3,_,_,_,_⟩:=hrow2.rc4;have hb2:=hbn.trans (hw2.mono hbn.size);go_wp2_with fail
       refine (KN.out _).mono ?_
       rintro e w2 ⟨rfl,rfl⟩;go_wp2_with fail
       refine (KA.out _ (HPA.out.below hb2)).mono ?_
       rintro e w3 ⟨rfl,hw3⟩;obtain ⟨g0,g1,g2,g3,_,_,_,_⟩:=(hrow2.below hw3 (Nat.lt_of_lt_of_le hltn hw2.size)).rc4;have hb3:=hb2.trans (hw3.mono hb2.size);go_wp2_with fail
       refine (KT.out _).mono ?_
       rintro e w4 ⟨rfl,hw4⟩;go_wp2;go_ret;exact ⟨ret_int hR.out.symm,hb3.trans (hw4.mono hb3.size)⟩
      | true =>
       have hN:=hid (HA2.out hok);clear hok HNj HAj HD8 HA2 HP1;go_wp2_with fail
       clear c0 c1 c2 c3;generalize World.alloc _ _=W0 at hrow hbn hltn ⊢;refine (KP.out _ hbn).mono ?_
       rintro e w2 ⟨rfl,hw2⟩;have hrow2:=hrow.below hw2 hltn;obtain ⟨d0,d1,d2,d3,_,_,_,_⟩:=hrow2.rc4;have hb2:=hbn.trans (hw2.mono hbn.size);go_wp2_with fail
       refine (KN.out _).mono ?_
       rintro e w2 ⟨rfl,rfl⟩;go_wp2_with fail
       refine (KA.out _ (HPA.out.below hb2)).mono ?_
       rintro e w3 ⟨rfl,hw3⟩;obtain ⟨g0,g1,g2,g3,_,_,_,_⟩:=(hrow2.below hw3 (Nat.lt_of_lt_of_le hltn hw2.size)).rc4;have hb3:=hb2.trans (hw3.mono hb2.size);go_wp2_with fail
       refine (KT.out _).mono ?_
       rintro e w4 ⟨rfl,hw4⟩;go_wp2;go_roundw
       case rel=>exact ⟨j+1,by omega,by go_num,hb3.trans (hw4.mono hb3.size),hN⟩
       case measure=>simp [intOf]; omega
  ·have hE:Hid (R=0):=HA.out fun m hm=>ha.out m hm (by have:=HL.out; omega);clear ha;go_wp2;go_ret;exact ⟨ret_int hE.out.symm,hb⟩
theorem catch_idle (p q:Addr) (w:World) :
  CallsD Tryz.prog 66 #[.pointer (some p),.pointer (some q)] .returning w fun e u' w'=>e=.returned (.tuple #[])∧u'=.returning∧w'=w:=by
 have hnil:∀ w:World,(binOp BinOp.eql 20 .nilIface .nilIface).run Tryz.prog w=.ok (.bool true) w:=fun _=>by kernel_rfl
 refine callsD_of_wpS Tryz.func66 rfl fun c₀ cs hu=>?_
 apply wpS_seq
 apply wpS_region
 simp [wpOpsS,go_sem,recoverD,hu,Tryz.ntmps66,Exit.thenS]
 refine wpS_of_wp ?_
 go_wp2
 cases c₀
 simp_all [bodyPostS,results,Tryz.results66,Exit.thenS]
theorem catch_panic (p q:Addr) (vp vq:Value) (older:List PanicEntry) (w:World) (hp:w.cell? p=some vp) (fp:w.frozen? p=false) (hq:(w.setCell p (.slice none 0 0)).cell? q=some vq) (fq:(w.setCell p (.slice none 0 0)).frozen? q=false) :
  CallsD Tryz.prog 66 #[.pointer (some p),.pointer (some q)] (.panicking ({ v:=.iface 27 (.int .i64 130),recovered:=false } :: older)) w fun e u' w'=>e=.returned (.tuple #[])∧u'=.panicking ({ v:=.iface 27 (.int .i64 130),recovered:=true } :: older)∧w'=(w.setCell p (.slice none 0 0)).setCell q (.int .i64 130):=by
 have hnil:∀ w:World,(binOp BinOp.eql 20 (.iface 27 (.int .i64 130)) .nilIface).run Tryz.prog w=.ok (.bool false) w:=fun _=>by kernel_rfl
 have hta:∀ w:World,(Instr.typeAssert (.iface 27 (.int .i64 130)) 20 27 true).run Tryz.prog w=.ok (.tuple #[.int .i64 130,.bool true]) w:=fun _=>by kernel_rfl
 refine callsD_of_wpS Tryz.func66 rfl fun c₀ cs hu=>?_
 apply wpS_seq
 apply wpS_region
 simp [wpOpsS,go_sem,recoverD,hu,Tryz.ntmps66,Exit.thenS]
 refine wpS_of_wp ?_
 go_wp2
 cases c₀
 simp_all [bodyPostS,results,Tryz.results66,Exit.thenS]
def headC (s:List UInt8):Option (List UInt8) :=
 if preX [60,63,120,109,108] s=true then (match upP (·==63) (s.drop 5) with
  | none=>none
  | some (_,r)=>if preX [63,62] r=false then none else some (r.drop 2)) else some s
def bodyC (s:List UInt8):Option (List Nd):=match elemC (s.length+1) 0 (s.dropWhile xblk) with
 | none=>none
 | some (l,r)=>if (r.dropWhile xblk).isEmpty=false then none else if checkX l=0 then some l else none
def docC (s:List UInt8):Option (List Nd):=match headC s with
 | none=>none
 | some r=>bodyC r
theorem headC_len {s r:List UInt8} (h:headC s=some r):r.length≤s.length:=by
 unfold headC at h
 split at h
 ·split at h
  ·cases h
  ·next x y hu =>
   obtain ⟨c,q,hq,_,hl⟩:=up_head hu
   split at h
   ·cases h
   ·simp only [Option.some.injEq] at h;rw [← h]
    simp at *
    omega
 ·simp only [Option.some.injEq] at h;rw [← h]; exact Nat.le_refl _
def DocP (o:Option (List Nd)) (b B:Nat) (v:Value) (w:World) (e:Ending) (w':World):Prop:=match o with
 | none=>e=gaveUp∧FrX b v w (.slice none 0 0) w'
 | some ns=>∃ v' cs',e=.returned v'∧ndsL cs'=ns∧OwnN w' B v' cs'∧FrX b v w v' w'
theorem drop_nd {cs:List NdC} {k:Nat} {x:Nd} {r:List Nd} (h:(ndsL cs).drop k=x :: r):∃ h:k < cs.length,cs[k].nd=x∧(ndsL cs).drop (k+1)=r:=by
 have hk:k < (ndsL cs).length:=by
  apply Classical.byContradiction
  intro hk;rw [List.drop_eq_nil_of_le (by omega)] at h; cases h
 have e:=List.drop_eq_getElem_cons hk;rw [h] at e;simp only [List.cons.injEq] at e;refine ⟨by rw [ndsL_len] at hk; exact hk,?_,e.2.symm⟩
 rw [e.1]; simp [ndsL]
theorem drop_more {cs:List NdC} {k:Nat} {a r:List Nd} (h:(ndsL cs).drop k=a++r):(ndsL cs).drop (k+a.length)=r:=by
 rw [← List.drop_drop,h,List.drop_left]
theorem attrsT_snoc {ps:List Par} {k:Nat} (h:k < ps.length):attrsT (ps.take (k+1))=attrsT (ps.take k)++attrT ps[k]:=by
 rw [List.take_succ_eq_append_getElem h];unfold attrsT;rw [List.flatMap_append,List.flatMap_singleton]
theorem printXs_app (a b:List XT):printXs (a++b)=printXs a++printXs b:=by
 induction a with
 | nil=>rfl
 | cons x a ih=>rw [List.cons_append,printXs,printXs,ih,List.append_assoc]
theorem flatXs_app (d:Nat) (a b:List XT):flatXs d (a++b)=flatXs d a++flatXs d b:=by
 induction a with
 | nil=>rfl
 | cons x a ih=>rw [List.cons_append,flatXs,flatXs,ih,List.append_assoc]
theorem flat_head (d:Nat) (t:XT):∃ x r,flatX d t=x :: r∧x.deep=d:=by
 obtain ⟨n,a,tx,k⟩:=t;exact ⟨_,_,by rw [flatX],rfl⟩
theorem post_head {d:Nat} {ks:List XT} {post:List Nd} (h:∀ x,post.head? = some x → x.deep≤(d:Int)):∀ x,(flatXs (d+1) ks++post).head? = some x → x.deep≤((d+1:Nat):Int):=by
 intro x hx
 cases ks with
 | nil=>rw [flatXs,List.nil_append] at hx; have:=h x hx; omega
 | cons k ks =>
  obtain ⟨y,r,e,hy⟩:=flat_head (d+1) k;rw [flatXs,e] at hx
  simp at hx
  subst hx; omega
theorem sz_in {n:List UInt8} {a:List Par} {t:List UInt8} {ks done rest:List XT} {k:XT} {N:Nat} (h:szX (.mk n a t ks)≤N+1) (e:ks=done++k :: rest):szX k≤N:=by
 have key:∀ l:List XT,szX k≤szXs (l++k :: rest):=fun l=>by
  induction l with
  | nil=>rw [List.nil_append,szXs]; omega
  | cons x l ih=>rw [List.cons_append,szXs]; omega
 have:=key done
 rw [szX,e] at h;omega
theorem attrT_len (p:Par):(attrT p).length=4+p.name.length+(escX p.value).length:=by unfold attrT; simp; omega
theorem attrsT_len {ps:List Par} {j:Nat} (h:j < ps.length):(attrsT (ps.take j)).length+(attrT ps[j]).length≤(attrsT ps).length:=by
 have e:=List.take_append_drop (j+1) ps
 have h1:attrsT ps=attrsT (ps.take (j+1))++attrsT (ps.drop (j+1)):=by
  conv=>lhs; rw [← e]
  unfold attrsT; rw [List.flatMap_append]
 rw [h1,attrsT_snoc h,List.length_append,List.length_append]; omega
theorem print_nil {nm:List UInt8} {ps:List Par} {tx:List UInt8} {ks:List XT} (h:escX tx++printXs ks=[]):printX (.mk nm ps tx ks)=[60]++nm++attrsT ps++[47,62]:=by
 rw [printX,if_pos h]
theorem print_in {nm:List UInt8} {ps:List Par} {tx:List UInt8} {ks:List XT} (h:escX tx++printXs ks ≠ []):printX (.mk nm ps tx ks)=[60]++nm++attrsT ps++([62]++(escX tx++printXs ks)++([60,47]++nm++[62])):=by
 rw [printX,if_neg h]
theorem print_len (nm:List UInt8) (ps:List Par) (tx:List UInt8) (ks:List XT):3+nm.length+(attrsT ps).length+(escX tx).length+(printXs ks).length≤(printX (.mk nm ps tx ks)).length:=by
 by_cases h:escX tx++printXs ks=[]
 ·rw [print_nil h]
  have:=congrArg List.length h
  simp at this ⊢
  simp [this]; omega
 ·rw [print_in h]
  simp; omega
end Go.Proofs.YtdbalahkmeknaaaGreatDoor
