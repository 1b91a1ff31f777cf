/-
  RXL, XSmall, RX1, RX2, XName, RX3, RefTexts, RX4, PR3, PR7.
-/
import Derived.Test.YtdnekampnkhmfaaGreatDoorPM13
import Derived.Lib.Builder
set_option linter.unusedVariables false
set_option linter.unusedSimpArgs false
set_option maxRecDepth 20000
namespace Go.Proofs.YtdnekampnkhmfaaGreatDoor
open Go.RowKit Sc
section
variable {p : UInt8 → Bool} {l : List UInt8} {k : Nat}
theorem run_le (hk:k≤l.length):k≤runL p l k∧runL p l k≤l.length:=by
 unfold runL;have h1:((l.drop k).takeWhile p).length≤(l.drop k).length:=by
  have:=congrArg List.length (List.takeWhile_append_dropWhile (p:=p) (l:=l.drop k))
  rw [List.length_append] at this; omega
 rw [List.length_drop] at h1;omega
theorem run_drop:l.drop (runL p l k)=(l.drop k).dropWhile p:=by
 unfold runL;rw [← List.drop_drop];have h:=List.takeWhile_append_dropWhile (p:=p) (l:=l.drop k);generalize (l.drop k).takeWhile p=a at h ⊢;generalize (l.drop k).dropWhile p=b at h ⊢;rw [← h]; exact List.drop_left
theorem run_take:(l.drop k).take (runL p l k - k)=(l.drop k).takeWhile p:=by
 unfold runL;rw [Nat.add_sub_cancel_left];have h:=List.takeWhile_append_dropWhile (p:=p) (l:=l.drop k);generalize (l.drop k).takeWhile p=a at h ⊢;generalize (l.drop k).dropWhile p=b at h;rw [← h]; exact List.take_left
end
mutual
theorem elemC_small (K:Nat):∀ (n d:Nat) (s:List UInt8) (l:List Nd) (r:List UInt8),d+s.length≤K → elemC n d s=some (l,r) → ∀ x ∈ l,SmNd K x
 | 0,_,_,_,_,_,h=>by rw [elemC] at h; cases h
 | n+1,d,s,l,r,hk,h=>by
  rw [elemC] at h
  split at h
  ·cases h
  ·next h1 =>
   have h1':preX [60] s=true:=by simpa using h1
   have hp:=pre_len h1';simp only [List.length_cons,List.length_nil] at hp;have hd1:(s.drop 1).length=s.length - 1:=by rw [List.length_drop]
   split at h
   ·cases h
   ·next nm r1 hu =>
    obtain ⟨c,q,hq,_,hlq⟩:=up_head hu
    split at h
    ·cases h
    ·next ps r2 ha =>
     have hsm:=attrsC_small K _ _ _ _ _ ⟨by simp; omega,fun p hp=>by simp at hp⟩ ha;have ha':=attrsC_len _ _ _ _ _ ha
     split at h
     ·simp only [Option.some.injEq,Prod.mk.injEq] at h;rw [← h.1];intro x hx
      simp at hx
      subst hx;exact ⟨by simp only; omega,by simp,by have:=hsm.1; simp only; omega,hsm.2,by simp only; omega,by simp only; omega⟩
     ·split at h
      ·cases h
      ·split at h
       ·cases h
       ·next x y hu2 =>
        obtain ⟨c2,q2,hq2,_,hlq2⟩:=up_head hu2;have hd2:(r2.drop 1).length=r2.length - 1:=by rw [List.length_drop]
        have hql:1≤r1.length:=by rw [hq]; simp
        split at h
        ·cases h
        ·next t ks r3 hi =>
         have hin:=innC_small K n _ _ _ _ _ _ _ (by omega) (by omega) (fun x hx=>by simp at hx) hi
         cases hc:closeC nm r3 with
         | none=>rw [hc] at h; cases h
         | some r4 =>
          rw [hc] at h;simp only [Option.map_some,Option.some.injEq,Prod.mk.injEq] at h;rw [← h.1];intro z hz
          rcases List.mem_cons.1 hz with hz | hz
          ·subst hz;exact ⟨by simp only; omega,hin.1,by have:=hsm.1; simp only; omega,hsm.2,by simp only; omega,by simp only; omega⟩
          ·exact hin.2 z hz
theorem innC_small (K:Nat):∀ (n d:Nat) (txt:List UInt8) (ks:List Nd) (s t:List UInt8) (l:List Nd) (r:List UInt8),d+s.length≤K → txt.length+s.length≤K → (∀ x ∈ ks,SmNd K x) → innC n d txt ks s=some (t,l,r) → t.length≤K∧∀ x ∈ l,SmNd K x
 | 0,_,_,_,_,_,_,_,_,_,_,h=>by rw [innC] at h; cases h
 | n+1,d,txt,ks,s,t,l,r,hk,ht,hks,h=>by
  rw [innC] at h
  split at h
  ·cases hv:readX (xtrim txt) with
   | none=>rw [hv] at h; cases h
   | some u =>
    have h1:=readX_len hv;have h2:=xtrim_len txt;rw [hv] at h;simp only [Option.map_some,Option.some.injEq,Prod.mk.injEq] at h;obtain ⟨rfl,rfl,rfl⟩:=h;exact ⟨by omega,hks⟩
  ·split at h
   ·cases h
   ·next k2 r1 he =>
    have h1:=elemC_len n _ _ _ _ he;have h2:=elemC_small K n _ _ _ _ hk he
    split at h
    ·cases h
    ·next x y hu =>
     obtain ⟨c,q,hq,_,hlq⟩:=up_head hu;refine innC_small K n _ _ _ _ _ _ _ (by omega) (by rw [List.length_append]; omega) (fun z hz=>?_) h
     rcases List.mem_append.1 hz with hz | hz
     ·exact hks z hz
     ·exact h2 z hz
end
theorem SmNd.small {K:Nat} {x:Nd} (h:SmNd K x) (hK:K≤100000):SmallN 140737488355328 x:=by
 obtain ⟨h1,h2,h3,h4,h5,h6⟩:=h;refine ⟨by omega,by omega,⟨by omega,fun p hp=>?_⟩,?_⟩
 ·have:=h4 p hp; omega
 ·simp [Lit.wf,IntKind.min,IntKind.max,IntKind.signed,IntKind.bits]
  omega
theorem hasX (b:UInt8):hasL b [32,9,13,10]=xblk b:=by
 simp only [hasL,xblk,List.contains_cons,List.contains_nil,Bool.or_false]
theorem hasX_of {c:UInt8} {b:Bool} (h:xblk c=b) (w:World) :
  Calls Tryz.prog 81 #[.string ⟨#[32,9,13,10]⟩,.int .u8 c.toNat] w fun e w'=>e=.returned (.bool b)∧w'=w:=by
 have k:=has3_any ⟨#[32,9,13,10]⟩ c w (by decide);have e:hasL c (⟨#[32,9,13,10]⟩:ByteArray).data.toList=b:=by rw [← h]; exact hasX c
 rw [e] at k; exact k
theorem has_of {s:ByteArray} {c:UInt8} {b:Bool} (h:hasL c s.data.toList=b) (hs:s.size≤140737488355328) (w:World) :
  Calls Tryz.prog 81 #[.string s,.int .u8 c.toNat] w fun e w'=>e=.returned (.bool b)∧w'=w:=by
 have k:=has3_any s c w (by unfold maxLen; omega);rw [h] at k; exact k
theorem getB (s:ByteArray) (k:Nat) (h:k < s.size):s.data.toList[k]'(by rw [len_data]; exact h)=s[k]:=by
 have:=getL s k h
 rw [List.getElem?_eq_getElem (by rw [len_data]; exact h)] at this;exact Option.some.inj this
theorem hasN (b:UInt8):hasL b [45,46,58]=(b==45 || (b==46 || b==58)):=by
 simp only [hasL,List.contains_cons,List.contains_nil,Bool.or_false]
theorem hasN_of {c:UInt8} {b:Bool} (h:(c==45 || (c==46 || c==58))=b) (w:World) :
  Calls Tryz.prog 81 #[.string ⟨#[45,46,58]⟩,.int .u8 c.toNat] w fun e w'=>e=.returned (.bool b)∧w'=w :=
 has_of (s:=⟨#[45,46,58]⟩) (by rw [← h]; exact hasN c) (by decide) w
theorem class_of (c:UInt8) (w:World):Calls Tryz.prog 95 #[.int .u8 c.toNat] w fun e w'=>e=.returned (.int .i64 (cls c.toNat))∧w'=w :=
 refclass_any c.toNat w (u8_bd c).1 (u8_bd c).2
theorem all_snocX (p:UInt8 → Bool) (s:ByteArray) (k:Nat) (h:k < s.size) (ha:(s.data.toList.take k).all p=true) (hp:p s[k]=true):(s.data.toList.take (k+1)).all p=true:=by
 rw [take_snoc s k h,List.all_append,ha]; simp [hp]
theorem all_badX (p:UInt8 → Bool) (s:ByteArray) (k:Nat) (h:k < s.size) (hp:p s[k]=false):s.data.toList.all p=false:=by
 rw [List.all_eq_false];exact ⟨s[k],by rw [← getB s k h]; exact List.getElem_mem _,by simp [hp]⟩
theorem sign_low {b:UInt8} (hx:xblk b=false) (h:b.toNat < 32):signX b=false:=by
 unfold signX; rw [hx]; simp [h]
theorem sign_ok {b:UInt8} (h:¬ b.toNat < 32) (h2:¬ b=127):signX b=true:=by
 unfold signX; simp [h,h2]
theorem name_bad (s:ByteArray) (k:Nat) (h:k < s.size) (hp:namc s[k]=false):nameX s.data.toList=false:=by
 unfold nameX; rw [all_badX _ _ _ h hp]; rfl
theorem name_head (s:ByteArray) (h:0 < s.size) (hp:letX s[0]=false):nameX s.data.toList=false:=by
 unfold nameX
 have:s.data.toList.head? = some s[0]:=by
  rw [List.head?_eq_getElem?,getL s 0 h]
 rw [this]; simp [hp]
theorem name_end (s:ByteArray) (k:Nat) (hk:s.size≤k) (ha:(s.data.toList.take k).all namc=true) (hh:k=0∨∃ h:0 < s.size,letX s[0]=true):nameX s.data.toList=(decide (1≤s.size) && decide (s.size≤64)):=by
 rw [take_all s k hk] at ha;unfold nameX;rw [ha,len_data,Bool.true_and]
 rcases hh with hh | ⟨h,hl⟩
 ·have h0:s.size=0:=by omega
  have:s.data.toList=[]:=List.eq_nil_of_length_eq_zero (by rw [len_data]; exact h0)
  rw [this,h0]; rfl
 ·have:s.data.toList.head? = some s[0]:=by
   rw [List.head?_eq_getElem?,getL s 0 h]
  rw [this];have h1:decide (1≤s.size)=true:=decide_eq_true (by omega);rw [h1]; simp [hl]
set_option maxHeartbeats 2000000 in
set_option maxRecDepth 100000 in
theorem rname_any (s:ByteArray) (w:World) (hs:s.size≤140737488355328) :
  Calls Tryz.prog 116 #[.string s] w fun e w'=>e=.returned (.bool (nameX s.data.toList))∧w'=w:=by
 have HC:=hid class_of;have HE:=hid (name_end s);have HB:=hid (name_bad s);have HH:=hid (name_head s);have HS:=hid (all_snocX namc s);have HR:Hid (∀ k:Nat,k≤s.size → (s.data.toList.take k).all namc=true → (k=0∨∃ h:0 < s.size,letX s[0]=true) → k=s.size → nameX s.data.toList=(decide (1≤s.size) && decide (s.size≤64))):=fun k hk ha hh e=>HE.out k (by omega) ha hh;generalize nameX s.data.toList=R at HE HB HH HR ⊢
 go_enter Tryz.func116,Tryz.ntmps116
 go_wp2
 go_loop [3] (fun i=>∃ k:Nat,k≤s.size∧i=.int .i64 k∧Hid ((s.data.toList.take k).all namc=true)∧Hid (k=0∨∃ h:0 < s.size,letX s[0]=true)) (fun i=>s.size - (intOf i).toNat)
 case atStart=>exact ⟨0,Nat.zero_le _,rfl,show _=_ by simp,show _∨_ from .inl rfl⟩
 case round =>
  obtain ⟨k,hk,rfl,ha,hh⟩:=hrel;by_cases hlt:k < s.size
  ·have hbd:=u8_bd s[k]
   cases hlet:letX s[k] with
   | true =>
    have ha2:Hid ((s.data.toList.take (k+1)).all namc=true):=HS.out k hlt ha.out (by unfold namc; rw [hlet]; rfl);have hh2:Hid (k+1=0∨∃ h:0 < s.size,letX s[0]=true):=show _∨_ by
     rcases hh.out with h | h
     ·subst h; exact .inr ⟨hlt,hlet⟩
     ·exact .inr h
    clear ha hh HE HB HH HS HR
    cases h2:(bits BinOp.and IntKind.i64 (cls s[k].toNat) 2==0) with
    | false =>
     have h2':¬ bits BinOp.and IntKind.i64 (cls s[k].toNat) 2=0:=by simpa using h2
     clear hlet;go_wp2_with (go_at_call 95; refine (HC.out _ _).mono ?_; rintro e w' ⟨rfl,rfl⟩)
     go_round
     case rel=>exact ⟨k+1,by omega,by go_num,ha2,hh2⟩
     case measure=>simp [intOf]; omega
    | true =>
     have h95:((s[k].toNat:Int)==95)=true:=by
      unfold letX isB at hlet;rw [h2] at hlet
      have:s[k]=95:=by simpa using hlet
      rw [this]; rfl
     have h2':bits BinOp.and IntKind.i64 (cls s[k].toNat) 2=0:=by simpa using h2
     clear hlet;go_wp2_with (go_at_call 95; refine (HC.out _ _).mono ?_; rintro e w' ⟨rfl,rfl⟩)
     go_round
     case rel=>exact ⟨k+1,by omega,by go_num,ha2,hh2⟩
     case measure=>simp [intOf]; omega
   | false =>
    have h2:(bits BinOp.and IntKind.i64 (cls s[k].toNat) 2==0)=true:=by
     unfold letX isB at hlet;rw [Bool.or_eq_false_iff] at hlet
     simpa using hlet.1
    have h2':bits BinOp.and IntKind.i64 (cls s[k].toNat) 2=0:=by simpa using h2
    have h95:((s[k].toNat:Int)==95)=false:=by
     have:(s[k]==95)=false:=by unfold letX at hlet; rw [Bool.or_eq_false_iff] at hlet; exact hlet.2
     have h3:¬ s[k]=95:=by simpa using this
     exact u8_ne (b:=95) h3
    by_cases h0:k=0
    ·have hR:Hid (R=false):=show _=_ from HH.out (by omega) (by subst h0; exact hlet)
     subst h0;clear hlet ha hh HE HB HH HS HR;go_wp2_with (go_at_call 95; refine (HC.out _ _).mono ?_; rintro e w' ⟨rfl,rfl⟩)
     go_ret;exact ⟨ret_bool hR.out.symm,rfl⟩
    ·have hk0:((k:Int)==0)=false:=by simpa using h0
     cases h1:(bits BinOp.and IntKind.i64 (cls s[k].toNat) 1==0) with
     | false =>
      have ha2:Hid ((s.data.toList.take (k+1)).all namc=true):=HS.out k hlt ha.out (by unfold namc isB; rw [hlet,h1]; rfl);have hh2:Hid (k+1=0∨∃ h:0 < s.size,letX s[0]=true):=show _∨_ by
       rcases hh.out with h | h
       ·exact absurd h h0
       ·exact .inr h
      clear hlet ha hh HE HB HH HS HR;go_wp2_with (go_at_call 95; refine (HC.out _ _).mono ?_; rintro e w' ⟨rfl,rfl⟩)
      go_round
      case rel=>exact ⟨k+1,by omega,by go_num,ha2,hh2⟩
      case measure=>simp [intOf]; omega
     | true =>
      cases h3:(s[k]==45 || (s[k]==46 || s[k]==58)) with
      | true =>
       have KH:=hid (fun w'=>hasN_of h3 w');have ha2:Hid ((s.data.toList.take (k+1)).all namc=true):=HS.out k hlt ha.out (by unfold namc isB; rw [hlet,h1,h3]; rfl);have hh2:Hid (k+1=0∨∃ h:0 < s.size,letX s[0]=true):=show _∨_ by
        rcases hh.out with h | h
        ·exact absurd h h0
        ·exact .inr h
       clear hlet ha hh h3 HE HB HH HS HR;go_wp2_with first | (go_at_call 95; refine (HC.out _ _).mono ?_; rintro e w' ⟨rfl,rfl⟩) | (go_at_call 81; refine (KH.out _).mono ?_; rintro e w' ⟨rfl,rfl⟩)
       go_round
       case rel=>exact ⟨k+1,by omega,by go_num,ha2,hh2⟩
       case measure=>simp [intOf]; omega
      | false =>
       have KH:=hid (fun w'=>hasN_of h3 w');have hR:Hid (R=false):=show _=_ from HB.out k hlt (by unfold namc isB; rw [hlet,h1,h3]; rfl)
       clear hlet ha hh h3 HE HB HH HS HR;go_wp2_with first | (go_at_call 95; refine (HC.out _ _).mono ?_; rintro e w' ⟨rfl,rfl⟩) | (go_at_call 81; refine (KH.out _).mono ?_; rintro e w' ⟨rfl,rfl⟩)
       go_ret;exact ⟨ret_bool hR.out.symm,rfl⟩
  ·have hR:=hid (HR.out k hk ha.out hh.out (by omega));clear ha hh HE HB HH HS HR;by_cases q1:1≤s.size
   ·by_cases q2:s.size≤64
    ·have hR2:Hid (R=true):=show _=_ by rw [hR.out]; simp [q1,q2]
     clear hR;go_wp2;go_ret;exact ⟨ret_bool (by rw [hR2.out]; exact decide_eq_true (by omega)),rfl⟩
    ·have hR2:Hid (R=false):=show _=_ by rw [hR.out]; simp [q1,q2]
     clear hR;go_wp2;go_ret;exact ⟨ret_bool (by rw [hR2.out]; exact decide_eq_false (by omega)),rfl⟩
   ·have hR2:Hid (R=false):=show _=_ by rw [hR.out]; simp [q1]
    clear hR;go_wp2;go_ret;exact ⟨ret_bool hR2.out.symm,rfl⟩
set_option maxHeartbeats 2000000 in
set_option maxRecDepth 100000 in
theorem rsigns_any (s:ByteArray) (w:World) (hs:s.size≤140737488355328) :
  Calls Tryz.prog 69 #[.string s] w fun e w'=>e=.returned (.bool (signsX s.data.toList))∧w'=w:=by
 have HS:=hid (all_snocX signX s);have HB:=hid (all_badX signX s);have HT:Hid (∀ k,s.size≤k → (s.data.toList.take k).all signX=true → s.data.toList.all signX=true):=fun k hk ha=>by rw [take_all s k hk] at ha; exact ha
 unfold signsX;generalize s.data.toList.all signX=R at HB HT ⊢
 go_enter Tryz.func69,Tryz.ntmps69
 go_wp2
 go_loop [3] (fun i=>∃ k:Nat,k≤s.size∧i=.int .i64 k∧Hid ((s.data.toList.take k).all signX=true)) (fun i=>s.size - (intOf i).toNat)
 case atStart=>exact ⟨0,Nat.zero_le _,rfl,show _=_ by simp⟩
 case round =>
  obtain ⟨k,hk,rfl,ha⟩:=hrel;by_cases hlt:k < s.size
  ·have hbd:=u8_bd s[k]
   cases hx:xblk s[k] with
   | true =>
    have KH:=hid (fun w'=>hasX_of hx w');have ha2:Hid ((s.data.toList.take (k+1)).all signX=true):=HS.out k hlt ha.out (by unfold signX; rw [hx]; rfl);clear ha HS HB HT hx;go_wp2_with (go_at_call 81; refine (KH.out _).mono ?_; rintro e w' ⟨rfl,rfl⟩)
    go_round
    case rel=>exact ⟨k+1,by omega,by go_num,ha2⟩
    case measure=>simp [intOf]; omega
   | false =>
    have KH:=hid (fun w'=>hasX_of hx w');by_cases h32:(s[k].toNat:Int) < 32
    ·have hR:Hid (R=false):=show _=_ from HB.out k hlt (sign_low hx (by omega))
     clear ha HS HB HT hx;go_wp2_with (go_at_call 81; refine (KH.out _).mono ?_; rintro e w' ⟨rfl,rfl⟩)
     go_ret;exact ⟨ret_bool hR.out.symm,rfl⟩
    ·by_cases h127:s[k]=127
     ·have h3:((s[k].toNat:Int)==127)=true:=by rw [h127]; rfl
      have hR:Hid (R=false):=show _=_ from HB.out k hlt (by unfold signX; rw [hx,h127]; rfl)
      clear ha HS HB HT hx h127;go_wp2_with (go_at_call 81; refine (KH.out _).mono ?_; rintro e w' ⟨rfl,rfl⟩)
      go_ret;exact ⟨ret_bool hR.out.symm,rfl⟩
     ·have h3:((s[k].toNat:Int)==127)=false:=u8_ne (b:=127) h127;have ha2:Hid ((s.data.toList.take (k+1)).all signX=true):=HS.out k hlt ha.out (sign_ok (by omega) h127);clear ha HS HB HT hx h127;go_wp2_with (go_at_call 81; refine (KH.out _).mono ?_; rintro e w' ⟨rfl,rfl⟩)
      go_round
      case rel=>exact ⟨k+1,by omega,by go_num,ha2⟩
      case measure=>simp [intOf]; omega
  ·have hR:Hid (R=true):=show _=_ from HT.out k (by omega) ha.out
   clear ha HS HB HT;go_wp2;go_ret;exact ⟨ret_bool hR.out.symm,rfl⟩
theorem rev_last (u:ByteArray) (h:u.size - 1 < u.size):u.data.toList.reverse=u[u.size - 1] :: (u.extract 0 (u.size - 1)).data.toList.reverse:=by
 have e:=take_snoc u (u.size - 1) h;rw [take_all u _ (by omega)] at e;rw [ext_list]
 conv=>lhs; rw [e]
 simp
theorem rev_step (u:ByteArray) (h:u.size - 1 < u.size) (hx:xblk u[u.size - 1]=true):(u.extract 0 (u.size - 1)).data.toList.reverse.dropWhile xblk=u.data.toList.reverse.dropWhile xblk:=by
 rw [rev_last u h,List.dropWhile_cons,if_pos hx]
theorem rev_stop (u:ByteArray) (h:u.size - 1 < u.size) (hx:xblk u[u.size - 1]=false):u.data.toList.reverse.dropWhile xblk=u.data.toList.reverse:=by
 rw [rev_last u h,List.dropWhile_cons,if_neg (by simp [hx])]
def lenV:Value → Nat
 | .string t=>t.size
 | _=>0
set_option maxHeartbeats 2000000 in
set_option maxRecDepth 100000 in
theorem rtrimX_any (s:ByteArray) (w:World) (hs:s.size≤140737488355328) :
  Calls Tryz.prog 70 #[.string s] w fun e w'=>e=.returned (.string ⟨(xtrim s.data.toList).toArray⟩)∧w'=w:=by
 unfold xtrim
 go_enter Tryz.func70,Tryz.ntmps70
 go_wp2
 go_loop [0] (fun v=>∃ t:ByteArray,v=.string t∧t.size≤s.size∧Hid (t.data.toList.dropWhile xblk=s.data.toList.dropWhile xblk)) (fun v=>lenV v)
 case atStart=>exact ⟨s,rfl,Nat.le_refl _,show _=_ from rfl⟩
 case round =>
  obtain ⟨t,rfl,ht,hd⟩:=hrel;by_cases h0:0 < t.size
  ·have hbd:=u8_bd t[0]
   cases hx:xblk t[0] with
   | true =>
    have KH:=hid (fun w'=>hasX_of hx w');have hd2:Hid ((t.extract 1 t.size).data.toList.dropWhile xblk=s.data.toList.dropWhile xblk):=show _=_ by
     rw [ext_list,← hd.out];have e:=drop_cons t 0 h0;rw [List.drop_zero] at e;rw [List.take_of_length_le (by rw [List.length_drop,len_data]; omega)]
     show (t.data.toList.drop 1).dropWhile xblk=_
     conv=>rhs; rw [e]
     rw [List.dropWhile_cons,if_pos hx]
    have hz:(t.extract 1 t.size).size < t.size∧(t.extract 1 t.size).size≤s.size:=by rw [ByteArray.size_extract]; omega
    clear hd hx;go_wp2_with (go_at_call 81; refine (KH.out _).mono ?_; rintro e w' ⟨rfl,rfl⟩)
    go_round
    case rel=>exact ⟨_,rfl,hz.2,hd2⟩
    case measure=>exact hz.1
   | false =>
    have KH:=hid (fun w'=>hasX_of hx w');have hd2:Hid (s.data.toList.dropWhile xblk=t.data.toList):=show _=_ by
     rw [← hd.out];have e:=drop_cons t 0 h0;rw [List.drop_zero] at e;rw [e,List.dropWhile_cons,if_neg (by simp [hx])]
    clear hd hx;go_wp2_with (go_at_call 81; refine (KH.out _).mono ?_; rintro e w' ⟨rfl,rfl⟩)
    go_loop [0] (fun v=>∃ u:ByteArray,v=.string u∧u.size≤s.size∧Hid (u.data.toList.reverse.dropWhile xblk=t.data.toList.reverse.dropWhile xblk)) (fun v=>lenV v)
    case atStart=>exact ⟨t,rfl,ht,show _=_ from rfl⟩
    case round =>
     clear KH hbd;obtain ⟨u,rfl,hu,hr⟩:=hrel;by_cases hu0:0 < u.size
     ·have hlt:u.size - 1 < u.size:=by omega
      have hbd:=u8_bd u[u.size - 1];have hw1:IntKind.i64.wrap ((u.size:Int) - 1)=((u.size - 1:Nat):Int):=by rw [IntKind.wrap_i64]; omega
      have hn1:((u.size:Int) - 1).toNat=u.size - 1:=by omega
      cases hx:xblk u[u.size - 1] with
      | true =>
       have KH:=hid (fun w'=>hasX_of hx w');have hr2:Hid ((u.extract 0 (u.size - 1)).data.toList.reverse.dropWhile xblk=t.data.toList.reverse.dropWhile xblk):=show _=_ by rw [← hr.out]; exact rev_step u hlt hx
       have hz:(u.extract 0 (u.size - 1)).size < u.size∧(u.extract 0 (u.size - 1)).size≤s.size:=by rw [ByteArray.size_extract]; omega
       clear hr hx;go_wp2_with (go_at_call 81; refine (KH.out _).mono ?_; rintro e w' ⟨rfl,rfl⟩)
       go_round
       case rel=>exact ⟨_,rfl,hz.2,hr2⟩
       case measure=>exact hz.1
      | false =>
       have KH:=hid (fun w'=>hasX_of hx w');have hE:Hid (u=⟨((s.data.toList.dropWhile xblk).reverse.dropWhile xblk).reverse.toArray⟩):=show _=_ by rw [hd2.out,← hr.out,rev_stop u hlt hx]; apply ByteArray.ext; simp
       clear hr hx;go_wp2_with (go_at_call 81; refine (KH.out _).mono ?_; rintro e w' ⟨rfl,rfl⟩)
       go_ret;exact ⟨by rw [← hE.out]; rfl,rfl⟩
     ·have hE:Hid (u=⟨((s.data.toList.dropWhile xblk).reverse.dropWhile xblk).reverse.toArray⟩):=show _=_ by
       rw [hd2.out,← hr.out]
       have:u.data.toList=[]:=List.eq_nil_of_length_eq_zero (by rw [len_data]; omega)
       rw [this]
       apply ByteArray.ext
       have:=congrArg List.toArray this
       simpa using this
      clear hr;go_wp2;go_ret;exact ⟨by rw [← hE.out]; rfl,rfl⟩
  ·have hd2:Hid (s.data.toList.dropWhile xblk=t.data.toList):=show _=_ by
    rw [← hd.out]
    have:t.data.toList=[]:=List.eq_nil_of_length_eq_zero (by rw [len_data]; omega)
    rw [this]; rfl
   clear hd;go_wp2
   go_loop [0] (fun v=>∃ u:ByteArray,v=.string u∧u.size≤s.size∧Hid (u.data.toList.reverse.dropWhile xblk=t.data.toList.reverse.dropWhile xblk)) (fun v=>lenV v)
   case atStart=>exact ⟨t,rfl,ht,show _=_ from rfl⟩
   case round =>
    clear h0;obtain ⟨u,rfl,hu,hr⟩:=hrel;by_cases hu0:0 < u.size
    ·have hlt:u.size - 1 < u.size:=by omega
     have hbd:=u8_bd u[u.size - 1];have hw1:IntKind.i64.wrap ((u.size:Int) - 1)=((u.size - 1:Nat):Int):=by rw [IntKind.wrap_i64]; omega
     have hn1:((u.size:Int) - 1).toNat=u.size - 1:=by omega
     cases hx:xblk u[u.size - 1] with
     | true =>
      have KH:=hid (fun w'=>hasX_of hx w');have hr2:Hid ((u.extract 0 (u.size - 1)).data.toList.reverse.dropWhile xblk=t.data.toList.reverse.dropWhile xblk):=show _=_ by rw [← hr.out]; exact rev_step u hlt hx
      have hz:(u.extract 0 (u.size - 1)).size < u.size∧(u.extract 0 (u.size - 1)).size≤s.size:=by rw [ByteArray.size_extract]; omega
      clear hr hx;go_wp2_with (go_at_call 81; refine (KH.out _).mono ?_; rintro e w' ⟨rfl,rfl⟩)
      go_round
      case rel=>exact ⟨_,rfl,hz.2,hr2⟩
      case measure=>exact hz.1
     | false =>
      have KH:=hid (fun w'=>hasX_of hx w');have hE:Hid (u=⟨((s.data.toList.dropWhile xblk).reverse.dropWhile xblk).reverse.toArray⟩):=show _=_ by rw [hd2.out,← hr.out,rev_stop u hlt hx]; apply ByteArray.ext; simp
      clear hr hx;go_wp2_with (go_at_call 81; refine (KH.out _).mono ?_; rintro e w' ⟨rfl,rfl⟩)
      go_ret;exact ⟨by rw [← hE.out]; rfl,rfl⟩
    ·have hE:Hid (u=⟨((s.data.toList.dropWhile xblk).reverse.dropWhile xblk).reverse.toArray⟩):=show _=_ by
      rw [hd2.out,← hr.out]
      have:u.data.toList=[]:=List.eq_nil_of_length_eq_zero (by rw [len_data]; omega)
      rw [this]
      apply ByteArray.ext
      have:=congrArg List.toArray this
      simpa using this
     clear hr;go_wp2;go_ret;exact ⟨by rw [← hE.out]; rfl,rfl⟩
theorem begins_any (c:UInt8) (w:World):Calls Tryz.prog 54 #[.int .u8 c.toNat] w fun e w'=>e=.returned (.bool (letX c))∧w'=w:=by
 have hbd:=u8_bd c;have KC:=hid (fun w'=>class_any c.toNat w' hbd.1 hbd.2);have hV:letX c=(isB c.toNat 2 || c==95):=rfl;by_cases h:c=95
 ·have q:((c.toNat:Int)==95)=true:=u8_eq (b:=95) h;have HV:Hid (letX c=true):=show _=_ by rw [hV,h]; rfl
  clear hV h
  go_enter Tryz.func54,Tryz.ntmps54
  go_wp2;go_ret;exact ⟨ret_bool HV.out.symm,rfl⟩
 ·have q:((c.toNat:Int)==95)=false:=u8_ne (b:=95) h;have HV:Hid (letX c=isB c.toNat 2):=show _=_ by rw [hV,beq_eq_false_iff_ne.2 h,Bool.or_false]
  clear hV h
  go_enter Tryz.func54,Tryz.ntmps54
  go_wp2_with (go_at_call 107; refine (KC.out _).mono ?_; rintro e w' ⟨rfl,rfl⟩)
  go_ret;exact ⟨by rw [HV.out]; exact ret_bool rfl,rfl⟩
theorem namc_is:∀ c:UInt8,namc c=(c==95 || (c==45 || (c==46 || (c==58 || isB c.toNat 3)))):=by apply byte_all; decide +kernel
theorem goesOn_any (c:UInt8) (w:World):Calls Tryz.prog 55 #[.int .u8 c.toNat] w fun e w'=>e=.returned (.bool (namc c))∧w'=w:=by
 have hbd:=u8_bd c;have KC:=hid (fun w'=>class_any c.toNat w' hbd.1 hbd.2);have hV:=namc_is c;generalize namc c=R at hV ⊢;by_cases h:c=95
 ·have q:((c.toNat:Int)==95)=true:=u8_eq (b:=95) h;have HV:Hid (R=true):=show _=_ by rw [hV,h]; rfl
  clear hV h
  go_enter Tryz.func55,Tryz.ntmps55
  go_wp2;go_ret;exact ⟨ret_bool HV.out.symm,rfl⟩
 have q:((c.toNat:Int)==95)=false:=u8_ne (b:=95) h;rw [beq_eq_false_iff_ne.2 h,Bool.false_or] at hV;clear h;by_cases h:c=45
 ·have q1:((c.toNat:Int)==45)=true:=u8_eq (b:=45) h;have HV:Hid (R=true):=show _=_ by rw [hV,h]; rfl
  clear hV h
  go_enter Tryz.func55,Tryz.ntmps55
  go_wp2;go_ret;exact ⟨ret_bool HV.out.symm,rfl⟩
 have q1:((c.toNat:Int)==45)=false:=u8_ne (b:=45) h;rw [beq_eq_false_iff_ne.2 h,Bool.false_or] at hV;clear h;by_cases h:c=46
 ·have q2:((c.toNat:Int)==46)=true:=u8_eq (b:=46) h;have HV:Hid (R=true):=show _=_ by rw [hV,h]; rfl
  clear hV h
  go_enter Tryz.func55,Tryz.ntmps55
  go_wp2;go_ret;exact ⟨ret_bool HV.out.symm,rfl⟩
 have q2:((c.toNat:Int)==46)=false:=u8_ne (b:=46) h;rw [beq_eq_false_iff_ne.2 h,Bool.false_or] at hV;clear h;by_cases h:c=58
 ·have q3:((c.toNat:Int)==58)=true:=u8_eq (b:=58) h;have HV:Hid (R=true):=show _=_ by rw [hV,h]; rfl
  clear hV h
  go_enter Tryz.func55,Tryz.ntmps55
  go_wp2;go_ret;exact ⟨ret_bool HV.out.symm,rfl⟩
 have q3:((c.toNat:Int)==58)=false:=u8_ne (b:=58) h;rw [beq_eq_false_iff_ne.2 h,Bool.false_or] at hV;clear h;have HV:=hid hV;clear hV
 go_enter Tryz.func55,Tryz.ntmps55
 go_wp2_with (go_at_call 107; refine (KC.out _).mono ?_; rintro e w' ⟨rfl,rfl⟩)
 go_ret;exact ⟨by rw [HV.out]; exact ret_bool rfl,rfl⟩
set_option maxHeartbeats 1000000 in
theorem xname_any (s:ByteArray) (w:World) (hs:s.size≤140737488355328) :
  Calls Tryz.prog 23 #[.string s] w fun e w'=>e=.returned (.bool (nameX s.data.toList))∧w'=w:=by
 have HG:=hid goesOn_any;have HE:=hid (name_end s);have HB:=hid (fun k h=>name_bad s k h);have HH:=hid (fun h=>name_head s h);have hl:=len_data s;have hlong:s.size=0∨64 < s.size → nameX s.data.toList=false:=fun h=>by
  unfold nameX;rw [hl]
  rcases h with h | h
  ·have:s.data.toList=[]:=List.eq_nil_of_length_eq_zero (by omega)
   rw [this]; rfl
  ·rw [decide_eq_false (by omega)]; simp
 generalize nameX s.data.toList=R at HE HB HH hlong ⊢;by_cases h0:s.size=0
 ·have hR:Hid (R=false):=hlong (.inl h0);have e0:s=⟨#[]⟩:=by
   apply ByteArray.ext
   apply Array.eq_empty_of_size_eq_zero
   exact h0
  subst e0;clear HE HB HH hlong hl
  go_enter Tryz.func23,Tryz.ntmps23
  go_wp2;go_ret;exact ⟨ret_bool hR.out.symm,rfl⟩
 have e0:s.toList.isEmpty=false:=by
  rw [ByteArray.toList_eq,List.isEmpty_eq_false_iff];intro e;rw [e] at hl;exact h0 hl.symm
 by_cases h64:64 < s.size
 ·have hR:Hid (R=false):=hlong (.inr h64);have r1:(64:Int) < (s.size:Int):=by omega
  clear HE HB HH hlong hl h0
  go_enter Tryz.func23,Tryz.ntmps23
  go_wp2;go_ret;exact ⟨ret_bool hR.out.symm,rfl⟩
 have r1:¬ (64:Int) < (s.size:Int):=by omega
 have hp:0 < s.size:=by omega
 have KB:=hid (fun w'=>begins_any s[0] w');have hbd:=u8_bd s[0]
 cases hb:letX s[0] with
 | false =>
  rw [hb] at KB;have hR:Hid (R=false):=HH.out hp hb;clear HE HB HH hlong hl h0 hb
  go_enter Tryz.func23,Tryz.ntmps23
  go_wp2_with (go_at_call 54; refine (KB.out _).mono ?_; rintro e w' ⟨rfl,rfl⟩)
  go_ret;exact ⟨ret_bool hR.out.symm,rfl⟩
 | true =>
  rw [hb] at KB;have HE2:Hid (∀ k,s.size≤k → (s.data.toList.take k).all namc=true → R=true):=fun k h1 h2=>by
   rw [HE.out k h1 h2 (.inr ⟨hp,hb⟩),decide_eq_true (by omega),decide_eq_true (by omega)]; rfl
  clear HE HH hlong hl h0 hb
  go_enter Tryz.func23,Tryz.ntmps23
  go_wp2_with (go_at_call 54; refine (KB.out _).mono ?_; rintro e w' ⟨rfl,rfl⟩)
  clear KB hbd
  go_loop [19] (fun i=>∃ k:Nat,k≤s.size∧i=.int .i64 k∧Hid ((s.data.toList.take k).all namc=true)) (fun i=>s.size - (intOf i).toNat)
  case atStart=>exact ⟨0,Nat.zero_le _,rfl,hid (by simp)⟩
  case round =>
   obtain ⟨k,hk,rfl,hv⟩:=hrel;by_cases hlt:k < s.size
   ·have KG:=hid (fun w'=>HG.out s[k] w');have hbd:=u8_bd s[k]
    cases hn:namc s[k] with
    | true =>
     rw [hn] at KG;have hv2:=hid (all_snocX namc s k hlt hv.out hn);clear hv hn;go_wp2_with (go_at_call 55; refine (KG.out _).mono ?_; rintro e w' ⟨rfl,rfl⟩)
     go_round
     case rel=>exact ⟨k+1,by omega,by go_num,hv2⟩
     case measure=>simp [intOf]; omega
    | false =>
     rw [hn] at KG;have hR:Hid (R=false):=HB.out k hlt hn;clear hv hn;go_wp2_with (go_at_call 55; refine (KG.out _).mono ?_; rintro e w' ⟨rfl,rfl⟩)
     go_ret;exact ⟨ret_bool hR.out.symm,rfl⟩
   ·have hR:Hid (R=true):=HE2.out k (by omega) hv.out;clear hv;go_wp2;go_ret;exact ⟨ret_bool hR.out.symm,rfl⟩
theorem xname_list (l:List UInt8) (w:World) (h:l.length≤140737488355328) :
  Calls Tryz.prog 23 #[.string ⟨l.toArray⟩] w fun e w'=>e=.returned (.bool (nameX l))∧w'=w:=xname_any ⟨l.toArray⟩ w (by rw [size_list]; exact h)
theorem xblk_idx:∀ c:UInt8,decide (Lib.indexByte [32,9,13,10] c < 0)=!xblk c:=by apply byte_all; decide +kernel
set_option maxHeartbeats 1000000 in
theorem xsigns_any (s:ByteArray) (w:World) (hs:s.size≤140737488355328) :
  Calls Tryz.prog 153 #[.string s] w fun e w'=>e=.returned (.bool (signsX s.data.toList))∧w'=w:=by
 have HB:Hid (∀ k (h:k < s.size),signX s[k]=false → signsX s.data.toList=false):=fun k h hp=>all_badX signX s k h hp;have HE:Hid (∀ k,s.size≤k → (s.data.toList.take k).all signX=true → signsX s.data.toList=true):=fun k h1 h2=>by rw [take_all s k h1] at h2; exact h2
 generalize signsX s.data.toList=R at HB HE ⊢
 go_enter Tryz.func153,Tryz.ntmps153
 go_wp2
 go_loop [6] (fun i=>∃ k:Nat,k≤s.size∧i=.int .i64 k∧Hid ((s.data.toList.take k).all signX=true)) (fun i=>s.size - (intOf i).toNat)
 case atStart=>exact ⟨0,Nat.zero_le _,rfl,hid (by simp)⟩
 case round =>
  obtain ⟨k,hk,rfl,hv⟩:=hrel;by_cases hlt:k < s.size
  ·have hbd:=u8_bd s[k];have KI:=hid (fun w'=>strIndexByte_any ⟨#[32,9,13,10]⟩ s[k] w');have hx:decide (Lib.indexByte (⟨#[32,9,13,10]⟩:ByteArray).data.toList s[k] < 0)=!xblk s[k]:=xblk_idx s[k];generalize Lib.indexByte (⟨#[32,9,13,10]⟩:ByteArray).data.toList s[k]=n at KI hx;by_cases h127:s[k]=127
   ·have q:((s[k].toNat:Int)==127)=true:=u8_eq (b:=127) h127;have hR:Hid (R=false):=HB.out k hlt (by rw [h127]; decide);clear hv h127 hx;go_wp2;go_ret;exact ⟨ret_bool hR.out.symm,rfl⟩
   have q:((s[k].toNat:Int)==127)=false:=u8_ne (b:=127) h127;by_cases h32:s[k].toNat < 32
   ·have r:(s[k].toNat:Int) < 32:=by omega
    cases hb:xblk s[k] with
    | true =>
     have hv2:=hid (all_snocX signX s k hlt hv.out (by unfold signX; rw [hb]; rfl));have hn:¬ n < 0:=of_decide_eq_false (by rw [hx,hb]; rfl);clear hv h127 hx hb;go_wp2_with (go_at_call 187; refine (KI.out _).mono ?_; rintro e w' ⟨rfl,rfl⟩)
     go_round
     case rel=>exact ⟨k+1,by omega,by go_num,hv2⟩
     case measure=>simp [intOf]; omega
    | false =>
     have hR:Hid (R=false):=HB.out k hlt (sign_low hb h32);have hn:n < 0:=of_decide_eq_true (by rw [hx,hb]; rfl);clear hv h127 hx hb;go_wp2_with (go_at_call 187; refine (KI.out _).mono ?_; rintro e w' ⟨rfl,rfl⟩)
     go_ret;exact ⟨ret_bool hR.out.symm,rfl⟩
   ·have r:¬ (s[k].toNat:Int) < 32:=by omega
    have hv2:=hid (all_snocX signX s k hlt hv.out (sign_ok h32 h127));clear hv h127 hx;go_wp2
    go_round
    case rel=>exact ⟨k+1,by omega,by go_num,hv2⟩
    case measure=>simp [intOf]; omega
  ·have hR:Hid (R=true):=HE.out k (by omega) hv.out;clear hv;go_wp2;go_ret;exact ⟨ret_bool hR.out.symm,rfl⟩
theorem xsigns_list (l:List UInt8) (w:World) (h:l.length≤140737488355328) :
  Calls Tryz.prog 153 #[.string ⟨l.toArray⟩] w fun e w'=>e=.returned (.bool (signsX l))∧w'=w:=xsigns_any ⟨l.toArray⟩ w (by rw [size_list]; exact h)
set_option maxHeartbeats 400000 in
theorem xtext_any (l:List UInt8) (w:World) (h:l.length≤140737488355328) :
  Calls Tryz.prog 110 #[.string ⟨l.toArray⟩] w fun e w'=>e=.returned (.bool (signsX l && xtrim l==l))∧Below w.heap.size w w':=by
 have KS:=hid (fun w'=>xsigns_list l w' h);have KT:=hid (fun w'=>xtrimAll_list l w' h)
 cases hs:signsX l with
 | false =>
  rw [hs] at KS;clear hs
  go_enter Tryz.func110,Tryz.ntmps110
  go_wp2_with fail
  refine (KS.out _).mono ?_
  rintro e w ⟨rfl,rfl⟩;go_wp2;go_ret;exact ⟨rfl,Below.refl _ _⟩
 | true =>
  rw [hs] at KS;clear hs;generalize xtrim l=t at KT ⊢
  go_enter Tryz.func110,Tryz.ntmps110
  go_wp2_with fail
  refine (KS.out _).mono ?_
  rintro e w ⟨rfl,rfl⟩;go_wp2_with fail
  refine (KT.out _).mono ?_
  rintro e w1 ⟨rfl,hw1⟩;go_wp2;go_ret;exact ⟨by simp,hw1⟩
theorem glueB (a:List UInt8) (t:Array UInt8):(⟨a.toArray⟩:ByteArray)++⟨t⟩=⟨(a++t.toList).toArray⟩:=by
 rw [ByteArray.mk_append_mk]
theorem one_ext (s:ByteArray) (k:Nat) (h:k < s.size):s.extract k (k+1)=⟨#[s[k]]⟩:=by
 rw [ext_list,drop_cons s k h,Nat.add_sub_cancel_left]; rfl
theorem escS_len:∀ b:UInt8,(escS b).length≤6:=by apply byte_all; decide +kernel
theorem escX_len (l:List UInt8):(escX l).length≤6 * l.length:=by
 induction l with
 | nil=>simp [escX]
 | cons b r ih =>
  have:=escS_len b
  have e:escX (b :: r)=escS b++escX r:=by simp [escX]
  rw [e,List.length_append,List.length_cons]; omega
theorem own_strs {w:World} {B e:Nat} {v:Value} {ps:List (List UInt8)} (h:Own w B e v (strs ps)) (hne:ps ≠ []) :
  ∃ g cap,v=.slice (some ⟨g,0,none⟩) ps.length cap∧∀ j (hj:j < ps.length),w.cell? ⟨g,j,none⟩=some (.string ⟨(ps[j]).toArray⟩):=by
 rcases h.2 with ⟨rfl,hn⟩ | ⟨g,cap,cur,rfl,hb,hg,_⟩
 ·rw [strs_length] at hn;exact absurd (List.eq_nil_of_length_eq_zero hn) hne
 ·refine ⟨g,cap,by rw [strs_length],fun j hj=>?_⟩
  have:=World.ownsRow.cells h (g:=g) rfl j (.string ⟨(ps[j]).toArray⟩) (by simp [strs,hj])
  unfold Addr.add at this;by_cases h0:j=0
  ·subst h0; simpa using this
  ·simpa [h0] using this
theorem belowD (B:Nat) (w:World) (n:Nat):Below B w (w.drewN n):=⟨rfl,rfl,rfl,Nat.le_refl _,fun _ _=>rfl⟩
theorem rev_lastB (u:ByteArray) (h:u.size - 1 < u.size):u.data.toList.reverse=u[u.size - 1] :: (u.extract 0 (u.size - 1)).data.toList.reverse:=rev_last u h
theorem stripB_step (u:ByteArray) (h:u.size - 1 < u.size) (hx:u[u.size - 1]=48):stripZ (u.extract 0 (u.size - 1)).data.toList=stripZ u.data.toList:=by
 unfold stripZ;rw [rev_lastB u h,List.dropWhile_cons,hx]; rfl
theorem stripB_stop (u:ByteArray) (h:u.size - 1 < u.size) (hx:u[u.size - 1] ≠ 48):stripZ u.data.toList=u.data.toList:=by
 unfold stripZ;rw [rev_lastB u h,List.dropWhile_cons,if_neg (by simpa using hx),← rev_lastB u h,List.reverse_reverse]
theorem attG_small {nm:List UInt8} {B:Nat}:∀ {l:List Par} {v:List UInt8},SmallP B l → attG nm l=some v → v.length≤B:=by
 intro l v hs h
 have:∀ l:List Par,(∀ p ∈ l,p.value.length≤B) → attG nm l=some v → v.length≤B:=by
  intro l
  induction l with
  | nil=>intro _ h; cases h
  | cons p l ih =>
   intro hp h;rw [attG] at h
   split at h
   ·injection h with h; subst h; exact hp p (by simp)
   ·exact ih (fun q hq=>hp q (by simp [hq])) h
 exact this l (fun p hp=>(hs.2 p hp).2) h
theorem row_other {w:World} {b c j:Nat} {e:TypeId} {l:List Value} {v:Value} (h:RowIs w b e l) (hn:b ≠ c):RowIs (w.setCell ⟨c,j,none⟩ v) b e l:=by
 unfold RowIs at h ⊢;rw [heap_setCell_other _ _ _ _ hn]; exact h
def zeroTu:Tu:=⟨[],false,[],0,[]⟩
end Go.Proofs.YtdnekampnkhmfaaGreatDoor
