/-
  XTrim, RX1, RX2, XName, RefTexts, RX7, RX9, XChk.
-/
import Derived.Test.YtbmjodlbkgblpaaGreatDoorPO13
set_option linter.unusedVariables false
set_option linter.unusedSimpArgs false
set_option maxRecDepth 20000
namespace Go.Proofs.YtbmjodlbkgblpaaGreatDoor
open Go.RowKit Sc
set_option maxHeartbeats 1000000 in
set_option maxRecDepth 100000 in
theorem xtrimAll_list (l:List UInt8) (w:World) (hl:l.length≤140737488355328) :
  Calls Tryz.prog 152 #[.string ⟨l.toArray⟩,.string ⟨#[32,9,13,10]⟩] w fun e w'=>e=.returned (.string ⟨(xtrim l).toArray⟩)∧Below w.heap.size w w':=by
 cases he:l.isEmpty with
 | true =>
  obtain rfl:l=[]:=by simpa using he
  have hE:Hid (xtrim []=[]):=rfl
  go_enter Tryz.func152,Tryz.ntmps152
  go_wp2;go_ret;exact ⟨by rw [hE.out]; rfl,Below.refl _ _⟩
 | false =>
  have KM:=hid (makeSet_any ⟨#[32,9,13,10]⟩ w (by decide) xb_ascii);have hsz:=Lib.setCells_size [32,9,13,10];have hi2:=hid (show (Tryz.prog.info? 207).map (·.size)=some (Lib.setCells [32,9,13,10]).size by rw [hsz]; exact (zero_of_info infoSet).2);have hzv:=(zero_of_info infoSet).1
  have hcellAt:∀ x:UInt8,((w.alloc (.cells (Lib.setCells [32,9,13,10]) 207)).alloc (.cells (Lib.setCells [32,9,13,10]) 207)).cell? ⟨w.heap.size+1,x.toNat,none⟩=some (.bool (xblk x)):=fun x=>by
   rw [World.cell?_alloc_at _ _ _ _ (by simp),Lib.setCells_at,← xbL_is]; rfl
  have KT:=hid (xtrimR_any ⟨l.toArray⟩ (w.heap.size+1) _ (by rw [size_list]; exact hl) hcellAt);have KL:=hid (xtrimL_any ⟨(xbehind l).toArray⟩ (w.heap.size+1) _ (by rw [size_list]; exact Nat.le_trans (xbehind_len l) hl) hcellAt);rw [show ((⟨(xbehind l).toArray⟩:ByteArray).data.toList.dropWhile xblk)=xtrim l from xtrim_two l] at KL;generalize xtrim l=R at KL;have hb2:Below w.heap.size w ((w.alloc (.cells (Lib.setCells [32,9,13,10]) 207)).alloc (.cells (Lib.setCells [32,9,13,10]) 207)):=((Below.refl _ _).alloc (Nat.le_refl _) _).alloc (by simp) _;have hrep:Hid ((Array.replicate 256 (Value.bool false)).size=(Lib.setCells [32,9,13,10]).size):=show _=_ by rw [hsz,Array.size_replicate]
  have HA1:Hid ((w.alloc (.cells (Lib.setCells [32,9,13,10]) 207)).heap.size=w.heap.size+1):=show _=_ by simp
  clear hcellAt hsz
  go_enter Tryz.func152,Tryz.ntmps152
  go_wp2_with (first
   | (go_at_call 166; refine KM.out.mono ?_; rintro e w' ⟨rfl,hw⟩; rw [hw])
   | (go_at_call 168; refine KT.out.mono ?_; rintro e w' ⟨rfl,hw⟩; rw [hw])
   | (go_at_call 167; refine KL.out.mono ?_; rintro e w' ⟨rfl,hw⟩; rw [hw])
   | (refine wp_store_new rfl (.tmp 5) (.tmp 32) 207 rfl rfl (Array.replicate 256 (.bool false)) (Lib.setCells [32,9,13,10]) hi2.out hrep.out (Lib.setCells_one _) (w.heap.size+1) HA1.out rfl rfl ?_))
  go_ret;exact ⟨rfl,hb2⟩
theorem hasX (b:UInt8):hasL b [32,9,13,10]=xblk b:=by
 simp only [hasL,xblk,List.contains_cons,List.contains_nil,Bool.or_false]
theorem hasX_of {c:UInt8} {b:Bool} (h:xblk c=b) (w:World) :
  Calls Tryz.prog 85 #[.string ⟨#[32,9,13,10]⟩,.int .u8 c.toNat] w fun e w'=>e=.returned (.bool b)∧w'=w:=by
 have k:=has3_any ⟨#[32,9,13,10]⟩ c w (by decide);have e:hasL c (⟨#[32,9,13,10]⟩:ByteArray).data.toList=b:=by rw [← h]; exact hasX c
 rw [e] at k; exact k
theorem getB (s:ByteArray) (k:Nat) (h:k < s.size):s.data.toList[k]'(by rw [len_data]; exact h)=s[k]:=by
 have:=getL s k h
 rw [List.getElem?_eq_getElem (by rw [len_data]; exact h)] at this;exact Option.some.inj this
theorem all_snocX (p:UInt8 → Bool) (s:ByteArray) (k:Nat) (h:k < s.size) (ha:(s.data.toList.take k).all p=true) (hp:p s[k]=true):(s.data.toList.take (k+1)).all p=true:=by
 rw [take_snoc s k h,List.all_append,ha]; simp [hp]
theorem all_badX (p:UInt8 → Bool) (s:ByteArray) (k:Nat) (h:k < s.size) (hp:p s[k]=false):s.data.toList.all p=false:=by
 rw [List.all_eq_false];exact ⟨s[k],by rw [← getB s k h]; exact List.getElem_mem _,by simp [hp]⟩
theorem sign_low {b:UInt8} (hx:xblk b=false) (h:b.toNat < 32):signX b=false:=by
 unfold signX; rw [hx]; simp [h]
theorem sign_ok {b:UInt8} (h:¬ b.toNat < 32) (h2:¬ b=127):signX b=true:=by
 unfold signX; simp [h,h2]
theorem name_bad (s:ByteArray) (k:Nat) (h:k < s.size) (hp:namc s[k]=false):nameX s.data.toList=false:=by
 unfold nameX; rw [all_badX _ _ _ h hp]; rfl
theorem name_head (s:ByteArray) (h:0 < s.size) (hp:letX s[0]=false):nameX s.data.toList=false:=by
 unfold nameX
 have:s.data.toList.head? = some s[0]:=by
  rw [List.head?_eq_getElem?,getL s 0 h]
 rw [this]; simp [hp]
theorem name_end (s:ByteArray) (k:Nat) (hk:s.size≤k) (ha:(s.data.toList.take k).all namc=true) (hh:k=0∨∃ h:0 < s.size,letX s[0]=true):nameX s.data.toList=(decide (1≤s.size) && decide (s.size≤64)):=by
 rw [take_all s k hk] at ha;unfold nameX;rw [ha,len_data,Bool.true_and]
 rcases hh with hh | ⟨h,hl⟩
 ·have h0:s.size=0:=by omega
  have:s.data.toList=[]:=List.eq_nil_of_length_eq_zero (by rw [len_data]; exact h0)
  rw [this,h0]; rfl
 ·have:s.data.toList.head? = some s[0]:=by
   rw [List.head?_eq_getElem?,getL s 0 h]
  rw [this];have h1:decide (1≤s.size)=true:=decide_eq_true (by omega);rw [h1]; simp [hl]
set_option maxHeartbeats 2000000 in
set_option maxRecDepth 100000 in
theorem rsigns_any (s:ByteArray) (w:World) (hs:s.size≤140737488355328) :
  Calls Tryz.prog 66 #[.string s] w fun e w'=>e=.returned (.bool (signsX s.data.toList))∧w'=w:=by
 have HS:=hid (all_snocX signX s);have HB:=hid (all_badX signX s);have HT:Hid (∀ k,s.size≤k → (s.data.toList.take k).all signX=true → s.data.toList.all signX=true):=fun k hk ha=>by rw [take_all s k hk] at ha; exact ha
 unfold signsX;generalize s.data.toList.all signX=R at HB HT ⊢
 go_enter Tryz.func66,Tryz.ntmps66
 go_wp2
 go_loop [3] (fun i=>∃ k:Nat,k≤s.size∧i=.int .i64 k∧Hid ((s.data.toList.take k).all signX=true)) (fun i=>s.size - (intOf i).toNat)
 case atStart=>exact ⟨0,Nat.zero_le _,rfl,show _=_ by simp⟩
 case round =>
  obtain ⟨k,hk,rfl,ha⟩:=hrel;by_cases hlt:k < s.size
  ·have hbd:=u8_bd s[k]
   cases hx:xblk s[k] with
   | true =>
    have KH:=hid (fun w'=>hasX_of hx w');have ha2:Hid ((s.data.toList.take (k+1)).all signX=true):=HS.out k hlt ha.out (by unfold signX; rw [hx]; rfl);clear ha HS HB HT hx;go_wp2_with (go_at_call 85; refine (KH.out _).mono ?_; rintro e w' ⟨rfl,rfl⟩)
    go_round
    case rel=>exact ⟨k+1,by omega,by go_num,ha2⟩
    case measure=>simp [intOf]; omega
   | false =>
    have KH:=hid (fun w'=>hasX_of hx w');by_cases h32:(s[k].toNat:Int) < 32
    ·have hR:Hid (R=false):=show _=_ from HB.out k hlt (sign_low hx (by omega))
     clear ha HS HB HT hx;go_wp2_with (go_at_call 85; refine (KH.out _).mono ?_; rintro e w' ⟨rfl,rfl⟩)
     go_ret;exact ⟨ret_bool hR.out.symm,rfl⟩
    ·by_cases h127:s[k]=127
     ·have h3:((s[k].toNat:Int)==127)=true:=by rw [h127]; rfl
      have hR:Hid (R=false):=show _=_ from HB.out k hlt (by unfold signX; rw [hx,h127]; rfl)
      clear ha HS HB HT hx h127;go_wp2_with (go_at_call 85; refine (KH.out _).mono ?_; rintro e w' ⟨rfl,rfl⟩)
      go_ret;exact ⟨ret_bool hR.out.symm,rfl⟩
     ·have h3:((s[k].toNat:Int)==127)=false:=u8_ne (b:=127) h127;have ha2:Hid ((s.data.toList.take (k+1)).all signX=true):=HS.out k hlt ha.out (sign_ok (by omega) h127);clear ha HS HB HT hx h127;go_wp2_with (go_at_call 85; refine (KH.out _).mono ?_; rintro e w' ⟨rfl,rfl⟩)
      go_round
      case rel=>exact ⟨k+1,by omega,by go_num,ha2⟩
      case measure=>simp [intOf]; omega
  ·have hR:Hid (R=true):=show _=_ from HT.out k (by omega) ha.out
   clear ha HS HB HT;go_wp2;go_ret;exact ⟨ret_bool hR.out.symm,rfl⟩
theorem rev_last (u:ByteArray) (h:u.size - 1 < u.size):u.data.toList.reverse=u[u.size - 1] :: (u.extract 0 (u.size - 1)).data.toList.reverse:=by
 have e:=take_snoc u (u.size - 1) h;rw [take_all u _ (by omega)] at e;rw [ext_list]
 conv=>lhs; rw [e]
 simp
theorem rev_step (u:ByteArray) (h:u.size - 1 < u.size) (hx:xblk u[u.size - 1]=true):(u.extract 0 (u.size - 1)).data.toList.reverse.dropWhile xblk=u.data.toList.reverse.dropWhile xblk:=by
 rw [rev_last u h,List.dropWhile_cons,if_pos hx]
theorem rev_stop (u:ByteArray) (h:u.size - 1 < u.size) (hx:xblk u[u.size - 1]=false):u.data.toList.reverse.dropWhile xblk=u.data.toList.reverse:=by
 rw [rev_last u h,List.dropWhile_cons,if_neg (by simp [hx])]
def lenV:Value → Nat
 | .string t=>t.size
 | _=>0
set_option maxHeartbeats 2000000 in
set_option maxRecDepth 100000 in
theorem rtrimX_any (s:ByteArray) (w:World) (hs:s.size≤140737488355328) :
  Calls Tryz.prog 67 #[.string s] w fun e w'=>e=.returned (.string ⟨(xtrim s.data.toList).toArray⟩)∧w'=w:=by
 unfold xtrim
 go_enter Tryz.func67,Tryz.ntmps67
 go_wp2
 go_loop [0] (fun v=>∃ t:ByteArray,v=.string t∧t.size≤s.size∧Hid (t.data.toList.dropWhile xblk=s.data.toList.dropWhile xblk)) (fun v=>lenV v)
 case atStart=>exact ⟨s,rfl,Nat.le_refl _,show _=_ from rfl⟩
 case round =>
  obtain ⟨t,rfl,ht,hd⟩:=hrel;by_cases h0:0 < t.size
  ·have hbd:=u8_bd t[0]
   cases hx:xblk t[0] with
   | true =>
    have KH:=hid (fun w'=>hasX_of hx w')
    have hd2:Hid ((t.extract 1 t.size).data.toList.dropWhile xblk=s.data.toList.dropWhile xblk):=show _=_ by
     rw [ext_list,← hd.out];have e:=drop_cons t 0 h0;rw [List.drop_zero] at e;rw [List.take_of_length_le (by rw [List.length_drop,len_data]; omega)]
     show (t.data.toList.drop 1).dropWhile xblk=_
     conv=>rhs; rw [e]
     rw [List.dropWhile_cons,if_pos hx]
    have hz:(t.extract 1 t.size).size < t.size∧(t.extract 1 t.size).size≤s.size:=by rw [ByteArray.size_extract]; omega
    clear hd hx;go_wp2_with (go_at_call 85; refine (KH.out _).mono ?_; rintro e w' ⟨rfl,rfl⟩)
    go_round
    case rel=>exact ⟨_,rfl,hz.2,hd2⟩
    case measure=>exact hz.1
   | false =>
    have KH:=hid (fun w'=>hasX_of hx w')
    have hd2:Hid (s.data.toList.dropWhile xblk=t.data.toList):=show _=_ by
     rw [← hd.out];have e:=drop_cons t 0 h0;rw [List.drop_zero] at e;rw [e,List.dropWhile_cons,if_neg (by simp [hx])]
    clear hd hx;go_wp2_with (go_at_call 85; refine (KH.out _).mono ?_; rintro e w' ⟨rfl,rfl⟩)
    go_loop [0] (fun v=>∃ u:ByteArray,v=.string u∧u.size≤s.size∧Hid (u.data.toList.reverse.dropWhile xblk=t.data.toList.reverse.dropWhile xblk)) (fun v=>lenV v)
    case atStart=>exact ⟨t,rfl,ht,show _=_ from rfl⟩
    case round =>
     clear KH hbd;obtain ⟨u,rfl,hu,hr⟩:=hrel;by_cases hu0:0 < u.size
     ·have hlt:u.size - 1 < u.size:=by omega
      have hbd:=u8_bd u[u.size - 1];have hw1:IntKind.i64.wrap ((u.size:Int) - 1)=((u.size - 1:Nat):Int):=by rw [IntKind.wrap_i64]; omega
      have hn1:((u.size:Int) - 1).toNat=u.size - 1:=by omega
      cases hx:xblk u[u.size - 1] with
      | true =>
       have KH:=hid (fun w'=>hasX_of hx w');have hr2:Hid ((u.extract 0 (u.size - 1)).data.toList.reverse.dropWhile xblk=t.data.toList.reverse.dropWhile xblk):=show _=_ by rw [← hr.out]; exact rev_step u hlt hx
       have hz:(u.extract 0 (u.size - 1)).size < u.size∧(u.extract 0 (u.size - 1)).size≤s.size:=by rw [ByteArray.size_extract]; omega
       clear hr hx;go_wp2_with (go_at_call 85; refine (KH.out _).mono ?_; rintro e w' ⟨rfl,rfl⟩)
       go_round
       case rel=>exact ⟨_,rfl,hz.2,hr2⟩
       case measure=>exact hz.1
      | false =>
       have KH:=hid (fun w'=>hasX_of hx w');have hE:Hid (u=⟨((s.data.toList.dropWhile xblk).reverse.dropWhile xblk).reverse.toArray⟩):=show _=_ by rw [hd2.out,← hr.out,rev_stop u hlt hx]; apply ByteArray.ext; simp
       clear hr hx;go_wp2_with (go_at_call 85; refine (KH.out _).mono ?_; rintro e w' ⟨rfl,rfl⟩)
       go_ret;exact ⟨by rw [← hE.out]; rfl,rfl⟩
     ·have hE:Hid (u=⟨((s.data.toList.dropWhile xblk).reverse.dropWhile xblk).reverse.toArray⟩):=show _=_ by
       rw [hd2.out,← hr.out]
       have:u.data.toList=[]:=List.eq_nil_of_length_eq_zero (by rw [len_data]; omega)
       rw [this]
       apply ByteArray.ext
       have:=congrArg List.toArray this
       simpa using this
      clear hr;go_wp2;go_ret;exact ⟨by rw [← hE.out]; rfl,rfl⟩
  ·have hd2:Hid (s.data.toList.dropWhile xblk=t.data.toList):=show _=_ by
    rw [← hd.out]
    have:t.data.toList=[]:=List.eq_nil_of_length_eq_zero (by rw [len_data]; omega)
    rw [this]; rfl
   clear hd;go_wp2
   go_loop [0] (fun v=>∃ u:ByteArray,v=.string u∧u.size≤s.size∧Hid (u.data.toList.reverse.dropWhile xblk=t.data.toList.reverse.dropWhile xblk)) (fun v=>lenV v)
   case atStart=>exact ⟨t,rfl,ht,show _=_ from rfl⟩
   case round =>
    clear h0;obtain ⟨u,rfl,hu,hr⟩:=hrel;by_cases hu0:0 < u.size
    ·have hlt:u.size - 1 < u.size:=by omega
     have hbd:=u8_bd u[u.size - 1];have hw1:IntKind.i64.wrap ((u.size:Int) - 1)=((u.size - 1:Nat):Int):=by rw [IntKind.wrap_i64]; omega
     have hn1:((u.size:Int) - 1).toNat=u.size - 1:=by omega
     cases hx:xblk u[u.size - 1] with
     | true =>
      have KH:=hid (fun w'=>hasX_of hx w');have hr2:Hid ((u.extract 0 (u.size - 1)).data.toList.reverse.dropWhile xblk=t.data.toList.reverse.dropWhile xblk):=show _=_ by rw [← hr.out]; exact rev_step u hlt hx
      have hz:(u.extract 0 (u.size - 1)).size < u.size∧(u.extract 0 (u.size - 1)).size≤s.size:=by rw [ByteArray.size_extract]; omega
      clear hr hx;go_wp2_with (go_at_call 85; refine (KH.out _).mono ?_; rintro e w' ⟨rfl,rfl⟩)
      go_round
      case rel=>exact ⟨_,rfl,hz.2,hr2⟩
      case measure=>exact hz.1
     | false =>
      have KH:=hid (fun w'=>hasX_of hx w');have hE:Hid (u=⟨((s.data.toList.dropWhile xblk).reverse.dropWhile xblk).reverse.toArray⟩):=show _=_ by rw [hd2.out,← hr.out,rev_stop u hlt hx]; apply ByteArray.ext; simp
      clear hr hx;go_wp2_with (go_at_call 85; refine (KH.out _).mono ?_; rintro e w' ⟨rfl,rfl⟩)
      go_ret;exact ⟨by rw [← hE.out]; rfl,rfl⟩
    ·have hE:Hid (u=⟨((s.data.toList.dropWhile xblk).reverse.dropWhile xblk).reverse.toArray⟩):=show _=_ by
      rw [hd2.out,← hr.out]
      have:u.data.toList=[]:=List.eq_nil_of_length_eq_zero (by rw [len_data]; omega)
      rw [this]
      apply ByteArray.ext
      have:=congrArg List.toArray this
      simpa using this
     clear hr;go_wp2;go_ret;exact ⟨by rw [← hE.out]; rfl,rfl⟩
theorem begins_any (c:UInt8) (w:World):Calls Tryz.prog 148 #[.int .u8 c.toNat] w fun e w'=>e=.returned (.bool (letX c))∧w'=w:=by
 have hbd:=u8_bd c;have KC:=hid (fun w'=>class_any c.toNat w' hbd.1 hbd.2);have hV:letX c=(isB c.toNat 2 || c==95):=rfl;by_cases h:c=95
 ·have q:((c.toNat:Int)==95)=true:=u8_eq (b:=95) h;have HV:Hid (letX c=true):=show _=_ by rw [hV,h]; rfl
  clear hV h
  go_enter Tryz.func148,Tryz.ntmps148
  go_wp2;go_ret;exact ⟨ret_bool HV.out.symm,rfl⟩
 ·have q:((c.toNat:Int)==95)=false:=u8_ne (b:=95) h;have HV:Hid (letX c=isB c.toNat 2):=show _=_ by rw [hV,beq_eq_false_iff_ne.2 h,Bool.or_false]
  clear hV h
  go_enter Tryz.func148,Tryz.ntmps148
  go_wp2_with (go_at_call 113; refine (KC.out _).mono ?_; rintro e w' ⟨rfl,rfl⟩)
  go_ret;exact ⟨by rw [HV.out]; exact ret_bool rfl,rfl⟩
theorem namc_is:∀ c:UInt8,namc c=(c==95 || (c==45 || (c==46 || (c==58 || isB c.toNat 3)))):=by apply byte_all; decide +kernel
theorem goesOn_any (c:UInt8) (w:World):Calls Tryz.prog 149 #[.int .u8 c.toNat] w fun e w'=>e=.returned (.bool (namc c))∧w'=w:=by
 have hbd:=u8_bd c;have KC:=hid (fun w'=>class_any c.toNat w' hbd.1 hbd.2);have hV:=namc_is c;generalize namc c=R at hV ⊢;by_cases h:c=95
 ·have q:((c.toNat:Int)==95)=true:=u8_eq (b:=95) h;have HV:Hid (R=true):=show _=_ by rw [hV,h]; rfl
  clear hV h
  go_enter Tryz.func149,Tryz.ntmps149
  go_wp2;go_ret;exact ⟨ret_bool HV.out.symm,rfl⟩
 have q:((c.toNat:Int)==95)=false:=u8_ne (b:=95) h;rw [beq_eq_false_iff_ne.2 h,Bool.false_or] at hV;clear h;by_cases h:c=45
 ·have q1:((c.toNat:Int)==45)=true:=u8_eq (b:=45) h;have HV:Hid (R=true):=show _=_ by rw [hV,h]; rfl
  clear hV h
  go_enter Tryz.func149,Tryz.ntmps149
  go_wp2;go_ret;exact ⟨ret_bool HV.out.symm,rfl⟩
 have q1:((c.toNat:Int)==45)=false:=u8_ne (b:=45) h;rw [beq_eq_false_iff_ne.2 h,Bool.false_or] at hV;clear h;by_cases h:c=46
 ·have q2:((c.toNat:Int)==46)=true:=u8_eq (b:=46) h;have HV:Hid (R=true):=show _=_ by rw [hV,h]; rfl
  clear hV h
  go_enter Tryz.func149,Tryz.ntmps149
  go_wp2;go_ret;exact ⟨ret_bool HV.out.symm,rfl⟩
 have q2:((c.toNat:Int)==46)=false:=u8_ne (b:=46) h;rw [beq_eq_false_iff_ne.2 h,Bool.false_or] at hV;clear h;by_cases h:c=58
 ·have q3:((c.toNat:Int)==58)=true:=u8_eq (b:=58) h;have HV:Hid (R=true):=show _=_ by rw [hV,h]; rfl
  clear hV h
  go_enter Tryz.func149,Tryz.ntmps149
  go_wp2;go_ret;exact ⟨ret_bool HV.out.symm,rfl⟩
 have q3:((c.toNat:Int)==58)=false:=u8_ne (b:=58) h;rw [beq_eq_false_iff_ne.2 h,Bool.false_or] at hV;clear h;have HV:=hid hV;clear hV
 go_enter Tryz.func149,Tryz.ntmps149
 go_wp2_with (go_at_call 113; refine (KC.out _).mono ?_; rintro e w' ⟨rfl,rfl⟩)
 go_ret;exact ⟨by rw [HV.out]; exact ret_bool rfl,rfl⟩
set_option maxHeartbeats 1000000 in
theorem xname_any (s:ByteArray) (w:World) (hs:s.size≤140737488355328) :
  Calls Tryz.prog 128 #[.string s] w fun e w'=>e=.returned (.bool (nameX s.data.toList))∧w'=w:=by
 have HG:=hid goesOn_any;have HE:=hid (name_end s);have HB:=hid (fun k h=>name_bad s k h);have HH:=hid (fun h=>name_head s h);have hl:=len_data s
 have hlong:s.size=0∨64 < s.size → nameX s.data.toList=false:=fun h=>by
  unfold nameX;rw [hl]
  rcases h with h | h
  ·have:s.data.toList=[]:=List.eq_nil_of_length_eq_zero (by omega)
   rw [this]; rfl
  ·rw [decide_eq_false (by omega)]; simp
 generalize nameX s.data.toList=R at HE HB HH hlong ⊢;by_cases h0:s.size=0
 ·have hR:Hid (R=false):=hlong (.inl h0)
  have e0:s=⟨#[]⟩:=by
   apply ByteArray.ext
   apply Array.eq_empty_of_size_eq_zero
   exact h0
  subst e0;clear HE HB HH hlong hl
  go_enter Tryz.func128,Tryz.ntmps128
  go_wp2;go_ret;exact ⟨ret_bool hR.out.symm,rfl⟩
 have e0:s.toList.isEmpty=false:=by
  rw [ByteArray.toList_eq,List.isEmpty_eq_false_iff];intro e;rw [e] at hl;exact h0 hl.symm
 by_cases h64:64 < s.size
 ·have hR:Hid (R=false):=hlong (.inr h64);have r1:(64:Int) < (s.size:Int):=by omega
  clear HE HB HH hlong hl h0
  go_enter Tryz.func128,Tryz.ntmps128
  go_wp2;go_ret;exact ⟨ret_bool hR.out.symm,rfl⟩
 have r1:¬ (64:Int) < (s.size:Int):=by omega
 have hp:0 < s.size:=by omega
 have KB:=hid (fun w'=>begins_any s[0] w');have hbd:=u8_bd s[0]
 cases hb:letX s[0] with
 | false =>
  rw [hb] at KB;have hR:Hid (R=false):=HH.out hp hb;clear HE HB HH hlong hl h0 hb
  go_enter Tryz.func128,Tryz.ntmps128
  go_wp2_with (go_at_call 148; refine (KB.out _).mono ?_; rintro e w' ⟨rfl,rfl⟩)
  go_ret;exact ⟨ret_bool hR.out.symm,rfl⟩
 | true =>
  rw [hb] at KB
  have HE2:Hid (∀ k,s.size≤k → (s.data.toList.take k).all namc=true → R=true):=fun k h1 h2=>by
   rw [HE.out k h1 h2 (.inr ⟨hp,hb⟩),decide_eq_true (by omega),decide_eq_true (by omega)]; rfl
  clear HE HH hlong hl h0 hb
  go_enter Tryz.func128,Tryz.ntmps128
  go_wp2_with (go_at_call 148; refine (KB.out _).mono ?_; rintro e w' ⟨rfl,rfl⟩)
  clear KB hbd
  go_loop [19] (fun i=>∃ k:Nat,k≤s.size∧i=.int .i64 k∧Hid ((s.data.toList.take k).all namc=true)) (fun i=>s.size - (intOf i).toNat)
  case atStart=>exact ⟨0,Nat.zero_le _,rfl,hid (by simp)⟩
  case round =>
   obtain ⟨k,hk,rfl,hv⟩:=hrel;by_cases hlt:k < s.size
   ·have KG:=hid (fun w'=>HG.out s[k] w');have hbd:=u8_bd s[k]
    cases hn:namc s[k] with
    | true =>
     rw [hn] at KG;have hv2:=hid (all_snocX namc s k hlt hv.out hn);clear hv hn;go_wp2_with (go_at_call 149; refine (KG.out _).mono ?_; rintro e w' ⟨rfl,rfl⟩)
     go_round
     case rel=>exact ⟨k+1,by omega,by go_num,hv2⟩
     case measure=>simp [intOf]; omega
    | false =>
     rw [hn] at KG;have hR:Hid (R=false):=HB.out k hlt hn;clear hv hn;go_wp2_with (go_at_call 149; refine (KG.out _).mono ?_; rintro e w' ⟨rfl,rfl⟩)
     go_ret;exact ⟨ret_bool hR.out.symm,rfl⟩
   ·have hR:Hid (R=true):=HE2.out k (by omega) hv.out;clear hv;go_wp2;go_ret;exact ⟨ret_bool hR.out.symm,rfl⟩
theorem xname_list (l:List UInt8) (w:World) (h:l.length≤140737488355328) :
  Calls Tryz.prog 128 #[.string ⟨l.toArray⟩] w fun e w'=>e=.returned (.bool (nameX l))∧w'=w:=xname_any ⟨l.toArray⟩ w (by rw [size_list]; exact h)
theorem xblk_idx:∀ c:UInt8,decide (Lib.indexByte [32,9,13,10] c < 0)=!xblk c:=by apply byte_all; decide +kernel
set_option maxHeartbeats 1000000 in
theorem xsigns_any (s:ByteArray) (w:World) (hs:s.size≤140737488355328) :
  Calls Tryz.prog 151 #[.string s] w fun e w'=>e=.returned (.bool (signsX s.data.toList))∧w'=w:=by
 have HB:Hid (∀ k (h:k < s.size),signX s[k]=false → signsX s.data.toList=false):=fun k h hp=>all_badX signX s k h hp;have HE:Hid (∀ k,s.size≤k → (s.data.toList.take k).all signX=true → signsX s.data.toList=true):=fun k h1 h2=>by rw [take_all s k h1] at h2; exact h2
 generalize signsX s.data.toList=R at HB HE ⊢
 go_enter Tryz.func151,Tryz.ntmps151
 go_wp2
 go_loop [6] (fun i=>∃ k:Nat,k≤s.size∧i=.int .i64 k∧Hid ((s.data.toList.take k).all signX=true)) (fun i=>s.size - (intOf i).toNat)
 case atStart=>exact ⟨0,Nat.zero_le _,rfl,hid (by simp)⟩
 case round =>
  obtain ⟨k,hk,rfl,hv⟩:=hrel;by_cases hlt:k < s.size
  ·have hbd:=u8_bd s[k];have KI:=hid (fun w'=>strIndexByte_any ⟨#[32,9,13,10]⟩ s[k] w');have hx:decide (Lib.indexByte (⟨#[32,9,13,10]⟩:ByteArray).data.toList s[k] < 0)=!xblk s[k]:=xblk_idx s[k];generalize Lib.indexByte (⟨#[32,9,13,10]⟩:ByteArray).data.toList s[k]=n at KI hx;by_cases h127:s[k]=127
   ·have q:((s[k].toNat:Int)==127)=true:=u8_eq (b:=127) h127;have hR:Hid (R=false):=HB.out k hlt (by rw [h127]; decide);clear hv h127 hx;go_wp2;go_ret;exact ⟨ret_bool hR.out.symm,rfl⟩
   have q:((s[k].toNat:Int)==127)=false:=u8_ne (b:=127) h127;by_cases h32:s[k].toNat < 32
   ·have r:(s[k].toNat:Int) < 32:=by omega
    cases hb:xblk s[k] with
    | true =>
     have hv2:=hid (all_snocX signX s k hlt hv.out (by unfold signX; rw [hb]; rfl));have hn:¬ n < 0:=of_decide_eq_false (by rw [hx,hb]; rfl);clear hv h127 hx hb;go_wp2_with (go_at_call 138; refine (KI.out _).mono ?_; rintro e w' ⟨rfl,rfl⟩)
     go_round
     case rel=>exact ⟨k+1,by omega,by go_num,hv2⟩
     case measure=>simp [intOf]; omega
    | false =>
     have hR:Hid (R=false):=HB.out k hlt (sign_low hb h32);have hn:n < 0:=of_decide_eq_true (by rw [hx,hb]; rfl);clear hv h127 hx hb;go_wp2_with (go_at_call 138; refine (KI.out _).mono ?_; rintro e w' ⟨rfl,rfl⟩)
     go_ret;exact ⟨ret_bool hR.out.symm,rfl⟩
   ·have r:¬ (s[k].toNat:Int) < 32:=by omega
    have hv2:=hid (all_snocX signX s k hlt hv.out (sign_ok h32 h127));clear hv h127 hx;go_wp2
    go_round
    case rel=>exact ⟨k+1,by omega,by go_num,hv2⟩
    case measure=>simp [intOf]; omega
  ·have hR:Hid (R=true):=HE.out k (by omega) hv.out;clear hv;go_wp2;go_ret;exact ⟨ret_bool hR.out.symm,rfl⟩
theorem xsigns_list (l:List UInt8) (w:World) (h:l.length≤140737488355328) :
  Calls Tryz.prog 151 #[.string ⟨l.toArray⟩] w fun e w'=>e=.returned (.bool (signsX l))∧w'=w:=xsigns_any ⟨l.toArray⟩ w (by rw [size_list]; exact h)
set_option maxHeartbeats 400000 in
theorem xtext_any (l:List UInt8) (w:World) (h:l.length≤140737488355328) :
  Calls Tryz.prog 130 #[.string ⟨l.toArray⟩] w fun e w'=>e=.returned (.bool (signsX l && xtrim l==l))∧Below w.heap.size w w':=by
 have KS:=hid (fun w'=>xsigns_list l w' h);have KT:=hid (fun w'=>xtrimAll_list l w' h)
 cases hs:signsX l with
 | false =>
  rw [hs] at KS;clear hs
  go_enter Tryz.func130,Tryz.ntmps130
  go_wp2_with fail
  refine (KS.out _).mono ?_
  rintro e w ⟨rfl,rfl⟩;go_wp2;go_ret;exact ⟨rfl,Below.refl _ _⟩
 | true =>
  rw [hs] at KS;clear hs;generalize xtrim l=t at KT ⊢
  go_enter Tryz.func130,Tryz.ntmps130
  go_wp2_with fail
  refine (KS.out _).mono ?_
  rintro e w ⟨rfl,rfl⟩;go_wp2_with fail
  refine (KT.out _).mono ?_
  rintro e w1 ⟨rfl,hw1⟩;go_wp2;go_ret;exact ⟨by simp,hw1⟩
theorem own_strs {w:World} {B e:Nat} {v:Value} {ps:List (List UInt8)} (h:Own w B e v (strs ps)) (hne:ps ≠ []) :
  ∃ g cap,v=.slice (some ⟨g,0,none⟩) ps.length cap∧∀ j (hj:j < ps.length),w.cell? ⟨g,j,none⟩=some (.string ⟨(ps[j]).toArray⟩):=by
 rcases h.2 with ⟨rfl,hn⟩ | ⟨g,cap,cur,rfl,hb,hg,_⟩
 ·rw [strs_length] at hn;exact absurd (List.eq_nil_of_length_eq_zero hn) hne
 ·refine ⟨g,cap,by rw [strs_length],fun j hj=>?_⟩
  have:=World.ownsRow.cells h (g:=g) rfl j (.string ⟨(ps[j]).toArray⟩) (by simp [strs,hj])
  unfold Addr.add at this;by_cases h0:j=0
  ·subst h0; simpa using this
  ·simpa [h0] using this
theorem distinct_snoc (p:Par):∀ l:List Par,distinctX (l++[p])=(distinctX l && l.all (fun q=>!(q.name==p.name)))
 | []=>rfl
 | x :: l=>by
  rw [List.cons_append,distinctX,distinct_snoc p l,distinctX,List.all_cons,List.all_append];have e:(p.name==x.name)=(x.name==p.name):=by rw [Bool.eq_iff_iff]; simp; exact eq_comm
  simp only [List.all_cons,List.all_nil,Bool.and_true,e];generalize (l.all fun q=>!(q.name==x.name))=a;generalize (l.all fun q=>!(q.name==p.name))=b;generalize distinctX l=c;generalize (x.name==p.name)=d
  cases a <;> cases b <;> cases c <;> cases d <;> rfl
theorem distinct_front:∀ a b:List Par,distinctX (a++b)=true → distinctX a=true
 | [],b,_=>rfl
 | x :: a,b,h=>by
  rw [List.cons_append,distinctX,List.all_append,Bool.and_eq_true,Bool.and_eq_true] at h;rw [distinctX,h.1.1,distinct_front a b h.2]; rfl
def attrOk (p:Par):Bool:=nameX p.name && (p.has && signsX p.value)
theorem attrsOk_is (l:List Par) (h:l.length≤16):attrsOk l=(l.all attrOk && distinctX l):=by
 unfold attrsOk; rw [decide_eq_true h]; rfl
theorem attrs_snoc {l:List Par} {j:Nat} (hj:j < l.length) (ha:((l.take j).all attrOk && distinctX (l.take j))=true) (h1:attrOk l[j]=true) (h2:(l.take j).all (fun q=>!(q.name==l[j].name))=true):((l.take (j+1)).all attrOk && distinctX (l.take (j+1)))=true:=by
 rw [Bool.and_eq_true] at ha;rw [List.take_succ_eq_append_getElem hj,distinct_snoc,List.all_append,ha.1,ha.2,h2]
 simp [h1]
theorem attrs_bad {l:List Par} {j:Nat} (hl:l.length≤16) (hj:j < l.length) (h1:attrOk l[j]=false):attrsOk l=false:=by
 rw [attrsOk_is l hl]
 have:l.all attrOk=false:=by rw [List.all_eq_false]; exact ⟨l[j],List.getElem_mem hj,by simp [h1]⟩
 rw [this]; rfl
theorem attrs_twice {l:List Par} {j m:Nat} (hl:l.length≤16) (hj:j < l.length) (hm:m < j) (h1:(l[m].name==l[j].name)=true):attrsOk l=false:=by
 rw [attrsOk_is l hl]
 have:distinctX l=false:=by
  cases hd:distinctX l with
  | false=>rfl
  | true =>
   have e:=List.take_append_drop (j+1) l;rw [← e] at hd;have h3:=distinct_front _ _ hd;rw [List.take_succ_eq_append_getElem hj,distinct_snoc,Bool.and_eq_true,List.all_eq_true] at h3;have h4:=h3.2 l[m] (by rw [List.mem_take_iff_getElem]; exact ⟨m,by omega,rfl⟩);rw [h1] at h4; cases h4
 rw [this]; simp
theorem signs_list (l:List UInt8) (w:World) (h:l.length≤140737488355328) :
  Calls Tryz.prog 66 #[.string ⟨l.toArray⟩] w fun e w'=>e=.returned (.bool (signsX l))∧w'=w:=rsigns_any ⟨l.toArray⟩ w (by rw [size_list]; exact h)
theorem ParsAt.open {w:World} {v:Value} {ps:List Par} (h:ParsAt w v ps):∃ ao cap,v=.slice ao ps.length cap∧∀ k (hk:k < ps.length),∃ a,ao=some a∧a.block < w.heap.size∧ParAt w a k ps[k]:=by
 rcases h with ⟨rfl,rfl⟩ | ⟨a,cap,rfl,hc⟩
 ·exact ⟨none,0,rfl,fun k hk=>by simp at hk⟩
 ·exact ⟨some a,cap,rfl,fun k hk=>⟨a,rfl,(hc k hk).1,(hc k hk).2⟩⟩
def okN (l:List Nd) (i:Nat) (h:i < l.length):Prop :=
 (0 < i → 1≤l[i].deep∧l[i].deep≤(l[i - 1]'(by omega)).deep+1)∧nodeOk l[i]=true∧(∀ h2:i+1 < l.length,l[i].deep < l[i+1].deep → l[i].text=[])
theorem steps_iff:∀ l:List Nd,stepsX l=true ↔ ∀ i (h:i < l.length),okN l i h
 | []=>by simp [stepsX]
 | [x]=>by
  constructor
  ·intro h i hi
   have:i=0:=by simp at hi; exact hi
   subst this;exact ⟨fun hp=>absurd hp (by omega),h,fun h2=>absurd h2 (by simp)⟩
  ·intro h;exact (h 0 (by simp)).2.1
 | x :: y :: r=>by
  have hnx:nextOk x y=true ↔ (1≤y.deep∧y.deep≤x.deep+1)∧(x.deep < y.deep → x.text=[]):=by
   unfold nextOk;rw [Bool.and_eq_true,decide_eq_true_iff,Bool.or_eq_true,Bool.not_eq_true',decide_eq_false_iff_not,List.isEmpty_iff]
   constructor
   ·rintro ⟨h1,h2⟩;exact ⟨h1,fun h=>h2.resolve_left (fun h3=>h3 h)⟩
   ·rintro ⟨h1,h2⟩;refine ⟨h1,?_⟩
    by_cases h:x.deep < y.deep
    ·exact .inr (h2 h)
    ·exact .inl h
  rw [stepsX,Bool.and_eq_true,Bool.and_eq_true,steps_iff (y :: r),hnx]
  constructor
  ·rintro ⟨h1,h2,h3⟩ i hi
   match i,hi with
   | 0,hi=>exact ⟨fun hp=>absurd hp (by omega),h1,fun _ hd=>h2.2 hd⟩
   | 1,hi=>exact ⟨fun _=>h2.1,(h3 0 (by simp)).2.1,fun h4 hd=>(h3 0 (by simp)).2.2 (by simpa using h4) hd⟩
   | j+2,hi =>
    have h:=h3 (j+1) (by simpa using hi);exact ⟨fun _=>h.1 (by omega),h.2.1,fun h4 hd=>h.2.2 (by simp only [List.length_cons] at h4 ⊢; omega) hd⟩
  ·intro h;have h0:=h 0 (by simp);have h1:=h 1 (by simp);refine ⟨h0.2.1,⟨h1.1 (by omega),fun hd=>h0.2.2 (by simp) hd⟩,fun i hi=>?_⟩
   have hh:=h (i+1) (by simpa using hi);refine ⟨fun hp=>?_,hh.2.1,fun h4 hd=>hh.2.2 (by simpa using h4) hd⟩
   obtain ⟨j,rfl⟩:∃ j,i=j+1:=⟨i - 1,by omega⟩
   exact hh.1 (by omega)
def okC (cs:List NdC) (i:Nat) (h:i < cs.length):Prop :=
 (0 < i → 1≤cs[i].nd.deep∧cs[i].nd.deep≤(cs[i - 1]'(by omega)).nd.deep+1)∧nodeOk cs[i].nd=true∧(∀ h2:i+1 < cs.length,cs[i].nd.deep < cs[i+1].nd.deep → cs[i].nd.text=[])
theorem okC_iff (cs:List NdC) (i:Nat) (h:i < cs.length):okC cs i h ↔ okN (ndsL cs) i (by rw [ndsL_len]; exact h):=by
 unfold okC okN
 simp [ndsL]
theorem chk_bad {cs:List NdC} {i:Nat} (h:i < cs.length) (hb:¬ okC cs i h):checkX (ndsL cs)=130:=by
 unfold checkX;rw [if_pos];refine .inr (.inr (.inr ?_))
 cases hs:stepsX (ndsL cs) with
 | false=>rfl
 | true=>exact absurd ((okC_iff cs i h).2 ((steps_iff _).1 hs i _)) hb
theorem chk_head {cs:List NdC} (h:0 < cs.length) (hb:cs[0].nd.deep ≠ 0):checkX (ndsL cs)=130:=by
 unfold checkX;rw [if_pos];refine .inr (.inr (.inl ?_))
 rw [List.head?_eq_getElem?]
 simpa [ndsL,h] using hb
theorem chk_ok {cs:List NdC} (h:0 < cs.length) (h2:cs.length≤200) (h0:cs[0].nd.deep=0) (ha:∀ i (hi:i < cs.length),okC cs i hi):checkX (ndsL cs)=0:=by
 unfold checkX;rw [if_neg];have e:=ndsL_len cs;have hs:stepsX (ndsL cs)=true:=(steps_iff _).2 fun i hi=>(okC_iff cs i (by rw [← e]; exact hi)).1 (ha i _);rintro (h3 | h3 | h3 | h3)
 ·omega
 ·omega
 ·apply h3
  rw [List.head?_eq_getElem?]
  simpa [ndsL,h] using h0
 ·rw [hs] at h3; cases h3
theorem chk_size {cs:List NdC} (h:cs.length < 1∨200 < cs.length):checkX (ndsL cs)=130:=by
 unfold checkX;rw [if_pos];rw [ndsL_len]
 rcases h with h | h
 ·exact .inl h
 ·exact .inr (.inl h)
theorem trimX_list (l:List UInt8) (w:World) (h:l.length≤140737488355328) :
  Calls Tryz.prog 67 #[.string ⟨l.toArray⟩] w fun e w'=>e=.returned (.string ⟨(xtrim l).toArray⟩)∧w'=w:=rtrimX_any ⟨l.toArray⟩ w (by rw [size_list]; exact h)
def findX (nm:List UInt8):List Par → Nat → Int
 | [],_=>-1
 | p :: ps,k=>if p.name=nm then (k:Int) else findX nm ps (k+1)
theorem findX_at {nm:List UInt8} {l:List Par} {k:Nat} (hk:k < l.length):findX nm (l.drop k) k=if l[k].name=nm then (k:Int) else findX nm (l.drop (k+1)) (k+1):=by
 rw [List.drop_eq_getElem_cons hk,findX]
theorem findX_end {nm:List UInt8} {l:List Par} {k:Nat} (hk:l.length≤k):findX nm (l.drop k) k=-1:=by
 rw [List.drop_eq_nil_of_le hk]; rfl
theorem find_own {l:List Par} {j:Nat} (hj:j < l.length):∀ k,k≤j → (findX l[j].name (l.drop k) k=(j:Int) ↔ ∀ m (hm:m < j),k≤m → (l[m]'(by omega)).name ≠ l[j].name):=by
 intro k hk
 induction hd:j - k generalizing k with
 | zero =>
  have:k=j:=by omega
  subst this;rw [findX_at hj,if_pos rfl];exact ⟨fun _ m hm hk=>by omega,fun _=>rfl⟩
 | succ n ih =>
  have hkl:k < l.length:=by omega
  rw [findX_at hkl];by_cases h:l[k].name=l[j].name
  ·rw [if_pos h]
   constructor
   ·intro e; omega
   ·intro e; exact absurd h (e k (by omega) (Nat.le_refl _))
  ·rw [if_neg h,ih (k+1) (by omega) (by omega)]
   constructor
   ·intro e m hm hkm;by_cases hq:m=k
    ·subst hq; exact h
    ·exact e m hm (by omega)
   ·intro e m hm hkm;exact e m hm (by omega)
set_option maxHeartbeats 2000000 in
set_option maxRecDepth 100000 in
theorem xfind_any (v:Value) (ps:List Par) (nm:List UInt8) (w:World) (hz:ps.length≤140737488355328) (hv:ParsAt w v ps) :
  Calls Tryz.prog 150 #[v,.string ⟨nm.toArray⟩] w fun e w'=>e=.returned (.int .i64 (findX nm ps 0))∧Below w.heap.size w w':=by
 obtain ⟨ao,cap,rfl,hc⟩:=hv.open;have HC:=hid hc;clear hc hv;obtain ⟨R,hR⟩:∃ R,R=findX nm ps 0:=⟨_,rfl⟩
 rw [← hR];have HR:Hid (R=findX nm (ps.drop 0) 0):=hR;obtain ⟨n,hn⟩:∃ n,n=ps.length:=⟨_,rfl⟩
 rw [← hn] at hz ⊢;have HL:=hid hn;clear hn hR
 go_enter Tryz.func150,Tryz.ntmps150
 go_wp2
 go_loopw [9] (fun i wr=>∃ k:Nat,k≤n∧i=.int .i64 k∧Hid (R=findX nm (ps.drop k) k)∧Below w.heap.size w wr) (fun i _=>n - (intOf i).toNat)
 case atStart=>exact ⟨0,Nat.zero_le _,rfl,HR,Below.refl _ _⟩
 case round =>
  obtain ⟨k,hk,rfl,hv,hb⟩:=hrel;clear HR;by_cases hlt:k < n
  ·have hkl:k < ps.length:=by have:=HL.out; omega
   obtain ⟨ad,hao,hab,c0,c1,c2⟩:=HC.out k hkl;subst hao;have hv2:=hv.out;rw [findX_at hkl] at hv2;have q6:(k:Int) < (n:Int):=by omega
   have a0:=cell_below hb (by rw [add_block]; exact hab) c0;have a1:=cell_below hb (by simp only [add_block]; exact hab) c1;have a2:=cell_below hb (by simp only [add_block]; exact hab) c2;have hbn:Below w.heap.size w (wr.alloc (.cells #[.string ⟨ps[k].name.toArray⟩,.string ⟨ps[k].value.toArray⟩,.bool ps[k].has] 173)):=hb.alloc hb.size _;clear c0 c1 c2;generalize ps[k]=P at a0 a1 a2 hv2 hbn;obtain ⟨pn,pv,ph⟩:=P;simp only at a0 a1 a2 hv2 hbn;by_cases he:pn=nm
   ·rw [if_pos he] at hv2;have hE:=hid hv2;have e1:(pn==nm)=true:=by rw [beq_iff_eq]; exact he
    clear hv hv2 he;go_wp2;go_ret;exact ⟨by rw [hE.out]; rfl,hbn⟩
   ·rw [if_neg he] at hv2;have hE:=hid hv2;have e1:(pn==nm)=false:=by rw [beq_eq_false_iff_ne]; exact he
    clear hv hv2 he;go_wp2;go_roundw
    case rel=>exact ⟨k+1,by omega,by go_num,hE,hbn⟩
    case measure=>simp [intOf]; omega
  ·have hE:Hid (R=-1):=show _=_ by rw [hv.out]; exact findX_end (by have:=HL.out; omega)
   clear hv;go_wp2;go_ret;exact ⟨by rw [hE.out]; rfl,hb⟩
end Go.Proofs.YtbmjodlbkgblpaaGreatDoor
