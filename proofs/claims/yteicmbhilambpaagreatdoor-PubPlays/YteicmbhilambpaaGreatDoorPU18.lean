/-
  XTrim, RX1, RX2, XName, RefTexts, RX7, RX9, XChk, XChk2, XChk3.
-/
import Derived.Test.YteicmbhilambpaaGreatDoorPU16
set_option linter.unusedVariables false
set_option linter.unusedSimpArgs false
set_option maxRecDepth 20000
namespace Go.Proofs.YteicmbhilambpaaGreatDoor
open Go.RowKit Sc
set_option maxHeartbeats 1000000 in
set_option maxRecDepth 100000 in
theorem xtrimAll_list (l:List UInt8) (w:World) (hl:l.length≤140737488355328) :
  Calls Tryz.prog 187 #[.string ⟨l.toArray⟩,.string ⟨#[32,9,13,10]⟩] w fun e w'=>e=.returned (.string ⟨(xtrim l).toArray⟩)∧Below w.heap.size w w':=by
 cases he:l.isEmpty with
 | true =>
  obtain rfl:l=[]:=by simpa using he
  have hE:Hid (xtrim []=[]):=rfl
  go_enter Tryz.func187,Tryz.ntmps187
  go_wp2;go_ret;exact ⟨by rw [hE.out]; rfl,Below.refl _ _⟩
 | false =>
  have KM:=hid (makeSet_any ⟨#[32,9,13,10]⟩ w (by decide) xb_ascii);have hsz:=Lib.setCells_size [32,9,13,10];have hi2:=hid (show (Tryz.prog.info? 237).map (·.size)=some (Lib.setCells [32,9,13,10]).size by rw [hsz]; exact (zero_of_info infoSet).2);have hzv:=(zero_of_info infoSet).1
  have hcellAt:∀ x:UInt8,((w.alloc (.cells (Lib.setCells [32,9,13,10]) 237)).alloc (.cells (Lib.setCells [32,9,13,10]) 237)).cell? ⟨w.heap.size+1,x.toNat,none⟩=some (.bool (xblk x)):=fun x=>by
   rw [World.cell?_alloc_at _ _ _ _ (by simp),Lib.setCells_at,← xbL_is]; rfl
  have KT:=hid (xtrimR_any ⟨l.toArray⟩ (w.heap.size+1) _ (by rw [size_list]; exact hl) hcellAt);have KL:=hid (xtrimL_any ⟨(xbehind l).toArray⟩ (w.heap.size+1) _ (by rw [size_list]; exact Nat.le_trans (xbehind_len l) hl) hcellAt);rw [show ((⟨(xbehind l).toArray⟩:ByteArray).data.toList.dropWhile xblk)=xtrim l from xtrim_two l] at KL;generalize xtrim l=R at KL;have hb2:Below w.heap.size w ((w.alloc (.cells (Lib.setCells [32,9,13,10]) 237)).alloc (.cells (Lib.setCells [32,9,13,10]) 237)):=((Below.refl _ _).alloc (Nat.le_refl _) _).alloc (by simp) _;have hrep:Hid ((Array.replicate 256 (Value.bool false)).size=(Lib.setCells [32,9,13,10]).size):=show _=_ by rw [hsz,Array.size_replicate]
  have HA1:Hid ((w.alloc (.cells (Lib.setCells [32,9,13,10]) 237)).heap.size=w.heap.size+1):=show _=_ by simp
  clear hcellAt hsz
  go_enter Tryz.func187,Tryz.ntmps187
  go_wp2_with (first
   | (go_at_call 199; refine KM.out.mono ?_; rintro e w' ⟨rfl,hw⟩; rw [hw])
   | (go_at_call 201; refine KT.out.mono ?_; rintro e w' ⟨rfl,hw⟩; rw [hw])
   | (go_at_call 200; refine KL.out.mono ?_; rintro e w' ⟨rfl,hw⟩; rw [hw])
   | (refine wp_store_new rfl (.tmp 5) (.tmp 32) 237 rfl rfl (Array.replicate 256 (.bool false)) (Lib.setCells [32,9,13,10]) hi2.out hrep.out (Lib.setCells_one _) (w.heap.size+1) HA1.out rfl rfl ?_))
  go_ret;exact ⟨rfl,hb2⟩
theorem getB (s:ByteArray) (k:Nat) (h:k < s.size):s.data.toList[k]'(by rw [len_data]; exact h)=s[k]:=by
 have:=getL s k h
 rw [List.getElem?_eq_getElem (by rw [len_data]; exact h)] at this;exact Option.some.inj this
theorem all_snocX (p:UInt8 → Bool) (s:ByteArray) (k:Nat) (h:k < s.size) (ha:(s.data.toList.take k).all p=true) (hp:p s[k]=true):(s.data.toList.take (k+1)).all p=true:=by
 rw [take_snoc s k h,List.all_append,ha]; simp [hp]
theorem all_badX (p:UInt8 → Bool) (s:ByteArray) (k:Nat) (h:k < s.size) (hp:p s[k]=false):s.data.toList.all p=false:=by
 rw [List.all_eq_false];exact ⟨s[k],by rw [← getB s k h]; exact List.getElem_mem _,by simp [hp]⟩
theorem sign_low {b:UInt8} (hx:xblk b=false) (h:b.toNat < 32):signX b=false:=by
 unfold signX; rw [hx]; simp [h]
theorem sign_ok {b:UInt8} (h:¬ b.toNat < 32) (h2:¬ b=127):signX b=true:=by
 unfold signX; simp [h,h2]
theorem name_bad (s:ByteArray) (k:Nat) (h:k < s.size) (hp:namc s[k]=false):nameX s.data.toList=false:=by
 unfold nameX; rw [all_badX _ _ _ h hp]; rfl
theorem name_head (s:ByteArray) (h:0 < s.size) (hp:letX s[0]=false):nameX s.data.toList=false:=by
 unfold nameX
 have:s.data.toList.head? = some s[0]:=by
  rw [List.head?_eq_getElem?,getL s 0 h]
 rw [this]; simp [hp]
theorem name_end (s:ByteArray) (k:Nat) (hk:s.size≤k) (ha:(s.data.toList.take k).all namc=true) (hh:k=0∨∃ h:0 < s.size,letX s[0]=true):nameX s.data.toList=(decide (1≤s.size) && decide (s.size≤64)):=by
 rw [take_all s k hk] at ha;unfold nameX;rw [ha,len_data,Bool.true_and]
 rcases hh with hh | ⟨h,hl⟩
 ·have h0:s.size=0:=by omega
  have:s.data.toList=[]:=List.eq_nil_of_length_eq_zero (by rw [len_data]; exact h0)
  rw [this,h0]; rfl
 ·have:s.data.toList.head? = some s[0]:=by
   rw [List.head?_eq_getElem?,getL s 0 h]
  rw [this];have h1:decide (1≤s.size)=true:=decide_eq_true (by omega);rw [h1]; simp [hl]
theorem begins_any (c:UInt8) (w:World):Calls Tryz.prog 183 #[.int .u8 c.toNat] w fun e w'=>e=.returned (.bool (letX c))∧w'=w:=by
 have hbd:=u8_bd c;have KC:=hid (fun w'=>class_any c.toNat w' hbd.1 hbd.2);have hV:letX c=(isB c.toNat 2 || c==95):=rfl;by_cases h:c=95
 ·have q:((c.toNat:Int)==95)=true:=u8_eq (b:=95) h;have HV:Hid (letX c=true):=show _=_ by rw [hV,h]; rfl
  clear hV h
  go_enter Tryz.func183,Tryz.ntmps183
  go_wp2;go_ret;exact ⟨ret_bool HV.out.symm,rfl⟩
 ·have q:((c.toNat:Int)==95)=false:=u8_ne (b:=95) h;have HV:Hid (letX c=isB c.toNat 2):=show _=_ by rw [hV,beq_eq_false_iff_ne.2 h,Bool.or_false]
  clear hV h
  go_enter Tryz.func183,Tryz.ntmps183
  go_wp2_with (go_at_call 151; refine (KC.out _).mono ?_; rintro e w' ⟨rfl,rfl⟩)
  go_ret;exact ⟨by rw [HV.out]; exact ret_bool rfl,rfl⟩
theorem namc_is:∀ c:UInt8,namc c=(c==95 || (c==45 || (c==46 || (c==58 || isB c.toNat 3)))):=by apply byte_all; decide +kernel
theorem goesOn_any (c:UInt8) (w:World):Calls Tryz.prog 184 #[.int .u8 c.toNat] w fun e w'=>e=.returned (.bool (namc c))∧w'=w:=by
 have hbd:=u8_bd c;have KC:=hid (fun w'=>class_any c.toNat w' hbd.1 hbd.2);have hV:=namc_is c;generalize namc c=R at hV ⊢;by_cases h:c=95
 ·have q:((c.toNat:Int)==95)=true:=u8_eq (b:=95) h;have HV:Hid (R=true):=show _=_ by rw [hV,h]; rfl
  clear hV h
  go_enter Tryz.func184,Tryz.ntmps184
  go_wp2;go_ret;exact ⟨ret_bool HV.out.symm,rfl⟩
 have q:((c.toNat:Int)==95)=false:=u8_ne (b:=95) h;rw [beq_eq_false_iff_ne.2 h,Bool.false_or] at hV;clear h;by_cases h:c=45
 ·have q1:((c.toNat:Int)==45)=true:=u8_eq (b:=45) h;have HV:Hid (R=true):=show _=_ by rw [hV,h]; rfl
  clear hV h
  go_enter Tryz.func184,Tryz.ntmps184
  go_wp2;go_ret;exact ⟨ret_bool HV.out.symm,rfl⟩
 have q1:((c.toNat:Int)==45)=false:=u8_ne (b:=45) h;rw [beq_eq_false_iff_ne.2 h,Bool.false_or] at hV;clear h;by_cases h:c=46
 ·have q2:((c.toNat:Int)==46)=true:=u8_eq (b:=46) h;have HV:Hid (R=true):=show _=_ by rw [hV,h]; rfl
  clear hV h
  go_enter Tryz.func184,Tryz.ntmps184
  go_wp2;go_ret;exact ⟨ret_bool HV.out.symm,rfl⟩
 have q2:((c.toNat:Int)==46)=false:=u8_ne (b:=46) h;rw [beq_eq_false_iff_ne.2 h,Bool.false_or] at hV;clear h;by_cases h:c=58
 ·have q3:((c.toNat:Int)==58)=true:=u8_eq (b:=58) h;have HV:Hid (R=true):=show _=_ by rw [hV,h]; rfl
  clear hV h
  go_enter Tryz.func184,Tryz.ntmps184
  go_wp2;go_ret;exact ⟨ret_bool HV.out.symm,rfl⟩
 have q3:((c.toNat:Int)==58)=false:=u8_ne (b:=58) h;rw [beq_eq_false_iff_ne.2 h,Bool.false_or] at hV;clear h;have HV:=hid hV;clear hV
 go_enter Tryz.func184,Tryz.ntmps184
 go_wp2_with (go_at_call 151; refine (KC.out _).mono ?_; rintro e w' ⟨rfl,rfl⟩)
 go_ret;exact ⟨by rw [HV.out]; exact ret_bool rfl,rfl⟩
set_option maxHeartbeats 1000000 in
theorem xname_any (s:ByteArray) (w:World) (hs:s.size≤140737488355328) :
  Calls Tryz.prog 166 #[.string s] w fun e w'=>e=.returned (.bool (nameX s.data.toList))∧w'=w:=by
 have HG:=hid goesOn_any;have HE:=hid (name_end s);have HB:=hid (fun k h=>name_bad s k h);have HH:=hid (fun h=>name_head s h);have hl:=len_data s
 have hlong:s.size=0∨64 < s.size → nameX s.data.toList=false:=fun h=>by
  unfold nameX;rw [hl]
  rcases h with h | h
  ·have:s.data.toList=[]:=List.eq_nil_of_length_eq_zero (by omega)
   rw [this]; rfl
  ·rw [decide_eq_false (by omega)]; simp
 generalize nameX s.data.toList=R at HE HB HH hlong ⊢;by_cases h0:s.size=0
 ·have hR:Hid (R=false):=hlong (.inl h0)
  have e0:s=⟨#[]⟩:=by
   apply ByteArray.ext
   apply Array.eq_empty_of_size_eq_zero
   exact h0
  subst e0;clear HE HB HH hlong hl
  go_enter Tryz.func166,Tryz.ntmps166
  go_wp2;go_ret;exact ⟨ret_bool hR.out.symm,rfl⟩
 have e0:s.toList.isEmpty=false:=by
  rw [ByteArray.toList_eq,List.isEmpty_eq_false_iff];intro e;rw [e] at hl;exact h0 hl.symm
 by_cases h64:64 < s.size
 ·have hR:Hid (R=false):=hlong (.inr h64);have r1:(64:Int) < (s.size:Int):=by omega
  clear HE HB HH hlong hl h0
  go_enter Tryz.func166,Tryz.ntmps166
  go_wp2;go_ret;exact ⟨ret_bool hR.out.symm,rfl⟩
 have r1:¬ (64:Int) < (s.size:Int):=by omega
 have hp:0 < s.size:=by omega
 have KB:=hid (fun w'=>begins_any s[0] w');have hbd:=u8_bd s[0]
 cases hb:letX s[0] with
 | false =>
  rw [hb] at KB;have hR:Hid (R=false):=HH.out hp hb;clear HE HB HH hlong hl h0 hb
  go_enter Tryz.func166,Tryz.ntmps166
  go_wp2_with (go_at_call 183; refine (KB.out _).mono ?_; rintro e w' ⟨rfl,rfl⟩)
  go_ret;exact ⟨ret_bool hR.out.symm,rfl⟩
 | true =>
  rw [hb] at KB
  have HE2:Hid (∀ k,s.size≤k → (s.data.toList.take k).all namc=true → R=true):=fun k h1 h2=>by
   rw [HE.out k h1 h2 (.inr ⟨hp,hb⟩),decide_eq_true (by omega),decide_eq_true (by omega)]; rfl
  clear HE HH hlong hl h0 hb
  go_enter Tryz.func166,Tryz.ntmps166
  go_wp2_with (go_at_call 183; refine (KB.out _).mono ?_; rintro e w' ⟨rfl,rfl⟩)
  clear KB hbd
  go_loop [19] (fun i=>∃ k:Nat,k≤s.size∧i=.int .i64 k∧Hid ((s.data.toList.take k).all namc=true)) (fun i=>s.size - (intOf i).toNat)
  case atStart=>exact ⟨0,Nat.zero_le _,rfl,hid (by simp)⟩
  case round =>
   obtain ⟨k,hk,rfl,hv⟩:=hrel;by_cases hlt:k < s.size
   ·have KG:=hid (fun w'=>HG.out s[k] w');have hbd:=u8_bd s[k]
    cases hn:namc s[k] with
    | true =>
     rw [hn] at KG;have hv2:=hid (all_snocX namc s k hlt hv.out hn);clear hv hn;go_wp2_with (go_at_call 184; refine (KG.out _).mono ?_; rintro e w' ⟨rfl,rfl⟩)
     go_round
     case rel=>exact ⟨k+1,by omega,by go_num,hv2⟩
     case measure=>simp [intOf]; omega
    | false =>
     rw [hn] at KG;have hR:Hid (R=false):=HB.out k hlt hn;clear hv hn;go_wp2_with (go_at_call 184; refine (KG.out _).mono ?_; rintro e w' ⟨rfl,rfl⟩)
     go_ret;exact ⟨ret_bool hR.out.symm,rfl⟩
   ·have hR:Hid (R=true):=HE2.out k (by omega) hv.out;clear hv;go_wp2;go_ret;exact ⟨ret_bool hR.out.symm,rfl⟩
theorem xname_list (l:List UInt8) (w:World) (h:l.length≤140737488355328) :
  Calls Tryz.prog 166 #[.string ⟨l.toArray⟩] w fun e w'=>e=.returned (.bool (nameX l))∧w'=w:=xname_any ⟨l.toArray⟩ w (by rw [size_list]; exact h)
theorem xblk_idx:∀ c:UInt8,decide (Lib.indexByte [32,9,13,10] c < 0)=!xblk c:=by apply byte_all; decide +kernel
set_option maxHeartbeats 1000000 in
theorem xsigns_any (s:ByteArray) (w:World) (hs:s.size≤140737488355328) :
  Calls Tryz.prog 186 #[.string s] w fun e w'=>e=.returned (.bool (signsX s.data.toList))∧w'=w:=by
 have HB:Hid (∀ k (h:k < s.size),signX s[k]=false → signsX s.data.toList=false):=fun k h hp=>all_badX signX s k h hp;have HE:Hid (∀ k,s.size≤k → (s.data.toList.take k).all signX=true → signsX s.data.toList=true):=fun k h1 h2=>by rw [take_all s k h1] at h2; exact h2
 generalize signsX s.data.toList=R at HB HE ⊢
 go_enter Tryz.func186,Tryz.ntmps186
 go_wp2
 go_loop [6] (fun i=>∃ k:Nat,k≤s.size∧i=.int .i64 k∧Hid ((s.data.toList.take k).all signX=true)) (fun i=>s.size - (intOf i).toNat)
 case atStart=>exact ⟨0,Nat.zero_le _,rfl,hid (by simp)⟩
 case round =>
  obtain ⟨k,hk,rfl,hv⟩:=hrel;by_cases hlt:k < s.size
  ·have hbd:=u8_bd s[k];have KI:=hid (fun w'=>strIndexByte_any ⟨#[32,9,13,10]⟩ s[k] w');have hx:decide (Lib.indexByte (⟨#[32,9,13,10]⟩:ByteArray).data.toList s[k] < 0)=!xblk s[k]:=xblk_idx s[k];generalize Lib.indexByte (⟨#[32,9,13,10]⟩:ByteArray).data.toList s[k]=n at KI hx;by_cases h127:s[k]=127
   ·have q:((s[k].toNat:Int)==127)=true:=u8_eq (b:=127) h127;have hR:Hid (R=false):=HB.out k hlt (by rw [h127]; decide);clear hv h127 hx;go_wp2;go_ret;exact ⟨ret_bool hR.out.symm,rfl⟩
   have q:((s[k].toNat:Int)==127)=false:=u8_ne (b:=127) h127;by_cases h32:s[k].toNat < 32
   ·have r:(s[k].toNat:Int) < 32:=by omega
    cases hb:xblk s[k] with
    | true =>
     have hv2:=hid (all_snocX signX s k hlt hv.out (by unfold signX; rw [hb]; rfl));have hn:¬ n < 0:=of_decide_eq_false (by rw [hx,hb]; rfl);clear hv h127 hx hb;go_wp2_with (go_at_call 173; refine (KI.out _).mono ?_; rintro e w' ⟨rfl,rfl⟩)
     go_round
     case rel=>exact ⟨k+1,by omega,by go_num,hv2⟩
     case measure=>simp [intOf]; omega
    | false =>
     have hR:Hid (R=false):=HB.out k hlt (sign_low hb h32);have hn:n < 0:=of_decide_eq_true (by rw [hx,hb]; rfl);clear hv h127 hx hb;go_wp2_with (go_at_call 173; refine (KI.out _).mono ?_; rintro e w' ⟨rfl,rfl⟩)
     go_ret;exact ⟨ret_bool hR.out.symm,rfl⟩
   ·have r:¬ (s[k].toNat:Int) < 32:=by omega
    have hv2:=hid (all_snocX signX s k hlt hv.out (sign_ok h32 h127));clear hv h127 hx;go_wp2
    go_round
    case rel=>exact ⟨k+1,by omega,by go_num,hv2⟩
    case measure=>simp [intOf]; omega
  ·have hR:Hid (R=true):=HE.out k (by omega) hv.out;clear hv;go_wp2;go_ret;exact ⟨ret_bool hR.out.symm,rfl⟩
theorem xsigns_list (l:List UInt8) (w:World) (h:l.length≤140737488355328) :
  Calls Tryz.prog 186 #[.string ⟨l.toArray⟩] w fun e w'=>e=.returned (.bool (signsX l))∧w'=w:=xsigns_any ⟨l.toArray⟩ w (by rw [size_list]; exact h)
set_option maxHeartbeats 400000 in
theorem xtext_any (l:List UInt8) (w:World) (h:l.length≤140737488355328) :
  Calls Tryz.prog 168 #[.string ⟨l.toArray⟩] w fun e w'=>e=.returned (.bool (signsX l && xtrim l==l))∧Below w.heap.size w w':=by
 have KS:=hid (fun w'=>xsigns_list l w' h);have KT:=hid (fun w'=>xtrimAll_list l w' h)
 cases hs:signsX l with
 | false =>
  rw [hs] at KS;clear hs
  go_enter Tryz.func168,Tryz.ntmps168
  go_wp2_with fail
  refine (KS.out _).mono ?_
  rintro e w ⟨rfl,rfl⟩;go_wp2;go_ret;exact ⟨rfl,Below.refl _ _⟩
 | true =>
  rw [hs] at KS;clear hs;generalize xtrim l=t at KT ⊢
  go_enter Tryz.func168,Tryz.ntmps168
  go_wp2_with fail
  refine (KS.out _).mono ?_
  rintro e w ⟨rfl,rfl⟩;go_wp2_with fail
  refine (KT.out _).mono ?_
  rintro e w1 ⟨rfl,hw1⟩;go_wp2;go_ret;exact ⟨by simp,hw1⟩
theorem own_strs {w:World} {B e:Nat} {v:Value} {ps:List (List UInt8)} (h:Own w B e v (strs ps)) (hne:ps ≠ []) :
  ∃ g cap,v=.slice (some ⟨g,0,none⟩) ps.length cap∧∀ j (hj:j < ps.length),w.cell? ⟨g,j,none⟩=some (.string ⟨(ps[j]).toArray⟩):=by
 rcases h.2 with ⟨rfl,hn⟩ | ⟨g,cap,cur,rfl,hb,hg,_⟩
 ·rw [strs_length] at hn;exact absurd (List.eq_nil_of_length_eq_zero hn) hne
 ·refine ⟨g,cap,by rw [strs_length],fun j hj=>?_⟩
  have:=World.ownsRow.cells h (g:=g) rfl j (.string ⟨(ps[j]).toArray⟩) (by simp [strs,hj])
  unfold Addr.add at this;by_cases h0:j=0
  ·subst h0; simpa using this
  ·simpa [h0] using this
theorem distinct_snoc (p:Par):∀ l:List Par,distinctX (l++[p])=(distinctX l && l.all (fun q=>!(q.name==p.name)))
 | []=>rfl
 | x :: l=>by
  rw [List.cons_append,distinctX,distinct_snoc p l,distinctX,List.all_cons,List.all_append];have e:(p.name==x.name)=(x.name==p.name):=by rw [Bool.eq_iff_iff]; simp; exact eq_comm
  simp only [List.all_cons,List.all_nil,Bool.and_true,e];generalize (l.all fun q=>!(q.name==x.name))=a;generalize (l.all fun q=>!(q.name==p.name))=b;generalize distinctX l=c;generalize (x.name==p.name)=d
  cases a <;> cases b <;> cases c <;> cases d <;> rfl
theorem distinct_front:∀ a b:List Par,distinctX (a++b)=true → distinctX a=true
 | [],b,_=>rfl
 | x :: a,b,h=>by
  rw [List.cons_append,distinctX,List.all_append,Bool.and_eq_true,Bool.and_eq_true] at h;rw [distinctX,h.1.1,distinct_front a b h.2]; rfl
def attrOk (p:Par):Bool:=nameX p.name && (p.has && signsX p.value)
theorem attrsOk_is (l:List Par) (h:l.length≤16):attrsOk l=(l.all attrOk && distinctX l):=by
 unfold attrsOk; rw [decide_eq_true h]; rfl
theorem attrs_snoc {l:List Par} {j:Nat} (hj:j < l.length) (ha:((l.take j).all attrOk && distinctX (l.take j))=true) (h1:attrOk l[j]=true) (h2:(l.take j).all (fun q=>!(q.name==l[j].name))=true):((l.take (j+1)).all attrOk && distinctX (l.take (j+1)))=true:=by
 rw [Bool.and_eq_true] at ha;rw [List.take_succ_eq_append_getElem hj,distinct_snoc,List.all_append,ha.1,ha.2,h2]
 simp [h1]
theorem attrs_bad {l:List Par} {j:Nat} (hl:l.length≤16) (hj:j < l.length) (h1:attrOk l[j]=false):attrsOk l=false:=by
 rw [attrsOk_is l hl]
 have:l.all attrOk=false:=by rw [List.all_eq_false]; exact ⟨l[j],List.getElem_mem hj,by simp [h1]⟩
 rw [this]; rfl
theorem attrs_twice {l:List Par} {j m:Nat} (hl:l.length≤16) (hj:j < l.length) (hm:m < j) (h1:(l[m].name==l[j].name)=true):attrsOk l=false:=by
 rw [attrsOk_is l hl]
 have:distinctX l=false:=by
  cases hd:distinctX l with
  | false=>rfl
  | true =>
   have e:=List.take_append_drop (j+1) l;rw [← e] at hd;have h3:=distinct_front _ _ hd;rw [List.take_succ_eq_append_getElem hj,distinct_snoc,Bool.and_eq_true,List.all_eq_true] at h3;have h4:=h3.2 l[m] (by rw [List.mem_take_iff_getElem]; exact ⟨m,by omega,rfl⟩);rw [h1] at h4; cases h4
 rw [this]; simp
theorem ParsAt.open {w:World} {v:Value} {ps:List Par} (h:ParsAt w v ps):∃ ao cap,v=.slice ao ps.length cap∧∀ k (hk:k < ps.length),∃ a,ao=some a∧a.block < w.heap.size∧ParAt w a k ps[k]:=by
 rcases h with ⟨rfl,rfl⟩ | ⟨a,cap,rfl,hc⟩
 ·exact ⟨none,0,rfl,fun k hk=>by simp at hk⟩
 ·exact ⟨some a,cap,rfl,fun k hk=>⟨a,rfl,(hc k hk).1,(hc k hk).2⟩⟩
def okN (l:List Nd) (i:Nat) (h:i < l.length):Prop :=
 (0 < i → 1≤l[i].deep∧l[i].deep≤(l[i - 1]'(by omega)).deep+1)∧nodeOk l[i]=true∧(∀ h2:i+1 < l.length,l[i].deep < l[i+1].deep → l[i].text=[])
theorem steps_iff:∀ l:List Nd,stepsX l=true ↔ ∀ i (h:i < l.length),okN l i h
 | []=>by simp [stepsX]
 | [x]=>by
  constructor
  ·intro h i hi
   have:i=0:=by simp at hi; exact hi
   subst this;exact ⟨fun hp=>absurd hp (by omega),h,fun h2=>absurd h2 (by simp)⟩
  ·intro h;exact (h 0 (by simp)).2.1
 | x :: y :: r=>by
  have hnx:nextOk x y=true ↔ (1≤y.deep∧y.deep≤x.deep+1)∧(x.deep < y.deep → x.text=[]):=by
   unfold nextOk;rw [Bool.and_eq_true,decide_eq_true_iff,Bool.or_eq_true,Bool.not_eq_true',decide_eq_false_iff_not,List.isEmpty_iff]
   constructor
   ·rintro ⟨h1,h2⟩;exact ⟨h1,fun h=>h2.resolve_left (fun h3=>h3 h)⟩
   ·rintro ⟨h1,h2⟩;refine ⟨h1,?_⟩
    by_cases h:x.deep < y.deep
    ·exact .inr (h2 h)
    ·exact .inl h
  rw [stepsX,Bool.and_eq_true,Bool.and_eq_true,steps_iff (y :: r),hnx]
  constructor
  ·rintro ⟨h1,h2,h3⟩ i hi
   match i,hi with
   | 0,hi=>exact ⟨fun hp=>absurd hp (by omega),h1,fun _ hd=>h2.2 hd⟩
   | 1,hi=>exact ⟨fun _=>h2.1,(h3 0 (by simp)).2.1,fun h4 hd=>(h3 0 (by simp)).2.2 (by simpa using h4) hd⟩
   | j+2,hi =>
    have h:=h3 (j+1) (by simpa using hi);exact ⟨fun _=>h.1 (by omega),h.2.1,fun h4 hd=>h.2.2 (by simp only [List.length_cons] at h4 ⊢; omega) hd⟩
  ·intro h;have h0:=h 0 (by simp);have h1:=h 1 (by simp);refine ⟨h0.2.1,⟨h1.1 (by omega),fun hd=>h0.2.2 (by simp) hd⟩,fun i hi=>?_⟩
   have hh:=h (i+1) (by simpa using hi);refine ⟨fun hp=>?_,hh.2.1,fun h4 hd=>hh.2.2 (by simpa using h4) hd⟩
   obtain ⟨j,rfl⟩:∃ j,i=j+1:=⟨i - 1,by omega⟩
   exact hh.1 (by omega)
def okC (cs:List NdC) (i:Nat) (h:i < cs.length):Prop :=
 (0 < i → 1≤cs[i].nd.deep∧cs[i].nd.deep≤(cs[i - 1]'(by omega)).nd.deep+1)∧nodeOk cs[i].nd=true∧(∀ h2:i+1 < cs.length,cs[i].nd.deep < cs[i+1].nd.deep → cs[i].nd.text=[])
theorem okC_iff (cs:List NdC) (i:Nat) (h:i < cs.length):okC cs i h ↔ okN (ndsL cs) i (by rw [ndsL_len]; exact h):=by
 unfold okC okN
 simp [ndsL]
theorem chk_bad {cs:List NdC} {i:Nat} (h:i < cs.length) (hb:¬ okC cs i h):checkX (ndsL cs)=130:=by
 unfold checkX;rw [if_pos];refine .inr (.inr (.inr ?_))
 cases hs:stepsX (ndsL cs) with
 | false=>rfl
 | true=>exact absurd ((okC_iff cs i h).2 ((steps_iff _).1 hs i _)) hb
theorem chk_head {cs:List NdC} (h:0 < cs.length) (hb:cs[0].nd.deep ≠ 0):checkX (ndsL cs)=130:=by
 unfold checkX;rw [if_pos];refine .inr (.inr (.inl ?_))
 rw [List.head?_eq_getElem?]
 simpa [ndsL,h] using hb
theorem chk_ok {cs:List NdC} (h:0 < cs.length) (h2:cs.length≤200) (h0:cs[0].nd.deep=0) (ha:∀ i (hi:i < cs.length),okC cs i hi):checkX (ndsL cs)=0:=by
 unfold checkX;rw [if_neg];have e:=ndsL_len cs;have hs:stepsX (ndsL cs)=true:=(steps_iff _).2 fun i hi=>(okC_iff cs i (by rw [← e]; exact hi)).1 (ha i _);rintro (h3 | h3 | h3 | h3)
 ·omega
 ·omega
 ·apply h3
  rw [List.head?_eq_getElem?]
  simpa [ndsL,h] using h0
 ·rw [hs] at h3; cases h3
theorem chk_size {cs:List NdC} (h:cs.length < 1∨200 < cs.length):checkX (ndsL cs)=130:=by
 unfold checkX;rw [if_pos];rw [ndsL_len]
 rcases h with h | h
 ·exact .inl h
 ·exact .inr (.inl h)
def findX (nm:List UInt8):List Par → Nat → Int
 | [],_=>-1
 | p :: ps,k=>if p.name=nm then (k:Int) else findX nm ps (k+1)
theorem findX_at {nm:List UInt8} {l:List Par} {k:Nat} (hk:k < l.length):findX nm (l.drop k) k=if l[k].name=nm then (k:Int) else findX nm (l.drop (k+1)) (k+1):=by
 rw [List.drop_eq_getElem_cons hk,findX]
theorem findX_end {nm:List UInt8} {l:List Par} {k:Nat} (hk:l.length≤k):findX nm (l.drop k) k=-1:=by
 rw [List.drop_eq_nil_of_le hk]; rfl
theorem find_own {l:List Par} {j:Nat} (hj:j < l.length):∀ k,k≤j → (findX l[j].name (l.drop k) k=(j:Int) ↔ ∀ m (hm:m < j),k≤m → (l[m]'(by omega)).name ≠ l[j].name):=by
 intro k hk
 induction hd:j - k generalizing k with
 | zero =>
  have:k=j:=by omega
  subst this;rw [findX_at hj,if_pos rfl];exact ⟨fun _ m hm hk=>by omega,fun _=>rfl⟩
 | succ n ih =>
  have hkl:k < l.length:=by omega
  rw [findX_at hkl];by_cases h:l[k].name=l[j].name
  ·rw [if_pos h]
   constructor
   ·intro e; omega
   ·intro e; exact absurd h (e k (by omega) (Nat.le_refl _))
  ·rw [if_neg h,ih (k+1) (by omega) (by omega)]
   constructor
   ·intro e m hm hkm;by_cases hq:m=k
    ·subst hq; exact h
    ·exact e m hm (by omega)
   ·intro e m hm hkm;exact e m hm (by omega)
set_option maxHeartbeats 2000000 in
set_option maxRecDepth 100000 in
theorem xfind_any (v:Value) (ps:List Par) (nm:List UInt8) (w:World) (hz:ps.length≤140737488355328) (hv:ParsAt w v ps) :
  Calls Tryz.prog 185 #[v,.string ⟨nm.toArray⟩] w fun e w'=>e=.returned (.int .i64 (findX nm ps 0))∧Below w.heap.size w w':=by
 obtain ⟨ao,cap,rfl,hc⟩:=hv.open;have HC:=hid hc;clear hc hv;obtain ⟨R,hR⟩:∃ R,R=findX nm ps 0:=⟨_,rfl⟩
 rw [← hR];have HR:Hid (R=findX nm (ps.drop 0) 0):=hR;obtain ⟨n,hn⟩:∃ n,n=ps.length:=⟨_,rfl⟩
 rw [← hn] at hz ⊢;have HL:=hid hn;clear hn hR
 go_enter Tryz.func185,Tryz.ntmps185
 go_wp2
 go_loopw [9] (fun i wr=>∃ k:Nat,k≤n∧i=.int .i64 k∧Hid (R=findX nm (ps.drop k) k)∧Below w.heap.size w wr) (fun i _=>n - (intOf i).toNat)
 case atStart=>exact ⟨0,Nat.zero_le _,rfl,HR,Below.refl _ _⟩
 case round =>
  obtain ⟨k,hk,rfl,hv,hb⟩:=hrel;clear HR;by_cases hlt:k < n
  ·have hkl:k < ps.length:=by have:=HL.out; omega
   obtain ⟨ad,hao,hab,c0,c1,c2⟩:=HC.out k hkl;subst hao;have hv2:=hv.out;rw [findX_at hkl] at hv2;have q6:(k:Int) < (n:Int):=by omega
   have a0:=cell_below hb (by rw [add_block]; exact hab) c0;have a1:=cell_below hb (by simp only [add_block]; exact hab) c1;have a2:=cell_below hb (by simp only [add_block]; exact hab) c2;have hbn:Below w.heap.size w (wr.alloc (.cells #[.string ⟨ps[k].name.toArray⟩,.string ⟨ps[k].value.toArray⟩,.bool ps[k].has] 200)):=hb.alloc hb.size _;clear c0 c1 c2;generalize ps[k]=P at a0 a1 a2 hv2 hbn;obtain ⟨pn,pv,ph⟩:=P;simp only at a0 a1 a2 hv2 hbn;by_cases he:pn=nm
   ·rw [if_pos he] at hv2;have hE:=hid hv2;have e1:(pn==nm)=true:=by rw [beq_iff_eq]; exact he
    clear hv hv2 he;go_wp2;go_ret;exact ⟨by rw [hE.out]; rfl,hbn⟩
   ·rw [if_neg he] at hv2;have hE:=hid hv2;have e1:(pn==nm)=false:=by rw [beq_eq_false_iff_ne]; exact he
    clear hv hv2 he;go_wp2;go_roundw
    case rel=>exact ⟨k+1,by omega,by go_num,hE,hbn⟩
    case measure=>simp [intOf]; omega
  ·have hE:Hid (R=-1):=show _=_ by rw [hv.out]; exact findX_end (by have:=HL.out; omega)
   clear hv;go_wp2;go_ret;exact ⟨by rw [hE.out]; rfl,hb⟩
set_option maxHeartbeats 4000000 in
set_option maxRecDepth 100000 in
theorem xattrs_any (v:Value) (ps:List Par) (w:World) (hsm:SmallP 140737488355328 ps) (hv:ParsAt w v ps) :
  Calls Tryz.prog 167 #[v] w fun e w'=>e=.returned (.bool (attrsOk ps))∧Below w.heap.size w w':=by
 have HV:=hid hv;obtain ⟨ao,cap,rfl,hc⟩:=hv.open;have HC:=hid hc;have HS:=hid hsm.2;have hz:=hsm.1;clear hc hv hsm;by_cases h16:16 < ps.length
 ·have hR:Hid (attrsOk ps=false):=show _=_ by unfold attrsOk; rw [decide_eq_false (by omega)]; rfl
  generalize attrsOk ps=R at hR ⊢;obtain ⟨n,hn⟩:∃ n,n=ps.length:=⟨_,rfl⟩
  rw [← hn] at h16 hz ⊢;have r16:(16:Int) < (n:Int):=by omega
  clear HC HS hn HV
  go_enter Tryz.func167,Tryz.ntmps167
  go_wp2;go_ret;exact ⟨ret_bool hR.out.symm,Below.refl _ _⟩
 have hl:ps.length≤16:=by omega
 have HB:=hid (fun j (hj:j < ps.length)=>attrs_bad hl hj);have HT:=hid (fun j m (hj:j < ps.length) (hm:m < j)=>attrs_twice hl hj hm);have HE:Hid (((ps.take ps.length).all attrOk && distinctX (ps.take ps.length))=true → attrsOk ps=true):=fun h=>by rw [attrsOk_is ps hl]; rw [List.take_length] at h; exact h
 have HN:=hid (fun j (hj:j < ps.length)=>@attrs_snoc ps j hj);generalize attrsOk ps=R at HB HT HE ⊢;obtain ⟨n,hn⟩:∃ n,n=ps.length:=⟨_,rfl⟩
 have KF:=hid (fun nm w' (h':ParsAt w' (.slice ao ps.length cap) ps)=>xfind_any (.slice ao ps.length cap) ps nm w' (by omega) h');rw [← hn] at hl hz HE h16 HV KF ⊢;have r16:¬ (16:Int) < (n:Int):=by omega
 have HL:=hid hn;clear hn
 go_enter Tryz.func167,Tryz.ntmps167
 go_wp2
 go_loopw [10] (fun i wr=>∃ (j:Nat),j≤n∧i=.int .i64 j∧Below w.heap.size w wr∧Hid (((ps.take j).all attrOk && distinctX (ps.take j))=true)) (fun i _=>n - (intOf i).toNat)
 case atStart=>exact ⟨0,Nat.zero_le _,rfl,Below.refl _ _,show _=_ from rfl⟩
 case round =>
  obtain ⟨j,hjn,rfl,hb,ha⟩:=hrel;by_cases hlt:j < n
  ·have hjl:j < ps.length:=by have:=HL.out; omega
   obtain ⟨ad,hao,hab,c0,c1,c2⟩:=HC.out j hjl;subst hao;obtain ⟨s1,s2⟩:=HS.out ps[j] (List.getElem_mem hjl);have a0:=cell_below hb (by rw [add_block]; exact hab) c0;have a1:=cell_below hb (by simp only [add_block]; exact hab) c1;have a2:=cell_below hb (by simp only [add_block]; exact hab) c2;have KN:=hid (fun w'=>xname_list ps[j].name w' s1);have KS:=hid (fun w'=>xsigns_list ps[j].value w' s2);have HB1:=hid (HB.out j hjl);have HO:=hid (find_own hjl 0 (Nat.zero_le _));have HT1:=hid (fun m hm=>HT.out j m hjl hm);have HN1:=hid (HN.out j hjl ha.out);have hok:attrOk ps[j]=(nameX ps[j].name && (ps[j].has && signsX ps[j].value)):=rfl;have q6:(j:Int) < (n:Int):=by omega
   have hrow:=rc_row3 wr (.string ⟨ps[j].name.toArray⟩) (.string ⟨ps[j].value.toArray⟩) (.bool ps[j].has) 200;have hbn:Below w.heap.size w (wr.alloc (.cells #[.string ⟨ps[j].name.toArray⟩,.string ⟨ps[j].value.toArray⟩,.bool ps[j].has] 200)):=hb.alloc hb.size _;have hltn:=alloc_lt wr (.cells #[.string ⟨ps[j].name.toArray⟩,.string ⟨ps[j].value.toArray⟩,.bool ps[j].has] 200);have KFj:=hid (KF.out ps[j].name);clear HB HT HN s1 s2 ha c0 c1 c2;generalize hP:ps[j]=P at a0 a1 a2 KN KS HB1 HT1 HN1 hok hrow hbn hltn HO KFj;obtain ⟨pn,pv,ph⟩:=P;simp only at a0 a1 a2 KN KS HT1 HN1 hok hrow hbn hltn HO KFj;rw [List.drop_zero] at HO
   cases hnm:nameX pn with
   | false =>
    rw [hnm] at KN;have hR:=hid (HB1.out (by rw [hok,hnm]; rfl));clear hok HB1 HT1 HN1 hP hnm HC HS HO;go_wp2_with (go_at_call 166; refine (KN.out _).mono ?_; rintro e w' ⟨rfl,rfl⟩)
    go_ret;exact ⟨ret_bool hR.out.symm,hbn⟩
   | true =>
    rw [hnm] at KN;by_cases hf:findX pn ps 0=(j:Int)
    ·have hdis:=HO.out.1 hf;rw [hf] at KFj
     have HD:Hid ((ps.take j).all (fun q=>!(q.name==pn))=true):=show _=_ by
      rw [List.all_eq_true];intro q hq;obtain ⟨m,hm,rfl⟩:=List.mem_take_iff_getElem.1 hq
      have:=hdis m (by omega) (Nat.zero_le _)
      rw [Bool.not_eq_true',beq_eq_false_iff_ne]; exact this
     have q7:((j:Int)==(j:Int))=true:=by simp
     have q7n:((j:Int) != (j:Int))=false:=by simp
     cases ph with
     | false =>
      have hR:=hid (HB1.out (by rw [hok,hnm]; rfl));clear hok HB1 HT1 HN1 hP hnm HC HS HO hf hdis;go_wp2_with (go_at_call 166; refine (KN.out _).mono ?_; rintro e w' ⟨rfl,rfl⟩)
      generalize World.alloc _ _=W0 at hrow hbn hltn ⊢;refine (KFj.out _ (HV.out.below (by simpa using hbn))).mono ?_
      rintro e w2 ⟨rfl,hw2⟩;obtain ⟨d0,d1,d2,_,_,_⟩:=(hrow.below hw2 hltn).rc3;go_wp2;go_ret;exact ⟨ret_bool hR.out.symm,hbn.trans (hw2.mono hbn.size)⟩
     | true =>
      cases hsg:signsX pv with
      | false =>
       rw [hsg] at KS;have hR:=hid (HB1.out (by rw [hok,hnm,hsg]; rfl));clear hok HB1 HT1 HN1 hP hnm HC HS HO hf hdis hsg;go_wp2_with (go_at_call 166; refine (KN.out _).mono ?_; rintro e w' ⟨rfl,rfl⟩)
       generalize World.alloc _ _=W0 at hrow hbn hltn ⊢;refine (KFj.out _ (HV.out.below (by simpa using hbn))).mono ?_
       rintro e w2 ⟨rfl,hw2⟩;obtain ⟨d0,d1,d2,_,_,_⟩:=(hrow.below hw2 hltn).rc3;go_wp2_with (go_at_call 186; refine (KS.out _).mono ?_; rintro e w' ⟨rfl,hw'⟩; rw [hw']; clear hw' w')
       go_ret;exact ⟨ret_bool hR.out.symm,hbn.trans (hw2.mono hbn.size)⟩
      | true =>
       rw [hsg] at KS;have hN:=hid (HN1.out (by rw [hok,hnm,hsg]; rfl) HD.out);clear hok HB1 HT1 HN1 hP hnm HC HS HO hf hdis hsg;go_wp2_with (go_at_call 166; refine (KN.out _).mono ?_; rintro e w' ⟨rfl,rfl⟩)
       generalize World.alloc _ _=W0 at hrow hbn hltn ⊢;refine (KFj.out _ (HV.out.below (by simpa using hbn))).mono ?_
       rintro e w2 ⟨rfl,hw2⟩;obtain ⟨d0,d1,d2,_,_,_⟩:=(hrow.below hw2 hltn).rc3;go_wp2_with (go_at_call 186; refine (KS.out _).mono ?_; rintro e w' ⟨rfl,hw'⟩; rw [hw']; clear hw' w')
       go_roundw
       case rel=>exact ⟨j+1,by omega,by go_num,hbn.trans (hw2.mono hbn.size),hN⟩
       case measure=>simp [intOf]; omega
    ·have hR:Hid (R=false):=by
      have hx:¬ ∀ m (hm:m < j),0≤m → (ps[m]'(by omega)).name ≠ pn:=fun hh=>hf (HO.out.2 hh);have hy:∃ m,∃ hm:m < j,(ps[m]'(by omega)).name=pn:=Classical.byContradiction fun hh=>hx fun m hm _ e=>hh ⟨m,hm,e⟩;obtain ⟨m,hm,he⟩:=hy;exact HT1.out m hm (by rw [beq_iff_eq]; exact he)
     generalize findX pn ps 0=F at KFj hf;have q7:(F==(j:Int))=false:=by rw [beq_eq_false_iff_ne]; exact hf
     have q7n:(F != (j:Int))=true:=by rw [bne,q7]; rfl
     clear hok HB1 HT1 HN1 hP hnm HC HS HO hf;go_wp2_with (go_at_call 166; refine (KN.out _).mono ?_; rintro e w' ⟨rfl,rfl⟩)
     generalize World.alloc _ _=W0 at hrow hbn hltn ⊢;refine (KFj.out _ (HV.out.below (by simpa using hbn))).mono ?_
     rintro e w2 ⟨rfl,hw2⟩;go_wp2;go_ret;exact ⟨ret_bool hR.out.symm,hbn.trans (hw2.mono hbn.size)⟩
  ·have hE:Hid (R=true):=HE.out (by
    have:=ha.out
    have e:j=n:=by omega
    rw [e] at this;exact this)
   clear ha;go_wp2;go_ret;exact ⟨ret_bool hE.out.symm,hb⟩
def placedB (x y:Nd):Bool:=!(decide (x.deep < y.deep) && !x.text.isEmpty) && (decide (1≤y.deep) && (decide (y.deep≤x.deep+1) && decide (y.deep < 8)))
set_option maxHeartbeats 2000000 in
set_option maxRecDepth 100000 in
theorem xplaced_first (ad:Addr) (n cap:Nat) (c:NdC) (w:World) (h0:0 < n) (hc:NdAt w ad 0 c) :
  Calls Tryz.prog 165 #[.slice (some ad) n cap,.int .i64 0] w fun e w'=>e=.returned (.bool (c.nd.deep==0))∧Below w.heap.size w w':=by
 have c0:=hc.c0;rw [Nat.zero_mul] at c0;have ez:ad.add 0=ad:=by cases ad; unfold Addr.add; split <;> simp_all
 have c1:=c0;rw [ez] at c1;have q:(0:Int) < (n:Int):=by omega
 go_enter Tryz.func165,Tryz.ntmps165
 go_wp2;go_ret;exact ⟨rfl,Below.refl _ _⟩
set_option maxHeartbeats 4000000 in
set_option maxRecDepth 100000 in
theorem xplaced_next (ad:Addr) (n cap i:Nat) (x y:NdC) (w:World) (hn:n≤1000000) (hi:i+1 < n) (hx:NdAt w ad i x) (hy:NdAt w ad (i+1) y) (hxf:∃ po pn pc,x.a=.slice po pn pc) (hd:x.nd.deep < 8) (hd0:-9223372036854775808≤x.nd.deep) :
  Calls Tryz.prog 165 #[.slice (some ad) n cap,.int .i64 ((i+1:Nat):Int)] w fun e w'=>e=.returned (.bool (placedB x.nd y.nd))∧Below w.heap.size w w':=by
 obtain ⟨c0,c1,c2,c3⟩:=hx;obtain ⟨d0,d1,d2,d3⟩:=hy;obtain ⟨⟨xd,xn,xps,xt⟩,xa⟩:=x;obtain ⟨⟨yd,yn,yps,yt⟩,ya⟩:=y;simp only at c0 c1 c2 c3 d0 d1 d2 d3 hxf hd hd0 ⊢;obtain ⟨po,pn,pc,rfl⟩:=hxf;have hP:placedB ⟨xd,xn,xps,xt⟩ ⟨yd,yn,yps,yt⟩=(!(decide (xd < yd) && !xt.isEmpty) && (decide (1≤yd) && (decide (yd≤xd+1) && decide (yd < 8)))):=rfl;generalize placedB ⟨xd,xn,xps,xt⟩ ⟨yd,yn,yps,yt⟩=R at hP ⊢;have q:((i+1:Nat):Int) < (n:Int):=by omega
 have qz:(((i+1:Nat):Int)==0)=false:=by rw [beq_eq_false_iff_ne]; omega
 have hw1:IntKind.i64.wrap (((i+1:Nat):Int) - 1)=(i:Int):=by rw [IntKind.wrap_i64]; omega
 have q2:(i:Int) < (n:Int):=by omega
 have hw2:IntKind.i64.wrap (xd+1)=xd+1:=by rw [IntKind.wrap_i64]; omega
 have hb:Below w.heap.size w (w.alloc (.cells #[.int .i64 xd,.string ⟨xn.toArray⟩,.slice po pn pc,.string ⟨xt.toArray⟩] 209)):=(Below.refl _ w).alloc (Nat.le_refl _) _;generalize hI:((i+1:Nat):Int)=I at q qz hw1 ⊢;have hIn:I.toNat=i+1:=by omega
 have hI0:0≤I:=by omega
 clear hI;have fin:∀ (b1 b2 b3:Bool),decide (1≤yd)=b1 → decide (yd≤xd+1)=b2 → decide (yd < 8)=b3 → R=(!(decide (xd < yd) && !xt.isEmpty) && (b1 && (b2 && b3))):=fun b1 b2 b3 e1 e2 e3=>by rw [hP,e1,e2,e3]
 have HF:=hid fin;clear hP fin;by_cases hA:xd < yd
 ·have hAd:decide (xd < yd)=true:=decide_eq_true hA
  cases hte:xt.isEmpty with
  | false =>
   have HR:Hid (R=false):=show _=_ by rw [HF.out _ _ _ rfl rfl rfl,hAd,hte]; rfl
   clear HF
   go_enter Tryz.func165,Tryz.ntmps165
   go_wp2;go_ret;exact ⟨ret_bool HR.out.symm,hb⟩
  | true =>
   have HF2:Hid (R=(decide (1≤yd) && (decide (yd≤xd+1) && decide (yd < 8)))):=show _=_ by rw [HF.out _ _ _ rfl rfl rfl,hAd,hte]; rfl
   clear HF;by_cases h1:1≤yd
   ·by_cases h2:yd≤xd+1
    ·by_cases h3:yd < 8
     ·have HR:Hid (R=true):=show _=_ by rw [HF2.out,decide_eq_true h1,decide_eq_true h2,decide_eq_true h3]; rfl
      clear HF2
      go_enter Tryz.func165,Tryz.ntmps165
      go_wp2;go_ret;exact ⟨ret_bool (by first | (rw [HR.out]; done) | (rw [HR.out]; simp [*]; done) | (rw [HR.out]; simp [*]; omega)),hb⟩
     ·have HR:Hid (R=false):=show _=_ by rw [HF2.out,decide_eq_false h3]; simp
      clear HF2
      go_enter Tryz.func165,Tryz.ntmps165
      go_wp2;go_ret;exact ⟨ret_bool (by first | (rw [HR.out]; done) | (rw [HR.out]; simp [*]; done) | (rw [HR.out]; simp [*]; omega)),hb⟩
    ·have HR:Hid (R=false):=show _=_ by rw [HF2.out,decide_eq_false h2]; simp
     clear HF2
     go_enter Tryz.func165,Tryz.ntmps165
     go_wp2;go_ret;exact ⟨ret_bool (by first | (rw [HR.out]; done) | (rw [HR.out]; simp [*]; done) | (rw [HR.out]; simp [*]; omega)),hb⟩
   ·have HR:Hid (R=false):=show _=_ by rw [HF2.out,decide_eq_false h1]; simp
    clear HF2
    go_enter Tryz.func165,Tryz.ntmps165
    go_wp2;go_ret;exact ⟨ret_bool (by first | (rw [HR.out]; done) | (rw [HR.out]; simp [*]; done) | (rw [HR.out]; simp [*]; omega)),hb⟩
 ·have hAd:decide (xd < yd)=false:=decide_eq_false hA;have HF2:Hid (R=(decide (1≤yd) && (decide (yd≤xd+1) && decide (yd < 8)))):=show _=_ by rw [HF.out _ _ _ rfl rfl rfl,hAd]; rfl
  clear HF;by_cases h1:1≤yd
  ·have h2:yd≤xd+1:=by omega
   have h3:yd < 8:=by omega
   have HR:Hid (R=true):=show _=_ by rw [HF2.out,decide_eq_true h1,decide_eq_true h2,decide_eq_true h3]; rfl
   clear HF2
   go_enter Tryz.func165,Tryz.ntmps165
   go_wp2;go_ret;exact ⟨ret_bool (by first | (rw [HR.out]; done) | (rw [HR.out]; simp [*]; done) | (rw [HR.out]; simp [*]; omega)),hb⟩
  ·have HR:Hid (R=false):=show _=_ by rw [HF2.out,decide_eq_false h1]; simp
   clear HF2
   go_enter Tryz.func165,Tryz.ntmps165
   go_wp2;go_ret;exact ⟨ret_bool (by first | (rw [HR.out]; done) | (rw [HR.out]; simp [*]; done) | (rw [HR.out]; simp [*]; omega)),hb⟩
def okK (cs:List NdC) (m:Nat) (h:m < cs.length):Prop:=(m=0 → cs[m].nd.deep=0)∧(∀ h2:0 < m,placedB (cs[m - 1]'(by omega)).nd cs[m].nd=true)∧nodeOk cs[m].nd=true
theorem placedB_iff (x y:Nd):placedB x y=true ↔ (x.deep < y.deep → x.text=[])∧1≤y.deep∧y.deep≤x.deep+1∧y.deep < 8:=by
 unfold placedB;simp only [Bool.and_eq_true,Bool.not_eq_true',Bool.and_eq_false_iff,decide_eq_true_eq,decide_eq_false_iff_not,Bool.not_eq_false',List.isEmpty_iff]
 constructor
 ·rintro ⟨h1,h2,h3,h4⟩;exact ⟨fun h=>h1.resolve_left (fun k=>k h),h2,h3,h4⟩
 ·rintro ⟨h1,h2,h3,h4⟩;refine ⟨?_,h2,h3,h4⟩
  by_cases h:x.deep < y.deep
  ·exact .inr (h1 h)
  ·exact .inl h
theorem okK_all {cs:List NdC} (hp:0 < cs.length) (h200:cs.length≤200) (h:∀ m (hm:m < cs.length),okK cs m hm):checkX (ndsL cs)=0:=by
 refine chk_ok hp h200 ((h 0 hp).1 rfl) fun i hi=>?_
 refine ⟨fun h0=>?_,(h i hi).2.2,fun h2 hd=>?_⟩
 ·have:=(placedB_iff _ _).1 ((h i hi).2.1 h0)
  exact ⟨this.2.1,this.2.2.1⟩
 ·have:=(placedB_iff _ _).1 ((h (i+1) h2).2.1 (by omega))
  simp only [Nat.add_sub_cancel] at this;exact this.1 hd
theorem okK_node {cs:List NdC} {m:Nat} (hm:m < cs.length) (h:nodeOk cs[m].nd=false):checkX (ndsL cs)=130:=chk_bad hm fun hk=>by
 rw [hk.2.1] at h; cases h
theorem okK_place {cs:List NdC} {m:Nat} (hm:m+1 < cs.length) (h:placedB cs[m].nd cs[m+1].nd=false):checkX (ndsL cs)=130:=by
 by_cases h1:1≤cs[m+1].nd.deep∧cs[m+1].nd.deep≤cs[m].nd.deep+1
 ·by_cases h2:cs[m+1].nd.deep < 8
  ·refine chk_bad (i:=m) (by omega) fun hk=>?_
   have:placedB cs[m].nd cs[m+1].nd=true:=(placedB_iff _ _).2 ⟨fun hd=>hk.2.2 hm hd,h1.1,h1.2,h2⟩
   rw [this] at h; cases h
  ·exact chk_bad hm fun hk=>h2 (node_facts hk.2.1).1
 ·exact chk_bad hm fun hk=>h1 (hk.1 (by omega))
end Go.Proofs.YteicmbhilambpaaGreatDoor
