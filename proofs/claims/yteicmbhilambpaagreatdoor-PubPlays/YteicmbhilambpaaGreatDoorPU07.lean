/-
  RefEsc, RefUne, RefWritten, RefParams, PubO, PubP, PubM.
-/
import Derived.Test.YteicmbhilambpaaGreatDoorPU02
import Derived.Test.YteicmbhilambpaaGreatDoorPU06
set_option linter.unusedVariables false
set_option linter.unusedSimpArgs false
set_option maxRecDepth 20000
namespace Go.Proofs.YteicmbhilambpaaGreatDoor
open Go.RowKit Sc
set_option maxHeartbeats 2000000 in
theorem refescape_any (s keep:ByteArray) (w:World) (hs:3 * s.size≤140737488355328) (hk:keep.size≤maxLen) :
  Calls Tryz.prog 119 #[.string s,.string keep] w fun e w'=>e=.returned (.string ⟨(esc (kpF keep.data.toList) s.data.toList).toArray⟩)∧Below w.heap.size w w':=by
 obtain ⟨i0,hi,hz0,hz1,hz2⟩:=info_parts info5
 go_enter Tryz.func119,Tryz.ntmps119
 go_wp2
 go_loopw [5,6] (fun v i wr=>∃ k:Nat,k≤s.size∧i=.int .i64 k∧Own wr w.heap.size 5 v (Lib.byteCells (esc (kpF keep.data.toList) (s.data.toList.take k)))∧Below w.heap.size w wr∧w.heap.size≤wr.heap.size) (fun _ i _=>s.size - (intOf i).toNat)
 case atStart=>exact ⟨0,Nat.zero_le _,rfl,Own.nil _ _ _,Below.refl _ _,Nat.le_refl _⟩
 case round =>
  obtain ⟨k,hk',rfl,hown,hb,hB⟩:=hrel
  have hlen:(Lib.byteCells (esc (kpF keep.data.toList) (s.data.toList.take k))).length≤3 * k:=by
   have:=esc_cells_len (kpF keep.data.toList) (s.data.toList.take k); have:=List.length_take_le k s.data.toList; omega
  by_cases hlt:k < s.size
  ·have hbd:=u8_bd s[k];by_cases hfree:free (kpF keep.data.toList) s[k]=true
   ·have hcs:=esc_cells1 (kpF keep.data.toList) (s.data.toList.take k) s[k] hfree;rw [← take_snoc s k hlt] at hcs;have HC:Hid _:=hcs; clear hcs
    have h37:((s[k].toNat:Int) != 37)=true:=by
     by_cases e:(s[k].toNat:Int)=37
     ·have e':s[k].toNat=37:=by omega
      rw [free,e',kpF] at hfree; simp [isB37] at hfree
     ·simpa using e
    by_cases hpl:isB s[k].toNat 16=true
    ·have hz:(bits BinOp.and IntKind.i64 (cls s[k].toNat) 16 != 0)=true:=by have:=hpl; rw [isB] at this; exact this
     clear hfree hpl
     go_wp2_with (first
      | (go_at_call 64; refine (refclass_any _ _ hbd.1 hbd.2).mono ?_; rintro e w' ⟨rfl,rfl⟩)
      | (go_at_call 100; refine (has_any _ _ _ hk).mono ?_; rintro e w' ⟨rfl,rfl⟩)
      | (at_builtin; refine wp_app _ rfl (.tmp 37) (.tmp 41) 70 rfl w.heap.size 5 i0 (.int .u8 0) 1 Tryz.underlying70 hi hz0 hz1 hz2 rfl _ _ rfl (by exact hown.alloc _) ⟨_,0,none⟩ 1 1 (Lib.byteCells [s[k]]) rfl rfl (by first | exact one_hexN _ _ _ (by omega) | exact one_new _ _ _) (byteCells_one _) (by unfold maxLen; omega) (by omega) w (by exact hb.alloc hB _) (by simp; omega) ?_; intro v3 w3 hown3 hb3 hB3))
     rw [HC.out] at hown3;go_wp2;go_roundw
     case rel=>exact ⟨k+1,by omega,by go_num,hown3,hb3,hB3⟩
     case measure=>simp [intOf]; omega
    ·have hpl':isB s[k].toNat 16=false:=by simpa using hpl
     have hz:(bits BinOp.and IntKind.i64 (cls s[k].toNat) 16 != 0)=false:=by have:=hpl'; rw [isB] at this; exact this
     have hh:hasB s[k].toNat keep=true:=by
      rw [hasB_inK]; rw [free,hpl',kpF,if_neg (by simp at h37; omega)] at hfree; simpa using hfree
     clear hfree hpl hpl'
     go_wp2_with (first
      | (go_at_call 64; refine (refclass_any _ _ hbd.1 hbd.2).mono ?_; rintro e w' ⟨rfl,rfl⟩)
      | (go_at_call 100; refine (has_any _ _ _ hk).mono ?_; rintro e w' ⟨rfl,rfl⟩)
      | (at_builtin; refine wp_app _ rfl (.tmp 37) (.tmp 41) 70 rfl w.heap.size 5 i0 (.int .u8 0) 1 Tryz.underlying70 hi hz0 hz1 hz2 rfl _ _ rfl (by exact hown.alloc _) ⟨_,0,none⟩ 1 1 (Lib.byteCells [s[k]]) rfl rfl (by first | exact one_hexN _ _ _ (by omega) | exact one_new _ _ _) (byteCells_one _) (by unfold maxLen; omega) (by omega) w (by exact hb.alloc hB _) (by simp; omega) ?_; intro v3 w3 hown3 hb3 hB3))
     rw [HC.out] at hown3;go_wp2;go_roundw
     case rel=>exact ⟨k+1,by omega,by go_num,hown3,hb3,hB3⟩
     case measure=>simp [intOf]; omega
   ·have hfree':free (kpF keep.data.toList) s[k]=false:=by simpa using hfree
    have hcs:=esc_cells3 (kpF keep.data.toList) (s.data.toList.take k) s[k] hfree';rw [← take_snoc s k hlt] at hcs
    have HC:Hid (Lib.byteCells (esc (kpF keep.data.toList) (s.data.toList.take k))++Lib.byteCells [37]++Lib.byteCells [hexd (s[k].toNat / 16)]++Lib.byteCells [hexd (s[k].toNat % 16)]=Lib.byteCells (esc (kpF keep.data.toList) (s.data.toList.take (k+1)))):=by
     show _=_; rw [← hcs,List.append_assoc,List.append_assoc]; rfl
    clear hcs hfree;have hA:(0:Int)≤(s[k].toNat:Int) / 16:=by omega
    have hB':(s[k].toNat:Int) / 16 < 16:=by omega
    have hD:(0:Int)≤(s[k].toNat:Int) % 16:=by omega
    have hE:(s[k].toNat:Int) % 16 < 16:=by omega
    by_cases h37:(s[k].toNat:Int)=37
    ·have h37':((s[k].toNat:Int) != 37)=false:=by simp [h37]
     clear h37 hfree'
     go_wp2_with (first
      | (at_builtin; refine wp_app _ rfl (.tmp 43) (.tmp 44) 70 rfl w.heap.size 5 i0 (.int .u8 0) 1 Tryz.underlying70 hi hz0 hz1 hz2 rfl _ _ rfl (by exact hown.alloc _) ⟨_,0,none⟩ 1 1 (Lib.byteCells [37]) rfl rfl (by first | exact one_hexN _ _ _ (by omega) | exact one_new _ _ _) (byteCells_one _) (by unfold maxLen; omega) (by omega) w (by exact hb.alloc hB _) (by simp; omega) ?_; intro v1 w1 hown1 hb1 hB1)
      | (at_builtin; refine wp_app _ rfl (.tmp 46) (.tmp 50) 70 rfl w.heap.size 5 i0 (.int .u8 0) 1 Tryz.underlying70 hi hz0 hz1 hz2 rfl _ _ rfl (by exact hown1.alloc _) ⟨_,0,none⟩ 1 1 (Lib.byteCells [hexd (s[k].toNat / 16)]) rfl rfl (by first | exact one_hexN _ _ _ (by omega) | exact one_new _ _ _) (byteCells_one _) (by simp [Lib.byteCells] at hlen ⊢; unfold maxLen; omega) (by simp [Lib.byteCells] at hlen ⊢; omega) w (by exact hb1.alloc hB1 _) (by simp; omega) ?_; intro v2 w2 hown2 hb2 hB2)
      | (at_builtin; refine wp_app _ rfl (.tmp 52) (.tmp 56) 70 rfl w.heap.size 5 i0 (.int .u8 0) 1 Tryz.underlying70 hi hz0 hz1 hz2 rfl _ _ rfl (by exact hown2.alloc _) ⟨_,0,none⟩ 1 1 (Lib.byteCells [hexd (s[k].toNat % 16)]) rfl rfl (by first | exact one_hexN _ _ _ (by omega) | exact one_new _ _ _) (byteCells_one _) (by simp [Lib.byteCells] at hlen ⊢; unfold maxLen; omega) (by simp [Lib.byteCells] at hlen ⊢; omega) w (by exact hb2.alloc hB2 _) (by simp; omega) ?_; intro v3 w3 hown3 hb3 hB3))
     rw [HC.out] at hown3;go_wp2;go_roundw
     case rel=>exact ⟨k+1,by omega,by go_num,hown3,hb3,hB3⟩
     case measure=>simp [intOf]; omega
    ·have h37':((s[k].toNat:Int) != 37)=true:=by simp [h37]
     have hpl':isB s[k].toNat 16=false:=by rw [free] at hfree'; simp at hfree'; exact hfree'.1
     have hz:(bits BinOp.and IntKind.i64 (cls s[k].toNat) 16 != 0)=false:=by have:=hpl'; rw [isB] at this; exact this
     have hh:hasB s[k].toNat keep=false:=by
      rw [hasB_inK]; rw [free,hpl',kpF,if_neg (by omega)] at hfree'; simpa using hfree'
     clear h37 hfree' hpl'
     go_wp2_with (first
      | (go_at_call 64; refine (refclass_any _ _ hbd.1 hbd.2).mono ?_; rintro e w' ⟨rfl,rfl⟩)
      | (go_at_call 100; refine (has_any _ _ _ hk).mono ?_; rintro e w' ⟨rfl,rfl⟩)
      | (at_builtin; refine wp_app _ rfl (.tmp 43) (.tmp 44) 70 rfl w.heap.size 5 i0 (.int .u8 0) 1 Tryz.underlying70 hi hz0 hz1 hz2 rfl _ _ rfl (by exact hown.alloc _) ⟨_,0,none⟩ 1 1 (Lib.byteCells [37]) rfl rfl (by first | exact one_hexN _ _ _ (by omega) | exact one_new _ _ _) (byteCells_one _) (by unfold maxLen; omega) (by omega) w (by exact hb.alloc hB _) (by simp; omega) ?_; intro v1 w1 hown1 hb1 hB1)
      | (at_builtin; refine wp_app _ rfl (.tmp 46) (.tmp 50) 70 rfl w.heap.size 5 i0 (.int .u8 0) 1 Tryz.underlying70 hi hz0 hz1 hz2 rfl _ _ rfl (by exact hown1.alloc _) ⟨_,0,none⟩ 1 1 (Lib.byteCells [hexd (s[k].toNat / 16)]) rfl rfl (by first | exact one_hexN _ _ _ (by omega) | exact one_new _ _ _) (byteCells_one _) (by simp [Lib.byteCells] at hlen ⊢; unfold maxLen; omega) (by simp [Lib.byteCells] at hlen ⊢; omega) w (by exact hb1.alloc hB1 _) (by simp; omega) ?_; intro v2 w2 hown2 hb2 hB2)
      | (at_builtin; refine wp_app _ rfl (.tmp 52) (.tmp 56) 70 rfl w.heap.size 5 i0 (.int .u8 0) 1 Tryz.underlying70 hi hz0 hz1 hz2 rfl _ _ rfl (by exact hown2.alloc _) ⟨_,0,none⟩ 1 1 (Lib.byteCells [hexd (s[k].toNat % 16)]) rfl rfl (by first | exact one_hexN _ _ _ (by omega) | exact one_new _ _ _) (byteCells_one _) (by simp [Lib.byteCells] at hlen ⊢; unfold maxLen; omega) (by simp [Lib.byteCells] at hlen ⊢; omega) w (by exact hb2.alloc hB2 _) (by simp; omega) ?_; intro v3 w3 hown3 hb3 hB3))
     rw [HC.out] at hown3;go_wp2;go_roundw
     case rel=>exact ⟨k+1,by omega,by go_num,hown3,hb3,hB3⟩
     case measure=>simp [intOf]; omega
  ·have hta:=take_all s k (by omega);rw [hta] at hown;have hcv:=conv_own (P:=Tryz.prog) _ Tryz.underlying70 Tryz.underlying5 Tryz.underlying9 hown;clear hta hlen;go_wp2;go_ret;exact ⟨rfl,hb⟩
def mtB (j:Nat) (c:Int):Bool:=((hexd j).toNat:Int)==c || ((lowb (hexd j)).toNat:Int)==c
def wfrom:Nat → Nat → Int → Int
 | 0,_,_=>-1
 | n+1,k,c=>if mtB k c then k else wfrom n (k+1) c
def worthV (c:Int):Int:=wfrom 16 0 c
theorem wfrom_step {k:Nat} {c:Int} (hk:k < 16) (h:mtB k c=false):wfrom (16 - k) k c=wfrom (16 - (k+1)) (k+1) c:=by
 rw [show 16 - k=(16 - (k+1))+1 by omega,wfrom,if_neg (by simp [h])]
theorem wfrom_hit {k:Nat} {c:Int} (hk:k < 16) (h:mtB k c=true):wfrom (16 - k) k c=k:=by
 rw [show 16 - k=(16 - (k+1))+1 by omega,wfrom,if_pos h]
theorem worth_hex {b:UInt8} (h:isB b.toNat 4=true):worthV b.toNat=hexv b.toNat:=by
 have hh:∀ n:Fin 256,isB (n.val:Int) 4=true → worthV (n.val:Int)=hexv (n.val:Int):=by decide +kernel
 exact hh ⟨b.toNat,b.toNat_lt⟩ h
theorem worth_not {b:UInt8} (h:isB b.toNat 4=false):worthV b.toNat=-1:=by
 have hh:∀ n:Fin 256,isB (n.val:Int) 4=false → worthV (n.val:Int)=-1:=by decide +kernel
 exact hh ⟨b.toNat,b.toNat_lt⟩ h
theorem hexAt (k:Nat) (hk:k < 16):((ByteArray.mk #[48,49,50,51,52,53,54,55,56,57,65,66,67,68,69,70])[k]'hk)=hexd k:=by
 have hh:∀ n:Fin 16,((ByteArray.mk #[48,49,50,51,52,53,54,55,56,57,65,66,67,68,69,70])[n.val]'n.isLt)=hexd n.val:=by decide +kernel
 exact hh ⟨k,hk⟩
theorem low1 (k:Nat) (hk:k < 16) (w:World) :
  Calls Tryz.prog 111 #[.string ((ByteArray.mk #[48,49,50,51,52,53,54,55,56,57,65,66,67,68,69,70]).extract k (k+1))] w fun e w'=>e=.returned (.string ⟨#[lowb (hexd k)]⟩)∧Below w.heap.size w w':=by
 have hh:∀ n:Fin 16,(ByteArray.mk #[48,49,50,51,52,53,54,55,56,57,65,66,67,68,69,70]).extract n.val (n.val+1)=⟨#[hexd n.val]⟩:=by decide +kernel
 rw [hh ⟨k,hk⟩];exact reflower_txt ⟨#[hexd k]⟩ w (by simp [ByteArray.size])
theorem byte0 (b:UInt8):((ByteArray.mk #[b])[0]'(Nat.one_pos))=b:=rfl
set_option maxHeartbeats 1000000 in
theorem worth_any (c:Int) (w:World) :
  Calls Tryz.prog 149 #[.int .u8 c] w fun e w'=>e=.returned (.int .i64 (worthV c))∧Below w.heap.size w w':=by
 go_enter Tryz.func149,Tryz.ntmps149
 go_wp2
 go_loopw [3] (fun i wr=>∃ k:Nat,k≤16∧i=.int .i64 k∧Below w.heap.size w wr∧Hid (worthV c=wfrom (16 - k) k c)) (fun i _=>16 - (intOf i).toNat)
 case atStart=>exact ⟨0,Nat.zero_le _,rfl,Below.refl _ _,rfl⟩
 case round =>
  obtain ⟨k,hk,rfl,hb,hw⟩:=hrel;by_cases hlt:k < 16
  ·have hx:=hexAt k hlt;have hy:=byte0 (lowb (hexd k));by_cases h1:((hexd k).toNat:Int)=c
   ·have h1':(((hexd k).toNat:Int)==c)=true:=by simpa using h1
    have hv:Hid (worthV c=k):=by show _=_; rw [hw.out,wfrom_hit hlt (by simp [mtB,h1'])]
    clear h1 hw;go_wp2;go_ret;exact ⟨ret_int hv.out.symm,hb⟩
   ·have h1':(((hexd k).toNat:Int)==c)=false:=by simpa using h1
    by_cases h2:((lowb (hexd k)).toNat:Int)=c
    ·have h2':(((lowb (hexd k)).toNat:Int)==c)=true:=by simpa using h2
     have hv:Hid (worthV c=k):=by show _=_; rw [hw.out,wfrom_hit hlt (by simp [mtB,h2'])]
     clear h1 h2 hw;go_wp2_with (go_at_call 111; refine (low1 k hlt _).mono ?_; rintro e w2 ⟨rfl,hb2⟩)
     go_ret;exact ⟨ret_int hv.out.symm,hb.trans (hb2.mono hb.size)⟩
    ·have h2':(((lowb (hexd k)).toNat:Int)==c)=false:=by simpa using h2
     have hw':Hid (worthV c=wfrom (16 - (k+1)) (k+1) c):=by show _=_; rw [hw.out,wfrom_step hlt (by simp [mtB,h1',h2'])]
     clear h1 h2 hw;go_wp2_with (go_at_call 111; refine (low1 k hlt _).mono ?_; rintro e w2 ⟨rfl,hb2⟩)
     go_roundw
     case rel=>exact ⟨k+1,by omega,by go_num,hb.trans (hb2.mono hb.size),hw'⟩
     case measure=>simp [intOf]; omega
  ·have hk16:k=16:=by omega
   subst hk16;go_wp2;go_ret;exact ⟨ret_int hw.out.symm,hb⟩
set_option maxHeartbeats 2000000 in
theorem refunescape_any (s:ByteArray) (w:World) (hs:s.size≤140737488355328) :
  Calls Tryz.prog 131 #[.string s] w fun e w'=>e=.returned (.tuple #[.string ⟨(unescV s.data.toList).1.toArray⟩,.int .i64 (unescV s.data.toList).2])∧Below w.heap.size w w':=by
 obtain ⟨i0,hi,hz0,hz1,hz2⟩:=info_parts info5
 go_enter Tryz.func131,Tryz.ntmps131
 go_wp2_with fail
 go_loopw [4,5] (fun v i wr=>∃ (k:Nat) (acc:List UInt8),k≤s.size∧i=.int .i64 k∧acc.length≤k∧Own wr w.heap.size 5 v (Lib.byteCells acc)∧Below w.heap.size w wr∧w.heap.size≤wr.heap.size ∧
   Hid (UneAt s.data.toList acc (s.data.toList.drop k))) (fun _ i _=>s.size - (intOf i).toNat)
 case atStart=>exact ⟨0,[],Nat.zero_le _,rfl,Nat.le_refl _,Own.nil _ _ _,Below.refl _ _,Nat.le_refl _,show UneAt _ _ _ by rw [List.drop_zero]; exact uneAt0 _⟩
 case round =>
  obtain ⟨k,acc,hk,rfl,hac,hown,hb,hB,hu⟩:=hrel;by_cases hlt:k < s.size
  ·have hu':=hu.out;rw [drop_cons s k hlt] at hu';by_cases h37:(s[k].toNat:Int)=37
   ·have c1:((s[k].toNat:Int) != 37)=false:=by simp [h37]
    by_cases hsh:k+2 < s.size
    ·rw [drop_cons s (k+1) (by omega),drop_cons s (k+1+1) (by omega)] at hu';by_cases hx1:isB s[k+1].toNat 4=true
     ·by_cases hx2:isB s[k+2].toNat 4=true
      ·have hn:Hid (UneAt s.data.toList (acc++[hxb s[k+1] s[k+2]]) (s.data.toList.drop (k+1+1+1))):=uneAt_hex hu' h37 hx1 hx2;have hw1:=worth_hex hx1;have hw2:=worth_hex hx2;have hd1:=hexv_bd hx1;have hd2:=hexv_bd hx2;have hv:=hxb_toNat hx1 hx2;clear hu hu' h37;go_wp2_with (go_at_call 149; refine (worth_any _ _).mono ?_; rintro e w5 ⟨rfl,h5⟩; replace hown:=hown.below h5; replace hb:=hb.trans (h5.mono hB); replace hB:=Nat.le_trans hB h5.size; clear h5)
       replace hown:=hown.drew;replace hb:=hb.drew;have q1:IntKind.i64.wrap ((k:Int)+1)=(k:Int)+1:=by simp [IntKind.wrap,IntKind.signed,IntKind.bits]; omega
       have q2:IntKind.i64.wrap ((k:Int)+2)=(k:Int)+2:=by simp [IntKind.wrap,IntKind.signed,IntKind.bits]; omega
       have q3:((k:Int)+1).toNat=k+1:=by omega
       have q4:((k:Int)+2).toNat=k+2:=by omega
       have q5:(0:Int)≤(k:Int)+1:=by omega
       have q6:(k:Int)+1 < (s.size:Int):=by omega
       have q7:(0:Int)≤(k:Int)+2:=by omega
       have q8:(k:Int)+2 < (s.size:Int):=by omega
       have m1:IntKind.i64.wrap (16 * hexv s[k+1].toNat)=16 * hexv s[k+1].toNat:=by simp [IntKind.wrap,IntKind.signed,IntKind.bits]; omega
       have m2:IntKind.i64.wrap (16 * hexv s[k+1].toNat+hexv s[k+2].toNat)=16 * hexv s[k+1].toNat+hexv s[k+2].toNat:=by simp [IntKind.wrap,IntKind.signed,IntKind.bits]; omega
       have m3:IntKind.u8.wrap (16 * hexv s[k+1].toNat+hexv s[k+2].toNat)=((hxb s[k+1] s[k+2]).toNat:Int):=by rw [hv]; simp [IntKind.wrap,IntKind.signed,IntKind.bits]; omega
       clear hv
       go_region_law (first | (refine step_app rfl (.tmp 43) (.tmp 57) 70 rfl w.heap.size 5 i0 (.int .u8 0) 1 Tryz.underlying70 hi hz0 hz1 hz2 rfl _ _ rfl (by exact hown.alloc _) ⟨_,0,none⟩ 1 1 (Lib.byteCells [hxb s[k+1] s[k+2]]) rfl rfl (by exact one_new _ _ _) (byteCells_one _) (by rw [Lib.byteCells_length]; unfold maxLen; omega) (by rw [Lib.byteCells_length]; omega) w (by exact hb.alloc hB _) (by simp; omega) ?_; intro v3 w3 hown3 hb3 hB3) | (go_simp; go_at_call 149; refine (worth_any _ _).mono ?_; rintro e w5 ⟨rfl,h5⟩; replace hown:=hown.below h5; replace hb:=hb.trans (h5.mono hB); replace hB:=Nat.le_trans hB h5.size; clear h5))
       all_goals
        rw [byteCells_snoc] at hown3;go_wp2;go_roundw
        case rel=>exact ⟨k+1+1+1,_,by omega,by go_num,by simp; omega,hown3,hb3,hB3,hn⟩
        case measure=>simp [intOf]; omega
      ·have hx2':isB s[k+2].toNat 4=false:=by simpa using hx2
       have hv:Hid (unescV s.data.toList=([],12)):=unescV_none (uneAt_bad hu' h37 (by rw [hx1,hx2']; rfl));have hw1:=worth_hex hx1;have hw2:=worth_not hx2';have hd1:=hexv_bd hx1;clear hu hu' h37 hx1 hx2 hx2';go_wp2_with (go_at_call 149; refine (worth_any _ _).mono ?_; rintro e w5 ⟨rfl,h5⟩; replace hown:=hown.below h5; replace hb:=hb.trans (h5.mono hB); replace hB:=Nat.le_trans hB h5.size; clear h5)
       go_ret2;exact ⟨ret_str [] 12 hv.out,hb⟩
     ·have hx1':isB s[k+1].toNat 4=false:=by simpa using hx1
      have hv:Hid (unescV s.data.toList=([],12)):=unescV_none (uneAt_bad hu' h37 (by rw [hx1']; rfl));have hw1:=worth_not hx1';clear hu hu' h37 hx1 hx1';go_wp2_with (go_at_call 149; refine (worth_any _ _).mono ?_; rintro e w5 ⟨rfl,h5⟩; replace hown:=hown.below h5; replace hb:=hb.trans (h5.mono hB); replace hB:=Nat.le_trans hB h5.size; clear h5)
      go_ret2;exact ⟨ret_str [] 12 hv.out,hb⟩
    ·have hv:Hid (unescV s.data.toList=([],12)):=unescV_none (uneAt_short hu' h37 (by rw [List.length_drop,len_data]; omega));clear hu hu' h37;go_wp2;go_ret2;exact ⟨ret_str [] 12 hv.out,hb⟩
   ·have c1:((s[k].toNat:Int) != 37)=true:=by simp [h37]
    have hn:Hid (UneAt s.data.toList (acc++[s[k]]) (s.data.toList.drop (k+1))):=uneAt_plain hu' h37;clear hu hu' h37;go_wp2_with (at_builtin; refine wp_app _ rfl (.tmp 14) (.tmp 18) 70 rfl w.heap.size 5 i0 (.int .u8 0) 1 Tryz.underlying70 hi hz0 hz1 hz2 rfl _ _ rfl (by exact hown.alloc _) ⟨_,0,none⟩ 1 1 (Lib.byteCells [s[k]]) rfl rfl (by exact one_new _ _ _) (byteCells_one _) (by rw [Lib.byteCells_length]; unfold maxLen; omega) (by rw [Lib.byteCells_length]; omega) w (by exact hb.alloc hB _) (by simp; omega) ?_; intro v3 w3 hown3 hb3 hB3)
    rw [byteCells_snoc] at hown3;go_wp2;go_roundw
    case rel=>exact ⟨k+1,_,by omega,by go_num,by simp; omega,hown3,hb3,hB3,hn⟩
    case measure=>simp [intOf]; omega
  ·have hu':=hu.out;rw [drop_all s k (by omega)] at hu';have hv:Hid (unescV s.data.toList=(acc,0)):=unescV_some (uneAt_end hu');have hcv:=conv_own (P:=Tryz.prog) _ Tryz.underlying70 Tryz.underlying5 Tryz.underlying9 hown;clear hu hu';go_wp2;go_ret2;exact ⟨ret_str acc 0 hv.out,hb⟩
set_option maxHeartbeats 1000000 in
theorem written_any (s keep:ByteArray) (w:World) (hs:s.size≤140737488355328) (hk:keep.size≤maxLen) :
  Calls Tryz.prog 114 #[.string s,.string keep] w fun e w'=>e=.returned (.tuple #[.string ⟨(writtenV keep.data.toList s.data.toList).1.toArray⟩,.bool (writtenV keep.data.toList s.data.toList).2])∧Below w.heap.size w w':=by
 go_enter Tryz.func114,Tryz.ntmps114
 go_wp2
 go_loop [6] (fun i=>∃ k:Nat,k≤s.size∧i=.int .i64 k∧Hid ((s.data.toList.take k).all (okw keep.data.toList)=true)) (fun i=>s.size - (intOf i).toNat)
 case atStart=>exact ⟨0,by omega,rfl,rfl⟩
 case round =>
  obtain ⟨k,hk',rfl,hall⟩:=hrel;by_cases hlt:k < s.size
  ·have hbd:=u8_bd s[k];by_cases h37:s[k]=37
   ·have e37:((s[k].toNat:Int) != 37)=false:=by rw [h37]; rfl
    have ha:Hid ((s.data.toList.take (k+1)).all (okw keep.data.toList)=true):=okw_snoc hlt hall.out (by simp [okw,h37]);clear h37 hall;go_wp2
    go_round
    case rel=>exact ⟨k+1,by omega,by go_num,ha⟩
    case measure=>simp [intOf]; omega
   ·have e37:((s[k].toNat:Int) != 37)=true:=by
     have:=u8_ne (b:=37) h37
     simp only [bne,Bool.not_eq_true']; exact this
    by_cases hx:isB s[k].toNat 16=true
    ·have hx2:(bits BinOp.and IntKind.i64 (cls s[k].toNat) 16==0)=false:=by simpa [isB] using hx
     have ha:Hid ((s.data.toList.take (k+1)).all (okw keep.data.toList)=true):=okw_snoc hlt hall.out (by simp [okw,hx]);clear h37 hall hx;go_wp2_with (go_at_call 64; refine (refclass_any _ _ hbd.1 hbd.2).mono ?_; rintro e w' ⟨rfl,rfl⟩)
     go_round
     case rel=>exact ⟨k+1,by omega,by go_num,ha⟩
     case measure=>simp [intOf]; omega
    ·have hx2:(bits BinOp.and IntKind.i64 (cls s[k].toNat) 16==0)=true:=by simpa [isB] using hx
     by_cases hh:hasL s[k] keep.data.toList=true
     ·have ha:Hid ((s.data.toList.take (k+1)).all (okw keep.data.toList)=true):=okw_snoc hlt hall.out (by simp [okw,hh]);clear h37 hall hx
      go_wp2_with (first
       | (go_at_call 64; refine (refclass_any _ _ hbd.1 hbd.2).mono ?_; rintro e w' ⟨rfl,rfl⟩)
       | (go_at_call 113; refine (has3_any keep s[k] _ hk).mono ?_; rintro e w' ⟨rfl,rfl⟩))
      go_round
      case rel=>exact ⟨k+1,by omega,by go_num,ha⟩
      case measure=>simp [intOf]; omega
     ·have hh':hasL s[k] keep.data.toList=false:=by simpa using hh
      have hb:Hid (writtenV keep.data.toList s.data.toList=([],false)):=written_bad hlt (by
       simp only [okw,Bool.or_eq_false_iff,beq_eq_false_iff_ne,ne_eq];exact ⟨h37,by simpa using hx,hh'⟩)
      clear h37 hall hx hh
      go_wp2_with (first
       | (go_at_call 64; refine (refclass_any _ _ hbd.1 hbd.2).mono ?_; rintro e w' ⟨rfl,rfl⟩)
       | (go_at_call 113; refine (has3_any keep s[k] _ hk).mono ?_; rintro e w' ⟨rfl,rfl⟩))
      go_ret2;exact ⟨ret_wr (x:=[]) hb.out,Below.refl _ _⟩
  ·rw [take_all s k (by omega)] at hall;have hv:=written_all hall.out;have HV:Hid _:=hv; clear hv hall
   go_wp2_with (go_at_call 131; refine (refunescape_any _ _ hs).mono ?_; rintro e w1 ⟨rfl,hw1⟩)
   all_goals go_ret2
   all_goals exact ⟨ret_wr HV.out,hw1⟩
theorem written_list (s keep:List UInt8) (w:World) (hs:s.length≤1048576) (hk:keep.length≤64) :
  Calls Tryz.prog 114 #[.string ⟨s.toArray⟩,.string ⟨keep.toArray⟩] w fun e w'=>e=.returned (.tuple #[.string ⟨(writtenV keep s).1.toArray⟩,.bool (writtenV keep s).2])∧Below w.heap.size w w' :=
 written_any ⟨s.toArray⟩ ⟨keep.toArray⟩ w (by rw [size_list]; omega) (by rw [size_list]; unfold maxLen; omega)
set_option maxHeartbeats 2000000 in
set_option maxRecDepth 100000 in
theorem params_any (v:Value) (ls:List (List UInt8)) (keep:List UInt8) (w:World) (hk:keep.length≤64) (hn:ls.length≤1048577) (hl:∀ l ∈ ls,l.length≤1048576) (hv:StrsAt w v ls) :
  Calls Tryz.prog 117 #[v,.string ⟨keep.toArray⟩] w fun e w'=>∃ v' b,e=.returned (.tuple #[v',.bool b])∧ParsRes keep ls w w' v' b∧Below w.heap.size w w':=by
 obtain ⟨i0,hi,hz0,hz1,hz2⟩:=info_parts infoPar;obtain ⟨ao,cap,rfl,hc⟩:=hv;have HC:Hid _:=hc; clear hc
 have HL:Hid _:=hl; clear hl
 obtain ⟨n,hn'⟩:∃ n,n=ls.length:=⟨_,rfl⟩
 rw [← hn'] at hn ⊢;have HN:Hid _:=hn'; clear hn'
 go_enter Tryz.func117,Tryz.ntmps117
 go_wp2
 go_loopw [6,7] (fun x i wr=>∃ (k:Nat) (ps:List Par),k≤n∧i=.int .i64 k∧Hid (parsOf keep (ls.take k)=some ps)∧ps.length=k∧OwnP wr w.heap.size x ps∧Below w.heap.size w wr∧w.heap.size≤wr.heap.size) (fun _ i _=>n - (intOf i).toNat)
 case atStart=>exact ⟨0,[],by omega,rfl,rfl,rfl,OwnP.nil _ _,Below.refl _ _,Nat.le_refl _⟩
 case round =>
  obtain ⟨k,ps,hkn,rfl,hps,hpl,hown,hb,hB⟩:=hrel;by_cases hlt:k < n
  ·have hkl:k < ls.length:=by have:=HN.out; omega
   obtain ⟨a,hao,hab,hcell⟩:=HC.out k hkl;have hcell2:=cell_below hb (by rw [add_block]; exact hab) hcell;have hll:=HL.out _ (List.getElem_mem hkl);have hcl:=cutL_len 61 ls[k];subst hao;clear hcell;go_wp2_with fail
   refine (cut3_list ls[k] 61 _ (by omega)).mono ?_
   rintro e w' ⟨rfl,q,rfl⟩;have hown1:=hown.below (below_drewN _ q);have hb1:=hb.trans ((below_drewN _ q).mono hB);go_wp2_with fail
   refine (written_list (cutL 61 ls[k]).1 keep _ (by omega) hk).mono ?_
   rintro e w3 ⟨rfl,hw3⟩;have hown3:=hown1.below hw3;have hb3:=hb1.trans (hw3.mono hb1.size);go_wp2_with fail
   refine (written_list (cutL 61 ls[k]).2.1 keep _ (by omega) hk).mono ?_
   rintro e w4 ⟨rfl,hw4⟩;have hown4:=hown3.below hw4;have hb4:=hb3.trans (hw4.mono hb3.size);have hB4:=hb4.size;clear hown hown1 hown3 hb hb1 hb3 hw3 hw4 hB hcell2
   have hsn:parsOf keep (ls.take (k+1))=match parsOf keep (ls.take k),parOf keep ls[k] with | some ps,some p=>some (ps++[p]) | _,_=>none:=by
    rw [List.take_succ_eq_append_getElem hkl];exact parsOf_snoc keep _ _
   rw [hps.out] at hsn;have hpbad:=@parsOf_bad keep ls k hkl;have hpsome:=@parOf_some keep ls[k];have hpnone:=@parOf_none keep ls[k];generalize cutL 61 ls[k]=c3 at hpsome hpnone ⊢;obtain ⟨ca,cb,cc⟩:=c3;simp only at hpsome hpnone ⊢;generalize writtenV keep ca=wa at hpsome hpnone ⊢;generalize writtenV keep cb=wb at hpsome hpnone ⊢;obtain ⟨na,ha⟩:=wa;obtain ⟨nb,hbb⟩:=wb;simp only at hpsome hpnone ⊢;have HPB:Hid _:=hpbad; clear hpbad
   have HPN:Hid _:=hpnone; clear hpnone
   have HPS:Hid _:=hpsome; clear hpsome
   have HSN:Hid _:=hsn; clear hsn
   cases ha with
   | false =>
    have hnone:Hid (parsOf keep ls=none):=HPB.out (HPN.out (by simp));go_wp2;go_ret2
    first | exact ⟨.slice none 0 0,false,rfl,Or.inr ⟨hnone.out,rfl,rfl⟩,hb4⟩ | exact ⟨.slice none 0 0,Or.inl ⟨rfl,Or.inr ⟨hnone.out,rfl,rfl⟩,hb4⟩⟩
   | true =>
    cases hbb with
    | false =>
     have hnone:Hid (parsOf keep ls=none):=HPB.out (HPN.out (by simp));go_wp2;go_ret2
     first | exact ⟨.slice none 0 0,false,rfl,Or.inr ⟨hnone.out,rfl,rfl⟩,hb4⟩ | exact ⟨.slice none 0 0,Or.inl ⟨rfl,Or.inr ⟨hnone.out,rfl,rfl⟩,hb4⟩⟩
    | true =>
     have hsn2:Hid (parsOf keep (ls.take (k+1))=some (ps++[⟨na,nb,cc⟩])):=show _=_ by rw [HSN.out,HPS.out rfl rfl]
     have hnew:∀ (j:Nat) (u:Value),(parCells ⟨na,nb,cc⟩)[j]? = some u → (w4.alloc (.cells #[.string ⟨na.toArray⟩,.string ⟨nb.toArray⟩,.bool cc] 200)).cell? ((⟨w4.heap.size,0,none⟩:Addr).add j)=some u:=by
      intro j u hj;have e:(⟨w4.heap.size,0,none⟩:Addr).add j=⟨w4.heap.size,j,none⟩:=by unfold Addr.add; split <;> simp_all
      rw [e];unfold World.cell?;rw [heap_alloc_new]
      simpa [parCells] using hj
     have HNW:Hid _:=hnew; clear hnew HSN HPS HPN HPB
     go_wp2_with (at_builtin; refine wp_appP _ rfl (.tmp 48) (.tmp 53) 141 rfl w.heap.size i0 _ Tryz.underlying141 hi hz0 hz1 hz2 rfl _ ps rfl (hown4.alloc _) ⟨w4.heap.size,0,none⟩ 1 ⟨na,nb,cc⟩ rfl (by exact HNW.out) (by omega) w (hb4.alloc hB4 _) (by simp; omega) ?_; intro v5 w5 hown5 hb5 hB5)
     go_wp2;go_roundw
     case rel=>exact ⟨k+1,ps++[⟨na,nb,cc⟩],by omega,by go_num,hsn2,by simp; omega,hown5,hb5,hB5⟩
     case measure=>simp [intOf]; omega
  ·have hend:Hid (parsOf keep ls=some ps):=show _=_ by
    have h:=hps.out;have e:=HN.out;rw [List.take_of_length_le (by omega)] at h; exact h
   clear hps;go_wp2;go_ret2
   first | exact ⟨_,_,rfl,Or.inl ⟨ps,hend.out,rfl,hown⟩,hb⟩ | exact ⟨_,Or.inr ⟨rfl,Or.inl ⟨ps,hend.out,rfl,hown⟩,hb⟩⟩
theorem pbsCells_at (cs:List PbC) (i:Nat) (u:Value) (h:(pbsCells cs)[i]? = some u):∃ (k:Nat) (hk:k < cs.length) (j:Nat),j < 7∧i=k * 7+j∧(pbCells cs[k])[j]? = some u:=by
 have hi:i < cs.length * 7:=by rw [← pbsCells_len]; exact (List.getElem?_eq_some_iff.1 h).1
 have hk:i / 7 < cs.length:=by omega
 have hj:i % 7 < 7:=by omega
 obtain ⟨v,hv⟩:∃ v,(pbCells cs[i / 7])[i % 7]? = some v:=⟨_,List.getElem?_eq_getElem (l:=pbCells cs[i / 7]) (i:=i % 7) (by rw [pbCells_len]; exact hj)⟩
 have:=pbsCells_get cs (i / 7) hk (i % 7) v hv
 rw [show i / 7 * 7+i % 7=i by omega,h] at this
 injection this with this
 exact ⟨i / 7,hk,i % 7,hj,by omega,by rw [hv,this]⟩
def PbAt (w:World) (ad:Addr) (k:Nat) (c:PbC):Prop:=∀ (j:Nat) (u:Value),(pbCells c)[j]? = some u → w.cell? (ad.add (k * 7+j))=some u
structure Pb7 (w:World) (ad:Addr) (k:Nat) (c:PbC):Prop where
 c0:w.cell? (ad.add (k * 7))=some (.int .i64 c.p.num)
 c1:w.cell? ⟨(ad.add (k * 7)).block,(ad.add (k * 7)).off+1,none⟩=some (.string ⟨c.p.who.toArray⟩)
 c2:w.cell? ⟨(ad.add (k * 7)).block,(ad.add (k * 7)).off+2,none⟩=some (.string ⟨c.p.tag.toArray⟩)
 c3:w.cell? ⟨(ad.add (k * 7)).block,(ad.add (k * 7)).off+3,none⟩=some (.int .i64 c.p.til)
 c4:w.cell? ⟨(ad.add (k * 7)).block,(ad.add (k * 7)).off+4,none⟩=some (.string ⟨c.p.doc.entity.toArray⟩)
 c5:w.cell? ⟨(ad.add (k * 7)).block,(ad.add (k * 7)).off+5,none⟩=some c.ts
 c6:w.cell? ⟨(ad.add (k * 7)).block,(ad.add (k * 7)).off+6,none⟩=some c.ns
theorem add_two (ad:Addr) (a b:Nat) (hb:b ≠ 0):ad.add (a+b)=⟨(ad.add a).block,(ad.add a).off+b,none⟩:=by
 unfold Addr.add
 split <;> (split <;> simp_all <;> omega)
theorem PbAt.seven {w:World} {ad:Addr} {k:Nat} {c:PbC} (h:PbAt w ad k c):Pb7 w ad k c:=by
 have e:∀ j u,j ≠ 0 → (pbCells c)[j]? = some u → w.cell? ⟨(ad.add (k * 7)).block,(ad.add (k * 7)).off+j,none⟩=some u:=fun j u hj hu=>by
  have:=h j u hu
  rwa [add_two _ _ _ hj] at this
 exact ⟨by have:=h 0 _ rfl; simpa using this,e 1 _ (by decide) rfl,e 2 _ (by decide) rfl,e 3 _ (by decide) rfl,e 4 _ (by decide) rfl,e 5 _ (by decide) rfl,e 6 _ (by decide) rfl⟩
theorem PbAt.below {B:Nat} {w w':World} {ad:Addr} {k:Nat} {c:PbC} (h:PbAt w ad k c) (hb:Below B w w') (ha:ad.block < B):PbAt w' ad k c:=fun j u hu=>cell_below hb (by rw [add_block]; exact ha) (h j u hu)
def PbsAt (w:World) (v:Value) (cs:List PbC):Prop :=
 ∃ (ao:Option Addr) (cap:Nat),v=.slice ao cs.length cap∧cs.length≤cap∧∀ k (hk:k < cs.length),∃ ad,ao=some ad∧ad.block < w.heap.size∧PbAt w ad k cs[k]
theorem PbsAt.below {w w':World} {v:Value} {cs:List PbC} (h:PbsAt w v cs) (hb:Below w.heap.size w w'):PbsAt w' v cs:=by
 obtain ⟨ao,cap,hv,hcp,hc⟩:=h;refine ⟨ao,cap,hv,hcp,fun k hk=>?_⟩
 obtain ⟨ad,e,hlt,hcell⟩:=hc k hk;exact ⟨ad,e,Nat.lt_of_lt_of_le hlt hb.size,hcell.below hb hlt⟩
theorem PbsAt.form {w:World} {v:Value} {cs:List PbC} (h:PbsAt w v cs):∃ a cap,v=.slice a cs.length cap:=by
 obtain ⟨ao,cap,hv,_⟩:=h;exact ⟨ao,cap,hv⟩
theorem pbs_news {w:World} {ad:Addr} {cs:List PbC} (h:∀ k (hk:k < cs.length),PbAt w ad k cs[k]) (i:Nat) (j:Nat) (u:Value) (hu:(pbsCells (cs.drop i))[j]? = some u):w.cell? ((ad.add (i * 7)).add j)=some u:=by
 obtain ⟨k,hk,j',hj',rfl,hcu⟩:=pbsCells_at _ _ _ hu;rw [List.length_drop] at hk;rw [List.getElem_drop] at hcu
 have:=h (i+k) (by omega) j' u hcu
 have e:(ad.add (i * 7)).add (k * 7+j')=ad.add ((i+k) * 7+j'):=by
  rw [show (i+k) * 7+j'=i * 7+(k * 7+j') by omega];by_cases h0:k * 7+j'=0
  ·rw [h0]; simp [Addr.add]
  ·rw [add_two _ _ _ h0]; unfold Addr.add; split <;> simp_all
 rw [e]; exact this
theorem pbs_front {w:World} {ad:Addr} {cs:List PbC} (h:∀ k (hk:k < cs.length),PbAt w ad k cs[k]) (i:Nat) (j:Nat) (u:Value) (hu:(pbsCells (cs.take i))[j]? = some u):w.cell? (ad.add j)=some u:=by
 obtain ⟨k,hk,j',hj',rfl,hcu⟩:=pbsCells_at _ _ _ hu;have hk2:k < cs.length:=by rw [List.length_take] at hk; omega
 rw [List.getElem_take] at hcu;exact h k hk2 j' u hcu
theorem OwnPb.pbsAt {w:World} {B:Nat} {v:Value} {cs:List PbC} (h:OwnPb w B v cs):PbsAt w v cs:=by
 have h0:=h
 rcases h.2 with ⟨rfl,hn⟩ | ⟨g,cap,cur,rfl,hb,hg,r⟩
 ·exact ⟨none,0,by rw [hn],by omega,fun k hk=>by omega⟩
 ·refine ⟨some ⟨g,0,none⟩,cap,rfl,r.1,fun k hk=>⟨_,rfl,(Array.getElem?_eq_some_iff.1 hg).1,fun j u hj=>?_⟩⟩
  exact World.ownsRow.cells h0 (g:=g) rfl (k * 7+j) _ (pbsCells_get cs k hk j u hj)
theorem ownPb_mono {w:World} {B C:Nat} {v:Value} {cs:List PbC} (h:OwnPb w B v cs) (hc:C≤B):OwnPb w C v cs:=by
 obtain ⟨h1,h2⟩:=h;refine ⟨h1,?_⟩
 rcases h2 with h2 | ⟨g,cap,cur,hv,hg,r⟩
 ·exact Or.inl h2
 ·exact Or.inr ⟨g,cap,cur,hv,Nat.le_trans hc hg,r⟩
theorem wp_appPb {P:Program} (w:World) {ops:Array Oper} {rest:List Oper} {o:Oper} {a:Act} {Q:Exit → Act → World → Prop} (hgd:o.guard=none)
  (s x:Operand) (t:TypeId) (ho:o.op=Op.call { callee:=Callee.builtin Builtin.append,args:=#[s,x],argTypes:=#[t,t] }) (B:Nat) (i:TypeInfo)
  (z:Value) (ht:P.underlying t=some (TypeDesc.slice 62)) (hi:P.info? 62=some i) (hz:i.zero=some z) (hsize:i.size=7) (hby:i.bytes=112) (hzs:z.cells.size=7)
  (v:Value) (cs:List PbC) (hs:a.eval s=v) (hown:OwnPb w B v cs) (ad:Addr) (k:Nat) (c:List PbC) (n:Nat) (hn:n=c.length) (hc:∀ d ∈ c,d.ts.oneCell'=true∧d.ns.oneCell'=true) (hx:a.eval x=Value.slice (some ad) n k)
  (hnews:∀ (j:Nat) (u:Value),(pbsCells c)[j]? = some u → w.cell? (ad.add j)=some u)
  (hlen:cs.length≤100000) (hlen2:c.length≤100000) (hB:B≤w.heap.size)
  (h:∀ (v':Value) (w':World),OwnPb w' B v' (cs++c) → Below B w w' → wpList P ops Q rest (a.put o.dst v') w'):wpList P ops Q (o :: rest) a w:=by
 subst hn
 refine wpList_append_own_at w hgd s x t ho B 62 i z 7 112 ht hi hz hsize hby hzs (by decide) v cs.length (pbsCells cs) hs hown ad c.length k (pbsCells c) hx (pbsCells_len c) hnews
  (by
   intro u hu;unfold pbsCells at hu;obtain ⟨d,hd,hu⟩:=List.mem_flatMap.1 hu
   simp [pbCells] at hu
   rcases hu with rfl | rfl | rfl | rfl | rfl | rfl | rfl <;> first | rfl | exact (hc d hd).1 | exact (hc d hd).2) (by unfold maxLen; omega) (by omega) hB ?_
 intro v' w' hown' hgr _ hat;refine h v' w' ?_ ((Below.refl B w).grown hgr hB (fun k hk=>(World.ownsRow.lt hown k hk).1))
 unfold OwnPb;rw [pbsCells_app,List.length_append];exact hown'
def stoV (s:Sto) (v:Value):Value:=.agg #[.string ⟨s.c.host.toArray⟩,.int .i64 s.c.calls,.int .i64 s.c.pubs,.int .i64 s.c.subs,.int .i64 s.c.least,.int .i64 s.c.most,.int .i64 s.c.usual,.int .i64 s.last,v]
structure BoxS (w:World) (b:Nat) (s:Sto) (v:Value):Prop where
 f:BoxF w b s.c
 c7:w.cell? ⟨b,7,none⟩=some (.int .i64 s.last)
 c8:w.cell? ⟨b,8,none⟩=some v
def objS (s:Sto) (v:Value):Obj:=.cells #[.string ⟨s.c.host.toArray⟩,.int .i64 s.c.calls,.int .i64 s.c.pubs,.int .i64 s.c.subs,.int .i64 s.c.least,.int .i64 s.c.most,.int .i64 s.c.usual,.int .i64 s.last,v] 31
theorem boxS_new (w:World) (s:Sto) (v:Value):BoxS (w.alloc (objS s v)) w.heap.size s v:=by
 unfold objS;refine ⟨?_,?_,?_⟩
 ·constructor <;> rw [World.cell?_alloc_new] <;> rfl
 ·rw [World.cell?_alloc_new]; rfl
 ·rw [World.cell?_alloc_new]; rfl
theorem BoxF.below {w w':World} {b B:Nat} {c:Cf} (h:BoxF w b c) (hb:Below B w w') (hl:b < B):BoxF w' b c :=
 ⟨cell_below hb hl h.c0,cell_below hb hl h.c1,cell_below hb hl h.c2,cell_below hb hl h.c3,cell_below hb hl h.c4,cell_below hb hl h.c5,cell_below hb hl h.c6⟩
theorem BoxS.below {w w':World} {b B:Nat} {s:Sto} {v:Value} (h:BoxS w b s v) (hb:Below B w w') (hl:b < B):BoxS w' b s v :=
 ⟨h.f.below hb hl,cell_below hb hl h.c7,cell_below hb hl h.c8⟩
set_option maxHeartbeats 4000000 in
set_option maxRecDepth 100000 in
theorem rsec16_any (c:Cf) (a:Int) (w:World):Calls Tryz.prog 20 #[cfV c,.int .i64 a] w fun e w'=>e=.returned (.tuple #[.int .i64 (secC c a).1,.bool (secC c a).2])∧Below w.heap.size w w':=by
 have HB:=hid ((Below.refl _ w).alloc (Nat.le_refl _) (objF c));have hbx:=boxF_new w c;have h0:a < 0 → (c.usual,true)=secC c a:=fun h=>by unfold secC; rw [if_pos h]
 have h1:¬ a < 0 → c.most < a → (c.most,true)=secC c a:=fun h h'=>by unfold secC; rw [if_neg h,if_pos h']
 have h2:¬ a < 0 → ¬ c.most < a → (a,(decide (a=0) || decide (c.least≤a)))=secC c a:=fun h h'=>by unfold secC; rw [if_neg h,if_neg h']
 generalize secC c a=R at h0 h1 h2 ⊢;obtain ⟨ho,ca,pu,su,le,mo,us⟩:=c;unfold cfV;unfold objF at HB hbx;simp only at HB hbx h0 h1 h2 ⊢;obtain ⟨x0,x1,x2,x3,x4,x5,x6⟩:=hbx;simp only at x0 x1 x2 x3 x4 x5 x6;by_cases q0:a < 0
 ·have HV:=hid (h0 q0);have d0:decide (a < 0)=true:=decide_eq_true q0;clear h0 h1 h2 q0
  go_enter Tryz.func20,Tryz.ntmps20
  go_wp2;go_ret2;exact ⟨ret_sec HV.out,HB.out⟩
 by_cases q1:mo < a
 ·have HV:=hid (h1 q0 q1);have d0:decide (a < 0)=false:=decide_eq_false q0;have d1:decide (mo < a)=true:=decide_eq_true q1;clear h0 h1 h2 q0 q1
  go_enter Tryz.func20,Tryz.ntmps20
  go_wp2;go_ret2;exact ⟨ret_sec HV.out,HB.out⟩
 have HV:=hid (h2 q0 q1);have d0:decide (a < 0)=false:=decide_eq_false q0;have d1:decide (mo < a)=false:=decide_eq_false q1;clear h0 h1 h2 q0 q1;by_cases q2:a=0
 ·have d2:(a==0)=true:=by simpa using q2
  have HV:=hid (show (a,true)=R by rw [← HV.out,decide_eq_true q2]; rfl);clear q2
  go_enter Tryz.func20,Tryz.ntmps20
  go_wp2
  go_quiet (fail)
  go_wp2;go_ret2;exact ⟨ret_sec HV.out,HB.out.trans ((below_drewN _ _).mono (by simp))⟩
 ·have d2:(a==0)=false:=by simpa using q2
  by_cases q3:le≤a
  ·have d3:decide (le≤a)=true:=decide_eq_true q3;have HV:=hid (show (a,true)=R by rw [← HV.out,decide_eq_true q3]; simp);clear q2 q3
   go_enter Tryz.func20,Tryz.ntmps20
   go_wp2
   go_quiet (fail)
   go_wp2;go_ret2;exact ⟨ret_sec HV.out,HB.out.trans ((below_drewN _ _).mono (by simp))⟩
  ·have d3:decide (le≤a)=false:=decide_eq_false q3;have HV:=hid (show (a,false)=R by rw [← HV.out,decide_eq_false q3,decide_eq_false q2]; rfl);clear q2 q3
   go_enter Tryz.func20,Tryz.ntmps20
   go_wp2
   go_quiet (fail)
   go_wp2;go_ret2;exact ⟨ret_sec HV.out,HB.out.trans ((below_drewN _ _).mono (by simp))⟩
theorem pl_step {l:List PbC} {p:PbC → Bool} {k:Nat} (hk:k < l.length) (hp:∀ c ∈ l.take k,p c=false) (he:p l[k]=false):∀ c ∈ l.take (k+1),p c=false:=by
 intro c hc;rw [List.take_succ_eq_append_getElem hk] at hc
 rcases List.mem_append.1 hc with h | h
 ·exact hp c h
 ·simp at h; subst h; exact he
theorem pl_hit {l:List PbC} {tag:List UInt8} {k:Nat} (hk:k < l.length) (hp:∀ c ∈ l.take k,(c.p.tag==tag)=false) (he:(l[k].p.tag==tag)=true):placeP (pbsL l) tag=k:=by
 have hl:=pbsL_len l
 have:pidxP (pbsL l) tag=k:=by
  unfold pidxP;rw [List.findIdx_eq (by rw [hl]; exact hk)];refine ⟨by simpa [pbsL,isP] using he,fun j hj=>?_⟩
  have:=hp l[j] (by rw [List.mem_take_iff_getElem]; exact ⟨j,by omega,rfl⟩)
  simpa [pbsL,isP] using this
 unfold placeP;rw [this,hl,if_pos hk]
theorem pl_end {l:List PbC} {tag:List UInt8} (hp:∀ c ∈ l.take l.length,(c.p.tag==tag)=false):placeP (pbsL l) tag=-1:=by
 rw [List.take_length] at hp
 rcases idx_two (pbsL l) tag with ⟨_,h,_⟩ | ⟨k,hk,_,_,h,_⟩
 ·exact h
 ·exfalso
  rw [pbsL_len] at hk
  have:=hp l[k] (List.getElem_mem hk)
  simp [pbsL] at h
  simp [h] at this
set_option maxHeartbeats 4000000 in
set_option maxRecDepth 100000 in
theorem rplace16_any {w:World} {v:Value} {s:Sto} {cs:List PbC} (h:PbsAt w v cs) (tag:List UInt8) (hn:cs.length≤1000000) :
  Calls Tryz.prog 27 #[stoV s v,.string ⟨tag.toArray⟩] w fun e w'=>e=.returned (.int .i64 (placeP (pbsL cs) tag))∧Below w.heap.size w w':=by
 obtain ⟨oa,cap,rfl,hcp,hat⟩:=h;have HO:=hid hat;obtain ⟨n,hnn⟩:∃ n,n=cs.length:=⟨_,rfl⟩
 have hbw:Below w.heap.size w (w.alloc (objS s (.slice oa cs.length cap))):=(Below.refl _ w).alloc (Nat.le_refl _) _;have b8:=(boxS_new w s (.slice oa cs.length cap)).c8;rw [← hnn] at hn hbw b8 ⊢;have HN:=hid hnn;clear hat hnn hcp
 go_enter Tryz.func27,Tryz.ntmps27
 unfold stoV;unfold objS at hbw b8;go_wp2;generalize World.alloc w _=W at hbw b8 ⊢
 go_loopw [5] (fun i wr=>∃ k:Nat,k≤n∧i=.int .i64 k∧wr=W∧Hid (∀ c ∈ cs.take k,(c.p.tag==tag)=false)) (fun i _=>n - (intOf i).toNat)
 case atStart=>exact ⟨0,by omega,rfl,by first | rfl | trivial,fun c hc=>by simp at hc⟩
 case round =>
  obtain ⟨k,hk,rfl,rfl,hinv⟩:=hrel;have HB:=hid hbw;by_cases hlt:k < n
  ·have hlt':(k:Int) < n:=by omega
   have hkl:k < cs.length:=by rw [← HN.out]; exact hlt
   obtain ⟨ad,rfl,hab,cel⟩:=HO.out k hkl;have cel:=cel.below hbw hab;have c2:=cel.seven.c2;clear cel hbw;have ST:=hid (fun x=>pl_step (l:=cs) (p:=fun c=>c.p.tag==tag) hkl hinv.out x);have HT:=hid (fun x=>pl_hit (l:=cs) (tag:=tag) hkl hinv.out x);generalize cs[k]=c at c2 ST HT
   cases heb:c.p.tag==tag
   ·have hinv2:=hid (ST.out heb);clear ST HT hinv HO;go_wp2;go_roundw
    case rel=>exact ⟨k+1,by omega,by go_num,(by first | rfl | trivial),hinv2.out⟩
    case measure=>simp [intOf]; omega
   ·have HV:=hid (HT.out heb);clear ST HT hinv HO;go_wp2;go_ret;exact ⟨by rw [HV.out]; rfl,HB.out⟩
  ·have hlt':¬ ((k:Int) < n):=by omega
   obtain rfl:k=n:=by omega
   have HV:=hid (pl_end (l:=cs) (tag:=tag) (by rw [← HN.out]; exact hinv.out));clear hinv HO hbw;go_wp2;go_ret;exact ⟨by rw [HV.out]; rfl,HB.out⟩
theorem doS_c (s:Sto) (now:Int) (a:Pa):(doS s now a).1.c=s.c:=by
 unfold doS
 repeat (first | rfl | split)
theorem doS_last (s:Sto) (now:Int) (a:Pa):(doS s now a).1.last=s.last∨(doS s now a).1.last=s.last+1:=by
 unfold doS
 repeat (first | exact .inl rfl | exact .inr rfl | split)
end Go.Proofs.YteicmbhilambpaaGreatDoor
