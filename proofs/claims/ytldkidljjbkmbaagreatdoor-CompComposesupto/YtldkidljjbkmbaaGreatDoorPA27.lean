/-
  RefEsc, RefUne, RefWritten, RefParams, PsT, PsG, RX1, RX2.
-/
import Derived.Test.YtldkidljjbkmbaaGreatDoorPA26
set_option linter.unusedVariables false
set_option linter.unusedSimpArgs false
set_option maxRecDepth 20000
namespace Go.Proofs.YtldkidljjbkmbaaGreatDoor
open Go.RowKit Sc
set_option maxHeartbeats 2000000 in
theorem refescape_any (s keep:ByteArray) (w:World) (hs:3 * s.size≤140737488355328) (hk:keep.size≤maxLen) :
  Calls Tryz.prog 94 #[.string s,.string keep] w fun e w'=>e=.returned (.string ⟨(esc (kpF keep.data.toList) s.data.toList).toArray⟩)∧Below w.heap.size w w':=by
 obtain ⟨i0,hi,hz0,hz1,hz2⟩:=info_parts info5
 go_enter Tryz.func94,Tryz.ntmps94
 go_wp2
 go_loopw [5,6] (fun v i wr=>∃ k:Nat,k≤s.size∧i=.int .i64 k∧Own wr w.heap.size 5 v (Lib.byteCells (esc (kpF keep.data.toList) (s.data.toList.take k)))∧Below w.heap.size w wr∧w.heap.size≤wr.heap.size) (fun _ i _=>s.size - (intOf i).toNat)
 case atStart=>exact ⟨0,Nat.zero_le _,rfl,Own.nil _ _ _,Below.refl _ _,Nat.le_refl _⟩
 case round =>
  obtain ⟨k,hk',rfl,hown,hb,hB⟩:=hrel
  have hlen:(Lib.byteCells (esc (kpF keep.data.toList) (s.data.toList.take k))).length≤3 * k:=by
   have:=esc_cells_len (kpF keep.data.toList) (s.data.toList.take k); have:=List.length_take_le k s.data.toList; omega
  by_cases hlt:k < s.size
  ·have hbd:=u8_bd s[k];by_cases hfree:free (kpF keep.data.toList) s[k]=true
   ·have hcs:=esc_cells1 (kpF keep.data.toList) (s.data.toList.take k) s[k] hfree;rw [← take_snoc s k hlt] at hcs;have HC:Hid _:=hcs; clear hcs
    have h37:((s[k].toNat:Int) != 37)=true:=by
     by_cases e:(s[k].toNat:Int)=37
     ·have e':s[k].toNat=37:=by omega
      rw [free,e',kpF] at hfree; simp [isB37] at hfree
     ·simpa using e
    by_cases hpl:isB s[k].toNat 16=true
    ·have hz:(bits BinOp.and IntKind.i64 (cls s[k].toNat) 16 != 0)=true:=by have:=hpl; rw [isB] at this; exact this
     clear hfree hpl
     go_wp2_with (first
      | (go_at_call 119; refine (refclass_any _ _ hbd.1 hbd.2).mono ?_; rintro e w' ⟨rfl,rfl⟩)
      | (go_at_call 124; refine (has_any _ _ _ hk).mono ?_; rintro e w' ⟨rfl,rfl⟩)
      | (at_builtin; refine wp_app _ rfl (.tmp 37) (.tmp 41) 86 rfl w.heap.size 5 i0 (.int .u8 0) 1 Tryz.underlying86 hi hz0 hz1 hz2 rfl _ _ rfl (by exact hown.alloc _) ⟨_,0,none⟩ 1 1 (Lib.byteCells [s[k]]) rfl rfl (by first | exact one_hexN _ _ _ (by omega) | exact one_new _ _ _) (byteCells_one _) (by unfold maxLen; omega) (by omega) w (by exact hb.alloc hB _) (by simp; omega) ?_; intro v3 w3 hown3 hb3 hB3))
     rw [HC.out] at hown3;go_wp2;go_roundw
     case rel=>exact ⟨k+1,by omega,by go_num,hown3,hb3,hB3⟩
     case measure=>simp [intOf]; omega
    ·have hpl':isB s[k].toNat 16=false:=by simpa using hpl
     have hz:(bits BinOp.and IntKind.i64 (cls s[k].toNat) 16 != 0)=false:=by have:=hpl'; rw [isB] at this; exact this
     have hh:hasB s[k].toNat keep=true:=by
      rw [hasB_inK]; rw [free,hpl',kpF,if_neg (by simp at h37; omega)] at hfree; simpa using hfree
     clear hfree hpl hpl'
     go_wp2_with (first
      | (go_at_call 119; refine (refclass_any _ _ hbd.1 hbd.2).mono ?_; rintro e w' ⟨rfl,rfl⟩)
      | (go_at_call 124; refine (has_any _ _ _ hk).mono ?_; rintro e w' ⟨rfl,rfl⟩)
      | (at_builtin; refine wp_app _ rfl (.tmp 37) (.tmp 41) 86 rfl w.heap.size 5 i0 (.int .u8 0) 1 Tryz.underlying86 hi hz0 hz1 hz2 rfl _ _ rfl (by exact hown.alloc _) ⟨_,0,none⟩ 1 1 (Lib.byteCells [s[k]]) rfl rfl (by first | exact one_hexN _ _ _ (by omega) | exact one_new _ _ _) (byteCells_one _) (by unfold maxLen; omega) (by omega) w (by exact hb.alloc hB _) (by simp; omega) ?_; intro v3 w3 hown3 hb3 hB3))
     rw [HC.out] at hown3;go_wp2;go_roundw
     case rel=>exact ⟨k+1,by omega,by go_num,hown3,hb3,hB3⟩
     case measure=>simp [intOf]; omega
   ·have hfree':free (kpF keep.data.toList) s[k]=false:=by simpa using hfree
    have hcs:=esc_cells3 (kpF keep.data.toList) (s.data.toList.take k) s[k] hfree';rw [← take_snoc s k hlt] at hcs
    have HC:Hid (Lib.byteCells (esc (kpF keep.data.toList) (s.data.toList.take k))++Lib.byteCells [37]++Lib.byteCells [hexd (s[k].toNat / 16)]++Lib.byteCells [hexd (s[k].toNat % 16)]=Lib.byteCells (esc (kpF keep.data.toList) (s.data.toList.take (k+1)))):=by
     show _=_; rw [← hcs,List.append_assoc,List.append_assoc]; rfl
    clear hcs hfree;have hA:(0:Int)≤(s[k].toNat:Int) / 16:=by omega
    have hB':(s[k].toNat:Int) / 16 < 16:=by omega
    have hD:(0:Int)≤(s[k].toNat:Int) % 16:=by omega
    have hE:(s[k].toNat:Int) % 16 < 16:=by omega
    by_cases h37:(s[k].toNat:Int)=37
    ·have h37':((s[k].toNat:Int) != 37)=false:=by simp [h37]
     clear h37 hfree'
     go_wp2_with (first
      | (at_builtin; refine wp_app _ rfl (.tmp 43) (.tmp 44) 86 rfl w.heap.size 5 i0 (.int .u8 0) 1 Tryz.underlying86 hi hz0 hz1 hz2 rfl _ _ rfl (by exact hown.alloc _) ⟨_,0,none⟩ 1 1 (Lib.byteCells [37]) rfl rfl (by first | exact one_hexN _ _ _ (by omega) | exact one_new _ _ _) (byteCells_one _) (by unfold maxLen; omega) (by omega) w (by exact hb.alloc hB _) (by simp; omega) ?_; intro v1 w1 hown1 hb1 hB1)
      | (at_builtin; refine wp_app _ rfl (.tmp 46) (.tmp 50) 86 rfl w.heap.size 5 i0 (.int .u8 0) 1 Tryz.underlying86 hi hz0 hz1 hz2 rfl _ _ rfl (by exact hown1.alloc _) ⟨_,0,none⟩ 1 1 (Lib.byteCells [hexd (s[k].toNat / 16)]) rfl rfl (by first | exact one_hexN _ _ _ (by omega) | exact one_new _ _ _) (byteCells_one _) (by simp [Lib.byteCells] at hlen ⊢; unfold maxLen; omega) (by simp [Lib.byteCells] at hlen ⊢; omega) w (by exact hb1.alloc hB1 _) (by simp; omega) ?_; intro v2 w2 hown2 hb2 hB2)
      | (at_builtin; refine wp_app _ rfl (.tmp 52) (.tmp 56) 86 rfl w.heap.size 5 i0 (.int .u8 0) 1 Tryz.underlying86 hi hz0 hz1 hz2 rfl _ _ rfl (by exact hown2.alloc _) ⟨_,0,none⟩ 1 1 (Lib.byteCells [hexd (s[k].toNat % 16)]) rfl rfl (by first | exact one_hexN _ _ _ (by omega) | exact one_new _ _ _) (byteCells_one _) (by simp [Lib.byteCells] at hlen ⊢; unfold maxLen; omega) (by simp [Lib.byteCells] at hlen ⊢; omega) w (by exact hb2.alloc hB2 _) (by simp; omega) ?_; intro v3 w3 hown3 hb3 hB3))
     rw [HC.out] at hown3;go_wp2;go_roundw
     case rel=>exact ⟨k+1,by omega,by go_num,hown3,hb3,hB3⟩
     case measure=>simp [intOf]; omega
    ·have h37':((s[k].toNat:Int) != 37)=true:=by simp [h37]
     have hpl':isB s[k].toNat 16=false:=by rw [free] at hfree'; simp at hfree'; exact hfree'.1
     have hz:(bits BinOp.and IntKind.i64 (cls s[k].toNat) 16 != 0)=false:=by have:=hpl'; rw [isB] at this; exact this
     have hh:hasB s[k].toNat keep=false:=by
      rw [hasB_inK]; rw [free,hpl',kpF,if_neg (by omega)] at hfree'; simpa using hfree'
     clear h37 hfree' hpl'
     go_wp2_with (first
      | (go_at_call 119; refine (refclass_any _ _ hbd.1 hbd.2).mono ?_; rintro e w' ⟨rfl,rfl⟩)
      | (go_at_call 124; refine (has_any _ _ _ hk).mono ?_; rintro e w' ⟨rfl,rfl⟩)
      | (at_builtin; refine wp_app _ rfl (.tmp 43) (.tmp 44) 86 rfl w.heap.size 5 i0 (.int .u8 0) 1 Tryz.underlying86 hi hz0 hz1 hz2 rfl _ _ rfl (by exact hown.alloc _) ⟨_,0,none⟩ 1 1 (Lib.byteCells [37]) rfl rfl (by first | exact one_hexN _ _ _ (by omega) | exact one_new _ _ _) (byteCells_one _) (by unfold maxLen; omega) (by omega) w (by exact hb.alloc hB _) (by simp; omega) ?_; intro v1 w1 hown1 hb1 hB1)
      | (at_builtin; refine wp_app _ rfl (.tmp 46) (.tmp 50) 86 rfl w.heap.size 5 i0 (.int .u8 0) 1 Tryz.underlying86 hi hz0 hz1 hz2 rfl _ _ rfl (by exact hown1.alloc _) ⟨_,0,none⟩ 1 1 (Lib.byteCells [hexd (s[k].toNat / 16)]) rfl rfl (by first | exact one_hexN _ _ _ (by omega) | exact one_new _ _ _) (byteCells_one _) (by simp [Lib.byteCells] at hlen ⊢; unfold maxLen; omega) (by simp [Lib.byteCells] at hlen ⊢; omega) w (by exact hb1.alloc hB1 _) (by simp; omega) ?_; intro v2 w2 hown2 hb2 hB2)
      | (at_builtin; refine wp_app _ rfl (.tmp 52) (.tmp 56) 86 rfl w.heap.size 5 i0 (.int .u8 0) 1 Tryz.underlying86 hi hz0 hz1 hz2 rfl _ _ rfl (by exact hown2.alloc _) ⟨_,0,none⟩ 1 1 (Lib.byteCells [hexd (s[k].toNat % 16)]) rfl rfl (by first | exact one_hexN _ _ _ (by omega) | exact one_new _ _ _) (byteCells_one _) (by simp [Lib.byteCells] at hlen ⊢; unfold maxLen; omega) (by simp [Lib.byteCells] at hlen ⊢; omega) w (by exact hb2.alloc hB2 _) (by simp; omega) ?_; intro v3 w3 hown3 hb3 hB3))
     rw [HC.out] at hown3;go_wp2;go_roundw
     case rel=>exact ⟨k+1,by omega,by go_num,hown3,hb3,hB3⟩
     case measure=>simp [intOf]; omega
  ·have hta:=take_all s k (by omega);rw [hta] at hown;have hcv:=conv_own (P:=Tryz.prog) _ Tryz.underlying86 Tryz.underlying5 Tryz.underlying9 hown;clear hta hlen;go_wp2;go_ret;exact ⟨rfl,hb⟩
def mtB (j:Nat) (c:Int):Bool:=((hexd j).toNat:Int)==c || ((lowb (hexd j)).toNat:Int)==c
def wfrom:Nat → Nat → Int → Int
 | 0,_,_=>-1
 | n+1,k,c=>if mtB k c then k else wfrom n (k+1) c
def worthV (c:Int):Int:=wfrom 16 0 c
theorem wfrom_step {k:Nat} {c:Int} (hk:k < 16) (h:mtB k c=false):wfrom (16 - k) k c=wfrom (16 - (k+1)) (k+1) c:=by
 rw [show 16 - k=(16 - (k+1))+1 by omega,wfrom,if_neg (by simp [h])]
theorem wfrom_hit {k:Nat} {c:Int} (hk:k < 16) (h:mtB k c=true):wfrom (16 - k) k c=k:=by
 rw [show 16 - k=(16 - (k+1))+1 by omega,wfrom,if_pos h]
theorem worth_hex {b:UInt8} (h:isB b.toNat 4=true):worthV b.toNat=hexv b.toNat:=by
 have hh:∀ n:Fin 256,isB (n.val:Int) 4=true → worthV (n.val:Int)=hexv (n.val:Int):=by decide +kernel
 exact hh ⟨b.toNat,b.toNat_lt⟩ h
theorem worth_not {b:UInt8} (h:isB b.toNat 4=false):worthV b.toNat=-1:=by
 have hh:∀ n:Fin 256,isB (n.val:Int) 4=false → worthV (n.val:Int)=-1:=by decide +kernel
 exact hh ⟨b.toNat,b.toNat_lt⟩ h
theorem hexAt (k:Nat) (hk:k < 16):((ByteArray.mk #[48,49,50,51,52,53,54,55,56,57,65,66,67,68,69,70])[k]'hk)=hexd k:=by
 have hh:∀ n:Fin 16,((ByteArray.mk #[48,49,50,51,52,53,54,55,56,57,65,66,67,68,69,70])[n.val]'n.isLt)=hexd n.val:=by decide +kernel
 exact hh ⟨k,hk⟩
theorem low1 (k:Nat) (hk:k < 16) (w:World) :
  Calls Tryz.prog 86 #[.string ((ByteArray.mk #[48,49,50,51,52,53,54,55,56,57,65,66,67,68,69,70]).extract k (k+1))] w fun e w'=>e=.returned (.string ⟨#[lowb (hexd k)]⟩)∧Below w.heap.size w w':=by
 have hh:∀ n:Fin 16,(ByteArray.mk #[48,49,50,51,52,53,54,55,56,57,65,66,67,68,69,70]).extract n.val (n.val+1)=⟨#[hexd n.val]⟩:=by decide +kernel
 rw [hh ⟨k,hk⟩];exact reflower_txt ⟨#[hexd k]⟩ w (by simp [ByteArray.size])
theorem byte0 (b:UInt8):((ByteArray.mk #[b])[0]'(Nat.one_pos))=b:=rfl
set_option maxHeartbeats 1000000 in
theorem worth_any (c:Int) (w:World) :
  Calls Tryz.prog 146 #[.int .u8 c] w fun e w'=>e=.returned (.int .i64 (worthV c))∧Below w.heap.size w w':=by
 go_enter Tryz.func146,Tryz.ntmps146
 go_wp2
 go_loopw [3] (fun i wr=>∃ k:Nat,k≤16∧i=.int .i64 k∧Below w.heap.size w wr∧Hid (worthV c=wfrom (16 - k) k c)) (fun i _=>16 - (intOf i).toNat)
 case atStart=>exact ⟨0,Nat.zero_le _,rfl,Below.refl _ _,rfl⟩
 case round =>
  obtain ⟨k,hk,rfl,hb,hw⟩:=hrel;by_cases hlt:k < 16
  ·have hx:=hexAt k hlt;have hy:=byte0 (lowb (hexd k));by_cases h1:((hexd k).toNat:Int)=c
   ·have h1':(((hexd k).toNat:Int)==c)=true:=by simpa using h1
    have hv:Hid (worthV c=k):=by show _=_; rw [hw.out,wfrom_hit hlt (by simp [mtB,h1'])]
    clear h1 hw;go_wp2;go_ret;exact ⟨ret_int hv.out.symm,hb⟩
   ·have h1':(((hexd k).toNat:Int)==c)=false:=by simpa using h1
    by_cases h2:((lowb (hexd k)).toNat:Int)=c
    ·have h2':(((lowb (hexd k)).toNat:Int)==c)=true:=by simpa using h2
     have hv:Hid (worthV c=k):=by show _=_; rw [hw.out,wfrom_hit hlt (by simp [mtB,h2'])]
     clear h1 h2 hw;go_wp2_with (go_at_call 86; refine (low1 k hlt _).mono ?_; rintro e w2 ⟨rfl,hb2⟩)
     go_ret;exact ⟨ret_int hv.out.symm,hb.trans (hb2.mono hb.size)⟩
    ·have h2':(((lowb (hexd k)).toNat:Int)==c)=false:=by simpa using h2
     have hw':Hid (worthV c=wfrom (16 - (k+1)) (k+1) c):=by show _=_; rw [hw.out,wfrom_step hlt (by simp [mtB,h1',h2'])]
     clear h1 h2 hw;go_wp2_with (go_at_call 86; refine (low1 k hlt _).mono ?_; rintro e w2 ⟨rfl,hb2⟩)
     go_roundw
     case rel=>exact ⟨k+1,by omega,by go_num,hb.trans (hb2.mono hb.size),hw'⟩
     case measure=>simp [intOf]; omega
  ·have hk16:k=16:=by omega
   subst hk16;go_wp2;go_ret;exact ⟨ret_int hw.out.symm,hb⟩
set_option maxHeartbeats 2000000 in
theorem refunescape_any (s:ByteArray) (w:World) (hs:s.size≤140737488355328) :
  Calls Tryz.prog 120 #[.string s] w fun e w'=>e=.returned (.tuple #[.string ⟨(unescV s.data.toList).1.toArray⟩,.int .i64 (unescV s.data.toList).2])∧Below w.heap.size w w':=by
 obtain ⟨i0,hi,hz0,hz1,hz2⟩:=info_parts info5
 go_enter Tryz.func120,Tryz.ntmps120
 go_wp2_with fail
 go_loopw [4,5] (fun v i wr=>∃ (k:Nat) (acc:List UInt8),k≤s.size∧i=.int .i64 k∧acc.length≤k∧Own wr w.heap.size 5 v (Lib.byteCells acc)∧Below w.heap.size w wr∧w.heap.size≤wr.heap.size ∧
   Hid (UneAt s.data.toList acc (s.data.toList.drop k))) (fun _ i _=>s.size - (intOf i).toNat)
 case atStart=>exact ⟨0,[],Nat.zero_le _,rfl,Nat.le_refl _,Own.nil _ _ _,Below.refl _ _,Nat.le_refl _,show UneAt _ _ _ by rw [List.drop_zero]; exact uneAt0 _⟩
 case round =>
  obtain ⟨k,acc,hk,rfl,hac,hown,hb,hB,hu⟩:=hrel;by_cases hlt:k < s.size
  ·have hu':=hu.out;rw [drop_cons s k hlt] at hu';by_cases h37:(s[k].toNat:Int)=37
   ·have c1:((s[k].toNat:Int) != 37)=false:=by simp [h37]
    by_cases hsh:k+2 < s.size
    ·rw [drop_cons s (k+1) (by omega),drop_cons s (k+1+1) (by omega)] at hu';by_cases hx1:isB s[k+1].toNat 4=true
     ·by_cases hx2:isB s[k+2].toNat 4=true
      ·have hn:Hid (UneAt s.data.toList (acc++[hxb s[k+1] s[k+2]]) (s.data.toList.drop (k+1+1+1))):=uneAt_hex hu' h37 hx1 hx2;have hw1:=worth_hex hx1;have hw2:=worth_hex hx2;have hd1:=hexv_bd hx1;have hd2:=hexv_bd hx2;have hv:=hxb_toNat hx1 hx2;clear hu hu' h37;go_wp2_with (go_at_call 146; refine (worth_any _ _).mono ?_; rintro e w5 ⟨rfl,h5⟩; replace hown:=hown.below h5; replace hb:=hb.trans (h5.mono hB); replace hB:=Nat.le_trans hB h5.size; clear h5)
       replace hown:=hown.drew;replace hb:=hb.drew;have q1:IntKind.i64.wrap ((k:Int)+1)=(k:Int)+1:=by simp [IntKind.wrap,IntKind.signed,IntKind.bits]; omega
       have q2:IntKind.i64.wrap ((k:Int)+2)=(k:Int)+2:=by simp [IntKind.wrap,IntKind.signed,IntKind.bits]; omega
       have q3:((k:Int)+1).toNat=k+1:=by omega
       have q4:((k:Int)+2).toNat=k+2:=by omega
       have q5:(0:Int)≤(k:Int)+1:=by omega
       have q6:(k:Int)+1 < (s.size:Int):=by omega
       have q7:(0:Int)≤(k:Int)+2:=by omega
       have q8:(k:Int)+2 < (s.size:Int):=by omega
       have m1:IntKind.i64.wrap (16 * hexv s[k+1].toNat)=16 * hexv s[k+1].toNat:=by simp [IntKind.wrap,IntKind.signed,IntKind.bits]; omega
       have m2:IntKind.i64.wrap (16 * hexv s[k+1].toNat+hexv s[k+2].toNat)=16 * hexv s[k+1].toNat+hexv s[k+2].toNat:=by simp [IntKind.wrap,IntKind.signed,IntKind.bits]; omega
       have m3:IntKind.u8.wrap (16 * hexv s[k+1].toNat+hexv s[k+2].toNat)=((hxb s[k+1] s[k+2]).toNat:Int):=by rw [hv]; simp [IntKind.wrap,IntKind.signed,IntKind.bits]; omega
       clear hv
       go_region_law (first | (refine step_app rfl (.tmp 43) (.tmp 57) 86 rfl w.heap.size 5 i0 (.int .u8 0) 1 Tryz.underlying86 hi hz0 hz1 hz2 rfl _ _ rfl (by exact hown.alloc _) ⟨_,0,none⟩ 1 1 (Lib.byteCells [hxb s[k+1] s[k+2]]) rfl rfl (by exact one_new _ _ _) (byteCells_one _) (by rw [Lib.byteCells_length]; unfold maxLen; omega) (by rw [Lib.byteCells_length]; omega) w (by exact hb.alloc hB _) (by simp; omega) ?_; intro v3 w3 hown3 hb3 hB3) | (go_simp; go_at_call 146; refine (worth_any _ _).mono ?_; rintro e w5 ⟨rfl,h5⟩; replace hown:=hown.below h5; replace hb:=hb.trans (h5.mono hB); replace hB:=Nat.le_trans hB h5.size; clear h5))
       all_goals
        rw [byteCells_snoc] at hown3;go_wp2;go_roundw
        case rel=>exact ⟨k+1+1+1,_,by omega,by go_num,by simp; omega,hown3,hb3,hB3,hn⟩
        case measure=>simp [intOf]; omega
      ·have hx2':isB s[k+2].toNat 4=false:=by simpa using hx2
       have hv:Hid (unescV s.data.toList=([],12)):=unescV_none (uneAt_bad hu' h37 (by rw [hx1,hx2']; rfl));have hw1:=worth_hex hx1;have hw2:=worth_not hx2';have hd1:=hexv_bd hx1;clear hu hu' h37 hx1 hx2 hx2';go_wp2_with (go_at_call 146; refine (worth_any _ _).mono ?_; rintro e w5 ⟨rfl,h5⟩; replace hown:=hown.below h5; replace hb:=hb.trans (h5.mono hB); replace hB:=Nat.le_trans hB h5.size; clear h5)
       go_ret2;exact ⟨ret_str [] 12 hv.out,hb⟩
     ·have hx1':isB s[k+1].toNat 4=false:=by simpa using hx1
      have hv:Hid (unescV s.data.toList=([],12)):=unescV_none (uneAt_bad hu' h37 (by rw [hx1']; rfl));have hw1:=worth_not hx1';clear hu hu' h37 hx1 hx1';go_wp2_with (go_at_call 146; refine (worth_any _ _).mono ?_; rintro e w5 ⟨rfl,h5⟩; replace hown:=hown.below h5; replace hb:=hb.trans (h5.mono hB); replace hB:=Nat.le_trans hB h5.size; clear h5)
      go_ret2;exact ⟨ret_str [] 12 hv.out,hb⟩
    ·have hv:Hid (unescV s.data.toList=([],12)):=unescV_none (uneAt_short hu' h37 (by rw [List.length_drop,len_data]; omega));clear hu hu' h37;go_wp2;go_ret2;exact ⟨ret_str [] 12 hv.out,hb⟩
   ·have c1:((s[k].toNat:Int) != 37)=true:=by simp [h37]
    have hn:Hid (UneAt s.data.toList (acc++[s[k]]) (s.data.toList.drop (k+1))):=uneAt_plain hu' h37;clear hu hu' h37;go_wp2_with (at_builtin; refine wp_app _ rfl (.tmp 14) (.tmp 18) 86 rfl w.heap.size 5 i0 (.int .u8 0) 1 Tryz.underlying86 hi hz0 hz1 hz2 rfl _ _ rfl (by exact hown.alloc _) ⟨_,0,none⟩ 1 1 (Lib.byteCells [s[k]]) rfl rfl (by exact one_new _ _ _) (byteCells_one _) (by rw [Lib.byteCells_length]; unfold maxLen; omega) (by rw [Lib.byteCells_length]; omega) w (by exact hb.alloc hB _) (by simp; omega) ?_; intro v3 w3 hown3 hb3 hB3)
    rw [byteCells_snoc] at hown3;go_wp2;go_roundw
    case rel=>exact ⟨k+1,_,by omega,by go_num,by simp; omega,hown3,hb3,hB3,hn⟩
    case measure=>simp [intOf]; omega
  ·have hu':=hu.out;rw [drop_all s k (by omega)] at hu';have hv:Hid (unescV s.data.toList=(acc,0)):=unescV_some (uneAt_end hu');have hcv:=conv_own (P:=Tryz.prog) _ Tryz.underlying86 Tryz.underlying5 Tryz.underlying9 hown;clear hu hu';go_wp2;go_ret2;exact ⟨ret_str acc 0 hv.out,hb⟩
set_option maxHeartbeats 1000000 in
theorem written_any (s keep:ByteArray) (w:World) (hs:s.size≤140737488355328) (hk:keep.size≤maxLen) :
  Calls Tryz.prog 89 #[.string s,.string keep] w fun e w'=>e=.returned (.tuple #[.string ⟨(writtenV keep.data.toList s.data.toList).1.toArray⟩,.bool (writtenV keep.data.toList s.data.toList).2])∧Below w.heap.size w w':=by
 go_enter Tryz.func89,Tryz.ntmps89
 go_wp2
 go_loop [6] (fun i=>∃ k:Nat,k≤s.size∧i=.int .i64 k∧Hid ((s.data.toList.take k).all (okw keep.data.toList)=true)) (fun i=>s.size - (intOf i).toNat)
 case atStart=>exact ⟨0,by omega,rfl,rfl⟩
 case round =>
  obtain ⟨k,hk',rfl,hall⟩:=hrel;by_cases hlt:k < s.size
  ·have hbd:=u8_bd s[k];by_cases h37:s[k]=37
   ·have e37:((s[k].toNat:Int) != 37)=false:=by rw [h37]; rfl
    have ha:Hid ((s.data.toList.take (k+1)).all (okw keep.data.toList)=true):=okw_snoc hlt hall.out (by simp [okw,h37]);clear h37 hall;go_wp2
    go_round
    case rel=>exact ⟨k+1,by omega,by go_num,ha⟩
    case measure=>simp [intOf]; omega
   ·have e37:((s[k].toNat:Int) != 37)=true:=by
     have:=u8_ne (b:=37) h37
     simp only [bne,Bool.not_eq_true']; exact this
    by_cases hx:isB s[k].toNat 16=true
    ·have hx2:(bits BinOp.and IntKind.i64 (cls s[k].toNat) 16==0)=false:=by simpa [isB] using hx
     have ha:Hid ((s.data.toList.take (k+1)).all (okw keep.data.toList)=true):=okw_snoc hlt hall.out (by simp [okw,hx]);clear h37 hall hx;go_wp2_with (go_at_call 119; refine (refclass_any _ _ hbd.1 hbd.2).mono ?_; rintro e w' ⟨rfl,rfl⟩)
     go_round
     case rel=>exact ⟨k+1,by omega,by go_num,ha⟩
     case measure=>simp [intOf]; omega
    ·have hx2:(bits BinOp.and IntKind.i64 (cls s[k].toNat) 16==0)=true:=by simpa [isB] using hx
     by_cases hh:hasL s[k] keep.data.toList=true
     ·have ha:Hid ((s.data.toList.take (k+1)).all (okw keep.data.toList)=true):=okw_snoc hlt hall.out (by simp [okw,hh]);clear h37 hall hx
      go_wp2_with (first
       | (go_at_call 119; refine (refclass_any _ _ hbd.1 hbd.2).mono ?_; rintro e w' ⟨rfl,rfl⟩)
       | (go_at_call 88; refine (has3_any keep s[k] _ hk).mono ?_; rintro e w' ⟨rfl,rfl⟩))
      go_round
      case rel=>exact ⟨k+1,by omega,by go_num,ha⟩
      case measure=>simp [intOf]; omega
     ·have hh':hasL s[k] keep.data.toList=false:=by simpa using hh
      have hb:Hid (writtenV keep.data.toList s.data.toList=([],false)):=written_bad hlt (by
       simp only [okw,Bool.or_eq_false_iff,beq_eq_false_iff_ne,ne_eq];exact ⟨h37,by simpa using hx,hh'⟩)
      clear h37 hall hx hh
      go_wp2_with (first
       | (go_at_call 119; refine (refclass_any _ _ hbd.1 hbd.2).mono ?_; rintro e w' ⟨rfl,rfl⟩)
       | (go_at_call 88; refine (has3_any keep s[k] _ hk).mono ?_; rintro e w' ⟨rfl,rfl⟩))
      go_ret2;exact ⟨ret_wr (x:=[]) hb.out,Below.refl _ _⟩
  ·rw [take_all s k (by omega)] at hall;have hv:=written_all hall.out;have HV:Hid _:=hv; clear hv hall
   go_wp2_with (go_at_call 120; refine (refunescape_any _ _ hs).mono ?_; rintro e w1 ⟨rfl,hw1⟩)
   all_goals go_ret2
   all_goals exact ⟨ret_wr HV.out,hw1⟩
theorem written_list (s keep:List UInt8) (w:World) (hs:s.length≤1048640) (hk:keep.length≤64) :
  Calls Tryz.prog 89 #[.string ⟨s.toArray⟩,.string ⟨keep.toArray⟩] w fun e w'=>e=.returned (.tuple #[.string ⟨(writtenV keep s).1.toArray⟩,.bool (writtenV keep s).2])∧Below w.heap.size w w' :=
 written_any ⟨s.toArray⟩ ⟨keep.toArray⟩ w (by rw [size_list]; omega) (by rw [size_list]; unfold maxLen; omega)
set_option maxHeartbeats 2000000 in
set_option maxRecDepth 100000 in
theorem params_any (v:Value) (ls:List (List UInt8)) (keep:List UInt8) (w:World) (hk:keep.length≤64) (hn:ls.length≤1048641) (hl:∀ l ∈ ls,l.length≤1048640) (hv:StrsAt w v ls) :
  Calls Tryz.prog 92 #[v,.string ⟨keep.toArray⟩] w fun e w'=>∃ v' b,e=.returned (.tuple #[v',.bool b])∧ParsRes keep ls w w' v' b∧Below w.heap.size w w':=by
 obtain ⟨i0,hi,hz0,hz1,hz2⟩:=info_parts infoPar;obtain ⟨ao,cap,rfl,hc⟩:=hv;have HC:Hid _:=hc; clear hc
 have HL:Hid _:=hl; clear hl
 obtain ⟨n,hn'⟩:∃ n,n=ls.length:=⟨_,rfl⟩
 rw [← hn'] at hn ⊢;have HN:Hid _:=hn'; clear hn'
 go_enter Tryz.func92,Tryz.ntmps92
 go_wp2
 go_loopw [6,7] (fun x i wr=>∃ (k:Nat) (ps:List Par),k≤n∧i=.int .i64 k∧Hid (parsOf keep (ls.take k)=some ps)∧ps.length=k∧OwnP wr w.heap.size x ps∧Below w.heap.size w wr∧w.heap.size≤wr.heap.size) (fun _ i _=>n - (intOf i).toNat)
 case atStart=>exact ⟨0,[],by omega,rfl,rfl,rfl,OwnP.nil _ _,Below.refl _ _,Nat.le_refl _⟩
 case round =>
  obtain ⟨k,ps,hkn,rfl,hps,hpl,hown,hb,hB⟩:=hrel;by_cases hlt:k < n
  ·have hkl:k < ls.length:=by have:=HN.out; omega
   obtain ⟨a,hao,hab,hcell⟩:=HC.out k hkl;have hcell2:=cell_below hb (by rw [add_block]; exact hab) hcell;have hll:=HL.out _ (List.getElem_mem hkl);have hcl:=cutL_len 61 ls[k];subst hao;clear hcell;go_wp2_with fail
   refine (cut3_list ls[k] 61 _ (by omega)).mono ?_
   rintro e w' ⟨rfl,q,rfl⟩;have hown1:=hown.below (below_drewN _ q);have hb1:=hb.trans ((below_drewN _ q).mono hB);go_wp2_with fail
   refine (written_list (cutL 61 ls[k]).1 keep _ (by omega) hk).mono ?_
   rintro e w3 ⟨rfl,hw3⟩;have hown3:=hown1.below hw3;have hb3:=hb1.trans (hw3.mono hb1.size);go_wp2_with fail
   refine (written_list (cutL 61 ls[k]).2.1 keep _ (by omega) hk).mono ?_
   rintro e w4 ⟨rfl,hw4⟩;have hown4:=hown3.below hw4;have hb4:=hb3.trans (hw4.mono hb3.size);have hB4:=hb4.size;clear hown hown1 hown3 hb hb1 hb3 hw3 hw4 hB hcell2
   have hsn:parsOf keep (ls.take (k+1))=match parsOf keep (ls.take k),parOf keep ls[k] with | some ps,some p=>some (ps++[p]) | _,_=>none:=by
    rw [List.take_succ_eq_append_getElem hkl];exact parsOf_snoc keep _ _
   rw [hps.out] at hsn;have hpbad:=@parsOf_bad keep ls k hkl;have hpsome:=@parOf_some keep ls[k];have hpnone:=@parOf_none keep ls[k];generalize cutL 61 ls[k]=c3 at hpsome hpnone ⊢;obtain ⟨ca,cb,cc⟩:=c3;simp only at hpsome hpnone ⊢;generalize writtenV keep ca=wa at hpsome hpnone ⊢;generalize writtenV keep cb=wb at hpsome hpnone ⊢;obtain ⟨na,ha⟩:=wa;obtain ⟨nb,hbb⟩:=wb;simp only at hpsome hpnone ⊢;have HPB:Hid _:=hpbad; clear hpbad
   have HPN:Hid _:=hpnone; clear hpnone
   have HPS:Hid _:=hpsome; clear hpsome
   have HSN:Hid _:=hsn; clear hsn
   cases ha with
   | false =>
    have hnone:Hid (parsOf keep ls=none):=HPB.out (HPN.out (by simp));go_wp2;go_ret2
    first | exact ⟨.slice none 0 0,false,rfl,Or.inr ⟨hnone.out,rfl,rfl⟩,hb4⟩ | exact ⟨.slice none 0 0,Or.inl ⟨rfl,Or.inr ⟨hnone.out,rfl,rfl⟩,hb4⟩⟩
   | true =>
    cases hbb with
    | false =>
     have hnone:Hid (parsOf keep ls=none):=HPB.out (HPN.out (by simp));go_wp2;go_ret2
     first | exact ⟨.slice none 0 0,false,rfl,Or.inr ⟨hnone.out,rfl,rfl⟩,hb4⟩ | exact ⟨.slice none 0 0,Or.inl ⟨rfl,Or.inr ⟨hnone.out,rfl,rfl⟩,hb4⟩⟩
    | true =>
     have hsn2:Hid (parsOf keep (ls.take (k+1))=some (ps++[⟨na,nb,cc⟩])):=show _=_ by rw [HSN.out,HPS.out rfl rfl]
     have hnew:∀ (j:Nat) (u:Value),(parCells ⟨na,nb,cc⟩)[j]? = some u → (w4.alloc (.cells #[.string ⟨na.toArray⟩,.string ⟨nb.toArray⟩,.bool cc] 78)).cell? ((⟨w4.heap.size,0,none⟩:Addr).add j)=some u:=by
      intro j u hj;have e:(⟨w4.heap.size,0,none⟩:Addr).add j=⟨w4.heap.size,j,none⟩:=by unfold Addr.add; split <;> simp_all
      rw [e];unfold World.cell?;rw [heap_alloc_new]
      simpa [parCells] using hj
     have HNW:Hid _:=hnew; clear hnew HSN HPS HPN HPB
     go_wp2_with (at_builtin; refine wp_appP _ rfl (.tmp 48) (.tmp 53) 80 rfl w.heap.size i0 _ Tryz.underlying80 hi hz0 hz1 hz2 rfl _ ps rfl (hown4.alloc _) ⟨w4.heap.size,0,none⟩ 1 ⟨na,nb,cc⟩ rfl (by exact HNW.out) (by omega) w (hb4.alloc hB4 _) (by simp; omega) ?_; intro v5 w5 hown5 hb5 hB5)
     go_wp2;go_roundw
     case rel=>exact ⟨k+1,ps++[⟨na,nb,cc⟩],by omega,by go_num,hsn2,by simp; omega,hown5,hb5,hB5⟩
     case measure=>simp [intOf]; omega
  ·have hend:Hid (parsOf keep ls=some ps):=show _=_ by
    have h:=hps.out;have e:=HN.out;rw [List.take_of_length_le (by omega)] at h; exact h
   clear hps;go_wp2;go_ret2
   first | exact ⟨_,_,rfl,Or.inl ⟨ps,hend.out,rfl,hown⟩,hb⟩ | exact ⟨_,Or.inr ⟨rfl,Or.inl ⟨ps,hend.out,rfl,hown⟩,hb⟩⟩
theorem tusCells_len (ts:List Tu):(tusCells ts).length=ts.length * 5:=by
 induction ts with
 | nil=>rfl
 | cons t ts ih =>
  have e:tusCells (t :: ts)=tuCells t++tusCells ts:=rfl;rw [e,List.length_append,ih,List.length_cons]; simp [tuCells]; omega
theorem OwnU.nil (w:World) (B:Nat):OwnU w B (.slice none 0 0) []:=World.ownsRow_nil _ _ _ _
end Go.Proofs.YtldkidljjbkmbaaGreatDoor
namespace Go.Proofs.YtldkidljjbkmbaaGreatDoor
open Go.RowKit Go.Maps Go.WideMaps Sc
theorem row_other {w:World} {b g:Nat} {e:TypeId} {l:List Value} (h:RowIs w g e l) (hne:g ≠ b) (j:Nat) (v:Value):RowIs (w.setCell ⟨b,j,none⟩ v) g e l:=by
 unfold RowIs at *;rw [Below.heap_setCell _ ⟨b,j,none⟩ _ _ hne];exact h
end Go.Proofs.YtldkidljjbkmbaaGreatDoor
namespace Go.Proofs.YtldkidljjbkmbaaGreatDoor
open Go.RowKit Sc
theorem hasX (b:UInt8):hasL b [32,9,13,10]=xblk b:=by
 simp only [hasL,xblk,List.contains_cons,List.contains_nil,Bool.or_false]
theorem hasX_of {c:UInt8} {b:Bool} (h:xblk c=b) (w:World) :
  Calls Tryz.prog 88 #[.string ⟨#[32,9,13,10]⟩,.int .u8 c.toNat] w fun e w'=>e=.returned (.bool b)∧w'=w:=by
 have k:=has3_any ⟨#[32,9,13,10]⟩ c w (by decide);have e:hasL c (⟨#[32,9,13,10]⟩:ByteArray).data.toList=b:=by rw [← h]; exact hasX c
 rw [e] at k; exact k
theorem has_of {s:ByteArray} {c:UInt8} {b:Bool} (h:hasL c s.data.toList=b) (hs:s.size≤140737488355328) (w:World) :
  Calls Tryz.prog 88 #[.string s,.int .u8 c.toNat] w fun e w'=>e=.returned (.bool b)∧w'=w:=by
 have k:=has3_any s c w (by unfold maxLen; omega);rw [h] at k; exact k
theorem hasN (b:UInt8):hasL b [45,46,58]=(b==45 || (b==46 || b==58)):=by
 simp only [hasL,List.contains_cons,List.contains_nil,Bool.or_false]
theorem hasN_of {c:UInt8} {b:Bool} (h:(c==45 || (c==46 || c==58))=b) (w:World) :
  Calls Tryz.prog 88 #[.string ⟨#[45,46,58]⟩,.int .u8 c.toNat] w fun e w'=>e=.returned (.bool b)∧w'=w :=
 has_of (s:=⟨#[45,46,58]⟩) (by rw [← h]; exact hasN c) (by decide) w
theorem class_of (c:UInt8) (w:World):Calls Tryz.prog 119 #[.int .u8 c.toNat] w fun e w'=>e=.returned (.int .i64 (cls c.toNat))∧w'=w :=
 refclass_any c.toNat w (u8_bd c).1 (u8_bd c).2
set_option maxHeartbeats 2000000 in
set_option maxRecDepth 100000 in
theorem rname_any (s:ByteArray) (w:World) (hs:s.size≤140737488355328) :
  Calls Tryz.prog 95 #[.string s] w fun e w'=>e=.returned (.bool (nameX s.data.toList))∧w'=w:=by
 have HC:=hid class_of;have HE:=hid (name_end s);have HB:=hid (name_bad s);have HH:=hid (name_head s);have HS:=hid (all_snocX namc s);have HR:Hid (∀ k:Nat,k≤s.size → (s.data.toList.take k).all namc=true → (k=0∨∃ h:0 < s.size,letX s[0]=true) → k=s.size → nameX s.data.toList=(decide (1≤s.size) && decide (s.size≤64))):=fun k hk ha hh e=>HE.out k (by omega) ha hh;generalize nameX s.data.toList=R at HE HB HH HR ⊢
 go_enter Tryz.func95,Tryz.ntmps95
 go_wp2
 go_loop [3] (fun i=>∃ k:Nat,k≤s.size∧i=.int .i64 k∧Hid ((s.data.toList.take k).all namc=true)∧Hid (k=0∨∃ h:0 < s.size,letX s[0]=true)) (fun i=>s.size - (intOf i).toNat)
 case atStart=>exact ⟨0,Nat.zero_le _,rfl,show _=_ by simp,show _∨_ from .inl rfl⟩
 case round =>
  obtain ⟨k,hk,rfl,ha,hh⟩:=hrel;by_cases hlt:k < s.size
  ·have hbd:=u8_bd s[k]
   cases hlet:letX s[k] with
   | true =>
    have ha2:Hid ((s.data.toList.take (k+1)).all namc=true):=HS.out k hlt ha.out (by unfold namc; rw [hlet]; rfl)
    have hh2:Hid (k+1=0∨∃ h:0 < s.size,letX s[0]=true):=show _∨_ by
     rcases hh.out with h | h
     ·subst h; exact .inr ⟨hlt,hlet⟩
     ·exact .inr h
    clear ha hh HE HB HH HS HR
    cases h2:(bits BinOp.and IntKind.i64 (cls s[k].toNat) 2==0) with
    | false =>
     have h2':¬ bits BinOp.and IntKind.i64 (cls s[k].toNat) 2=0:=by simpa using h2
     clear hlet;go_wp2_with (go_at_call 119; refine (HC.out _ _).mono ?_; rintro e w' ⟨rfl,rfl⟩)
     go_round
     case rel=>exact ⟨k+1,by omega,by go_num,ha2,hh2⟩
     case measure=>simp [intOf]; omega
    | true =>
     have h95:((s[k].toNat:Int)==95)=true:=by
      unfold letX isB at hlet;rw [h2] at hlet
      have:s[k]=95:=by simpa using hlet
      rw [this]; rfl
     have h2':bits BinOp.and IntKind.i64 (cls s[k].toNat) 2=0:=by simpa using h2
     clear hlet;go_wp2_with (go_at_call 119; refine (HC.out _ _).mono ?_; rintro e w' ⟨rfl,rfl⟩)
     go_round
     case rel=>exact ⟨k+1,by omega,by go_num,ha2,hh2⟩
     case measure=>simp [intOf]; omega
   | false =>
    have h2:(bits BinOp.and IntKind.i64 (cls s[k].toNat) 2==0)=true:=by
     unfold letX isB at hlet;rw [Bool.or_eq_false_iff] at hlet
     simpa using hlet.1
    have h2':bits BinOp.and IntKind.i64 (cls s[k].toNat) 2=0:=by simpa using h2
    have h95:((s[k].toNat:Int)==95)=false:=by
     have:(s[k]==95)=false:=by unfold letX at hlet; rw [Bool.or_eq_false_iff] at hlet; exact hlet.2
     have h3:¬ s[k]=95:=by simpa using this
     exact u8_ne (b:=95) h3
    by_cases h0:k=0
    ·have hR:Hid (R=false):=show _=_ from HH.out (by omega) (by subst h0; exact hlet)
     subst h0;clear hlet ha hh HE HB HH HS HR;go_wp2_with (go_at_call 119; refine (HC.out _ _).mono ?_; rintro e w' ⟨rfl,rfl⟩)
     go_ret;exact ⟨ret_bool hR.out.symm,rfl⟩
    ·have hk0:((k:Int)==0)=false:=by simpa using h0
     cases h1:(bits BinOp.and IntKind.i64 (cls s[k].toNat) 1==0) with
     | false =>
      have ha2:Hid ((s.data.toList.take (k+1)).all namc=true):=HS.out k hlt ha.out (by unfold namc isB; rw [hlet,h1]; rfl)
      have hh2:Hid (k+1=0∨∃ h:0 < s.size,letX s[0]=true):=show _∨_ by
       rcases hh.out with h | h
       ·exact absurd h h0
       ·exact .inr h
      clear hlet ha hh HE HB HH HS HR;go_wp2_with (go_at_call 119; refine (HC.out _ _).mono ?_; rintro e w' ⟨rfl,rfl⟩)
      go_round
      case rel=>exact ⟨k+1,by omega,by go_num,ha2,hh2⟩
      case measure=>simp [intOf]; omega
     | true =>
      cases h3:(s[k]==45 || (s[k]==46 || s[k]==58)) with
      | true =>
       have KH:=hid (fun w'=>hasN_of h3 w');have ha2:Hid ((s.data.toList.take (k+1)).all namc=true):=HS.out k hlt ha.out (by unfold namc isB; rw [hlet,h1,h3]; rfl)
       have hh2:Hid (k+1=0∨∃ h:0 < s.size,letX s[0]=true):=show _∨_ by
        rcases hh.out with h | h
        ·exact absurd h h0
        ·exact .inr h
       clear hlet ha hh h3 HE HB HH HS HR;go_wp2_with first | (go_at_call 119; refine (HC.out _ _).mono ?_; rintro e w' ⟨rfl,rfl⟩) | (go_at_call 88; refine (KH.out _).mono ?_; rintro e w' ⟨rfl,rfl⟩)
       go_round
       case rel=>exact ⟨k+1,by omega,by go_num,ha2,hh2⟩
       case measure=>simp [intOf]; omega
      | false =>
       have KH:=hid (fun w'=>hasN_of h3 w');have hR:Hid (R=false):=show _=_ from HB.out k hlt (by unfold namc isB; rw [hlet,h1,h3]; rfl)
       clear hlet ha hh h3 HE HB HH HS HR;go_wp2_with first | (go_at_call 119; refine (HC.out _ _).mono ?_; rintro e w' ⟨rfl,rfl⟩) | (go_at_call 88; refine (KH.out _).mono ?_; rintro e w' ⟨rfl,rfl⟩)
       go_ret;exact ⟨ret_bool hR.out.symm,rfl⟩
  ·have hR:=hid (HR.out k hk ha.out hh.out (by omega));clear ha hh HE HB HH HS HR;by_cases q1:1≤s.size
   ·by_cases q2:s.size≤64
    ·have hR2:Hid (R=true):=show _=_ by rw [hR.out]; simp [q1,q2]
     clear hR;go_wp2;go_ret;exact ⟨ret_bool (by rw [hR2.out]; exact decide_eq_true (by omega)),rfl⟩
    ·have hR2:Hid (R=false):=show _=_ by rw [hR.out]; simp [q1,q2]
     clear hR;go_wp2;go_ret;exact ⟨ret_bool (by rw [hR2.out]; exact decide_eq_false (by omega)),rfl⟩
   ·have hR2:Hid (R=false):=show _=_ by rw [hR.out]; simp [q1]
    clear hR;go_wp2;go_ret;exact ⟨ret_bool hR2.out.symm,rfl⟩
set_option maxHeartbeats 2000000 in
set_option maxRecDepth 100000 in
theorem rsigns_any (s:ByteArray) (w:World) (hs:s.size≤140737488355328) :
  Calls Tryz.prog 61 #[.string s] w fun e w'=>e=.returned (.bool (signsX s.data.toList))∧w'=w:=by
 have HS:=hid (all_snocX signX s);have HB:=hid (all_badX signX s);have HT:Hid (∀ k,s.size≤k → (s.data.toList.take k).all signX=true → s.data.toList.all signX=true):=fun k hk ha=>by rw [take_all s k hk] at ha; exact ha
 unfold signsX;generalize s.data.toList.all signX=R at HB HT ⊢
 go_enter Tryz.func61,Tryz.ntmps61
 go_wp2
 go_loop [3] (fun i=>∃ k:Nat,k≤s.size∧i=.int .i64 k∧Hid ((s.data.toList.take k).all signX=true)) (fun i=>s.size - (intOf i).toNat)
 case atStart=>exact ⟨0,Nat.zero_le _,rfl,show _=_ by simp⟩
 case round =>
  obtain ⟨k,hk,rfl,ha⟩:=hrel;by_cases hlt:k < s.size
  ·have hbd:=u8_bd s[k]
   cases hx:xblk s[k] with
   | true =>
    have KH:=hid (fun w'=>hasX_of hx w');have ha2:Hid ((s.data.toList.take (k+1)).all signX=true):=HS.out k hlt ha.out (by unfold signX; rw [hx]; rfl);clear ha HS HB HT hx;go_wp2_with (go_at_call 88; refine (KH.out _).mono ?_; rintro e w' ⟨rfl,rfl⟩)
    go_round
    case rel=>exact ⟨k+1,by omega,by go_num,ha2⟩
    case measure=>simp [intOf]; omega
   | false =>
    have KH:=hid (fun w'=>hasX_of hx w');by_cases h32:(s[k].toNat:Int) < 32
    ·have hR:Hid (R=false):=show _=_ from HB.out k hlt (sign_low hx (by omega))
     clear ha HS HB HT hx;go_wp2_with (go_at_call 88; refine (KH.out _).mono ?_; rintro e w' ⟨rfl,rfl⟩)
     go_ret;exact ⟨ret_bool hR.out.symm,rfl⟩
    ·by_cases h127:s[k]=127
     ·have h3:((s[k].toNat:Int)==127)=true:=by rw [h127]; rfl
      have hR:Hid (R=false):=show _=_ from HB.out k hlt (by unfold signX; rw [hx,h127]; rfl)
      clear ha HS HB HT hx h127;go_wp2_with (go_at_call 88; refine (KH.out _).mono ?_; rintro e w' ⟨rfl,rfl⟩)
      go_ret;exact ⟨ret_bool hR.out.symm,rfl⟩
     ·have h3:((s[k].toNat:Int)==127)=false:=u8_ne (b:=127) h127;have ha2:Hid ((s.data.toList.take (k+1)).all signX=true):=HS.out k hlt ha.out (sign_ok (by omega) h127);clear ha HS HB HT hx h127;go_wp2_with (go_at_call 88; refine (KH.out _).mono ?_; rintro e w' ⟨rfl,rfl⟩)
      go_round
      case rel=>exact ⟨k+1,by omega,by go_num,ha2⟩
      case measure=>simp [intOf]; omega
  ·have hR:Hid (R=true):=show _=_ from HT.out k (by omega) ha.out
   clear ha HS HB HT;go_wp2;go_ret;exact ⟨ret_bool hR.out.symm,rfl⟩
theorem rev_step (u:ByteArray) (h:u.size - 1 < u.size) (hx:xblk u[u.size - 1]=true):(u.extract 0 (u.size - 1)).data.toList.reverse.dropWhile xblk=u.data.toList.reverse.dropWhile xblk:=by
 rw [rev_last u h,List.dropWhile_cons,if_pos hx]
theorem rev_stop (u:ByteArray) (h:u.size - 1 < u.size) (hx:xblk u[u.size - 1]=false):u.data.toList.reverse.dropWhile xblk=u.data.toList.reverse:=by
 rw [rev_last u h,List.dropWhile_cons,if_neg (by simp [hx])]
end Go.Proofs.YtldkidljjbkmbaaGreatDoor
