/-
  RefCut, RefEsc, RefUne, RefWritten, ParOwn, RefParams, OpenAddr, OpenDoc.
-/
import Derived.Test.YtbmjodlbkgblpaaGreatDoorPO03
set_option linter.unusedVariables false
set_option linter.unusedSimpArgs false
set_option maxRecDepth 20000
namespace Go.Proofs.YtbmjodlbkgblpaaGreatDoor
open Go.RowKit Sc
theorem cutL_dec {c:UInt8} {r:List UInt8} (hb:(cutL c r).2.2=true):(cutL c r).2.1.length < r.length:=by
 have h:=cutL_join c r hb
 have:=congrArg List.length h
 simp at this; omega
set_option maxHeartbeats 1000000 in
theorem split3_any (s:ByteArray) (c:UInt8) (w:World) (hs:s.size≤1048576) :
  Calls Tryz.prog 87 #[.string s,.int .u8 c.toNat] w fun e w'=>∃ v,e=.returned v∧Own w' w.heap.size 9 v (strs (splitL c s.data.toList))∧Below w.heap.size w w':=by
 obtain ⟨i0,hi,hz0,hz1,hz2⟩:=info_parts info9
 go_enter Tryz.func87,Tryz.ntmps87
 go_wp2;have hs0:s=⟨s.data.toList.toArray⟩:=by apply ByteArray.ext; simp
 have hl:=len_data s;generalize s.data.toList=l0 at hs0 hl ⊢;subst hs0
 go_loopw [0,5,6] (fun x v m wr=>∃ (r:List UInt8) (ps:List (List UInt8)) (b:Bool),x=.string ⟨r.toArray⟩∧m=.bool b∧Own wr w.heap.size 9 v (strs ps)∧Below w.heap.size w wr∧w.heap.size≤wr.heap.size∧ps.length+r.length≤l0.length+1∧r.length≤l0.length ∧
   Hid (if b=true then splitL c l0=ps++splitL c r∧ps.length+r.length≤l0.length else splitL c l0=ps)) (fun x _ m _=>lenOf x+boolOf m)
 case atStart=>exact ⟨l0,[],true,rfl,rfl,Own.nil _ _ _,Below.refl _ _,Nat.le_refl _,by simp,by omega,show _=_∧_ from ⟨rfl,by simp⟩⟩
 case round =>
  obtain ⟨r,ps,b,rfl,rfl,hown,hb,hB,hln,hrl,hsp⟩:=hrel
  cases b with
  | false =>
   go_wp2;go_ret;exact ⟨_,rfl,by have:=hsp.out; simp at this; rw [this]; exact hown,hb⟩
  | true =>
   have hsp2:=hsp.out;rw [if_pos rfl] at hsp2;have hsp3:Hid _:=hsp2;clear hsp hsp2;have hcl:=cutL_len c r;have hdec:=@cutL_dec c r;have hnx:=@splitL_next c l0 r ps hsp3.out.1;have hlast:=@splitL_last c l0 r ps hsp3.out.1;have hl2:=hsp3.out.2;rw [size_list] at hs;clear hsp3 hl;go_wp2_with fail
   refine (cut3_list r c _ (by omega)).mono ?_
   rintro e w' ⟨rfl,q,rfl⟩;generalize cutL c r=p at hcl hdec hnx hlast ⊢;obtain ⟨p1,p2,b⟩:=p;have HD:Hid _:=hdec; clear hdec
   have HN:Hid _:=hnx; clear hnx
   have HL:Hid _:=hlast; clear hlast
   have hown1:=hown.below (below_drewN wr q);have hb1:=hb.trans ((below_drewN wr q).mono hB);have hB1:w.heap.size≤(wr.drewN q).heap.size:=hB;clear hown hb hB;generalize wr.drewN q=w1 at hown1 hb1 hB1 ⊢;go_wp2_with (at_builtin; refine wp_app _ rfl (.tmp 16) (.tmp 18) 33 rfl w.heap.size 9 i0 (.string .empty) 16 Tryz.underlying33 hi hz0 hz1 hz2 rfl _ _ rfl (hown1.alloc _) ⟨_,0,none⟩ 1 1 [.string ⟨p1.toArray⟩] rfl rfl (by exact one_new _ _ _) (by intro u hu; simp at hu; subst hu; rfl) (by rw [strs_length]; unfold maxLen; omega) (by rw [strs_length]; omega) w (hb1.alloc (by omega) _) (by simp; omega) ?_; intro v3 w3 hown3 hb3 hB3)
   have e1:[Value.string ⟨p1.toArray⟩]=strs [p1]:=rfl;rw [e1,← strs_append] at hown3
   cases b with
   | true =>
    have hd:p2.length < r.length:=HD.out rfl;have hn:Hid (splitL c l0=ps++[p1]++splitL c p2):=HN.out rfl;clear HD HN HL;go_wp2;go_roundw
    case rel=>exact ⟨p2,ps++[p1],true,rfl,rfl,hown3,hb3,hB3,by simp; omega,by omega,show _=_∧_ from ⟨hn.out,by simp; omega⟩⟩
    case measure=>simp [lenOf,boolOf,size_list]; omega
   | false =>
    have hn:Hid (splitL c l0=ps++[p1]):=HL.out rfl;clear HD HN HL;go_wp2;go_roundw
    case rel=>exact ⟨p2,ps++[p1],false,rfl,rfl,hown3,hb3,hB3,by simp; omega,by omega,hn⟩
    case measure=>simp [lenOf,boolOf,size_list]; omega
theorem hasB_inK (keep:ByteArray) (b:UInt8):hasB b.toNat keep=inK keep.data.toList b.toNat:=by
 rw [hasB,inK]
 congr 1
 funext c
 rw [Bool.eq_iff_iff]; simp
 omega
theorem isB37:isB 37 16=false:=by decide +kernel
theorem one_hexN (w:World) (e:TypeId) (n:Nat) (h:n < 16) :
  ∀ (j:Nat) (u:Value),(Lib.byteCells [hexd n])[j]? = some u → (w.alloc (.cells #[.int .u8 ((((ByteArray.mk #[48,49,50,51,52,53,54,55,56,57,65,66,67,68,69,70])[n]'h).toNat:Nat):Int)] e)).cell? ((⟨w.heap.size,0,none⟩:Addr).add j)=some u:=by
 have:=hexi (n:Int) n (by omega) (by omega)
 simp only [Int.toNat_natCast] at this;rw [this];exact one_new w e _
set_option maxHeartbeats 2000000 in
theorem refescape_any (s keep:ByteArray) (w:World) (hs:3 * s.size≤140737488355328) (hk:keep.size≤maxLen) :
  Calls Tryz.prog 91 #[.string s,.string keep] w fun e w'=>e=.returned (.string ⟨(esc (kpF keep.data.toList) s.data.toList).toArray⟩)∧Below w.heap.size w w':=by
 obtain ⟨i0,hi,hz0,hz1,hz2⟩:=info_parts info5
 go_enter Tryz.func91,Tryz.ntmps91
 go_wp2
 go_loopw [5,6] (fun v i wr=>∃ k:Nat,k≤s.size∧i=.int .i64 k∧Own wr w.heap.size 5 v (Lib.byteCells (esc (kpF keep.data.toList) (s.data.toList.take k)))∧Below w.heap.size w wr∧w.heap.size≤wr.heap.size) (fun _ i _=>s.size - (intOf i).toNat)
 case atStart=>exact ⟨0,Nat.zero_le _,rfl,Own.nil _ _ _,Below.refl _ _,Nat.le_refl _⟩
 case round =>
  obtain ⟨k,hk',rfl,hown,hb,hB⟩:=hrel
  have hlen:(Lib.byteCells (esc (kpF keep.data.toList) (s.data.toList.take k))).length≤3 * k:=by
   have:=esc_cells_len (kpF keep.data.toList) (s.data.toList.take k); have:=List.length_take_le k s.data.toList; omega
  by_cases hlt:k < s.size
  ·have hbd:=u8_bd s[k];by_cases hfree:free (kpF keep.data.toList) s[k]=true
   ·have hcs:=esc_cells1 (kpF keep.data.toList) (s.data.toList.take k) s[k] hfree;rw [← take_snoc s k hlt] at hcs;have HC:Hid _:=hcs; clear hcs
    have h37:((s[k].toNat:Int) != 37)=true:=by
     by_cases e:(s[k].toNat:Int)=37
     ·have e':s[k].toNat=37:=by omega
      rw [free,e',kpF] at hfree; simp [isB37] at hfree
     ·simpa using e
    by_cases hpl:isB s[k].toNat 16=true
    ·have hz:(bits BinOp.and IntKind.i64 (cls s[k].toNat) 16 != 0)=true:=by have:=hpl; rw [isB] at this; exact this
     clear hfree hpl
     go_wp2_with (first
      | (go_at_call 63; refine (refclass_any _ _ hbd.1 hbd.2).mono ?_; rintro e w' ⟨rfl,rfl⟩)
      | (go_at_call 81; refine (has_any _ _ _ hk).mono ?_; rintro e w' ⟨rfl,rfl⟩)
      | (at_builtin; refine wp_app _ rfl (.tmp 37) (.tmp 41) 124 rfl w.heap.size 5 i0 (.int .u8 0) 1 Tryz.underlying124 hi hz0 hz1 hz2 rfl _ _ rfl (by exact hown.alloc _) ⟨_,0,none⟩ 1 1 (Lib.byteCells [s[k]]) rfl rfl (by first | exact one_hexN _ _ _ (by omega) | exact one_new _ _ _) (byteCells_one _) (by unfold maxLen; omega) (by omega) w (by exact hb.alloc hB _) (by simp; omega) ?_; intro v3 w3 hown3 hb3 hB3))
     rw [HC.out] at hown3;go_wp2;go_roundw
     case rel=>exact ⟨k+1,by omega,by go_num,hown3,hb3,hB3⟩
     case measure=>simp [intOf]; omega
    ·have hpl':isB s[k].toNat 16=false:=by simpa using hpl
     have hz:(bits BinOp.and IntKind.i64 (cls s[k].toNat) 16 != 0)=false:=by have:=hpl'; rw [isB] at this; exact this
     have hh:hasB s[k].toNat keep=true:=by
      rw [hasB_inK]; rw [free,hpl',kpF,if_neg (by simp at h37; omega)] at hfree; simpa using hfree
     clear hfree hpl hpl'
     go_wp2_with (first
      | (go_at_call 63; refine (refclass_any _ _ hbd.1 hbd.2).mono ?_; rintro e w' ⟨rfl,rfl⟩)
      | (go_at_call 81; refine (has_any _ _ _ hk).mono ?_; rintro e w' ⟨rfl,rfl⟩)
      | (at_builtin; refine wp_app _ rfl (.tmp 37) (.tmp 41) 124 rfl w.heap.size 5 i0 (.int .u8 0) 1 Tryz.underlying124 hi hz0 hz1 hz2 rfl _ _ rfl (by exact hown.alloc _) ⟨_,0,none⟩ 1 1 (Lib.byteCells [s[k]]) rfl rfl (by first | exact one_hexN _ _ _ (by omega) | exact one_new _ _ _) (byteCells_one _) (by unfold maxLen; omega) (by omega) w (by exact hb.alloc hB _) (by simp; omega) ?_; intro v3 w3 hown3 hb3 hB3))
     rw [HC.out] at hown3;go_wp2;go_roundw
     case rel=>exact ⟨k+1,by omega,by go_num,hown3,hb3,hB3⟩
     case measure=>simp [intOf]; omega
   ·have hfree':free (kpF keep.data.toList) s[k]=false:=by simpa using hfree
    have hcs:=esc_cells3 (kpF keep.data.toList) (s.data.toList.take k) s[k] hfree';rw [← take_snoc s k hlt] at hcs
    have HC:Hid (Lib.byteCells (esc (kpF keep.data.toList) (s.data.toList.take k))++Lib.byteCells [37]++Lib.byteCells [hexd (s[k].toNat / 16)]++Lib.byteCells [hexd (s[k].toNat % 16)]=Lib.byteCells (esc (kpF keep.data.toList) (s.data.toList.take (k+1)))):=by
     show _=_; rw [← hcs,List.append_assoc,List.append_assoc]; rfl
    clear hcs hfree;have hA:(0:Int)≤(s[k].toNat:Int) / 16:=by omega
    have hB':(s[k].toNat:Int) / 16 < 16:=by omega
    have hD:(0:Int)≤(s[k].toNat:Int) % 16:=by omega
    have hE:(s[k].toNat:Int) % 16 < 16:=by omega
    by_cases h37:(s[k].toNat:Int)=37
    ·have h37':((s[k].toNat:Int) != 37)=false:=by simp [h37]
     clear h37 hfree'
     go_wp2_with (first
      | (at_builtin; refine wp_app _ rfl (.tmp 43) (.tmp 44) 124 rfl w.heap.size 5 i0 (.int .u8 0) 1 Tryz.underlying124 hi hz0 hz1 hz2 rfl _ _ rfl (by exact hown.alloc _) ⟨_,0,none⟩ 1 1 (Lib.byteCells [37]) rfl rfl (by first | exact one_hexN _ _ _ (by omega) | exact one_new _ _ _) (byteCells_one _) (by unfold maxLen; omega) (by omega) w (by exact hb.alloc hB _) (by simp; omega) ?_; intro v1 w1 hown1 hb1 hB1)
      | (at_builtin; refine wp_app _ rfl (.tmp 46) (.tmp 50) 124 rfl w.heap.size 5 i0 (.int .u8 0) 1 Tryz.underlying124 hi hz0 hz1 hz2 rfl _ _ rfl (by exact hown1.alloc _) ⟨_,0,none⟩ 1 1 (Lib.byteCells [hexd (s[k].toNat / 16)]) rfl rfl (by first | exact one_hexN _ _ _ (by omega) | exact one_new _ _ _) (byteCells_one _) (by simp [Lib.byteCells] at hlen ⊢; unfold maxLen; omega) (by simp [Lib.byteCells] at hlen ⊢; omega) w (by exact hb1.alloc hB1 _) (by simp; omega) ?_; intro v2 w2 hown2 hb2 hB2)
      | (at_builtin; refine wp_app _ rfl (.tmp 52) (.tmp 56) 124 rfl w.heap.size 5 i0 (.int .u8 0) 1 Tryz.underlying124 hi hz0 hz1 hz2 rfl _ _ rfl (by exact hown2.alloc _) ⟨_,0,none⟩ 1 1 (Lib.byteCells [hexd (s[k].toNat % 16)]) rfl rfl (by first | exact one_hexN _ _ _ (by omega) | exact one_new _ _ _) (byteCells_one _) (by simp [Lib.byteCells] at hlen ⊢; unfold maxLen; omega) (by simp [Lib.byteCells] at hlen ⊢; omega) w (by exact hb2.alloc hB2 _) (by simp; omega) ?_; intro v3 w3 hown3 hb3 hB3))
     rw [HC.out] at hown3;go_wp2;go_roundw
     case rel=>exact ⟨k+1,by omega,by go_num,hown3,hb3,hB3⟩
     case measure=>simp [intOf]; omega
    ·have h37':((s[k].toNat:Int) != 37)=true:=by simp [h37]
     have hpl':isB s[k].toNat 16=false:=by rw [free] at hfree'; simp at hfree'; exact hfree'.1
     have hz:(bits BinOp.and IntKind.i64 (cls s[k].toNat) 16 != 0)=false:=by have:=hpl'; rw [isB] at this; exact this
     have hh:hasB s[k].toNat keep=false:=by
      rw [hasB_inK]; rw [free,hpl',kpF,if_neg (by omega)] at hfree'; simpa using hfree'
     clear h37 hfree' hpl'
     go_wp2_with (first
      | (go_at_call 63; refine (refclass_any _ _ hbd.1 hbd.2).mono ?_; rintro e w' ⟨rfl,rfl⟩)
      | (go_at_call 81; refine (has_any _ _ _ hk).mono ?_; rintro e w' ⟨rfl,rfl⟩)
      | (at_builtin; refine wp_app _ rfl (.tmp 43) (.tmp 44) 124 rfl w.heap.size 5 i0 (.int .u8 0) 1 Tryz.underlying124 hi hz0 hz1 hz2 rfl _ _ rfl (by exact hown.alloc _) ⟨_,0,none⟩ 1 1 (Lib.byteCells [37]) rfl rfl (by first | exact one_hexN _ _ _ (by omega) | exact one_new _ _ _) (byteCells_one _) (by unfold maxLen; omega) (by omega) w (by exact hb.alloc hB _) (by simp; omega) ?_; intro v1 w1 hown1 hb1 hB1)
      | (at_builtin; refine wp_app _ rfl (.tmp 46) (.tmp 50) 124 rfl w.heap.size 5 i0 (.int .u8 0) 1 Tryz.underlying124 hi hz0 hz1 hz2 rfl _ _ rfl (by exact hown1.alloc _) ⟨_,0,none⟩ 1 1 (Lib.byteCells [hexd (s[k].toNat / 16)]) rfl rfl (by first | exact one_hexN _ _ _ (by omega) | exact one_new _ _ _) (byteCells_one _) (by simp [Lib.byteCells] at hlen ⊢; unfold maxLen; omega) (by simp [Lib.byteCells] at hlen ⊢; omega) w (by exact hb1.alloc hB1 _) (by simp; omega) ?_; intro v2 w2 hown2 hb2 hB2)
      | (at_builtin; refine wp_app _ rfl (.tmp 52) (.tmp 56) 124 rfl w.heap.size 5 i0 (.int .u8 0) 1 Tryz.underlying124 hi hz0 hz1 hz2 rfl _ _ rfl (by exact hown2.alloc _) ⟨_,0,none⟩ 1 1 (Lib.byteCells [hexd (s[k].toNat % 16)]) rfl rfl (by first | exact one_hexN _ _ _ (by omega) | exact one_new _ _ _) (byteCells_one _) (by simp [Lib.byteCells] at hlen ⊢; unfold maxLen; omega) (by simp [Lib.byteCells] at hlen ⊢; omega) w (by exact hb2.alloc hB2 _) (by simp; omega) ?_; intro v3 w3 hown3 hb3 hB3))
     rw [HC.out] at hown3;go_wp2;go_roundw
     case rel=>exact ⟨k+1,by omega,by go_num,hown3,hb3,hB3⟩
     case measure=>simp [intOf]; omega
  ·have hta:=take_all s k (by omega);rw [hta] at hown;have hcv:=conv_own (P:=Tryz.prog) _ Tryz.underlying124 Tryz.underlying5 Tryz.underlying9 hown;clear hta hlen;go_wp2;go_ret;exact ⟨rfl,hb⟩
def mtB (j:Nat) (c:Int):Bool:=((hexd j).toNat:Int)==c || ((lowb (hexd j)).toNat:Int)==c
def wfrom:Nat → Nat → Int → Int
 | 0,_,_=>-1
 | n+1,k,c=>if mtB k c then k else wfrom n (k+1) c
def worthV (c:Int):Int:=wfrom 16 0 c
theorem wfrom_step {k:Nat} {c:Int} (hk:k < 16) (h:mtB k c=false):wfrom (16 - k) k c=wfrom (16 - (k+1)) (k+1) c:=by
 rw [show 16 - k=(16 - (k+1))+1 by omega,wfrom,if_neg (by simp [h])]
theorem wfrom_hit {k:Nat} {c:Int} (hk:k < 16) (h:mtB k c=true):wfrom (16 - k) k c=k:=by
 rw [show 16 - k=(16 - (k+1))+1 by omega,wfrom,if_pos h]
theorem worth_hex {b:UInt8} (h:isB b.toNat 4=true):worthV b.toNat=hexv b.toNat:=by
 have hh:∀ n:Fin 256,isB (n.val:Int) 4=true → worthV (n.val:Int)=hexv (n.val:Int):=by decide +kernel
 exact hh ⟨b.toNat,b.toNat_lt⟩ h
theorem worth_not {b:UInt8} (h:isB b.toNat 4=false):worthV b.toNat=-1:=by
 have hh:∀ n:Fin 256,isB (n.val:Int) 4=false → worthV (n.val:Int)=-1:=by decide +kernel
 exact hh ⟨b.toNat,b.toNat_lt⟩ h
theorem hexAt (k:Nat) (hk:k < 16):((ByteArray.mk #[48,49,50,51,52,53,54,55,56,57,65,66,67,68,69,70])[k]'hk)=hexd k:=by
 have hh:∀ n:Fin 16,((ByteArray.mk #[48,49,50,51,52,53,54,55,56,57,65,66,67,68,69,70])[n.val]'n.isLt)=hexd n.val:=by decide +kernel
 exact hh ⟨k,hk⟩
theorem low1 (k:Nat) (hk:k < 16) (w:World) :
  Calls Tryz.prog 83 #[.string ((ByteArray.mk #[48,49,50,51,52,53,54,55,56,57,65,66,67,68,69,70]).extract k (k+1))] w fun e w'=>e=.returned (.string ⟨#[lowb (hexd k)]⟩)∧Below w.heap.size w w':=by
 have hh:∀ n:Fin 16,(ByteArray.mk #[48,49,50,51,52,53,54,55,56,57,65,66,67,68,69,70]).extract n.val (n.val+1)=⟨#[hexd n.val]⟩:=by decide +kernel
 rw [hh ⟨k,hk⟩];exact reflower_txt ⟨#[hexd k]⟩ w (by simp [ByteArray.size])
theorem byte0 (b:UInt8):((ByteArray.mk #[b])[0]'(Nat.one_pos))=b:=rfl
set_option maxHeartbeats 1000000 in
theorem worth_any (c:Int) (w:World) :
  Calls Tryz.prog 134 #[.int .u8 c] w fun e w'=>e=.returned (.int .i64 (worthV c))∧Below w.heap.size w w':=by
 go_enter Tryz.func134,Tryz.ntmps134
 go_wp2
 go_loopw [3] (fun i wr=>∃ k:Nat,k≤16∧i=.int .i64 k∧Below w.heap.size w wr∧Hid (worthV c=wfrom (16 - k) k c)) (fun i _=>16 - (intOf i).toNat)
 case atStart=>exact ⟨0,Nat.zero_le _,rfl,Below.refl _ _,rfl⟩
 case round =>
  obtain ⟨k,hk,rfl,hb,hw⟩:=hrel;by_cases hlt:k < 16
  ·have hx:=hexAt k hlt;have hy:=byte0 (lowb (hexd k));by_cases h1:((hexd k).toNat:Int)=c
   ·have h1':(((hexd k).toNat:Int)==c)=true:=by simpa using h1
    have hv:Hid (worthV c=k):=by show _=_; rw [hw.out,wfrom_hit hlt (by simp [mtB,h1'])]
    clear h1 hw;go_wp2;go_ret;exact ⟨ret_int hv.out.symm,hb⟩
   ·have h1':(((hexd k).toNat:Int)==c)=false:=by simpa using h1
    by_cases h2:((lowb (hexd k)).toNat:Int)=c
    ·have h2':(((lowb (hexd k)).toNat:Int)==c)=true:=by simpa using h2
     have hv:Hid (worthV c=k):=by show _=_; rw [hw.out,wfrom_hit hlt (by simp [mtB,h2'])]
     clear h1 h2 hw;go_wp2_with (go_at_call 83; refine (low1 k hlt _).mono ?_; rintro e w2 ⟨rfl,hb2⟩)
     go_ret;exact ⟨ret_int hv.out.symm,hb.trans (hb2.mono hb.size)⟩
    ·have h2':(((lowb (hexd k)).toNat:Int)==c)=false:=by simpa using h2
     have hw':Hid (worthV c=wfrom (16 - (k+1)) (k+1) c):=by show _=_; rw [hw.out,wfrom_step hlt (by simp [mtB,h1',h2'])]
     clear h1 h2 hw;go_wp2_with (go_at_call 83; refine (low1 k hlt _).mono ?_; rintro e w2 ⟨rfl,hb2⟩)
     go_roundw
     case rel=>exact ⟨k+1,by omega,by go_num,hb.trans (hb2.mono hb.size),hw'⟩
     case measure=>simp [intOf]; omega
  ·have hk16:k=16:=by omega
   subst hk16;go_wp2;go_ret;exact ⟨ret_int hw.out.symm,hb⟩
set_option maxHeartbeats 2000000 in
theorem refunescape_any (s:ByteArray) (w:World) (hs:s.size≤140737488355328) :
  Calls Tryz.prog 109 #[.string s] w fun e w'=>e=.returned (.tuple #[.string ⟨(unescV s.data.toList).1.toArray⟩,.int .i64 (unescV s.data.toList).2])∧Below w.heap.size w w':=by
 obtain ⟨i0,hi,hz0,hz1,hz2⟩:=info_parts info5
 go_enter Tryz.func109,Tryz.ntmps109
 go_wp2_with fail
 go_loopw [4,5] (fun v i wr=>∃ (k:Nat) (acc:List UInt8),k≤s.size∧i=.int .i64 k∧acc.length≤k∧Own wr w.heap.size 5 v (Lib.byteCells acc)∧Below w.heap.size w wr∧w.heap.size≤wr.heap.size ∧
   Hid (UneAt s.data.toList acc (s.data.toList.drop k))) (fun _ i _=>s.size - (intOf i).toNat)
 case atStart=>exact ⟨0,[],Nat.zero_le _,rfl,Nat.le_refl _,Own.nil _ _ _,Below.refl _ _,Nat.le_refl _,show UneAt _ _ _ by rw [List.drop_zero]; exact uneAt0 _⟩
 case round =>
  obtain ⟨k,acc,hk,rfl,hac,hown,hb,hB,hu⟩:=hrel;by_cases hlt:k < s.size
  ·have hu':=hu.out;rw [drop_cons s k hlt] at hu';by_cases h37:(s[k].toNat:Int)=37
   ·have c1:((s[k].toNat:Int) != 37)=false:=by simp [h37]
    by_cases hsh:k+2 < s.size
    ·rw [drop_cons s (k+1) (by omega),drop_cons s (k+1+1) (by omega)] at hu';by_cases hx1:isB s[k+1].toNat 4=true
     ·by_cases hx2:isB s[k+2].toNat 4=true
      ·have hn:Hid (UneAt s.data.toList (acc++[hxb s[k+1] s[k+2]]) (s.data.toList.drop (k+1+1+1))):=uneAt_hex hu' h37 hx1 hx2;have hw1:=worth_hex hx1;have hw2:=worth_hex hx2;have hd1:=hexv_bd hx1;have hd2:=hexv_bd hx2;have hv:=hxb_toNat hx1 hx2;clear hu hu' h37;go_wp2_with (go_at_call 134; refine (worth_any _ _).mono ?_; rintro e w5 ⟨rfl,h5⟩; replace hown:=hown.below h5; replace hb:=hb.trans (h5.mono hB); replace hB:=Nat.le_trans hB h5.size; clear h5)
       replace hown:=hown.drew;replace hb:=hb.drew;have q1:IntKind.i64.wrap ((k:Int)+1)=(k:Int)+1:=by simp [IntKind.wrap,IntKind.signed,IntKind.bits]; omega
       have q2:IntKind.i64.wrap ((k:Int)+2)=(k:Int)+2:=by simp [IntKind.wrap,IntKind.signed,IntKind.bits]; omega
       have q3:((k:Int)+1).toNat=k+1:=by omega
       have q4:((k:Int)+2).toNat=k+2:=by omega
       have q5:(0:Int)≤(k:Int)+1:=by omega
       have q6:(k:Int)+1 < (s.size:Int):=by omega
       have q7:(0:Int)≤(k:Int)+2:=by omega
       have q8:(k:Int)+2 < (s.size:Int):=by omega
       have m1:IntKind.i64.wrap (16 * hexv s[k+1].toNat)=16 * hexv s[k+1].toNat:=by simp [IntKind.wrap,IntKind.signed,IntKind.bits]; omega
       have m2:IntKind.i64.wrap (16 * hexv s[k+1].toNat+hexv s[k+2].toNat)=16 * hexv s[k+1].toNat+hexv s[k+2].toNat:=by simp [IntKind.wrap,IntKind.signed,IntKind.bits]; omega
       have m3:IntKind.u8.wrap (16 * hexv s[k+1].toNat+hexv s[k+2].toNat)=((hxb s[k+1] s[k+2]).toNat:Int):=by rw [hv]; simp [IntKind.wrap,IntKind.signed,IntKind.bits]; omega
       clear hv
       go_region_law (first | (refine step_app rfl (.tmp 43) (.tmp 57) 124 rfl w.heap.size 5 i0 (.int .u8 0) 1 Tryz.underlying124 hi hz0 hz1 hz2 rfl _ _ rfl (by exact hown.alloc _) ⟨_,0,none⟩ 1 1 (Lib.byteCells [hxb s[k+1] s[k+2]]) rfl rfl (by exact one_new _ _ _) (byteCells_one _) (by rw [Lib.byteCells_length]; unfold maxLen; omega) (by rw [Lib.byteCells_length]; omega) w (by exact hb.alloc hB _) (by simp; omega) ?_; intro v3 w3 hown3 hb3 hB3) | (go_simp; go_at_call 134; refine (worth_any _ _).mono ?_; rintro e w5 ⟨rfl,h5⟩; replace hown:=hown.below h5; replace hb:=hb.trans (h5.mono hB); replace hB:=Nat.le_trans hB h5.size; clear h5))
       all_goals
        rw [byteCells_snoc] at hown3;go_wp2;go_roundw
        case rel=>exact ⟨k+1+1+1,_,by omega,by go_num,by simp; omega,hown3,hb3,hB3,hn⟩
        case measure=>simp [intOf]; omega
      ·have hx2':isB s[k+2].toNat 4=false:=by simpa using hx2
       have hv:Hid (unescV s.data.toList=([],12)):=unescV_none (uneAt_bad hu' h37 (by rw [hx1,hx2']; rfl));have hw1:=worth_hex hx1;have hw2:=worth_not hx2';have hd1:=hexv_bd hx1;clear hu hu' h37 hx1 hx2 hx2';go_wp2_with (go_at_call 134; refine (worth_any _ _).mono ?_; rintro e w5 ⟨rfl,h5⟩; replace hown:=hown.below h5; replace hb:=hb.trans (h5.mono hB); replace hB:=Nat.le_trans hB h5.size; clear h5)
       go_ret2;exact ⟨ret_str [] 12 hv.out,hb⟩
     ·have hx1':isB s[k+1].toNat 4=false:=by simpa using hx1
      have hv:Hid (unescV s.data.toList=([],12)):=unescV_none (uneAt_bad hu' h37 (by rw [hx1']; rfl));have hw1:=worth_not hx1';clear hu hu' h37 hx1 hx1';go_wp2_with (go_at_call 134; refine (worth_any _ _).mono ?_; rintro e w5 ⟨rfl,h5⟩; replace hown:=hown.below h5; replace hb:=hb.trans (h5.mono hB); replace hB:=Nat.le_trans hB h5.size; clear h5)
      go_ret2;exact ⟨ret_str [] 12 hv.out,hb⟩
    ·have hv:Hid (unescV s.data.toList=([],12)):=unescV_none (uneAt_short hu' h37 (by rw [List.length_drop,len_data]; omega));clear hu hu' h37;go_wp2;go_ret2;exact ⟨ret_str [] 12 hv.out,hb⟩
   ·have c1:((s[k].toNat:Int) != 37)=true:=by simp [h37]
    have hn:Hid (UneAt s.data.toList (acc++[s[k]]) (s.data.toList.drop (k+1))):=uneAt_plain hu' h37;clear hu hu' h37;go_wp2_with (at_builtin; refine wp_app _ rfl (.tmp 14) (.tmp 18) 124 rfl w.heap.size 5 i0 (.int .u8 0) 1 Tryz.underlying124 hi hz0 hz1 hz2 rfl _ _ rfl (by exact hown.alloc _) ⟨_,0,none⟩ 1 1 (Lib.byteCells [s[k]]) rfl rfl (by exact one_new _ _ _) (byteCells_one _) (by rw [Lib.byteCells_length]; unfold maxLen; omega) (by rw [Lib.byteCells_length]; omega) w (by exact hb.alloc hB _) (by simp; omega) ?_; intro v3 w3 hown3 hb3 hB3)
    rw [byteCells_snoc] at hown3;go_wp2;go_roundw
    case rel=>exact ⟨k+1,_,by omega,by go_num,by simp; omega,hown3,hb3,hB3,hn⟩
    case measure=>simp [intOf]; omega
  ·have hu':=hu.out;rw [drop_all s k (by omega)] at hu';have hv:Hid (unescV s.data.toList=(acc,0)):=unescV_some (uneAt_end hu');have hcv:=conv_own (P:=Tryz.prog) _ Tryz.underlying124 Tryz.underlying5 Tryz.underlying9 hown;clear hu hu';go_wp2;go_ret2;exact ⟨ret_str acc 0 hv.out,hb⟩
theorem ret_wr {p:List UInt8 × Bool} {x:List UInt8} {b:Bool} (h:p=(x,b)):Ending.returned (.tuple #[.string ⟨x.toArray⟩,.bool b])=.returned (.tuple #[.string ⟨p.1.toArray⟩,.bool p.2]):=by rw [h]
set_option maxHeartbeats 1000000 in
theorem written_any (s keep:ByteArray) (w:World) (hs:s.size≤140737488355328) (hk:keep.size≤maxLen) :
  Calls Tryz.prog 86 #[.string s,.string keep] w fun e w'=>e=.returned (.tuple #[.string ⟨(writtenV keep.data.toList s.data.toList).1.toArray⟩,.bool (writtenV keep.data.toList s.data.toList).2])∧Below w.heap.size w w':=by
 go_enter Tryz.func86,Tryz.ntmps86
 go_wp2
 go_loop [6] (fun i=>∃ k:Nat,k≤s.size∧i=.int .i64 k∧Hid ((s.data.toList.take k).all (okw keep.data.toList)=true)) (fun i=>s.size - (intOf i).toNat)
 case atStart=>exact ⟨0,by omega,rfl,rfl⟩
 case round =>
  obtain ⟨k,hk',rfl,hall⟩:=hrel;by_cases hlt:k < s.size
  ·have hbd:=u8_bd s[k];by_cases h37:s[k]=37
   ·have e37:((s[k].toNat:Int) != 37)=false:=by rw [h37]; rfl
    have ha:Hid ((s.data.toList.take (k+1)).all (okw keep.data.toList)=true):=okw_snoc hlt hall.out (by simp [okw,h37]);clear h37 hall;go_wp2
    go_round
    case rel=>exact ⟨k+1,by omega,by go_num,ha⟩
    case measure=>simp [intOf]; omega
   ·have e37:((s[k].toNat:Int) != 37)=true:=by
     have:=u8_ne (b:=37) h37
     simp only [bne,Bool.not_eq_true']; exact this
    by_cases hx:isB s[k].toNat 16=true
    ·have hx2:(bits BinOp.and IntKind.i64 (cls s[k].toNat) 16==0)=false:=by simpa [isB] using hx
     have ha:Hid ((s.data.toList.take (k+1)).all (okw keep.data.toList)=true):=okw_snoc hlt hall.out (by simp [okw,hx]);clear h37 hall hx;go_wp2_with (go_at_call 63; refine (refclass_any _ _ hbd.1 hbd.2).mono ?_; rintro e w' ⟨rfl,rfl⟩)
     go_round
     case rel=>exact ⟨k+1,by omega,by go_num,ha⟩
     case measure=>simp [intOf]; omega
    ·have hx2:(bits BinOp.and IntKind.i64 (cls s[k].toNat) 16==0)=true:=by simpa [isB] using hx
     by_cases hh:hasL s[k] keep.data.toList=true
     ·have ha:Hid ((s.data.toList.take (k+1)).all (okw keep.data.toList)=true):=okw_snoc hlt hall.out (by simp [okw,hh]);clear h37 hall hx
      go_wp2_with (first
       | (go_at_call 63; refine (refclass_any _ _ hbd.1 hbd.2).mono ?_; rintro e w' ⟨rfl,rfl⟩)
       | (go_at_call 85; refine (has3_any keep s[k] _ hk).mono ?_; rintro e w' ⟨rfl,rfl⟩))
      go_round
      case rel=>exact ⟨k+1,by omega,by go_num,ha⟩
      case measure=>simp [intOf]; omega
     ·have hh':hasL s[k] keep.data.toList=false:=by simpa using hh
      have hb:Hid (writtenV keep.data.toList s.data.toList=([],false)):=written_bad hlt (by
       simp only [okw,Bool.or_eq_false_iff,beq_eq_false_iff_ne,ne_eq];exact ⟨h37,by simpa using hx,hh'⟩)
      clear h37 hall hx hh
      go_wp2_with (first
       | (go_at_call 63; refine (refclass_any _ _ hbd.1 hbd.2).mono ?_; rintro e w' ⟨rfl,rfl⟩)
       | (go_at_call 85; refine (has3_any keep s[k] _ hk).mono ?_; rintro e w' ⟨rfl,rfl⟩))
      go_ret2;exact ⟨ret_wr (x:=[]) hb.out,Below.refl _ _⟩
  ·rw [take_all s k (by omega)] at hall;have hv:=written_all hall.out;have HV:Hid _:=hv; clear hv hall
   go_wp2_with (go_at_call 109; refine (refunescape_any _ _ hs).mono ?_; rintro e w1 ⟨rfl,hw1⟩)
   all_goals go_ret2
   all_goals exact ⟨ret_wr HV.out,hw1⟩
def parsCells (ps:List Par):List Value:=ps.flatMap parCells
theorem parsCells_get (ps:List Par) (k:Nat) (hk:k < ps.length):(parsCells ps)[k * 3]? = some (.string ⟨ps[k].name.toArray⟩)∧(parsCells ps)[k * 3+1]? = some (.string ⟨ps[k].value.toArray⟩)∧(parsCells ps)[k * 3+2]? = some (.bool ps[k].has):=by
 induction ps generalizing k with
 | nil=>simp at hk
 | cons p ps ih =>
  have e:parsCells (p :: ps)=parCells p++parsCells ps:=rfl
  cases k with
  | zero=>rw [e]; simp [parCells]
  | succ k =>
   have:=ih k (by simpa using hk)
   rw [e,show (k+1) * 3=k * 3+3 by omega]
   simpa [parCells] using this
def OwnP (w:World) (B:Nat) (v:Value) (ps:List Par):Prop:=w.ownsRow B 173 3 v ps.length (parsCells ps)
theorem OwnP.nil (w:World) (B:Nat):OwnP w B (.slice none 0 0) []:=World.ownsRow_nil _ _ _ _
theorem OwnP.alloc {w:World} {B:Nat} {v:Value} {ps:List Par} (h:OwnP w B v ps) (o:Obj):OwnP (w.alloc o) B v ps:=World.ownsRow.alloc h o
theorem OwnP.below {w w':World} {B:Nat} {v:Value} {ps:List Par} (h:OwnP w B v ps) (hb:Below w.heap.size w w'):OwnP w' B v ps:=by
 obtain ⟨h1,h2⟩:=h;refine ⟨h1,?_⟩
 rcases h2 with h2 | ⟨g,cap,cur,hv,hg,hh,r⟩
 ·exact Or.inl h2
 ·exact Or.inr ⟨g,cap,cur,hv,hg,by rw [hb.block g (Array.getElem?_eq_some_iff.1 hh).1]; exact hh,r⟩
theorem OwnP.parsAt {w:World} {B:Nat} {v:Value} {ps:List Par} (h:OwnP w B v ps):ParsAt w v ps:=by
 have h0:=h
 rcases h.2 with ⟨rfl,hn⟩ | ⟨g,cap,cur,rfl,hb,hg,r⟩
 ·exact Or.inl ⟨rfl,List.eq_nil_of_length_eq_zero hn⟩
 ·refine Or.inr ⟨⟨g,0,none⟩,cap,rfl,fun k hk=>⟨(Array.getElem?_eq_some_iff.1 hg).1,?_⟩⟩
  obtain ⟨c0,c1,c2⟩:=parsCells_get ps k hk;have a0:=World.ownsRow.cells h0 (g:=g) rfl (k * 3) _ c0;have a1:=World.ownsRow.cells h0 (g:=g) rfl (k * 3+1) _ c1;have a2:=World.ownsRow.cells h0 (g:=g) rfl (k * 3+2) _ c2;have e:∀ j,(⟨g,0,none⟩:Addr).add j=⟨g,j,none⟩:=fun j=>by unfold Addr.add; split <;> simp_all
  rw [e] at a0 a1 a2;unfold ParAt;rw [e];exact ⟨a0,a1,a2⟩
theorem infoPar:(Tryz.prog.info? 173).map (fun i=>(i.zero,i.size,i.bytes))=some (some (.agg #[.string .empty,.string .empty,.bool false]),3,40):=by kernel_rfl
theorem wp_appP {P:Program} (w:World) {ops:Array Oper} {rest:List Oper} {o:Oper} {a:Act} {Q:Exit → Act → World → Prop} (hgd:o.guard=none)
  (s x:Operand) (t:TypeId) (ho:o.op=Op.call { callee:=Callee.builtin Builtin.append,args:=#[s,x],argTypes:=#[t,t] }) (B:Nat) (i:TypeInfo)
  (z:Value) (ht:P.underlying t=some (TypeDesc.slice 173)) (hi:P.info? 173=some i) (hz:i.zero=some z) (hsize:i.size=3) (hby:i.bytes=40) (hzs:z.cells.size=3)
  (v:Value) (ps:List Par) (hs:a.eval s=v) (hown:OwnP w B v ps) (ad:Addr) (c:Nat) (p:Par) (hx:a.eval x=Value.slice (some ad) 1 c)
  (hnews:∀ (j:Nat) (u:Value),(parCells p)[j]? = some u → w.cell? (ad.add j)=some u)
  (hlen:ps.length≤2000000) (w0:World) (hb:Below B w0 w) (hB:B≤w.heap.size)
  (h:∀ (v':Value) (w':World),OwnP w' B v' (ps++[p]) → Below B w0 w' → B≤w'.heap.size → wpList P ops Q rest (a.put o.dst v') w'):wpList P ops Q (o :: rest) a w:=by
 refine wpList_append_own w hgd s x t ho B 173 i z 3 40 ht hi hz hsize hby hzs (by decide) v ps.length (parsCells ps) hs hown ad 1 c (parCells p) hx rfl hnews (by intro u hu; simp [parCells] at hu; rcases hu with rfl | rfl | rfl <;> rfl) (by unfold maxLen; omega) (by omega) hB ?_
 intro v' w' hown' hgr _;refine h v' w' ?_ (hb.grown hgr hB (fun k hk=>(World.ownsRow.lt hown k hk).1)) (Nat.le_trans hB hgr.size)
 unfold OwnP;have e:parsCells (ps++[p])=parsCells ps++parCells p:=by simp [parsCells]
 rw [e,List.length_append];exact hown'
def StrsAt (w:World) (v:Value) (ls:List (List UInt8)):Prop :=
 ∃ (ao:Option Addr) (cap:Nat),v=.slice ao ls.length cap∧∀ k (hk:k < ls.length),∃ a,ao=some a∧a.block < w.heap.size∧w.cell? (a.add k)=some (.string ⟨ls[k].toArray⟩)
theorem StrsAt.below {w w':World} {v:Value} {ls:List (List UInt8)} (h:StrsAt w v ls) (hb:Below w.heap.size w w'):StrsAt w' v ls:=by
 obtain ⟨ao,cap,hv,hc⟩:=h;refine ⟨ao,cap,hv,fun k hk=>?_⟩
 obtain ⟨a,e,ha,hcell⟩:=hc k hk;exact ⟨a,e,Nat.lt_of_lt_of_le ha hb.size,cell_below hb (by rw [add_block]; exact ha) hcell⟩
theorem parsOf_snoc (keep:List UInt8) (ls:List (List UInt8)) (l:List UInt8):parsOf keep (ls++[l])=match parsOf keep ls,parOf keep l with | some ps,some p=>some (ps++[p]) | _,_=>none:=by
 induction ls with
 | nil =>
  rw [List.nil_append,parsOf,parsOf]
  cases parOf keep l <;> rfl
 | cons x ls ih =>
  rw [List.cons_append,parsOf,parsOf,ih]
  cases parOf keep x <;> cases parsOf keep ls <;> cases parOf keep l <;> rfl
theorem parsOf_bad {keep:List UInt8} {ls:List (List UInt8)} {k:Nat} (hk:k < ls.length) (h:parOf keep ls[k]=none):parsOf keep ls=none:=by
 induction ls generalizing k with
 | nil=>simp at hk
 | cons x ls ih =>
  rw [parsOf]
  cases k with
  | zero=>simp at h; rw [h]
  | succ k =>
   rw [ih (by simpa using hk) (by simpa using h)]
   cases parOf keep x <;> rfl
theorem parsOf_len {keep:List UInt8} {ls:List (List UInt8)} {ps:List Par} (h:parsOf keep ls=some ps):ps.length=ls.length:=by
 induction ls generalizing ps with
 | nil=>simp [parsOf] at h; subst h; rfl
 | cons x ls ih =>
  rw [parsOf] at h
  cases hx:parOf keep x with
  | none=>rw [hx] at h; simp at h
  | some p =>
   cases hl:parsOf keep ls with
   | none=>rw [hx,hl] at h; simp at h
   | some qs=>rw [hx,hl] at h; simp at h; subst h; simp [ih hl]
theorem written_list (s keep:List UInt8) (w:World) (hs:s.length≤1048576) (hk:keep.length≤64) :
  Calls Tryz.prog 86 #[.string ⟨s.toArray⟩,.string ⟨keep.toArray⟩] w fun e w'=>e=.returned (.tuple #[.string ⟨(writtenV keep s).1.toArray⟩,.bool (writtenV keep s).2])∧Below w.heap.size w w' :=
 written_any ⟨s.toArray⟩ ⟨keep.toArray⟩ w (by rw [size_list]; omega) (by rw [size_list]; unfold maxLen; omega)
theorem parOf_some {keep l:List UInt8} (h1:(writtenV keep (cutL 61 l).1).2=true) (h2:(writtenV keep (cutL 61 l).2.1).2=true):parOf keep l=some ⟨(writtenV keep (cutL 61 l).1).1,(writtenV keep (cutL 61 l).2.1).1,(cutL 61 l).2.2⟩:=by
 rw [parOf,if_pos ⟨h1,h2⟩]
theorem parOf_none {keep l:List UInt8} (h:¬ ((writtenV keep (cutL 61 l).1).2=true∧(writtenV keep (cutL 61 l).2.1).2=true)):parOf keep l=none:=by
 rw [parOf,if_neg h]
def ParsRes (keep:List UInt8) (ls:List (List UInt8)) (w w':World) (v:Value) (b:Bool):Prop :=
 (∃ ps,parsOf keep ls=some ps∧b=true∧OwnP w' w.heap.size v ps)∨(parsOf keep ls=none∧b=false∧v=.slice none 0 0)
set_option maxHeartbeats 2000000 in
set_option maxRecDepth 100000 in
theorem params_any (v:Value) (ls:List (List UInt8)) (keep:List UInt8) (w:World) (hk:keep.length≤64) (hn:ls.length≤1048577) (hl:∀ l ∈ ls,l.length≤1048576) (hv:StrsAt w v ls) :
  Calls Tryz.prog 89 #[v,.string ⟨keep.toArray⟩] w fun e w'=>∃ v' b,e=.returned (.tuple #[v',.bool b])∧ParsRes keep ls w w' v' b∧Below w.heap.size w w':=by
 obtain ⟨i0,hi,hz0,hz1,hz2⟩:=info_parts infoPar;obtain ⟨ao,cap,rfl,hc⟩:=hv;have HC:Hid _:=hc; clear hc
 have HL:Hid _:=hl; clear hl
 obtain ⟨n,hn'⟩:∃ n,n=ls.length:=⟨_,rfl⟩
 rw [← hn'] at hn ⊢;have HN:Hid _:=hn'; clear hn'
 go_enter Tryz.func89,Tryz.ntmps89
 go_wp2
 go_loopw [6,7] (fun x i wr=>∃ (k:Nat) (ps:List Par),k≤n∧i=.int .i64 k∧Hid (parsOf keep (ls.take k)=some ps)∧ps.length=k∧OwnP wr w.heap.size x ps∧Below w.heap.size w wr∧w.heap.size≤wr.heap.size) (fun _ i _=>n - (intOf i).toNat)
 case atStart=>exact ⟨0,[],by omega,rfl,rfl,rfl,OwnP.nil _ _,Below.refl _ _,Nat.le_refl _⟩
 case round =>
  obtain ⟨k,ps,hkn,rfl,hps,hpl,hown,hb,hB⟩:=hrel;by_cases hlt:k < n
  ·have hkl:k < ls.length:=by have:=HN.out; omega
   obtain ⟨a,hao,hab,hcell⟩:=HC.out k hkl;have hcell2:=cell_below hb (by rw [add_block]; exact hab) hcell;have hll:=HL.out _ (List.getElem_mem hkl);have hcl:=cutL_len 61 ls[k];subst hao;clear hcell;go_wp2_with fail
   refine (cut3_list ls[k] 61 _ (by omega)).mono ?_
   rintro e w' ⟨rfl,q,rfl⟩;have hown1:=hown.below (below_drewN _ q);have hb1:=hb.trans ((below_drewN _ q).mono hB);go_wp2_with fail
   refine (written_list (cutL 61 ls[k]).1 keep _ (by omega) hk).mono ?_
   rintro e w3 ⟨rfl,hw3⟩;have hown3:=hown1.below hw3;have hb3:=hb1.trans (hw3.mono hb1.size);go_wp2_with fail
   refine (written_list (cutL 61 ls[k]).2.1 keep _ (by omega) hk).mono ?_
   rintro e w4 ⟨rfl,hw4⟩;have hown4:=hown3.below hw4;have hb4:=hb3.trans (hw4.mono hb3.size);have hB4:=hb4.size;clear hown hown1 hown3 hb hb1 hb3 hw3 hw4 hB hcell2
   have hsn:parsOf keep (ls.take (k+1))=match parsOf keep (ls.take k),parOf keep ls[k] with | some ps,some p=>some (ps++[p]) | _,_=>none:=by
    rw [List.take_succ_eq_append_getElem hkl];exact parsOf_snoc keep _ _
   rw [hps.out] at hsn;have hpbad:=@parsOf_bad keep ls k hkl;have hpsome:=@parOf_some keep ls[k];have hpnone:=@parOf_none keep ls[k];generalize cutL 61 ls[k]=c3 at hpsome hpnone ⊢;obtain ⟨ca,cb,cc⟩:=c3;simp only at hpsome hpnone ⊢;generalize writtenV keep ca=wa at hpsome hpnone ⊢;generalize writtenV keep cb=wb at hpsome hpnone ⊢;obtain ⟨na,ha⟩:=wa;obtain ⟨nb,hbb⟩:=wb;simp only at hpsome hpnone ⊢;have HPB:Hid _:=hpbad; clear hpbad
   have HPN:Hid _:=hpnone; clear hpnone
   have HPS:Hid _:=hpsome; clear hpsome
   have HSN:Hid _:=hsn; clear hsn
   cases ha with
   | false =>
    have hnone:Hid (parsOf keep ls=none):=HPB.out (HPN.out (by simp));go_wp2;go_ret2
    first | exact ⟨.slice none 0 0,false,rfl,Or.inr ⟨hnone.out,rfl,rfl⟩,hb4⟩ | exact ⟨.slice none 0 0,Or.inl ⟨rfl,Or.inr ⟨hnone.out,rfl,rfl⟩,hb4⟩⟩
   | true =>
    cases hbb with
    | false =>
     have hnone:Hid (parsOf keep ls=none):=HPB.out (HPN.out (by simp));go_wp2;go_ret2
     first | exact ⟨.slice none 0 0,false,rfl,Or.inr ⟨hnone.out,rfl,rfl⟩,hb4⟩ | exact ⟨.slice none 0 0,Or.inl ⟨rfl,Or.inr ⟨hnone.out,rfl,rfl⟩,hb4⟩⟩
    | true =>
     have hsn2:Hid (parsOf keep (ls.take (k+1))=some (ps++[⟨na,nb,cc⟩])):=show _=_ by rw [HSN.out,HPS.out rfl rfl]
     have hnew:∀ (j:Nat) (u:Value),(parCells ⟨na,nb,cc⟩)[j]? = some u → (w4.alloc (.cells #[.string ⟨na.toArray⟩,.string ⟨nb.toArray⟩,.bool cc] 173)).cell? ((⟨w4.heap.size,0,none⟩:Addr).add j)=some u:=by
      intro j u hj;have e:(⟨w4.heap.size,0,none⟩:Addr).add j=⟨w4.heap.size,j,none⟩:=by unfold Addr.add; split <;> simp_all
      rw [e];unfold World.cell?;rw [heap_alloc_new]
      simpa [parCells] using hj
     have HNW:Hid _:=hnew; clear hnew HSN HPS HPN HPB
     go_wp2_with (at_builtin; refine wp_appP _ rfl (.tmp 48) (.tmp 53) 118 rfl w.heap.size i0 _ Tryz.underlying118 hi hz0 hz1 hz2 rfl _ ps rfl (hown4.alloc _) ⟨w4.heap.size,0,none⟩ 1 ⟨na,nb,cc⟩ rfl (by exact HNW.out) (by omega) w (hb4.alloc hB4 _) (by simp; omega) ?_; intro v5 w5 hown5 hb5 hB5)
     go_wp2;go_roundw
     case rel=>exact ⟨k+1,ps++[⟨na,nb,cc⟩],by omega,by go_num,hsn2,by simp; omega,hown5,hb5,hB5⟩
     case measure=>simp [intOf]; omega
  ·have hend:Hid (parsOf keep ls=some ps):=show _=_ by
    have h:=hps.out;have e:=HN.out;rw [List.take_of_length_le (by omega)] at h; exact h
   clear hps;go_wp2;go_ret2
   first | exact ⟨_,_,rfl,Or.inl ⟨ps,hend.out,rfl,hown⟩,hb⟩ | exact ⟨_,Or.inr ⟨rfl,Or.inl ⟨ps,hend.out,rfl,hown⟩,hb⟩⟩
end Go.Proofs.YtbmjodlbkgblpaaGreatDoor
namespace Go.Proofs.YtbmjodlbkgblpaaGreatDoor
open Go.RowKit Go.ChangeShapes Go.WideShapes Go.Deep
variable {H : Type} {enc : TypeId × Value → H} {W : World} {sp : Nat → Bool}
theorem open_strs {fuel:Nat} {cs:List Value} {x:DataW H × List MemPlace} (h:DataW.trod enc Tryz.prog W 0 sp true fuel 33 cs=some x) :
  ∃ (v:Value) (ls:List (List UInt8)),cs=[v]∧StrsAt W v ls∧((x.1=.nil∧ls=[])∨∃ sp,x.1=.slice (ls.map fun l=>.lit (.string l)) sp):=by
 rcases open_slice Tryz.underlying33 h with ⟨rfl,rfl⟩ | ⟨a,len,cap,m,n,D,Pl,rfl,_,hlc,hcm,hm,rfl,hall⟩
 ·exact ⟨_,[],rfl,⟨none,0,rfl,fun k hk=>by simp at hk⟩,Or.inl ⟨rfl,rfl⟩⟩
 ·have hlm:len≤m:=by rw [hm]; split <;> omega
  have each:∀ i,i < len → ∃ l:List UInt8,D i=.lit (.string l)∧(a.block < W.heap.size∧W.cell? (a.add i)=some (.string ⟨l.toArray⟩)):=by
   intro i hi;obtain ⟨cs',h1,h2⟩:=hall i (by omega);obtain ⟨s,rfl,hd,_⟩:=DataW.trod_string Tryz.underlying9 h2;rw [cellsStr] at h1;obtain ⟨_,_,hc⟩:=World.cells?_some h1;have c0:=hc 0 (by omega);have hc0:W.cell? (a.add i)=some (.string ⟨s.data.toList.toArray⟩):=by rw [back]; simpa [Addr.add] using c0
   refine ⟨s.data.toList,congrArg Prod.fst hd,?_,hc0⟩
   have:(a.add i).block < W.heap.size:=by
    unfold World.cell? at hc0
    cases hh:W.heap[(a.add i).block]? with
    | none=>simp [hh] at hc0
    | some o=>exact (Array.getElem?_eq_some_iff.1 hh).1
   rwa [add_block] at this
  obtain ⟨f,hf⟩:=@choose_lt (List UInt8) ⟨[]⟩ len _ each;refine ⟨_,(List.range len).map f,rfl,⟨some a,cap,by simp,fun k hk=>?_⟩,Or.inr ⟨(List.range (m - len)).map fun j=>D (len+j),?_⟩⟩
  ·simp at hk
   refine ⟨a,rfl,?_⟩
   simpa using (hf k hk).2
  ·simp only [List.map_map]
   congr 1
   apply List.map_congr_left
   intro i hi;exact (hf i (by simpa using hi)).1
theorem weights_all {t:TypeId}:∀ (ds:List (DataW H)) (k:Nat) (hk:k < ds.length) (n:Nat),n ∈ ds[k].weights Tryz.prog t → n ∈ DataW.weightsAll Tryz.prog t ds
 | [],k,hk,n,h=>by simp at hk
 | d :: ds,0,hk,n,h=>by simp only [DataW.weightsAll,List.mem_append]; exact Or.inl h
 | d :: ds,k+1,hk,n,h=>by simp only [DataW.weightsAll,List.mem_append]; exact Or.inr (weights_all ds k (by simpa using hk) n h)
end Go.Proofs.YtbmjodlbkgblpaaGreatDoor
namespace Go.Proofs.YtbmjodlbkgblpaaGreatDoor
open Go.RowKit Go.ChangeShapes Go.WideShapes Go.Deep
def tuCells (t:Tu):List Value:=[.string ⟨t.id.toArray⟩,.bool t.opn,.string ⟨t.contact.toArray⟩,.int .i64 t.prio,.string ⟨t.note.toArray⟩]
def tuV (t:Tu):Value:=.agg #[.string ⟨t.id.toArray⟩,.bool t.opn,.string ⟨t.contact.toArray⟩,.int .i64 t.prio,.string ⟨t.note.toArray⟩]
def docV (d:Dc) (ts ns:Value):Value:=.agg #[.string ⟨d.entity.toArray⟩,ts,ns]
structure TuAt (w:World) (ad:Addr) (k:Nat) (t:Tu):Prop where
 c0:w.cell? (ad.add (k * 5))=some (.string ⟨t.id.toArray⟩)
 c1:w.cell? ⟨(ad.add (k * 5)).block,(ad.add (k * 5)).off+1,none⟩=some (.bool t.opn)
 c2:w.cell? ⟨(ad.add (k * 5)).block,(ad.add (k * 5)).off+2,none⟩=some (.string ⟨t.contact.toArray⟩)
 c3:w.cell? ⟨(ad.add (k * 5)).block,(ad.add (k * 5)).off+3,none⟩=some (.int .i64 t.prio)
 c4:w.cell? ⟨(ad.add (k * 5)).block,(ad.add (k * 5)).off+4,none⟩=some (.string ⟨t.note.toArray⟩)
theorem TuAt.below {B:Nat} {w w':World} {ad:Addr} {k:Nat} {t:Tu} (h:TuAt w ad k t) (hb:Below B w w') (ha:ad.block < B):TuAt w' ad k t :=
 ⟨cell_below hb (by rw [add_block]; exact ha) h.c0,cell_below hb (by simp only [add_block]; exact ha) h.c1,cell_below hb (by simp only [add_block]; exact ha) h.c2,cell_below hb (by simp only [add_block]; exact ha) h.c3,cell_below hb (by simp only [add_block]; exact ha) h.c4⟩
end Go.Proofs.YtbmjodlbkgblpaaGreatDoor
