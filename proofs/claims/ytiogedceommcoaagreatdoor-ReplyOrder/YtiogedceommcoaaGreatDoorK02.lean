/-
  RefClass, Lower, Parts, CutL, HostL.
-/
import Derived.Test.YtiogedceommcoaaGreatDoorK01
set_option linter.unusedVariables false
set_option linter.unusedSimpArgs false
set_option maxRecDepth 20000
namespace Go.Proofs.YtiogedceommcoaaGreatDoor
open Go.RowKit Sc
set_option maxHeartbeats 400000 in
theorem refclass5 (c:Int) (w:World) (h0:0≤c) (h1:c≤255) (h:c=37∨c=43∨c=96) :
  Calls Tryz.prog 77 #[.int .u8 c] w fun e w'=>e=.returned (.int .i64 (cls c))∧w'=w:=by
 have tDg:bDg c=false:=decide_eq_false (by omega);have tLe:bLe c=false:=decide_eq_false (by omega);have tHx:bHx c=false:=decide_eq_false (by omega);have tTk:bTk c=true:=decide_eq_true (by omega);have tPl:bPl c=false:=decide_eq_false (by omega);have tHo:bHo c=false:=decide_eq_false (by omega);have hv:Hid (cls c=8):=by show _=_; unfold cls low sgn; (repeat' split) <;> omega
 have e32:(c==32)=false:=by simp; omega
 have e9:(c==9)=false:=by simp; omega
 clear h
 go_enter Tryz.func77,Tryz.ntmps77
 go_wp2_with fail
 refine (hasDg _ _ h0 h1).mono ?_
 rintro e w' ⟨rfl,rfl⟩;go_wp2_with fail
 refine (hasLe _ _ h0 h1).mono ?_
 rintro e w' ⟨rfl,rfl⟩;go_wp2_with fail
 refine (hasHx _ _ h0 h1).mono ?_
 rintro e w' ⟨rfl,rfl⟩;go_wp2_with fail
 refine (hasTk _ _ h0 h1).mono ?_
 rintro e w' ⟨rfl,rfl⟩;go_wp2_with fail
 refine (hasPl _ _ h0 h1).mono ?_
 rintro e w' ⟨rfl,rfl⟩;go_wp2_with fail
 refine (hasHo _ _ h0 h1).mono ?_
 rintro e w' ⟨rfl,rfl⟩;go_wp2;go_ret;exact ⟨ret_int hv.out.symm,rfl⟩
set_option maxHeartbeats 400000 in
theorem refclass6 (c:Int) (w:World) (h0:0≤c) (h1:c≤255) (h:c=40∨c=41) :
  Calls Tryz.prog 77 #[.int .u8 c] w fun e w'=>e=.returned (.int .i64 (cls c))∧w'=w:=by
 have tDg:bDg c=false:=decide_eq_false (by omega);have tLe:bLe c=false:=decide_eq_false (by omega);have tHx:bHx c=false:=decide_eq_false (by omega);have tTk:bTk c=false:=decide_eq_false (by omega);have tPl:bPl c=true:=decide_eq_true (by omega);have tHo:bHo c=false:=decide_eq_false (by omega);have hv:Hid (cls c=16):=by show _=_; unfold cls low sgn; (repeat' split) <;> omega
 have e32:(c==32)=false:=by simp; omega
 have e9:(c==9)=false:=by simp; omega
 clear h
 go_enter Tryz.func77,Tryz.ntmps77
 go_wp2_with fail
 refine (hasDg _ _ h0 h1).mono ?_
 rintro e w' ⟨rfl,rfl⟩;go_wp2_with fail
 refine (hasLe _ _ h0 h1).mono ?_
 rintro e w' ⟨rfl,rfl⟩;go_wp2_with fail
 refine (hasHx _ _ h0 h1).mono ?_
 rintro e w' ⟨rfl,rfl⟩;go_wp2_with fail
 refine (hasTk _ _ h0 h1).mono ?_
 rintro e w' ⟨rfl,rfl⟩;go_wp2_with fail
 refine (hasPl _ _ h0 h1).mono ?_
 rintro e w' ⟨rfl,rfl⟩;go_wp2_with fail
 refine (hasHo _ _ h0 h1).mono ?_
 rintro e w' ⟨rfl,rfl⟩;go_wp2;go_ret;exact ⟨ret_int hv.out.symm,rfl⟩
set_option maxHeartbeats 400000 in
theorem refclass7 (c:Int) (w:World) (h0:0≤c) (h1:c≤255) (h:c=32∨c=9) :
  Calls Tryz.prog 77 #[.int .u8 c] w fun e w'=>e=.returned (.int .i64 (cls c))∧w'=w:=by
 have tDg:bDg c=false:=decide_eq_false (by omega);have tLe:bLe c=false:=decide_eq_false (by omega);have tHx:bHx c=false:=decide_eq_false (by omega);have tTk:bTk c=false:=decide_eq_false (by omega);have tPl:bPl c=false:=decide_eq_false (by omega);have tHo:bHo c=false:=decide_eq_false (by omega);have hv:Hid (cls c=32):=by show _=_; unfold cls low sgn; (repeat' split) <;> omega
 rcases h with h | h
 all_goals
  subst h
  go_enter Tryz.func77,Tryz.ntmps77
  go_wp2_with fail
  refine (hasDg _ _ h0 h1).mono ?_
  rintro e w' ⟨rfl,rfl⟩;go_wp2_with fail
  refine (hasLe _ _ h0 h1).mono ?_
  rintro e w' ⟨rfl,rfl⟩;go_wp2_with fail
  refine (hasHx _ _ h0 h1).mono ?_
  rintro e w' ⟨rfl,rfl⟩;go_wp2_with fail
  refine (hasTk _ _ h0 h1).mono ?_
  rintro e w' ⟨rfl,rfl⟩;go_wp2_with fail
  refine (hasPl _ _ h0 h1).mono ?_
  rintro e w' ⟨rfl,rfl⟩;go_wp2_with fail
  refine (hasHo _ _ h0 h1).mono ?_
  rintro e w' ⟨rfl,rfl⟩;go_wp2;go_ret;exact ⟨ret_int hv.out.symm,rfl⟩
set_option maxHeartbeats 400000 in
theorem refclass8 (c:Int) (w:World) (h0:0≤c) (h1:c≤255) (h:¬ (48≤c∧c≤57)∧¬ (97≤c∧c≤122∨65≤c∧c≤90)∧c ≠ 45∧c ≠ 46∧c ≠ 33∧c ≠ 37∧c ≠ 42∧c ≠ 95∧c ≠ 43∧c ≠ 96∧c ≠ 39∧c ≠ 126∧c ≠ 40∧c ≠ 41∧c ≠ 32∧c ≠ 9) :
  Calls Tryz.prog 77 #[.int .u8 c] w fun e w'=>e=.returned (.int .i64 (cls c))∧w'=w:=by
 have tDg:bDg c=false:=decide_eq_false (by omega);have tLe:bLe c=false:=decide_eq_false (by omega);have tHx:bHx c=false:=decide_eq_false (by omega);have tTk:bTk c=false:=decide_eq_false (by omega);have tPl:bPl c=false:=decide_eq_false (by omega);have tHo:bHo c=false:=decide_eq_false (by omega);have hv:Hid (cls c=0):=by show _=_; unfold cls low sgn; (repeat' split) <;> omega
 have e32:(c==32)=false:=by simp; omega
 have e9:(c==9)=false:=by simp; omega
 clear h
 go_enter Tryz.func77,Tryz.ntmps77
 go_wp2_with fail
 refine (hasDg _ _ h0 h1).mono ?_
 rintro e w' ⟨rfl,rfl⟩;go_wp2_with fail
 refine (hasLe _ _ h0 h1).mono ?_
 rintro e w' ⟨rfl,rfl⟩;go_wp2_with fail
 refine (hasHx _ _ h0 h1).mono ?_
 rintro e w' ⟨rfl,rfl⟩;go_wp2_with fail
 refine (hasTk _ _ h0 h1).mono ?_
 rintro e w' ⟨rfl,rfl⟩;go_wp2_with fail
 refine (hasPl _ _ h0 h1).mono ?_
 rintro e w' ⟨rfl,rfl⟩;go_wp2_with fail
 refine (hasHo _ _ h0 h1).mono ?_
 rintro e w' ⟨rfl,rfl⟩;go_wp2;go_ret;exact ⟨ret_int hv.out.symm,rfl⟩
theorem refclass_any (c:Int) (w:World) (h0:0≤c) (h1:c≤255) :
  Calls Tryz.prog 77 #[.int .u8 c] w fun e w'=>e=.returned (.int .i64 (cls c))∧w'=w:=by
 by_cases a0:48≤c∧c≤57
 ·exact refclass0 c w h0 h1 a0
 by_cases a1:97≤c∧c≤102∨65≤c∧c≤70
 ·exact refclass1 c w h0 h1 a1
 by_cases a2:103≤c∧c≤122∨71≤c∧c≤90
 ·exact refclass2 c w h0 h1 a2
 by_cases a3:c=45∨c=46
 ·exact refclass3 c w h0 h1 a3
 by_cases a4:c=33∨c=126∨c=42∨c=95∨c=39
 ·exact refclass4 c w h0 h1 a4
 by_cases a5:c=37∨c=43∨c=96
 ·exact refclass5 c w h0 h1 a5
 by_cases a6:c=40∨c=41
 ·exact refclass6 c w h0 h1 a6
 by_cases a7:c=32∨c=9
 ·exact refclass7 c w h0 h1 a7
 exact refclass8 c w h0 h1 (by omega)
set_option maxHeartbeats 400000 in
theorem refall_any (s:ByteArray) (class_:Int) (w:World) (hs:s.size≤maxLen) :
  Calls Tryz.prog 104 #[.string s,.int .i64 class_] w fun e w'=>e=.returned (.bool (allB class_ s.data.toList))∧w'=w:=by
 unfold maxLen at hs
 go_enter Tryz.func104,Tryz.ntmps104
 go_wp2
 go_loop [5] (fun i=>∃ k:Nat,k≤s.size∧i=.int .i64 k∧Hid (allB class_ (s.data.toList.take k)=true)) (fun i=>s.size - (intOf i).toNat)
 case atStart=>exact ⟨0,Nat.zero_le _,rfl,rfl⟩
 case round =>
  obtain ⟨k,hk,rfl,hall⟩:=hrel;by_cases hlt:k < s.size
  ·have hbd:=u8_bd s[k];by_cases hb:isB s[k].toNat class_=true
   ·have hz:(bits BinOp.and IntKind.i64 (cls s[k].toNat) class_==0)=false:=by simpa [isB] using hb
    have HB:Hid (isB s[k].toNat class_=true):=hb;clear hb;go_wp2_with (go_at_call 77; refine (refclass_any _ _ hbd.1 hbd.2).mono ?_; rintro e w' ⟨rfl,rfl⟩)
    go_round
    case rel=>exact ⟨k+1,by omega,by go_num,show _=_ by rw [take_snoc s k hlt,allB_snoc,hall.out,HB.out]; rfl⟩
    case measure=>simp [intOf]; omega
   ·have hb':isB s[k].toNat class_=false:=by simpa using hb
    have hz:(bits BinOp.and IntKind.i64 (cls s[k].toNat) class_==0)=true:=by simpa [isB] using hb'
    clear hb;have HB:Hid (isB s[k].toNat class_=false):=hb';clear hb';go_wp2_with (go_at_call 77; refine (refclass_any _ _ hbd.1 hbd.2).mono ?_; rintro e w' ⟨rfl,rfl⟩)
    go_ret;exact ⟨ret_bool (allB_hit hlt HB.out).symm,rfl⟩
  ·go_wp2;go_ret;exact ⟨ret_bool (by rw [← hall.out,take_all s k (by omega)]),rfl⟩
def tokenB (l:List UInt8):Bool:=decide (1≤l.length) && decide (l.length≤64) && allB 8 l
set_option maxHeartbeats 400000 in
theorem token_any (s:ByteArray) (w:World) (hs:s.size≤maxLen) :
  Calls Tryz.prog 44 #[.string s] w fun e w'=>e=.returned (.bool (tokenB s.data.toList))∧w'=w:=by
 have hl:=len_data s;by_cases h0:s.size=0
 ·have hE:=isE_true h0;have HT:Hid (tokenB s.data.toList=false):=by show _=_; simp [tokenB,hl,h0]
  clear hl
  go_enter Tryz.func44,Tryz.ntmps44
  go_wp2;go_ret;exact ⟨ret_bool HT.out.symm,rfl⟩
 ·have hE:=isE_false (s:=s) (by omega);by_cases h1:s.size≤64
  ·have HT:Hid (tokenB s.data.toList=allB 8 s.data.toList):=by
    show _=_
    have e1:decide (1≤s.size)=true:=decide_eq_true (by omega);have e2:decide (s.size≤64)=true:=decide_eq_true h1;rw [tokenB,hl,e1,e2]; rfl
   clear hl
   go_enter Tryz.func44,Tryz.ntmps44
   go_wp2_with (go_at_call 98; refine (all_any _ _ _ hs).mono ?_; rintro e w' ⟨rfl,rfl⟩)
   go_ret;exact ⟨ret_bool HT.out.symm,rfl⟩
  ·have HT:Hid (tokenB s.data.toList=false):=by
    show _=_
    have e2:decide (s.size≤64)=false:=decide_eq_false h1;rw [tokenB,hl,e2]; simp
   clear hl
   go_enter Tryz.func44,Tryz.ntmps44
   go_wp2;go_ret;exact ⟨ret_bool HT.out.symm,rfl⟩
set_option maxHeartbeats 400000 in
theorem reftoken_any (s:ByteArray) (w:World) (hs:s.size≤maxLen) :
  Calls Tryz.prog 47 #[.string s] w fun e w'=>e=.returned (.bool (tokenB s.data.toList))∧w'=w:=by
 have hl:=len_data s;by_cases h0:s.size=0
 ·have HT:Hid (tokenB s.data.toList=false):=by show _=_; simp [tokenB,hl,h0]
  clear hl
  go_enter Tryz.func47,Tryz.ntmps47
  go_wp2;go_ret;exact ⟨ret_bool HT.out.symm,rfl⟩
 ·by_cases h1:s.size≤64
  ·have HT:Hid (tokenB s.data.toList=allB 8 s.data.toList):=by
    show _=_
    have e1:decide (1≤s.size)=true:=decide_eq_true (by omega);have e2:decide (s.size≤64)=true:=decide_eq_true h1;rw [tokenB,hl,e1,e2]; rfl
   clear hl
   go_enter Tryz.func47,Tryz.ntmps47
   go_wp2_with (go_at_call 104; refine (refall_any _ _ _ hs).mono ?_; rintro e w' ⟨rfl,rfl⟩)
   go_ret;exact ⟨ret_bool HT.out.symm,rfl⟩
  ·have HT:Hid (tokenB s.data.toList=false):=by
    show _=_
    have e2:decide (s.size≤64)=false:=decide_eq_false h1;rw [tokenB,hl,e2]; simp
   clear hl
   go_enter Tryz.func47,Tryz.ntmps47
   go_wp2;go_ret;exact ⟨ret_bool HT.out.symm,rfl⟩
def lowb (b:UInt8):UInt8:=if 65≤b.toNat∧b.toNat≤90 then b+32 else b
def lowL (l:List UInt8):List UInt8:=l.map lowb
theorem lowb_toNat (b:UInt8):((lowb b).toNat:Int)=low b.toNat:=by
 have h:∀ n:Fin 256,((lowb (UInt8.ofNat n.val)).toNat:Int)=low n.val:=by decide +kernel
 have:=h ⟨b.toNat,b.toNat_lt⟩
 simpa using this
theorem lowL_len (l:List UInt8):(lowL l).length=l.length:=by simp [lowL]
theorem lowL_snoc (l:List UInt8) (b:UInt8):lowL (l++[b])=lowL l++[lowb b]:=by simp [lowL]
set_option maxHeartbeats 400000 in
theorem lower_txt (s:ByteArray) (w:World) (hs:s.size≤281474976710656) :
  Calls Tryz.prog 121 #[.string s] w fun e w'=>e=.returned (.string ⟨(lowL s.data.toList).toArray⟩)∧Below w.heap.size w w':=by
 obtain ⟨i0,hi,hz0,hz1,hz2⟩:=info_parts info5;have hmk:∀ u:World,(Instr.makeSlice 143 (.int .i64 (s.size:Int)) (.int .i64 (s.size:Int))).run Tryz.prog u =
   .ok (.slice (some ⟨u.heap.size,0,none⟩) s.size s.size) (u.alloc (.cells (madeCells #[.int .u8 0] s.size) 5)):=fun u=>by
  have h:=run_make (P:=Tryz.prog) u 143 5 i0 (.int .u8 0) Tryz.underlying143 hi hz0 .i64 .i64 (s.size:Int) (s.size:Int) (by omega) (Int.le_refl _) (by rw [hz2]; omega) (by omega)
  simpa [hz1,Value.cells] using h
 have hr0:Hid (RowIs (w.alloc (.cells (madeCells #[.int .u8 0] s.size) 5)) w.heap.size 5 (filled [] s.size)):=made_row w _ _
 go_enter Tryz.func121,Tryz.ntmps121
 go_wp2;clear hmk
 go_loopw [10] (fun i wr=>∃ k:Nat,k≤s.size∧i=.int .i64 k∧Hid (RowIs wr w.heap.size 5 (filled (lowL (s.data.toList.take k)) s.size))∧Below w.heap.size w wr) (fun i _=>s.size - (intOf i).toNat)
 case atStart=>exact ⟨0,Nat.zero_le _,rfl,hr0,(Below.refl _ _).alloc (Nat.le_refl _) _⟩
 case round =>
  clear hr0;obtain ⟨k,hk,rfl,hr,hb⟩:=hrel;have hlk:Hid ((lowL (s.data.toList.take k)).length=k):=by show _=_; rw [lowL_len,List.length_take,len_data]; omega
  by_cases hlt:k < s.size
  ·have hbd:=u8_bd s[k];obtain ⟨x,hc⟩:∃ x,wr.cell? ⟨w.heap.size,k,none⟩=some x:=⟨_,hr.out.cell k (by rw [filled_len _ _ (by rw [hlk.out]; omega)]; exact hlt)⟩
   have hf:=hr.out.frozen k;have hr':Hid (RowIs (wr.setCell ⟨w.heap.size,k,none⟩ (.int .u8 (low s[k].toNat))) w.heap.size 5 (filled (lowL (s.data.toList.take (k+1))) s.size)):=by
    have h:=hr.out.set k (.int .u8 (lowb s[k]).toNat);have h2:=filled_set (lowL (s.data.toList.take k)) s.size (lowb s[k]) (by rw [hlk.out]; exact hlt);rw [hlk.out] at h2;rw [h2,lowb_toNat,← lowL_snoc,← take_snoc s k hlt] at h;exact h
   go_wp2_with (go_at_call 162; refine (lower_any _ _ hbd.1 hbd.2).mono ?_; rintro e w' ⟨rfl,rfl⟩)
   go_roundw
   case rel=>exact ⟨k+1,by omega,by go_num,hr',hb.setCell (Nat.le_refl _) _⟩
   case measure=>simp [intOf]; omega
  ·have hta:=take_all s k (by omega);have hr2:=hr.out;rw [hta,filled_full _ _ (by rw [lowL_len,len_data])] at hr2;have hown:=hr2.own w.heap.size s.size (Nat.le_refl _) (by rw [Lib.byteCells_length,lowL_len,len_data]) (by unfold maxLen; omega);have hcv:=conv_own (P:=Tryz.prog) _ Tryz.underlying143 Tryz.underlying5 Tryz.underlying9 hown;clear hta hr2 hown hr hlk;go_wp2;go_ret;exact ⟨rfl,hb⟩
theorem low_cells1 (l:List UInt8) (b:UInt8):Lib.byteCells (lowL l)++[.int .u8 (low b.toNat)]=Lib.byteCells (lowL (l++[b])):=by
 rw [lowL_snoc,Lib.byteCells_append,← lowb_toNat]; rfl
set_option maxHeartbeats 400000 in
theorem reflower_txt (s:ByteArray) (w:World) (hs:s.size≤140737488355328) :
  Calls Tryz.prog 83 #[.string s] w fun e w'=>e=.returned (.string ⟨(lowL s.data.toList).toArray⟩)∧Below w.heap.size w w':=by
 obtain ⟨i0,hi,hz0,hz1,hz2⟩:=info_parts info5
 go_enter Tryz.func83,Tryz.ntmps83
 go_wp2
 go_loopw [3,4] (fun v i wr=>∃ k:Nat,k≤s.size∧i=.int .i64 k∧Own wr w.heap.size 5 v (Lib.byteCells (lowL (s.data.toList.take k)))∧Below w.heap.size w wr∧w.heap.size≤wr.heap.size) (fun _ i _=>s.size - (intOf i).toNat)
 case atStart=>exact ⟨0,Nat.zero_le _,rfl,Own.nil _ _ _,Below.refl _ _,Nat.le_refl _⟩
 case round =>
  obtain ⟨k,hk,rfl,hown,hb,hB⟩:=hrel;have hlen:(Lib.byteCells (lowL (s.data.toList.take k))).length≤k:=by rw [Lib.byteCells_length,lowL_len]; exact List.length_take_le _ _
  by_cases hlt:k < s.size
  ·have hbd:=u8_bd s[k];have hcs:=low_cells1 (s.data.toList.take k) s[k];rw [← take_snoc s k hlt] at hcs;by_cases hup:65≤(s[k].toNat:Int)∧(s[k].toNat:Int)≤90
   ·have e:low s[k].toNat=(s[k].toNat:Int) - 65+97:=by rw [low,if_pos hup]; omega
    rw [e] at hcs;have HC:Hid (Lib.byteCells (lowL (List.take k s.data.toList))++[Value.int IntKind.u8 ((s[k].toNat:Int) - 65+97)]=Lib.byteCells (lowL (List.take (k+1) s.data.toList))):=hcs;obtain ⟨hu1,hu2⟩:=hup;clear hcs e;go_wp2_with (at_builtin; refine wp_app _ rfl (.tmp 21) (.tmp 27) 143 rfl w.heap.size 5 i0 (.int .u8 0) 1 Tryz.underlying143 hi hz0 hz1 hz2 rfl _ _ rfl (hown.alloc _) ⟨_,0,none⟩ 1 1 [.int .u8 ((s[k].toNat:Int) - 65+97)] rfl rfl (by exact one_new _ _ _) (by intro u hu; simp at hu; subst hu; rfl) (by unfold maxLen; omega) (by omega) w (hb.alloc hB _) (by simp; omega) ?_; intro v3 w3 hown3 hb3 hB3)
    rw [HC.out] at hown3;go_wp2;go_roundw
    case rel=>exact ⟨k+1,by omega,by go_num,hown3,hb3,hB3⟩
    case measure=>simp [intOf]; omega
   ·have e:low s[k].toNat=(s[k].toNat:Int):=by rw [low,if_neg hup]
    rw [e] at hcs;have HC:Hid (Lib.byteCells (lowL (List.take k s.data.toList))++[Value.int IntKind.u8 (s[k].toNat:Int)]=Lib.byteCells (lowL (List.take (k+1) s.data.toList))):=hcs;clear hcs e;by_cases hu1:65≤(s[k].toNat:Int)
    all_goals
     go_wp2_with (at_builtin; refine wp_app _ rfl (.tmp 29) (.tmp 33) 143 rfl w.heap.size 5 i0 (.int .u8 0) 1 Tryz.underlying143 hi hz0 hz1 hz2 rfl _ _ rfl (hown.alloc _) ⟨_,0,none⟩ 1 1 [.int .u8 (s[k].toNat:Int)] rfl rfl (by exact one_new _ _ _) (by intro u hu; simp at hu; subst hu; rfl) (by unfold maxLen; omega) (by omega) w (hb.alloc hB _) (by simp; omega) ?_; intro v3 w3 hown3 hb3 hB3)
     rw [HC.out] at hown3;go_wp2;go_roundw
     case rel=>exact ⟨k+1,by omega,by go_num,hown3,hb3,hB3⟩
     case measure=>simp [intOf]; omega
  ·have hta:=take_all s k (by omega);rw [hta] at hown;have hcv:=conv_own (P:=Tryz.prog) _ Tryz.underlying143 Tryz.underlying5 Tryz.underlying9 hown;clear hta hlen;go_wp2;go_ret;exact ⟨rfl,hb⟩
structure Pl where
 q:Bool
 e:Bool
 a:Bool
def pst (p:Pl) (c:Int):Pl × Bool :=
 if p.e then (⟨p.q,false,p.a⟩,false) else if c=34 then (⟨!p.q,p.e,p.a⟩,false) else if p.q then (⟨p.q,c==92,p.a⟩,false)
 else if c=60 then (⟨p.q,p.e,true⟩,false) else if c=62 then (⟨p.q,p.e,false⟩,false) else (p,!p.a)
def PlaceAt (w:World) (g:Nat) (p:Pl):Prop :=
 (w.cell? ⟨g,0,none⟩=some (.bool p.q)∧w.cell? ⟨g,1,none⟩=some (.bool p.e)∧w.cell? ⟨g,2,none⟩=some (.bool p.a)) ∧
 w.frozen? ⟨g,0,none⟩=false∧w.frozen? ⟨g,1,none⟩=false∧w.frozen? ⟨g,2,none⟩=false
theorem place_below {w w':World} {g:Nat} {p:Pl} (h:PlaceAt w g p) (hb:Below (g+1) w w'):PlaceAt w' g p:=by
 obtain ⟨⟨h1,h2,h3⟩,h4,h5,h6⟩:=h;have c:=fun o=>hb.cell (p:=⟨g,o,none⟩) (Nat.lt_succ_self g);have f:=fun o=>hb.frozen (p:=⟨g,o,none⟩) (Nat.lt_succ_self g);exact ⟨⟨(c 0).trans h1,(c 1).trans h2,(c 2).trans h3⟩,(f 0).trans h4,(f 1).trans h5,(f 2).trans h6⟩
theorem place_q {w:World} {g:Nat} {p:Pl} (h:PlaceAt w g p) (b:Bool):PlaceAt (w.setCell ⟨g,0,none⟩ (.bool b)) g ⟨b,p.e,p.a⟩:=by
 obtain ⟨⟨h1,h2,h3⟩,h4,h5,h6⟩:=h;refine ⟨⟨World.cell?_setCell_same _ _ _ h1,?_,?_⟩,?_,?_,?_⟩
 ·rw [World.cell?_setCell_other _ _ _ _ (by simp)]; exact h2
 ·rw [World.cell?_setCell_other _ _ _ _ (by simp)]; exact h3
 all_goals rw [World.frozen?_setCell]; assumption
theorem place_e {w:World} {g:Nat} {p:Pl} (h:PlaceAt w g p) (b:Bool):PlaceAt (w.setCell ⟨g,1,none⟩ (.bool b)) g ⟨p.q,b,p.a⟩:=by
 obtain ⟨⟨h1,h2,h3⟩,h4,h5,h6⟩:=h;refine ⟨⟨?_,World.cell?_setCell_same _ _ _ h2,?_⟩,?_,?_,?_⟩
 ·rw [World.cell?_setCell_other _ _ _ _ (by simp)]; exact h1
 ·rw [World.cell?_setCell_other _ _ _ _ (by simp)]; exact h3
 all_goals rw [World.frozen?_setCell]; assumption
theorem place_a {w:World} {g:Nat} {p:Pl} (h:PlaceAt w g p) (b:Bool):PlaceAt (w.setCell ⟨g,2,none⟩ (.bool b)) g ⟨p.q,p.e,b⟩:=by
 obtain ⟨⟨h1,h2,h3⟩,h4,h5,h6⟩:=h;refine ⟨⟨?_,?_,World.cell?_setCell_same _ _ _ h3⟩,?_,?_,?_⟩
 ·rw [World.cell?_setCell_other _ _ _ _ (by simp)]; exact h1
 ·rw [World.cell?_setCell_other _ _ _ _ (by simp)]; exact h2
 all_goals rw [World.frozen?_setCell]; assumption
def Passed (w w':World) (g:Nat) (p:Pl) (c:Int):Prop:=PlaceAt w' g (pst p c).1∧w.grownBy w' (some g)
theorem grown_refl (w:World) (r:Option Nat):w.grownBy w r:=⟨rfl,rfl,rfl,Nat.le_refl _,fun _ _ _=>rfl⟩
set_option maxHeartbeats 1000000 in
theorem pass_any (g:Nat) (p:Pl) (c:Int) (w:World) (hp:PlaceAt w g p) :
  Calls Tryz.prog 150 #[.pointer (some ⟨g,0,none⟩),.int .u8 c] w fun e w'=>e=.returned (.bool (pst p c).2)∧Passed w w' g p c:=by
 have HP:Hid (PlaceAt w g p):=hp;obtain ⟨⟨h1,h2,h3⟩,h4,h5,h6⟩:=hp;obtain ⟨q,e,a⟩:=p;simp only at h1 h2 h3
 cases e with
 | true =>
  go_enter Tryz.func150,Tryz.ntmps150
  go_wp2;go_ret;exact ⟨ret_bool (by simp [pst]),by simpa [pst] using place_e HP.out false,Lib.grownBy_setCell _ _ _ _⟩
 | false =>
  by_cases c1:c=34
  ·subst c1
   go_enter Tryz.func150,Tryz.ntmps150
   go_wp2;go_ret;exact ⟨ret_bool (by simp [pst]),by simpa [pst] using place_q HP.out (!q),Lib.grownBy_setCell _ _ _ _⟩
  ·cases q with
   | true =>
    go_enter Tryz.func150,Tryz.ntmps150
    go_wp2;go_ret;exact ⟨ret_bool (by simp [pst,c1]),by simpa [pst,c1] using place_e HP.out (c==92),Lib.grownBy_setCell _ _ _ _⟩
   | false =>
    by_cases c2:c=60
    ·subst c2
     go_enter Tryz.func150,Tryz.ntmps150
     go_wp2;go_ret;exact ⟨ret_bool (by simp [pst]),by simpa [pst] using place_a HP.out true,Lib.grownBy_setCell _ _ _ _⟩
    ·by_cases c3:c=62
     ·subst c3
      go_enter Tryz.func150,Tryz.ntmps150
      go_wp2;go_ret;exact ⟨ret_bool (by simp [pst]),by simpa [pst] using place_a HP.out false,Lib.grownBy_setCell _ _ _ _⟩
     ·go_enter Tryz.func150,Tryz.ntmps150
      go_wp2;go_ret;exact ⟨ret_bool (by simp [pst,c1,c2,c3]),by simpa [pst,c1,c2,c3] using HP.out,grown_refl _ _⟩
theorem info9:(Tryz.prog.info? 9).map (fun i=>(i.zero,i.size,i.bytes))=some (some (.string .empty),1,16):=by kernel_rfl
def pl0:Pl:=⟨false,false,false⟩
def partsG (sep:Int):Pl → List UInt8 → List UInt8 → List (List UInt8)
 | _,cur,[]=>[cur]
 | p,cur,b :: r=>if (pst p b.toNat).2=true∧(b.toNat:Int)=sep then cur :: partsG sep (pst p b.toNat).1 [] r else partsG sep (pst p b.toNat).1 (cur++[b]) r
def partsV (sep:Int) (l:List UInt8):List (List UInt8):=partsG sep pl0 [] l
def plAt (l:List UInt8) (k:Nat):Pl:=(l.take k).foldl (fun p b=>(pst p b.toNat).1) pl0
theorem plAt_succ (s:ByteArray) (k:Nat) (h:k < s.size):plAt s.data.toList (k+1)=(pst (plAt s.data.toList k) s[k].toNat).1:=by
 rw [plAt,take_snoc s k h,List.foldl_append]; rfl
def strs (ps:List (List UInt8)):List Value:=ps.map fun p=>Value.string ⟨p.toArray⟩
theorem strs_length (ps:List (List UInt8)):(strs ps).length=ps.length:=by simp [strs]
theorem strs_append (a b:List (List UInt8)):strs (a++b)=strs a++strs b:=by simp [strs]
def mid (l:List UInt8) (a b:Nat):List UInt8:=(l.drop a).take (b - a)
theorem mid_snoc (s:ByteArray) (a k:Nat) (ha:a≤k) (hk:k < s.size):mid s.data.toList a (k+1)=mid s.data.toList a k++[s[k]]:=by
 have e:k+1 - a=(k - a)+1:=by omega
 have hl:k - a < (s.data.toList.drop a).length:=by rw [List.length_drop,len_data]; omega
 rw [mid,mid,e,List.take_succ_eq_append_getElem hl]
 congr 2
 rw [List.getElem_drop];simp only [show a+(k - a)=k by omega]
 rfl
theorem mid_self (l:List UInt8) (a:Nat):mid l a a=[]:=by simp [mid]
theorem partsG_cut {sep:Int} {p:Pl} {s:ByteArray} {a k:Nat} (hk:k < s.size) (h1:(pst p s[k].toNat).2=true) (h2:(s[k].toNat:Int)=sep) :
  partsG sep p (mid s.data.toList a k) (s.data.toList.drop k)=mid s.data.toList a k :: partsG sep (pst p s[k].toNat).1 (mid s.data.toList (k+1) (k+1)) (s.data.toList.drop (k+1)):=by
 rw [drop_cons s k hk,partsG,if_pos ⟨h1,h2⟩,mid_self]
theorem partsG_on {sep:Int} {p:Pl} {s:ByteArray} {a k:Nat} (ha:a≤k) (hk:k < s.size) (h:¬ ((pst p s[k].toNat).2=true∧(s[k].toNat:Int)=sep)) :
  partsG sep p (mid s.data.toList a k) (s.data.toList.drop k)=partsG sep (pst p s[k].toNat).1 (mid s.data.toList a (k+1)) (s.data.toList.drop (k+1)):=by
 rw [drop_cons s k hk,partsG,if_neg h,mid_snoc s a k ha hk]
theorem Own.kept {w w':World} {B g:Nat} {e:TypeId} {v:Value} {xs:List Value} (h:Own w B e v xs) (hg:w.grownBy w' (some g)) (hlt:g < B):Own w' B e v xs:=by
 refine World.ownsRow.kept h hg ?_
 cases ho:v.ownBlock with
 | none=>exact Or.inl rfl
 | some k=>right; intro e; injection e with e; have:=(World.ownsRow.lt h k ho).1; omega
theorem place0 (w:World):PlaceAt (w.alloc (.cells #[.bool false,.bool false,.bool false] 187)) w.heap.size pl0:=by
 refine ⟨⟨?_,?_,?_⟩,?_,?_,?_⟩ <;> simp [pl0]
set_option maxHeartbeats 1000000 in
theorem parts_any (s:ByteArray) (sep:Int) (w:World) (hs:(s.size+1) * 16≤140737488355328) :
  Calls Tryz.prog 109 #[.string s,.int .u8 sep] w fun e w'=>∃ v,e=.returned v∧Own w' (w.heap.size+1) 9 v (strs (partsV sep s.data.toList))∧Below w.heap.size w w':=by
 obtain ⟨i0,hi,hz0,hz1,hz2⟩:=info_parts info9;have hp0:=place0 w;have HP0:Hid (PlaceAt (w.alloc (.cells #[.bool false,.bool false,.bool false] 187)) w.heap.size pl0):=hp0;clear hp0
 go_enter Tryz.func109,Tryz.ntmps109
 go_wp2
 go_loopw [5,7,12] (fun v fr i wr=>∃ (k a:Nat) (ps:List (List UInt8)),k≤s.size∧i=.int .i64 k∧fr=.int .i64 a∧a≤k∧ps.length≤k∧Own wr (w.heap.size+1) 9 v (strs ps) ∧
   Hid (PlaceAt wr w.heap.size (plAt s.data.toList k))∧Below w.heap.size w wr∧w.heap.size+1≤wr.heap.size∧Hid (partsV sep s.data.toList=ps++partsG sep (plAt s.data.toList k) (mid s.data.toList a k) (s.data.toList.drop k)))
  (fun _ _ i _=>s.size - (intOf i).toNat)
 case atStart=>exact ⟨0,0,[],Nat.zero_le _,rfl,rfl,Nat.le_refl _,Nat.le_refl _,Own.nil _ _ _,HP0,(Below.refl _ _).alloc (Nat.le_refl _) _,by simp,rfl⟩
 case round =>
  clear HP0;obtain ⟨k,a,ps,hk,rfl,rfl,hak,hpl,hown,hpc,hb,hB,hpv⟩:=hrel;by_cases hlt:k < s.size
  ·have hnx:=plAt_succ s k hlt;have HNX:Hid (plAt s.data.toList (k+1)=(pst (plAt s.data.toList k) s[k].toNat).1):=hnx;clear hnx;by_cases hfr:(pst (plAt s.data.toList k) s[k].toNat).2=true
   ·by_cases hsep:(s[k].toNat:Int)=sep
    ·have hsb:((s[k].toNat:Int)==sep)=true:=by simpa using hsep
     have hcut:Hid (partsV sep s.data.toList=ps++[mid s.data.toList a k]++partsG sep (plAt s.data.toList (k+1)) (mid s.data.toList (k+1) (k+1)) (s.data.toList.drop (k+1))):=by
      show _=_
      rw [hpv.out,partsG_cut hlt hfr hsep,HNX.out,List.append_assoc]; rfl
     clear hsep hpv;go_wp2_with (first
      | (go_at_call 150; refine (pass_any w.heap.size (plAt s.data.toList k) _ _ hpc.out).mono ?_; rintro e w1 ⟨rfl,hpas⟩)
      | (go_at_call 151; refine (piece_any s a k _ (by omega) hak (by omega)).mono ?_; rintro e w2 ⟨rfl,hb2⟩; have hB1:=Nat.le_trans hB hpas.2.size; have hown2:=(hown.kept hpas.2 (Nat.lt_succ_self _)).below hb2)
      | (at_builtin; refine wp_app _ rfl (.tmp 27) (.tmp 32) 35 rfl (w.heap.size+1) 9 i0 (.string .empty) 16 Tryz.underlying35 hi hz0 hz1 hz2 rfl _ _ rfl (hown2.alloc _) ⟨_,0,none⟩ 1 1 [.string (s.extract a k)] rfl rfl (by exact one_new _ _ _) (by intro u hu; simp at hu; subst hu; rfl) (by rw [strs_length]; unfold maxLen; omega) (by rw [strs_length]; omega) w1 ((hb2.mono hB1).alloc (by have:=hb2.size; omega) _) (by have:=hb2.size; simp; omega) ?_; intro v3 w3 hown3 hb3 hB3))
     have e1:[Value.string (s.extract a k)]=strs [mid s.data.toList a k]:=by simp [strs,ext_list,mid]
     rw [e1,← strs_append] at hown3;have hp3:Hid (PlaceAt w3 w.heap.size (plAt s.data.toList (k+1))):=by rw [HNX.out]; exact place_below hpas.1 hb3
     have hbw:Below w.heap.size w w3:=(hb.grown hpas.2 (by omega) (fun k hk=>by injection hk with hk; omega)).trans (hb3.mono (by omega));clear e1;go_wp2;go_roundw
     case rel=>exact ⟨k+1,k+1,_,by omega,by go_num,by go_num,Nat.le_refl _,by simp; omega,hown3,hp3,hbw,hB3,hcut⟩
     case measure=>simp [intOf]; omega
    ·have hsb:((s[k].toNat:Int)==sep)=false:=by simpa using hsep
     have hcut:Hid (partsV sep s.data.toList=ps++partsG sep (plAt s.data.toList (k+1)) (mid s.data.toList a (k+1)) (s.data.toList.drop (k+1))):=by
      show _=_
      rw [hpv.out,partsG_on hak hlt (by simp [hsep]),HNX.out]
     clear hsep hpv;go_wp2_with (go_at_call 150; refine (pass_any w.heap.size (plAt s.data.toList k) _ _ hpc.out).mono ?_; rintro e w1 ⟨rfl,hpas⟩)
     have hp3:Hid (PlaceAt w1 w.heap.size (plAt s.data.toList (k+1))):=by rw [HNX.out]; exact hpas.1
     have hbw:Below w.heap.size w w1:=hb.grown hpas.2 (by omega) (fun k hk=>by injection hk with hk; omega);go_roundw
     case rel=>exact ⟨k+1,a,ps,by omega,by go_num,rfl,by omega,by omega,hown.kept hpas.2 (Nat.lt_succ_self _),hp3,hbw,Nat.le_trans hB hpas.2.size,hcut⟩
     case measure=>simp [intOf]; omega
   ·have hfr':(pst (plAt s.data.toList k) s[k].toNat).2=false:=by simpa using hfr
    have hcut:Hid (partsV sep s.data.toList=ps++partsG sep (plAt s.data.toList (k+1)) (mid s.data.toList a (k+1)) (s.data.toList.drop (k+1))):=by
     show _=_
     rw [hpv.out,partsG_on hak hlt (by simp [hfr']),HNX.out]
    clear hfr hpv;go_wp2_with (go_at_call 150; refine (pass_any w.heap.size (plAt s.data.toList k) _ _ hpc.out).mono ?_; rintro e w1 ⟨rfl,hpas⟩)
    have hp3:Hid (PlaceAt w1 w.heap.size (plAt s.data.toList (k+1))):=by rw [HNX.out]; exact hpas.1
    have hbw:Below w.heap.size w w1:=hb.grown hpas.2 (by omega) (fun k hk=>by injection hk with hk; omega);go_roundw
    case rel=>exact ⟨k+1,a,ps,by omega,by go_num,rfl,by omega,by omega,hown.kept hpas.2 (Nat.lt_succ_self _),hp3,hbw,Nat.le_trans hB hpas.2.size,hcut⟩
    case measure=>simp [intOf]; omega
  ·have hks:k=s.size:=by omega
   have hfin:Hid (partsV sep s.data.toList=ps++[mid s.data.toList a s.size]):=by
    show _=_
    rw [hpv.out,drop_all s k (by omega),hks]; rfl
   have HKS:Hid (k=s.size):=hks;clear hpv hks;go_wp2_with (first
    | (go_at_call 151; refine (piece_any s a s.size _ (by omega) (by have:=HKS.out; omega) (Nat.le_refl _)).mono ?_; rintro e w2 ⟨rfl,hb2⟩; have hown2:=hown.below hb2)
    | (at_builtin; refine wp_app _ rfl (.tmp 37) (.tmp 43) 35 rfl (w.heap.size+1) 9 i0 (.string .empty) 16 Tryz.underlying35 hi hz0 hz1 hz2 rfl _ _ rfl (hown2.alloc _) ⟨_,0,none⟩ 1 1 [.string (s.extract a s.size)] rfl rfl (by exact one_new _ _ _) (by intro u hu; simp at hu; subst hu; rfl) (by rw [strs_length]; unfold maxLen; omega) (by rw [strs_length]; omega) wr ((hb2.mono hB).alloc (by have:=hb2.size; omega) _) (by have:=hb2.size; simp; omega) ?_; intro v3 w3 hown3 hb3 hB3))
   have e1:[Value.string (s.extract a s.size)]=strs [mid s.data.toList a s.size]:=by simp [strs,ext_list,mid]
   rw [e1,← strs_append,← hfin.out] at hown3;clear e1;go_ret;exact ⟨_,rfl,hown3,hb.trans (hb3.mono (by omega))⟩
end Go.Proofs.YtiogedceommcoaaGreatDoor
namespace Go.Proofs.YtiogedceommcoaaGreatDoor
def cutL (c:UInt8):List UInt8 → List UInt8 × List UInt8 × Bool
 | []=>([],[],false)
 | x :: l=>if x=c then ([],l,true) else (x :: (cutL c l).1,(cutL c l).2.1,(cutL c l).2.2)
def splitL (c:UInt8):List UInt8 → List (List UInt8)
 | []=>[[]]
 | x :: l=>if x=c then [] :: splitL c l else (x :: (splitL c l).headD []) :: (splitL c l).tail
def hasL (c:UInt8) (l:List UInt8):Bool:=l.contains c
theorem cutL_miss {c:UInt8} {l:List UInt8} (h:c ∉ l):cutL c l=(l,[],false):=by
 induction l with
 | nil=>rfl
 | cons x l ih =>
  simp only [List.mem_cons,not_or] at h;rw [cutL,if_neg (fun e=>h.1 e.symm),ih h.2]
theorem cutL_hit {c:UInt8} {a b:List UInt8} (h:c ∉ a):cutL c (a++c :: b)=(a,b,true):=by
 induction a with
 | nil=>simp [cutL]
 | cons x a ih =>
  simp only [List.mem_cons,not_or] at h;rw [List.cons_append,cutL,if_neg (fun e=>h.1 e.symm),ih h.2]
theorem cutL_has (c:UInt8) (l:List UInt8):(cutL c l).2.2=hasL c l:=by
 unfold hasL
 induction l with
 | nil=>rfl
 | cons x l ih =>
  rw [cutL];by_cases h:x=c
  ·simp [h]
  ·rw [if_neg h]; simp [ih]; intro e; exact absurd e.symm h
theorem cutL_join (c:UInt8) (l:List UInt8):(cutL c l).2.2=true → l=(cutL c l).1++c :: (cutL c l).2.1:=by
 induction l with
 | nil=>intro h; simp [cutL] at h
 | cons x l ih =>
  rw [cutL];by_cases h:x=c
  ·simp [h]
  ·rw [if_neg h]; intro h2; simp only [List.cons_append]; rw [← ih h2]
theorem cutL_not (c:UInt8) (l:List UInt8):(cutL c l).2.2=false → cutL c l=(l,[],false):=by
 intro h
 apply cutL_miss
 rw [cutL_has,hasL] at h
 simpa using h
theorem cutL_len (c:UInt8) (l:List UInt8):(cutL c l).1.length≤l.length∧(cutL c l).2.1.length≤l.length:=by
 induction l with
 | nil=>simp [cutL]
 | cons x l ih =>
  rw [cutL];by_cases h:x=c
  ·simp [h]
  ·rw [if_neg h]; simp; omega
theorem splitL_cons (c:UInt8) (l:List UInt8):∃ p ps,splitL c l=p :: ps:=by
 cases l with
 | nil=>exact ⟨_,_,rfl⟩
 | cons x l=>rw [splitL]; split <;> exact ⟨_,_,rfl⟩
theorem splitL_cut (c:UInt8) (l:List UInt8):splitL c l=if (cutL c l).2.2=true then (cutL c l).1 :: splitL c (cutL c l).2.1 else [(cutL c l).1]:=by
 induction l with
 | nil=>rfl
 | cons x l ih =>
  rw [splitL,cutL];by_cases h:x=c
  ·simp [h]
  ·rw [if_neg h,if_neg h]
   simp only
   rw [ih]
   split <;> simp
theorem splitL_len (c:UInt8) (l:List UInt8):(splitL c l).length≤l.length+1:=by
 induction l with
 | nil=>simp [splitL]
 | cons x l ih =>
  obtain ⟨p,ps,hp⟩:=splitL_cons c l;rw [splitL]
  split
  ·simp; omega
  ·rw [hp] at ih ⊢; simp at ih ⊢; omega
end Go.Proofs.YtiogedceommcoaaGreatDoor
namespace Go.Proofs.YtiogedceommcoaaGreatDoor
open Go.RowKit Sc
def okc (b:UInt8):Bool:=b==58 || (b==46 || isB b.toNat 4)
def brkB (l:List UInt8):Bool:=decide (4≤l.length) && ((l.getD (l.length - 1) 0==93) && ((mid l 1 (l.length - 1)).all okc && decide (2≤(mid l 1 (l.length - 1)).count 58)))
def labB (p:List UInt8):Bool:=decide (1≤p.length) && (allB 64 p && (!(p.getD 0 0==45) && !(p.getD (p.length - 1) 0==45)))
def hostB (l:List UInt8):Bool:=decide (1≤l.length) && (decide (l.length≤64) && ((lowL l==l) && (if l.getD 0 0=91 then brkB l else (splitL 46 l).all labB)))
def schemeB (l:List UInt8):Bool:=l==[115,105,112] || (l==[115,105,112,115] || l==[112,114,101,115])
end Go.Proofs.YtiogedceommcoaaGreatDoor
