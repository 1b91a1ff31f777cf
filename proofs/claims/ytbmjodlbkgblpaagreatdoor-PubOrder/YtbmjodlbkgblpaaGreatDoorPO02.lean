/-
  RefClass, Lower, Parts, CutL, HostL, Trim, Quote, Unquote, Escape, Unesc.
-/
import Derived.Test.YtbmjodlbkgblpaaGreatDoorPO01
import Derived.Deep.QuietTactic
import Derived.BigQuiet
set_option linter.unusedVariables false
set_option linter.unusedSimpArgs false
set_option maxRecDepth 20000
namespace Go.Proofs.YtbmjodlbkgblpaaGreatDoor
open Go.RowKit Sc
set_option maxHeartbeats 400000 in
theorem refclass6 (c:Int) (w:World) (h0:0≤c) (h1:c≤255) (h:c=40∨c=41) :
  Calls Tryz.prog 63 #[.int .u8 c] w fun e w'=>e=.returned (.int .i64 (cls c))∧w'=w:=by
 have tDg:bDg c=false:=decide_eq_false (by omega);have tLe:bLe c=false:=decide_eq_false (by omega);have tHx:bHx c=false:=decide_eq_false (by omega);have tTk:bTk c=false:=decide_eq_false (by omega);have tPl:bPl c=true:=decide_eq_true (by omega);have tHo:bHo c=false:=decide_eq_false (by omega);have hv:Hid (cls c=16):=by show _=_; unfold cls low sgn; (repeat' split) <;> omega
 have e32:(c==32)=false:=by simp; omega
 have e9:(c==9)=false:=by simp; omega
 clear h
 go_enter Tryz.func63,Tryz.ntmps63
 go_wp2_with fail
 refine (hasDg _ _ h0 h1).mono ?_
 rintro e w' ⟨rfl,rfl⟩;go_wp2_with fail
 refine (hasLe _ _ h0 h1).mono ?_
 rintro e w' ⟨rfl,rfl⟩;go_wp2_with fail
 refine (hasHx _ _ h0 h1).mono ?_
 rintro e w' ⟨rfl,rfl⟩;go_wp2_with fail
 refine (hasTk _ _ h0 h1).mono ?_
 rintro e w' ⟨rfl,rfl⟩;go_wp2_with fail
 refine (hasPl _ _ h0 h1).mono ?_
 rintro e w' ⟨rfl,rfl⟩;go_wp2_with fail
 refine (hasHo _ _ h0 h1).mono ?_
 rintro e w' ⟨rfl,rfl⟩;go_wp2;go_ret;exact ⟨ret_int hv.out.symm,rfl⟩
set_option maxHeartbeats 400000 in
theorem refclass7 (c:Int) (w:World) (h0:0≤c) (h1:c≤255) (h:c=32∨c=9) :
  Calls Tryz.prog 63 #[.int .u8 c] w fun e w'=>e=.returned (.int .i64 (cls c))∧w'=w:=by
 have tDg:bDg c=false:=decide_eq_false (by omega);have tLe:bLe c=false:=decide_eq_false (by omega);have tHx:bHx c=false:=decide_eq_false (by omega);have tTk:bTk c=false:=decide_eq_false (by omega);have tPl:bPl c=false:=decide_eq_false (by omega);have tHo:bHo c=false:=decide_eq_false (by omega);have hv:Hid (cls c=32):=by show _=_; unfold cls low sgn; (repeat' split) <;> omega
 rcases h with h | h
 all_goals
  subst h
  go_enter Tryz.func63,Tryz.ntmps63
  go_wp2_with fail
  refine (hasDg _ _ h0 h1).mono ?_
  rintro e w' ⟨rfl,rfl⟩;go_wp2_with fail
  refine (hasLe _ _ h0 h1).mono ?_
  rintro e w' ⟨rfl,rfl⟩;go_wp2_with fail
  refine (hasHx _ _ h0 h1).mono ?_
  rintro e w' ⟨rfl,rfl⟩;go_wp2_with fail
  refine (hasTk _ _ h0 h1).mono ?_
  rintro e w' ⟨rfl,rfl⟩;go_wp2_with fail
  refine (hasPl _ _ h0 h1).mono ?_
  rintro e w' ⟨rfl,rfl⟩;go_wp2_with fail
  refine (hasHo _ _ h0 h1).mono ?_
  rintro e w' ⟨rfl,rfl⟩;go_wp2;go_ret;exact ⟨ret_int hv.out.symm,rfl⟩
set_option maxHeartbeats 400000 in
theorem refclass8 (c:Int) (w:World) (h0:0≤c) (h1:c≤255) (h:¬ (48≤c∧c≤57)∧¬ (97≤c∧c≤122∨65≤c∧c≤90)∧c ≠ 45∧c ≠ 46∧c ≠ 33∧c ≠ 37∧c ≠ 42∧c ≠ 95∧c ≠ 43∧c ≠ 96∧c ≠ 39∧c ≠ 126∧c ≠ 40∧c ≠ 41∧c ≠ 32∧c ≠ 9) :
  Calls Tryz.prog 63 #[.int .u8 c] w fun e w'=>e=.returned (.int .i64 (cls c))∧w'=w:=by
 have tDg:bDg c=false:=decide_eq_false (by omega);have tLe:bLe c=false:=decide_eq_false (by omega);have tHx:bHx c=false:=decide_eq_false (by omega);have tTk:bTk c=false:=decide_eq_false (by omega);have tPl:bPl c=false:=decide_eq_false (by omega);have tHo:bHo c=false:=decide_eq_false (by omega);have hv:Hid (cls c=0):=by show _=_; unfold cls low sgn; (repeat' split) <;> omega
 have e32:(c==32)=false:=by simp; omega
 have e9:(c==9)=false:=by simp; omega
 clear h
 go_enter Tryz.func63,Tryz.ntmps63
 go_wp2_with fail
 refine (hasDg _ _ h0 h1).mono ?_
 rintro e w' ⟨rfl,rfl⟩;go_wp2_with fail
 refine (hasLe _ _ h0 h1).mono ?_
 rintro e w' ⟨rfl,rfl⟩;go_wp2_with fail
 refine (hasHx _ _ h0 h1).mono ?_
 rintro e w' ⟨rfl,rfl⟩;go_wp2_with fail
 refine (hasTk _ _ h0 h1).mono ?_
 rintro e w' ⟨rfl,rfl⟩;go_wp2_with fail
 refine (hasPl _ _ h0 h1).mono ?_
 rintro e w' ⟨rfl,rfl⟩;go_wp2_with fail
 refine (hasHo _ _ h0 h1).mono ?_
 rintro e w' ⟨rfl,rfl⟩;go_wp2;go_ret;exact ⟨ret_int hv.out.symm,rfl⟩
theorem refclass_any (c:Int) (w:World) (h0:0≤c) (h1:c≤255) :
  Calls Tryz.prog 63 #[.int .u8 c] w fun e w'=>e=.returned (.int .i64 (cls c))∧w'=w:=by
 by_cases a0:48≤c∧c≤57
 ·exact refclass0 c w h0 h1 a0
 by_cases a1:97≤c∧c≤102∨65≤c∧c≤70
 ·exact refclass1 c w h0 h1 a1
 by_cases a2:103≤c∧c≤122∨71≤c∧c≤90
 ·exact refclass2 c w h0 h1 a2
 by_cases a3:c=45∨c=46
 ·exact refclass3 c w h0 h1 a3
 by_cases a4:c=33∨c=126∨c=42∨c=95∨c=39
 ·exact refclass4 c w h0 h1 a4
 by_cases a5:c=37∨c=43∨c=96
 ·exact refclass5 c w h0 h1 a5
 by_cases a6:c=40∨c=41
 ·exact refclass6 c w h0 h1 a6
 by_cases a7:c=32∨c=9
 ·exact refclass7 c w h0 h1 a7
 exact refclass8 c w h0 h1 (by omega)
set_option maxHeartbeats 400000 in
theorem refall_any (s:ByteArray) (class_:Int) (w:World) (hs:s.size≤maxLen) :
  Calls Tryz.prog 35 #[.string s,.int .i64 class_] w fun e w'=>e=.returned (.bool (allB class_ s.data.toList))∧w'=w:=by
 unfold maxLen at hs
 go_enter Tryz.func35,Tryz.ntmps35
 go_wp2
 go_loop [5] (fun i=>∃ k:Nat,k≤s.size∧i=.int .i64 k∧Hid (allB class_ (s.data.toList.take k)=true)) (fun i=>s.size - (intOf i).toNat)
 case atStart=>exact ⟨0,Nat.zero_le _,rfl,rfl⟩
 case round =>
  obtain ⟨k,hk,rfl,hall⟩:=hrel;by_cases hlt:k < s.size
  ·have hbd:=u8_bd s[k];by_cases hb:isB s[k].toNat class_=true
   ·have hz:(bits BinOp.and IntKind.i64 (cls s[k].toNat) class_==0)=false:=by simpa [isB] using hb
    have HB:Hid (isB s[k].toNat class_=true):=hb;clear hb;go_wp2_with (go_at_call 63; refine (refclass_any _ _ hbd.1 hbd.2).mono ?_; rintro e w' ⟨rfl,rfl⟩)
    go_round
    case rel=>exact ⟨k+1,by omega,by go_num,show _=_ by rw [take_snoc s k hlt,allB_snoc,hall.out,HB.out]; rfl⟩
    case measure=>simp [intOf]; omega
   ·have hb':isB s[k].toNat class_=false:=by simpa using hb
    have hz:(bits BinOp.and IntKind.i64 (cls s[k].toNat) class_==0)=true:=by simpa [isB] using hb'
    clear hb;have HB:Hid (isB s[k].toNat class_=false):=hb';clear hb';go_wp2_with (go_at_call 63; refine (refclass_any _ _ hbd.1 hbd.2).mono ?_; rintro e w' ⟨rfl,rfl⟩)
    go_ret;exact ⟨ret_bool (allB_hit hlt HB.out).symm,rfl⟩
  ·go_wp2;go_ret;exact ⟨ret_bool (by rw [← hall.out,take_all s k (by omega)]),rfl⟩
def tokenB (l:List UInt8):Bool:=decide (1≤l.length) && decide (l.length≤64) && allB 8 l
set_option maxHeartbeats 400000 in
theorem token_any (s:ByteArray) (w:World) (hs:s.size≤maxLen) :
  Calls Tryz.prog 53 #[.string s] w fun e w'=>e=.returned (.bool (tokenB s.data.toList))∧w'=w:=by
 have hl:=len_data s;by_cases h0:s.size=0
 ·have hE:=isE_true h0;have HT:Hid (tokenB s.data.toList=false):=by show _=_; simp [tokenB,hl,h0]
  clear hl
  go_enter Tryz.func53,Tryz.ntmps53
  go_wp2;go_ret;exact ⟨ret_bool HT.out.symm,rfl⟩
 ·have hE:=isE_false (s:=s) (by omega);by_cases h1:s.size≤64
  ·have HT:Hid (tokenB s.data.toList=allB 8 s.data.toList):=by
    show _=_
    have e1:decide (1≤s.size)=true:=decide_eq_true (by omega);have e2:decide (s.size≤64)=true:=decide_eq_true h1;rw [tokenB,hl,e1,e2]; rfl
   clear hl
   go_enter Tryz.func53,Tryz.ntmps53
   go_wp2_with (go_at_call 73; refine (all_any _ _ _ hs).mono ?_; rintro e w' ⟨rfl,rfl⟩)
   go_ret;exact ⟨ret_bool HT.out.symm,rfl⟩
  ·have HT:Hid (tokenB s.data.toList=false):=by
    show _=_
    have e2:decide (s.size≤64)=false:=decide_eq_false h1;rw [tokenB,hl,e2]; simp
   clear hl
   go_enter Tryz.func53,Tryz.ntmps53
   go_wp2;go_ret;exact ⟨ret_bool HT.out.symm,rfl⟩
set_option maxHeartbeats 400000 in
theorem reftoken_any (s:ByteArray) (w:World) (hs:s.size≤maxLen) :
  Calls Tryz.prog 20 #[.string s] w fun e w'=>e=.returned (.bool (tokenB s.data.toList))∧w'=w:=by
 have hl:=len_data s;by_cases h0:s.size=0
 ·have HT:Hid (tokenB s.data.toList=false):=by show _=_; simp [tokenB,hl,h0]
  clear hl
  go_enter Tryz.func20,Tryz.ntmps20
  go_wp2;go_ret;exact ⟨ret_bool HT.out.symm,rfl⟩
 ·by_cases h1:s.size≤64
  ·have HT:Hid (tokenB s.data.toList=allB 8 s.data.toList):=by
    show _=_
    have e1:decide (1≤s.size)=true:=decide_eq_true (by omega);have e2:decide (s.size≤64)=true:=decide_eq_true h1;rw [tokenB,hl,e1,e2]; rfl
   clear hl
   go_enter Tryz.func20,Tryz.ntmps20
   go_wp2_with (go_at_call 35; refine (refall_any _ _ _ hs).mono ?_; rintro e w' ⟨rfl,rfl⟩)
   go_ret;exact ⟨ret_bool HT.out.symm,rfl⟩
  ·have HT:Hid (tokenB s.data.toList=false):=by
    show _=_
    have e2:decide (s.size≤64)=false:=decide_eq_false h1;rw [tokenB,hl,e2]; simp
   clear hl
   go_enter Tryz.func20,Tryz.ntmps20
   go_wp2;go_ret;exact ⟨ret_bool HT.out.symm,rfl⟩
def lowb (b:UInt8):UInt8:=if 65≤b.toNat∧b.toNat≤90 then b+32 else b
def lowL (l:List UInt8):List UInt8:=l.map lowb
theorem lowb_toNat (b:UInt8):((lowb b).toNat:Int)=low b.toNat:=by
 have h:∀ n:Fin 256,((lowb (UInt8.ofNat n.val)).toNat:Int)=low n.val:=by decide +kernel
 have:=h ⟨b.toNat,b.toNat_lt⟩
 simpa using this
theorem lowL_len (l:List UInt8):(lowL l).length=l.length:=by simp [lowL]
theorem lowL_snoc (l:List UInt8) (b:UInt8):lowL (l++[b])=lowL l++[lowb b]:=by simp [lowL]
set_option maxHeartbeats 400000 in
theorem lower_txt (s:ByteArray) (w:World) (hs:s.size≤281474976710656) :
  Calls Tryz.prog 95 #[.string s] w fun e w'=>e=.returned (.string ⟨(lowL s.data.toList).toArray⟩)∧Below w.heap.size w w':=by
 obtain ⟨i0,hi,hz0,hz1,hz2⟩:=info_parts info5
 have hmk:∀ u:World,(Instr.makeSlice 124 (.int .i64 (s.size:Int)) (.int .i64 (s.size:Int))).run Tryz.prog u =
   .ok (.slice (some ⟨u.heap.size,0,none⟩) s.size s.size) (u.alloc (.cells (madeCells #[.int .u8 0] s.size) 5)):=fun u=>by
  have h:=run_make (P:=Tryz.prog) u 124 5 i0 (.int .u8 0) Tryz.underlying124 hi hz0 .i64 .i64 (s.size:Int) (s.size:Int) (by omega) (Int.le_refl _) (by rw [hz2]; omega) (by omega)
  simpa [hz1,Value.cells] using h
 have hr0:Hid (RowIs (w.alloc (.cells (madeCells #[.int .u8 0] s.size) 5)) w.heap.size 5 (filled [] s.size)):=made_row w _ _
 go_enter Tryz.func95,Tryz.ntmps95
 go_wp2;clear hmk
 go_loopw [10] (fun i wr=>∃ k:Nat,k≤s.size∧i=.int .i64 k∧Hid (RowIs wr w.heap.size 5 (filled (lowL (s.data.toList.take k)) s.size))∧Below w.heap.size w wr) (fun i _=>s.size - (intOf i).toNat)
 case atStart=>exact ⟨0,Nat.zero_le _,rfl,hr0,(Below.refl _ _).alloc (Nat.le_refl _) _⟩
 case round =>
  clear hr0;obtain ⟨k,hk,rfl,hr,hb⟩:=hrel;have hlk:Hid ((lowL (s.data.toList.take k)).length=k):=by show _=_; rw [lowL_len,List.length_take,len_data]; omega
  by_cases hlt:k < s.size
  ·have hbd:=u8_bd s[k];obtain ⟨x,hc⟩:∃ x,wr.cell? ⟨w.heap.size,k,none⟩=some x:=⟨_,hr.out.cell k (by rw [filled_len _ _ (by rw [hlk.out]; omega)]; exact hlt)⟩
   have hf:=hr.out.frozen k
   have hr':Hid (RowIs (wr.setCell ⟨w.heap.size,k,none⟩ (.int .u8 (low s[k].toNat))) w.heap.size 5 (filled (lowL (s.data.toList.take (k+1))) s.size)):=by
    have h:=hr.out.set k (.int .u8 (lowb s[k]).toNat);have h2:=filled_set (lowL (s.data.toList.take k)) s.size (lowb s[k]) (by rw [hlk.out]; exact hlt);rw [hlk.out] at h2;rw [h2,lowb_toNat,← lowL_snoc,← take_snoc s k hlt] at h;exact h
   go_wp2_with (go_at_call 115; refine (lower_any _ _ hbd.1 hbd.2).mono ?_; rintro e w' ⟨rfl,rfl⟩)
   go_roundw
   case rel=>exact ⟨k+1,by omega,by go_num,hr',hb.setCell (Nat.le_refl _) _⟩
   case measure=>simp [intOf]; omega
  ·have hta:=take_all s k (by omega);have hr2:=hr.out;rw [hta,filled_full _ _ (by rw [lowL_len,len_data])] at hr2;have hown:=hr2.own w.heap.size s.size (Nat.le_refl _) (by rw [Lib.byteCells_length,lowL_len,len_data]) (by unfold maxLen; omega);have hcv:=conv_own (P:=Tryz.prog) _ Tryz.underlying124 Tryz.underlying5 Tryz.underlying9 hown;clear hta hr2 hown hr hlk;go_wp2;go_ret;exact ⟨rfl,hb⟩
theorem low_cells1 (l:List UInt8) (b:UInt8):Lib.byteCells (lowL l)++[.int .u8 (low b.toNat)]=Lib.byteCells (lowL (l++[b])):=by
 rw [lowL_snoc,Lib.byteCells_append,← lowb_toNat]; rfl
set_option maxHeartbeats 400000 in
theorem reflower_txt (s:ByteArray) (w:World) (hs:s.size≤140737488355328) :
  Calls Tryz.prog 83 #[.string s] w fun e w'=>e=.returned (.string ⟨(lowL s.data.toList).toArray⟩)∧Below w.heap.size w w':=by
 obtain ⟨i0,hi,hz0,hz1,hz2⟩:=info_parts info5
 go_enter Tryz.func83,Tryz.ntmps83
 go_wp2
 go_loopw [3,4] (fun v i wr=>∃ k:Nat,k≤s.size∧i=.int .i64 k∧Own wr w.heap.size 5 v (Lib.byteCells (lowL (s.data.toList.take k)))∧Below w.heap.size w wr∧w.heap.size≤wr.heap.size) (fun _ i _=>s.size - (intOf i).toNat)
 case atStart=>exact ⟨0,Nat.zero_le _,rfl,Own.nil _ _ _,Below.refl _ _,Nat.le_refl _⟩
 case round =>
  obtain ⟨k,hk,rfl,hown,hb,hB⟩:=hrel;have hlen:(Lib.byteCells (lowL (s.data.toList.take k))).length≤k:=by rw [Lib.byteCells_length,lowL_len]; exact List.length_take_le _ _
  by_cases hlt:k < s.size
  ·have hbd:=u8_bd s[k];have hcs:=low_cells1 (s.data.toList.take k) s[k];rw [← take_snoc s k hlt] at hcs;by_cases hup:65≤(s[k].toNat:Int)∧(s[k].toNat:Int)≤90
   ·have e:low s[k].toNat=(s[k].toNat:Int) - 65+97:=by rw [low,if_pos hup]; omega
    rw [e] at hcs;have HC:Hid (Lib.byteCells (lowL (List.take k s.data.toList))++[Value.int IntKind.u8 ((s[k].toNat:Int) - 65+97)]=Lib.byteCells (lowL (List.take (k+1) s.data.toList))):=hcs;obtain ⟨hu1,hu2⟩:=hup;clear hcs e;go_wp2_with (at_builtin; refine wp_app _ rfl (.tmp 21) (.tmp 27) 124 rfl w.heap.size 5 i0 (.int .u8 0) 1 Tryz.underlying124 hi hz0 hz1 hz2 rfl _ _ rfl (hown.alloc _) ⟨_,0,none⟩ 1 1 [.int .u8 ((s[k].toNat:Int) - 65+97)] rfl rfl (by exact one_new _ _ _) (by intro u hu; simp at hu; subst hu; rfl) (by unfold maxLen; omega) (by omega) w (hb.alloc hB _) (by simp; omega) ?_; intro v3 w3 hown3 hb3 hB3)
    rw [HC.out] at hown3;go_wp2;go_roundw
    case rel=>exact ⟨k+1,by omega,by go_num,hown3,hb3,hB3⟩
    case measure=>simp [intOf]; omega
   ·have e:low s[k].toNat=(s[k].toNat:Int):=by rw [low,if_neg hup]
    rw [e] at hcs;have HC:Hid (Lib.byteCells (lowL (List.take k s.data.toList))++[Value.int IntKind.u8 (s[k].toNat:Int)]=Lib.byteCells (lowL (List.take (k+1) s.data.toList))):=hcs;clear hcs e;by_cases hu1:65≤(s[k].toNat:Int)
    all_goals
     go_wp2_with (at_builtin; refine wp_app _ rfl (.tmp 29) (.tmp 33) 124 rfl w.heap.size 5 i0 (.int .u8 0) 1 Tryz.underlying124 hi hz0 hz1 hz2 rfl _ _ rfl (hown.alloc _) ⟨_,0,none⟩ 1 1 [.int .u8 (s[k].toNat:Int)] rfl rfl (by exact one_new _ _ _) (by intro u hu; simp at hu; subst hu; rfl) (by unfold maxLen; omega) (by omega) w (hb.alloc hB _) (by simp; omega) ?_; intro v3 w3 hown3 hb3 hB3)
     rw [HC.out] at hown3;go_wp2;go_roundw
     case rel=>exact ⟨k+1,by omega,by go_num,hown3,hb3,hB3⟩
     case measure=>simp [intOf]; omega
  ·have hta:=take_all s k (by omega);rw [hta] at hown;have hcv:=conv_own (P:=Tryz.prog) _ Tryz.underlying124 Tryz.underlying5 Tryz.underlying9 hown;clear hta hlen;go_wp2;go_ret;exact ⟨rfl,hb⟩
structure Pl where
 q:Bool
 e:Bool
 a:Bool
theorem info9:(Tryz.prog.info? 9).map (fun i=>(i.zero,i.size,i.bytes))=some (some (.string .empty),1,16):=by kernel_rfl
def strs (ps:List (List UInt8)):List Value:=ps.map fun p=>Value.string ⟨p.toArray⟩
theorem strs_length (ps:List (List UInt8)):(strs ps).length=ps.length:=by simp [strs]
theorem strs_append (a b:List (List UInt8)):strs (a++b)=strs a++strs b:=by simp [strs]
def mid (l:List UInt8) (a b:Nat):List UInt8:=(l.drop a).take (b - a)
theorem mid_snoc (s:ByteArray) (a k:Nat) (ha:a≤k) (hk:k < s.size):mid s.data.toList a (k+1)=mid s.data.toList a k++[s[k]]:=by
 have e:k+1 - a=(k - a)+1:=by omega
 have hl:k - a < (s.data.toList.drop a).length:=by rw [List.length_drop,len_data]; omega
 rw [mid,mid,e,List.take_succ_eq_append_getElem hl]
 congr 2
 rw [List.getElem_drop];simp only [show a+(k - a)=k by omega]
 rfl
end Go.Proofs.YtbmjodlbkgblpaaGreatDoor
namespace Go.Proofs.YtbmjodlbkgblpaaGreatDoor
def cutL (c:UInt8):List UInt8 → List UInt8 × List UInt8 × Bool
 | []=>([],[],false)
 | x :: l=>if x=c then ([],l,true) else (x :: (cutL c l).1,(cutL c l).2.1,(cutL c l).2.2)
def splitL (c:UInt8):List UInt8 → List (List UInt8)
 | []=>[[]]
 | x :: l=>if x=c then [] :: splitL c l else (x :: (splitL c l).headD []) :: (splitL c l).tail
def hasL (c:UInt8) (l:List UInt8):Bool:=l.contains c
theorem cutL_miss {c:UInt8} {l:List UInt8} (h:c ∉ l):cutL c l=(l,[],false):=by
 induction l with
 | nil=>rfl
 | cons x l ih =>
  simp only [List.mem_cons,not_or] at h;rw [cutL,if_neg (fun e=>h.1 e.symm),ih h.2]
theorem cutL_hit {c:UInt8} {a b:List UInt8} (h:c ∉ a):cutL c (a++c :: b)=(a,b,true):=by
 induction a with
 | nil=>simp [cutL]
 | cons x a ih =>
  simp only [List.mem_cons,not_or] at h;rw [List.cons_append,cutL,if_neg (fun e=>h.1 e.symm),ih h.2]
theorem cutL_has (c:UInt8) (l:List UInt8):(cutL c l).2.2=hasL c l:=by
 unfold hasL
 induction l with
 | nil=>rfl
 | cons x l ih =>
  rw [cutL];by_cases h:x=c
  ·simp [h]
  ·rw [if_neg h]; simp [ih]; intro e; exact absurd e.symm h
theorem cutL_join (c:UInt8) (l:List UInt8):(cutL c l).2.2=true → l=(cutL c l).1++c :: (cutL c l).2.1:=by
 induction l with
 | nil=>intro h; simp [cutL] at h
 | cons x l ih =>
  rw [cutL];by_cases h:x=c
  ·simp [h]
  ·rw [if_neg h]; intro h2; simp only [List.cons_append]; rw [← ih h2]
theorem cutL_len (c:UInt8) (l:List UInt8):(cutL c l).1.length≤l.length∧(cutL c l).2.1.length≤l.length:=by
 induction l with
 | nil=>simp [cutL]
 | cons x l ih =>
  rw [cutL];by_cases h:x=c
  ·simp [h]
  ·rw [if_neg h]; simp; omega
theorem splitL_cons (c:UInt8) (l:List UInt8):∃ p ps,splitL c l=p :: ps:=by
 cases l with
 | nil=>exact ⟨_,_,rfl⟩
 | cons x l=>rw [splitL]; split <;> exact ⟨_,_,rfl⟩
theorem splitL_cut (c:UInt8) (l:List UInt8):splitL c l=if (cutL c l).2.2=true then (cutL c l).1 :: splitL c (cutL c l).2.1 else [(cutL c l).1]:=by
 induction l with
 | nil=>rfl
 | cons x l ih =>
  rw [splitL,cutL];by_cases h:x=c
  ·simp [h]
  ·rw [if_neg h,if_neg h]
   simp only
   rw [ih]
   split <;> simp
theorem splitL_len (c:UInt8) (l:List UInt8):(splitL c l).length≤l.length+1:=by
 induction l with
 | nil=>simp [splitL]
 | cons x l ih =>
  obtain ⟨p,ps,hp⟩:=splitL_cons c l;rw [splitL]
  split
  ·simp; omega
  ·rw [hp] at ih ⊢; simp at ih ⊢; omega
end Go.Proofs.YtbmjodlbkgblpaaGreatDoor
namespace Go.Proofs.YtbmjodlbkgblpaaGreatDoor
open Go.RowKit Sc
def okc (b:UInt8):Bool:=b==58 || (b==46 || isB b.toNat 4)
def brkB (l:List UInt8):Bool:=decide (4≤l.length) && ((l.getD (l.length - 1) 0==93) && ((mid l 1 (l.length - 1)).all okc && decide (2≤(mid l 1 (l.length - 1)).count 58)))
def labB (p:List UInt8):Bool:=decide (1≤p.length) && (allB 64 p && (!(p.getD 0 0==45) && !(p.getD (p.length - 1) 0==45)))
def hostB (l:List UInt8):Bool:=decide (1≤l.length) && (decide (l.length≤64) && ((lowL l==l) && (if l.getD 0 0=91 then brkB l else (splitL 46 l).all labB)))
def schemeB (l:List UInt8):Bool:=l==[115,105,112] || (l==[115,105,112,115] || l==[112,114,101,115])
theorem host_short {l:List UInt8} (h:l.length=0):hostB l=false:=by
 unfold hostB; simp [h]
theorem host_long {l:List UInt8} (h:64 < l.length):hostB l=false:=by
 have:decide (l.length≤64)=false:=by simp; omega
 unfold hostB; simp [this]
theorem host_caps {l:List UInt8} (h:(lowL l==l)=false):hostB l=false:=by
 unfold hostB; simp only [h,Bool.false_and,Bool.and_false]
theorem host_brk {l:List UInt8} (h1:1≤l.length) (h2:l.length≤64) (h:(lowL l==l)=true) (hb:l.getD 0 0=91):hostB l=brkB l:=by
 unfold hostB; simp only [h,if_pos hb,decide_eq_true h1,decide_eq_true h2,Bool.true_and]
theorem host_lab {l:List UInt8} (h1:1≤l.length) (h2:l.length≤64) (h:(lowL l==l)=true) (hb:¬ l.getD 0 0=91):hostB l=(splitL 46 l).all labB:=by
 unfold hostB; simp only [h,if_neg hb,decide_eq_true h1,decide_eq_true h2,Bool.true_and]
theorem getD_s (s:ByteArray) (k:Nat) (h:k < s.size):s.data.toList.getD k 0=s[k]:=by
 rw [List.getD_eq_getElem?_getD,getL s k h]; rfl
theorem mid_prefix (l:List UInt8) (a k m:Nat) (h:k≤m):∃ r,mid l a m=mid l a k++r:=by
 refine ⟨((l.drop a).take (m - a)).drop (k - a),?_⟩
 unfold mid
 conv=>lhs; rw [← List.take_append_drop (k - a) ((l.drop a).take (m - a))]
 rw [List.take_take,Nat.min_eq_left (by omega)]
theorem brk_bad {s:ByteArray} {k:Nat} (h1:1≤k) (h:k+1 < s.size) (hb:okc s[k]=false):brkB s.data.toList=false:=by
 obtain ⟨r,hr⟩:=mid_prefix s.data.toList 1 (k+1) (s.size - 1) (by omega);unfold brkB;rw [len_data,hr,mid_snoc s 1 k h1 (by omega)]
 simp [hb]
theorem brk_end {s:ByteArray} {k n:Nat} (h4:4≤s.size) (hk:k=s.size - 1) (ha:(mid s.data.toList 1 k).all okc=true) (hn:(mid s.data.toList 1 k).count 58=n) (hl:s.data.toList.getD k 0=93):brkB s.data.toList=decide (2≤n):=by
 subst hk;unfold brkB;rw [len_data,ha,hn,hl]
 simp [h4]
theorem brk_short {s:ByteArray} (h4:¬ 4≤s.size):brkB s.data.toList=false:=by
 unfold brkB; rw [len_data]; simp [h4]
theorem brk_last {s:ByteArray} {k:Nat} (hk:k=s.size - 1) (hl:¬ s.data.toList.getD k 0=93):brkB s.data.toList=false:=by
 subst hk
 have:(s.data.toList.getD (s.size - 1) 0==93)=false:=by simpa using hl
 unfold brkB; rw [len_data,this]; simp
theorem splitL_mem_len (c:UInt8) (l:List UInt8):∀ p ∈ splitL c l,p.length≤l.length:=by
 induction l with
 | nil=>simp [splitL]
 | cons x l ih =>
  obtain ⟨p,ps,hp⟩:=splitL_cons c l;rw [splitL];rw [hp] at ih ⊢
  split
  ·intro q hq;simp only [List.mem_cons] at hq
   rcases hq with rfl | hq
   ·simp
   ·have:=ih q (by simpa using hq); simp; omega
  ·intro q hq;simp only [List.headD_cons,List.tail_cons,List.mem_cons] at hq
   rcases hq with rfl | hq
   ·have:=ih p (by simp); simp; omega
   ·have:=ih q (by simp [hq]); simp; omega
def blk (b:UInt8):Bool:=isB b.toNat 32
def sameB (a b:List UInt8):Bool:=lowL a==lowL b
set_option maxHeartbeats 400000 in
theorem refsame_any (a b:ByteArray) (w:World) (ha:a.size≤140737488355328) (hb:b.size≤140737488355328) :
  Calls Tryz.prog 135 #[.string a,.string b] w fun e w'=>e=.returned (.bool (sameB a.data.toList b.data.toList))∧Below w.heap.size w w':=by
 go_enter Tryz.func135,Tryz.ntmps135
 go_wp2_with fail
 refine (reflower_txt _ _ ha).mono ?_
 rintro e w1 ⟨rfl,h1⟩;go_wp2_with fail
 refine (reflower_txt _ _ hb).mono ?_
 rintro e w2 ⟨rfl,h2⟩;go_wp2;go_ret;exact ⟨ret_bool (by rw [sameB]),h1.trans (h2.mono h1.size)⟩
theorem ret_str {p:List UInt8 × Int} (a:List UInt8) (b:Int) (h:p=(a,b)):Ending.returned (.tuple #[.string ⟨a.toArray⟩,.int .i64 b])=.returned (.tuple #[.string ⟨p.1.toArray⟩,.int .i64 p.2]):=by rw [h]
theorem map_snoc (acc:List UInt8) (b:UInt8) (x:Option (List UInt8)):(x.map (b :: ·)).map (acc++·)=x.map ((acc++[b])++·):=by
 cases x <;> simp
theorem byteCells_snoc (l:List UInt8) (b:UInt8):Lib.byteCells l++Lib.byteCells [b]=Lib.byteCells (l++[b]):=by rw [← Lib.byteCells_append]
def kept0:Array Value:=(List.replicate 256 (.bool false)).toArray
theorem zero52 (u:World):Sem.run Tryz.prog (zeroValue 194) u=.ok (.agg kept0) u:=by kernel_rfl
def Marks (w:World) (B:Nat) (f:Nat → Bool):Prop:=∀ j,j < 256 → w.cell? ⟨B,j,none⟩=some (.bool (f j))∧w.frozen? ⟨B,j,none⟩=false
theorem marks0 (w:World):Marks (w.alloc (.cells kept0 194)) w.heap.size (fun _=>false):=by
 intro j hj
 constructor
 ·rw [World.cell?_alloc_new,kept0,List.getElem?_toArray,List.getElem?_replicate,if_pos hj]
 ·exact World.frozen?_alloc_new w kept0 194 j
theorem marks_set {w:World} {B:Nat} {f:Nat → Bool} (h:Marks w B f) (n:Nat) (hn:n < 256) (b:Bool):Marks (w.setCell ⟨B,n,none⟩ (.bool b)) B (fun j=>if j=n then b else f j):=by
 intro j hj
 constructor
 ·by_cases e:j=n
  ·subst e;rw [World.cell?_setCell_same _ _ _ (h j hj).1]; simp
  ·rw [World.cell?_setCell_other _ _ _ _ (by intro e'; injection e' with _ e2; exact e e2.symm),(h j hj).1]; simp [e]
 ·rw [World.frozen?_setCell]; exact (h j hj).2
theorem marks_congr {w:World} {B:Nat} {f g:Nat → Bool} (h:Marks w B f) (hfg:∀ j,f j=g j):Marks w B g:=by
 intro j hj; rw [← hfg j]; exact h j hj
theorem marks_below {w w':World} {B:Nat} {f:Nat → Bool} (h:Marks w B f) (hb:Below (B+1) w w'):Marks w' B f:=by
 intro j hj;exact ⟨(hb.cell (p:=⟨B,j,none⟩) (Nat.lt_succ_self B)).trans (h j hj).1,(hb.frozen (p:=⟨B,j,none⟩) (Nat.lt_succ_self B)).trans (h j hj).2⟩
def inK (l:List UInt8) (j:Nat):Bool:=l.any fun b=>b.toNat==j
theorem inK_snoc (l:List UInt8) (b:UInt8) (j:Nat):(if j=b.toNat then true else inK l j)=inK (l++[b]) j:=by
 by_cases h:j=b.toNat
 ·simp [inK,h]
 ·have h':(b.toNat==j)=false:=by simp; exact fun e=>h e.symm
  simp [inK,h,h']
def hexd (n:Nat):UInt8:=[48,49,50,51,52,53,54,55,56,57,65,66,67,68,69,70].getD n 0
def free (kp:Nat → Bool) (b:UInt8):Bool:=isB b.toNat 16 || kp b.toNat
def esc (kp:Nat → Bool):List UInt8 → List UInt8
 | []=>[]
 | b :: r=>(if free kp b then [b] else [37,hexd (b.toNat / 16),hexd (b.toNat % 16)])++esc kp r
def kpF (keep:List UInt8) (j:Nat):Bool:=if j=37 then false else inK keep j
theorem esc_append (kp:Nat → Bool) (a b:List UInt8):esc kp (a++b)=esc kp a++esc kp b:=by
 induction a with
 | nil=>rfl
 | cons x r ih=>simp only [List.cons_append,esc,ih,List.append_assoc]
theorem esc_len (kp:Nat → Bool) (l:List UInt8):(esc kp l).length≤3 * l.length:=by
 induction l with
 | nil=>simp [esc]
 | cons x r ih=>simp only [esc,List.length_append,List.length_cons]; split <;> simp <;> omega
theorem esc_cells1 (kp:Nat → Bool) (l:List UInt8) (b:UInt8) (h:free kp b=true):Lib.byteCells (esc kp l)++Lib.byteCells [b]=Lib.byteCells (esc kp (l++[b])):=by
 rw [← Lib.byteCells_append]; simp [esc_append,esc,h]
theorem esc_cells3 (kp:Nat → Bool) (l:List UInt8) (b:UInt8) (h:free kp b=false) :
  Lib.byteCells (esc kp l)++Lib.byteCells [37,hexd (b.toNat / 16),hexd (b.toNat % 16)]=Lib.byteCells (esc kp (l++[b])):=by
 rw [← Lib.byteCells_append]; simp [esc_append,esc,h]
theorem esc_cells_len (kp:Nat → Bool) (l:List UInt8):(Lib.byteCells (esc kp l)).length≤3 * l.length:=by
 rw [Lib.byteCells_length]; exact esc_len kp l
theorem hexi (i:Int) (n:Nat) (hi:i.toNat=n) (h:i.toNat < 16):(((ByteArray.mk #[48,49,50,51,52,53,54,55,56,57,65,66,67,68,69,70])[i.toNat]'h).toNat:Int)=((hexd n).toNat:Int):=by
 subst hi;have hh:∀ n:Fin 16,(((ByteArray.mk #[48,49,50,51,52,53,54,55,56,57,65,66,67,68,69,70])[n.val]'n.isLt).toNat:Int)=((hexd n.val).toNat:Int):=by decide +kernel
 exact hh ⟨i.toNat,h⟩
theorem three_new (w:World) (e:TypeId) (x y z:Value) (l:List Value) (hl:l=[x,y,z]) :
  ∀ (j:Nat) (u:Value),l[j]? = some u → (w.alloc (.cells #[x,y,z] e)).drew.cell? ((⟨w.heap.size,0,none⟩:Addr).add j)=some u:=by
 subst hl;intro j u hj;rw [show (w.alloc (.cells #[x,y,z] e)).drew.cell? = (w.alloc (.cells #[x,y,z] e)).cell? from rfl]
 match j,hj with
 | 0,hj=>simp at hj; subst hj; simp [Addr.add]
 | 1,hj=>simp at hj; subst hj; simp [Addr.add]
 | 2,hj=>simp at hj; subst hj; simp [Addr.add]
theorem and15 (b:UInt8):bits BinOp.and IntKind.u8 (b.toNat:Int) 15=(b.toNat:Int) % 16:=by
 have h:∀ n:Fin 256,bits BinOp.and IntKind.u8 (n.val:Int) 15=(n.val:Int) % 16:=by decide +kernel
 exact h ⟨b.toNat,b.toNat_lt⟩
set_option maxHeartbeats 1000000 in
theorem escape_any (s keep:ByteArray) (w:World) (hs:3 * s.size≤140737488355328) (hk:keep.size≤9223372036854775807) :
  Calls Tryz.prog 123 #[.string s,.string keep] w fun e w'=>e=.returned (.string ⟨(esc (kpF keep.data.toList) s.data.toList).toArray⟩)∧Below w.heap.size w w':=by
 have hz52:=zero52;obtain ⟨i0,hi,hz0,hz1,hz2⟩:=info_parts info5
 go_enter Tryz.func123,Tryz.ntmps123
 go_wp2;clear hz52;have hm0:=marks0 w
 go_loopw [12] (fun i wr=>∃ k:Nat,k≤keep.size∧i=.int .i64 k∧Hid (Marks wr w.heap.size (inK (keep.data.toList.take k)))∧Below w.heap.size w wr∧w.heap.size+1≤wr.heap.size) (fun i _=>keep.size - (intOf i).toNat)
 case atStart=>exact ⟨0,Nat.zero_le _,rfl,hm0,(Below.refl _ _).alloc (Nat.le_refl _) _,by simp⟩
 case round =>
  obtain ⟨k,hk',rfl,hm,hb,hB⟩:=hrel;by_cases hlt:k < keep.size
  ·have hbd:=u8_bd keep[k];have hc:=(hm.out keep[k].toNat keep[k].toNat_lt).1;have hf:=(hm.out keep[k].toNat keep[k].toNat_lt).2
   have hm':Hid (Marks (wr.setCell ⟨w.heap.size,keep[k].toNat,none⟩ (.bool true)) w.heap.size (inK (keep.data.toList.take (k+1)))):=by
    rw [take_snoc keep k hlt];exact marks_congr (marks_set hm.out keep[k].toNat keep[k].toNat_lt true) (inK_snoc _ _)
   go_wp2;go_roundw
   case rel=>exact ⟨k+1,by omega,by go_num,hm',hb.setCell (Nat.le_refl _) _,by simpa using hB⟩
   case measure=>simp [intOf]; omega
  ·rw [take_all keep k (by omega)] at hm;have hc:=(hm.out 37 (by omega)).1;have hf:=(hm.out 37 (by omega)).2;have hm2:Hid (Marks (wr.setCell ⟨w.heap.size,37,none⟩ (.bool false)) w.heap.size (kpF keep.data.toList)):=marks_set hm.out 37 (by omega) false;have hb2:Below w.heap.size w (wr.setCell ⟨w.heap.size,37,none⟩ (.bool false)):=hb.setCell (Nat.le_refl _) _;have hB2:w.heap.size+1≤(wr.setCell ⟨w.heap.size,37,none⟩ (.bool false)).heap.size:=by simpa using hB
   clear hm hb hB hk' hm0;go_wp2_with (at_make; refine wp_make _ rfl _ _ 124 rfl (w.heap.size+1) 5 i0 (.int .u8 0) Tryz.underlying124 hi hz0 hz1 .i64 .i64 _ s.size rfl rfl (by omega) (by rw [hz2]; omega) (by unfold maxLen; omega) _ (Below.refl _ _) hB2 ?_; intro v0 w1 hown1 hb1 hB1)
   have hm1:Hid (Marks w1 w.heap.size (kpF keep.data.toList)):=marks_below hm2.out hb1;have hbw:Below w.heap.size w w1:=hb2.trans (hb1.mono (by omega));clear hm2 hb2 hB2 hb1 hc hf
   go_loopw [7,26] (fun v i wr=>∃ k:Nat,k≤s.size∧i=.int .i64 k∧Own wr (w.heap.size+1) 5 v (Lib.byteCells (esc (kpF keep.data.toList) (s.data.toList.take k)))∧Below (w.heap.size+1) w1 wr∧w.heap.size+1≤wr.heap.size) (fun _ i _=>s.size - (intOf i).toNat)
   case atStart=>exact ⟨0,Nat.zero_le _,rfl,hown1,Below.refl _ _,hB1⟩
   case round =>
    clear hown1 hB1;obtain ⟨k,hk',rfl,hown,hb,hB⟩:=hrel;have hlen:=esc_cells_len (kpF keep.data.toList) (s.data.toList.take k);have hlk:(s.data.toList.take k).length≤k:=List.length_take_le _ _;by_cases hlt:k < s.size
    ·have hbd:=u8_bd s[k];have hcell:=((marks_below hm1.out hb) s[k].toNat s[k].toNat_lt).1;by_cases hfree:free (kpF keep.data.toList) s[k]=true
     ·have hcs:=esc_cells1 (kpF keep.data.toList) (s.data.toList.take k) s[k] hfree;rw [← take_snoc s k hlt] at hcs;have HC:Hid _:=hcs; clear hcs
      have HF:Hid _:=hfree; clear hfree
      by_cases hpl:isB s[k].toNat 16=true
      ·go_wp2_with (first
        | (go_at_call 93; refine (is_any _ _ _ hbd.1 hbd.2).mono ?_; rintro e w' ⟨rfl,rfl⟩)
        | (at_builtin; refine wp_app _ rfl (.tmp 39) (.tmp 41) 124 rfl (w.heap.size+1) 5 i0 (.int .u8 0) 1 Tryz.underlying124 hi hz0 hz1 hz2 rfl _ _ rfl (hown.alloc _) ⟨_,0,none⟩ 1 1 (Lib.byteCells [s[k]]) rfl rfl (by exact one_new _ _ _) (byteCells_one _) (by unfold maxLen; omega) (by omega) w1 (hb.alloc hB _) (by simp; omega) ?_; intro v3 w3 hown3 hb3 hB3))
       rw [HC.out] at hown3;go_roundw
       case rel=>exact ⟨k+1,by omega,by go_num,hown3,hb3,hB3⟩
       case measure=>simp [intOf]; omega
      ·have hpl':isB s[k].toNat 16=false:=by simpa using hpl
       have hkp:kpF keep.data.toList s[k].toNat=true:=by have:=HF.out; rw [free,hpl'] at this; simpa using this
       rw [hkp] at hcell;have HK:Hid _:=hkp; clear hkp hpl
       go_wp2_with (first
        | (go_at_call 93; refine (is_any _ _ _ hbd.1 hbd.2).mono ?_; rintro e w' ⟨rfl,rfl⟩)
        | (at_builtin; refine wp_app _ rfl (.tmp 39) (.tmp 41) 124 rfl (w.heap.size+1) 5 i0 (.int .u8 0) 1 Tryz.underlying124 hi hz0 hz1 hz2 rfl _ _ rfl (hown.alloc _) ⟨_,0,none⟩ 1 1 (Lib.byteCells [s[k]]) rfl rfl (by exact one_new _ _ _) (byteCells_one _) (by unfold maxLen; omega) (by omega) w1 (hb.alloc hB _) (by simp; omega) ?_; intro v3 w3 hown3 hb3 hB3))
       rw [HC.out] at hown3;go_roundw
       case rel=>exact ⟨k+1,by omega,by go_num,hown3,hb3,hB3⟩
       case measure=>simp [intOf]; omega
     ·have hfree':free (kpF keep.data.toList) s[k]=false:=by simpa using hfree
      have hcs:=esc_cells3 (kpF keep.data.toList) (s.data.toList.take k) s[k] hfree';rw [← take_snoc s k hlt] at hcs;have HC:Hid _:=hcs; clear hcs
      have hpl:isB s[k].toNat 16=false:=by rw [free] at hfree'; simp at hfree'; exact hfree'.1
      have hkp:kpF keep.data.toList s[k].toNat=false:=by rw [free] at hfree'; simp at hfree'; exact hfree'.2
      rw [hkp] at hcell;clear hkp hfree hfree'
      go_wp2_with (first
        | (go_at_call 93; refine (is_any _ _ _ hbd.1 hbd.2).mono ?_; rintro e w' ⟨rfl,rfl⟩))
      have hA:(0:Int)≤(s[k].toNat:Int) / 16:=by omega
      have hB':(s[k].toNat:Int) / 16 < 16:=by omega
      have hC:bits BinOp.and IntKind.u8 (s[k].toNat:Int) 15=(s[k].toNat:Int) % 16:=and15 _;have hD:(0:Int)≤(s[k].toNat:Int) % 16:=by omega
      have hE:(s[k].toNat:Int) % 16 < 16:=by omega
      go_region_law (refine step_app rfl (.tmp 43) (.tmp 50) 124 rfl (w.heap.size+1) 5 i0 (.int .u8 0) 1 Tryz.underlying124 hi hz0 hz1 hz2 rfl _ _ rfl (by exact (hown.alloc _).drew) ⟨_,0,none⟩ 3 3 (Lib.byteCells [37,hexd (s[k].toNat / 16),hexd (s[k].toNat % 16)]) rfl rfl (by refine three_new _ _ _ _ _ _ ?_; simp only [Lib.byteCells,List.map_cons,List.map_nil]; rw [hexi _ (s[k].toNat / 16) (by omega),hexi _ (s[k].toNat % 16) (by omega)]; rfl) (byteCells_one _) (by unfold maxLen; omega) (by omega) w1 (by exact (hb.alloc hB _).drew) (by simp; omega) ?_; intro v3 w3 hown3 hb3 hB3)
      all_goals
       rw [HC.out] at hown3;go_wp2;go_roundw
       case rel=>exact ⟨k+1,by omega,by go_num,hown3,hb3,hB3⟩
       case measure=>simp [intOf]; omega
    ·have hta:=take_all s k (by omega);rw [hta] at hown;clear hta hlen hlk;have hcv:=conv_own (P:=Tryz.prog) _ Tryz.underlying124 Tryz.underlying5 Tryz.underlying9 hown;go_wp2;go_ret;exact ⟨rfl,hbw.trans (hb.mono (by omega))⟩
theorem Own.drewN {w:World} {B:Nat} {e:TypeId} {v:Value} {xs:List Value} (h:Own w B e v xs) (q:Nat):Own (w.drewN q) B e v xs:=h
theorem Below.drewN {B:Nat} {a w:World} (h:Below B a w) (q:Nat):Below B a (w.drewN q):=⟨h.os,h.tape,h.output,h.size,h.block⟩
def hexv (c:Int):Int:=if 48≤c∧c≤57 then c - 48 else low c - 87
theorem isB_hex (c:Int) (h0:0≤c) (h1:c≤255):isB c 4=decide (48≤c∧c≤57∨97≤c∧c≤102∨65≤c∧c≤70):=by
 obtain ⟨n,rfl⟩:=Int.eq_ofNat_of_zero_le h0;have h:∀ n:Fin 256,isB (n.val:Int) 4=decide (48≤(n.val:Int)∧(n.val:Int)≤57∨97≤(n.val:Int)∧(n.val:Int)≤102∨65≤(n.val:Int)∧(n.val:Int)≤70):=by decide +kernel
 exact h ⟨n,by omega⟩
theorem hex_of {b:UInt8} (h:isB b.toNat 4=true):48≤(b.toNat:Int)∧(b.toNat:Int)≤57∨97≤(b.toNat:Int)∧(b.toNat:Int)≤102∨65≤(b.toNat:Int)∧(b.toNat:Int)≤70:=by
 have hb:=u8_bd b;rw [isB_hex _ hb.1 hb.2] at h
 simpa using h
theorem hexv_bd {b:UInt8} (h:isB b.toNat 4=true):0≤hexv b.toNat∧hexv b.toNat≤15:=by
 have:=hex_of h
 unfold hexv low
 repeat' split
 all_goals omega
def hxb (x y:UInt8):UInt8:=UInt8.ofNat (16 * hexv x.toNat+hexv y.toNat).toNat
theorem hxb_toNat {x y:UInt8} (hx:isB x.toNat 4=true) (hy:isB y.toNat 4=true):((hxb x y).toNat:Int)=16 * hexv x.toNat+hexv y.toNat:=by
 have h1:=hexv_bd hx;have h2:=hexv_bd hy;rw [hxb,UInt8.toNat_ofNat'];omega
set_option maxHeartbeats 400000 in
theorem hexvalue_any (b:UInt8) (w:World) (h:isB b.toNat 4=true) :
  Calls Tryz.prog 159 #[.int .u8 b.toNat] w fun e w'=>e=.returned (.int .u8 (hexv b.toNat))∧w'=w:=by
 have hbd:=u8_bd b;have hx:=hex_of h;by_cases hd:48≤(b.toNat:Int)∧(b.toNat:Int)≤57
 ·have h1:isB b.toNat 1=true:=by rw [isB_digit _ hbd.1 hbd.2]; simpa using hd
  have hv:Hid (hexv b.toNat=(b.toNat:Int) - 48):=by show _=_; rw [hexv,if_pos hd]
  obtain ⟨hd1,hd2⟩:=hd;clear h hx
  go_enter Tryz.func159,Tryz.ntmps159
  go_wp2_with (go_at_call 93; refine (is_any _ _ _ hbd.1 hbd.2).mono ?_; rintro e w' ⟨rfl,rfl⟩)
  go_ret;exact ⟨ret_int hv.out.symm,rfl⟩
 ·have h1:isB b.toNat 1=false:=by rw [isB_digit _ hbd.1 hbd.2]; simpa using hd
  have hl:97≤low b.toNat∧low b.toNat≤102:=by unfold low; split <;> omega
  have hv:Hid (hexv b.toNat=low b.toNat - 97+10):=by show _=_; rw [hexv,if_neg hd]; omega
  obtain ⟨hl1,hl2⟩:=hl;clear h hx hd
  go_enter Tryz.func159,Tryz.ntmps159
  go_wp2_with (first
   | (go_at_call 93; refine (is_any _ _ _ hbd.1 hbd.2).mono ?_; rintro e w' ⟨rfl,rfl⟩)
   | (go_at_call 115; refine (lower_any _ _ hbd.1 hbd.2).mono ?_; rintro e w' ⟨rfl,rfl⟩))
  go_ret;exact ⟨ret_int hv.out.symm,rfl⟩
def une:List UInt8 → Option (List UInt8)
 | []=>some []
 | [b]=>if (b.toNat:Int)=37 then none else some [b]
 | [b,x]=>if (b.toNat:Int)=37 then none else (une [x]).map (b :: ·)
 | b :: x :: y :: r=>if (b.toNat:Int)=37 then (if isB x.toNat 4 && isB y.toNat 4 then (une r).map (hxb x y :: ·) else none) else (une (x :: y :: r)).map (b :: ·)
theorem une_plain {b:UInt8} {r:List UInt8} (h:(b.toNat:Int) ≠ 37):une (b :: r)=(une r).map (b :: ·):=by
 match r with
 | []=>simp [une,h]
 | [x]=>show (if (b.toNat:Int)=37 then none else (une [x]).map (b :: ·))=_; rw [if_neg h]
 | x :: y :: r=>rw [une,if_neg h]
theorem une_short {b:UInt8} {r:List UInt8} (h:(b.toNat:Int)=37) (hr:r.length < 2):une (b :: r)=none:=by
 match r,hr with
 | [],_=>simp [une,h]
 | [x],_=>rw [une,if_pos h]
 | x :: y :: r,hr=>simp at hr; omega
theorem une_hex {b x y:UInt8} {r:List UInt8} (h:(b.toNat:Int)=37) (hx:isB x.toNat 4=true) (hy:isB y.toNat 4=true):une (b :: x :: y :: r)=(une r).map (hxb x y :: ·):=by
 rw [une,if_pos h,hx,hy]; rfl
theorem une_bad {b x y:UInt8} {r:List UInt8} (h:(b.toNat:Int)=37) (hx:(isB x.toNat 4 && isB y.toNat 4)=false):une (b :: x :: y :: r)=none:=by
 rw [une,if_pos h,hx]; rfl
def unescV (l:List UInt8):List UInt8 × Int:=match une l with | some r=>(r,0) | none=>([],12)
theorem unescV_some {l r:List UInt8} (h:une l=some r):unescV l=(r,0):=by rw [unescV,h]
theorem unescV_none {l:List UInt8} (h:une l=none):unescV l=([],12):=by rw [unescV,h]
def UneAt (l acc rest:List UInt8):Prop:=une l=(une rest).map (acc++·)
theorem uneAt0 (l:List UInt8):UneAt l [] l:=by unfold UneAt; cases une l <;> simp
theorem uneAt_end {l acc:List UInt8} (h:UneAt l acc []):une l=some acc:=by rw [h]; simp [une]
theorem uneAt_plain {l acc:List UInt8} {b:UInt8} {r:List UInt8} (h:UneAt l acc (b :: r)) (hb:(b.toNat:Int) ≠ 37):UneAt l (acc++[b]) r:=by
 unfold UneAt at *;rw [h,une_plain hb]; exact map_snoc acc b (une r)
theorem uneAt_hex {l acc:List UInt8} {b x y:UInt8} {r:List UInt8} (h:UneAt l acc (b :: x :: y :: r)) (hb:(b.toNat:Int)=37) (hx:isB x.toNat 4=true) (hy:isB y.toNat 4=true):UneAt l (acc++[hxb x y]) r:=by
 unfold UneAt at *;rw [h,une_hex hb hx hy]; exact map_snoc acc _ (une r)
theorem uneAt_short {l acc:List UInt8} {b:UInt8} {r:List UInt8} (h:UneAt l acc (b :: r)) (hb:(b.toNat:Int)=37) (hr:r.length < 2):une l=none:=by
 unfold UneAt at h;rw [h,une_short hb hr]; rfl
theorem uneAt_bad {l acc:List UInt8} {b x y:UInt8} {r:List UInt8} (h:UneAt l acc (b :: x :: y :: r)) (hb:(b.toNat:Int)=37) (hx:(isB x.toNat 4 && isB y.toNat 4)=false):une l=none:=by
 unfold UneAt at h;rw [h,une_bad hb hx]; rfl
theorem or_hex {x y:UInt8} (hx:isB x.toNat 4=true) (hy:isB y.toNat 4=true):bits BinOp.or IntKind.u8 (hexv x.toNat * 16 % 256) (hexv y.toNat)=((hxb x y).toNat:Int):=by
 rw [hxb_toNat hx hy];have h1:=hexv_bd hx;have h2:=hexv_bd hy;obtain ⟨m,hm⟩:=Int.eq_ofNat_of_zero_le h1.1;obtain ⟨n,hn⟩:=Int.eq_ofNat_of_zero_le h2.1;rw [hm,hn];have h:∀ m n:Fin 16,bits BinOp.or IntKind.u8 ((m.val:Int) * 16 % 256) (n.val:Int)=16 * (m.val:Int)+(n.val:Int):=by decide +kernel
 exact h ⟨m,by omega⟩ ⟨n,by omega⟩
theorem all2 (s:ByteArray) (k:Nat) (h:k+2 < s.size) (c:Int):allB c (s.extract (k+1) (k+3)).data.toList=(isB s[k+1].toNat c && isB s[k+2].toNat c):=by
 have e:(s.extract (k+1) (k+3)).data.toList=[s[k+1],s[k+2]]:=by
  rw [ext_list,show k+3 - (k+1)=2 by omega,drop_cons s (k+1) (by omega),drop_cons s (k+1+1) (by omega)]
  rfl
 rw [e,allB]; simp
theorem all_hex2 (s:ByteArray) (k:Nat) (h:k+2 < s.size) (hs:s.size≤maxLen) (w:World) (b:Bool) (hb:(isB s[k+1].toNat 4 && isB s[k+2].toNat 4)=b) :
  Calls Tryz.prog 73 #[.string (s.extract (k+1) (k+3)),.int .i64 4] w fun e w'=>e=.returned (.bool b)∧w'=w:=by
 have:=all_any (s.extract (k+1) (k+3)) 4 w (by rw [ByteArray.size_extract]; omega)
 rw [all2 s k h,hb] at this;exact this
end Go.Proofs.YtbmjodlbkgblpaaGreatDoor
