/-
  OpenReq, FShelf, FCutL, FStr, FVis, FLong, RLong, FCheck, FFirst, FPieces.
-/
import Derived.Test.YtiogedceommcoaaGreatDoorK13
import Derived.Shelf.Small.Utf8
import Derived.Shelf.Small.Strs
import Derived.Shelf.Strings.Search1
import Derived.Shelf.Strings.Search2
import Derived.Shelf.Strings.Search3
import Derived.Shelf.Strings.Cut
import Derived.Shelf.Strings.Count
import Derived.Shelf.Strings.Prefix
import Derived.Shelf.Strings.Split
import Derived.Test.YtiogedceommcoaaGreatDoorProg
import Derived.Lib.SplitLaws
set_option linter.unusedVariables false
set_option linter.unusedSimpArgs false
set_option maxRecDepth 20000
namespace Go.Proofs.YtiogedceommcoaaGreatDoor
open Go.RowKit Sc
theorem infoR:(Tryz.prog.info? 37).map (·.size)=some 38:=by kernel_rfl
end Go.Proofs.YtiogedceommcoaaGreatDoor
namespace Go.Proofs.YtiogedceommcoaaGreatDoor
open Go.Shelf
def lays99_ren:Go.Shelf.Ren:=⟨fun | 99=>111 | 206=>154 | n=>n,fun | 9=>9 | 4=>4 | 3=>3 | n=>n,fun | n=>n⟩
theorem lays99:Go.Proofs.Lays.n99 Tryz.prog lays99_ren:={
 mixed:=by kernel_rfl
 f99:=Tryz.func111.trans (congrArg some (by kernel_rfl))
 f206:=Tryz.func154.trans (congrArg some (by kernel_rfl))
 t3:=Tryz.underlying3
 a3:=Tryz.isAgg3
 z3:=Tryz.sizeOf3
 v3:=Tryz.zeroValue3
 t4:=Tryz.underlying4
 a4:=Tryz.isAgg4
 z4:=Tryz.sizeOf4
 v4:=Tryz.zeroValue4
 t9:=Tryz.underlying9
 a9:=Tryz.isAgg9
 z9:=Tryz.sizeOf9
 v9:=Tryz.zeroValue9 }
open Go.RowKit Go.Lib in
theorem sh_HasPrefix (s p:ByteArray) (w:World) :
  Calls Tryz.prog 111 #[.string s,.string p] w fun e w'=>e=.returned (.bool (Lib.hasPrefix s.data.toList p.data.toList))∧w'=w:=Any.strings_HasPrefix lays99 s p w
end Go.Proofs.YtiogedceommcoaaGreatDoor
namespace Go.Proofs.YtiogedceommcoaaGreatDoor
open Go.RowKit Sc
def sumL (l:List (List UInt8)):Nat:=(l.map fun t=>t.length+3).sum
theorem sumL_app (a b:List (List UInt8)):sumL (a++b)=sumL a+sumL b:=by simp [sumL]
theorem push_sum (l:List (List UInt8)) (t:List UInt8):sumL (pushL l t)≤sumL l+(t.length+3)∧(pushL l t).length≤l.length+1∧l.length≤(pushL l t).length:=by
 by_cases h:2≤l.length∧t.head?.any blk=true
 ·rw [push_fold h.1 h.2];obtain ⟨a,b,rfl⟩:∃ a b,l=a++[b]:=⟨l.dropLast,l.getLast (by intro e; simp [e] at h),(List.dropLast_concat_getLast _).symm⟩
  have ht:(trimL t).length≤t.length:=by
   unfold trimL;rw [List.length_reverse];refine Nat.le_trans (List.dropWhile_sublist _).length_le ?_
   rw [List.length_reverse];exact (List.dropWhile_sublist _).length_le
  simp only [List.dropLast_concat,List.getLastD_concat,sumL_app,List.length_append]
  simp [sumL]; omega
 ·rw [push_new h,sumL_app]
  simp [sumL]
theorem sumL_mem:∀ (l:List (List UInt8)),∀ t ∈ l,t.length≤sumL l
 | [],t,h=>by simp at h
 | x :: l,t,h=>by
  have e:sumL (x :: l)=x.length+3+sumL l:=by simp [sumL]
  rw [e]
  rcases List.mem_cons.1 h with rfl | h
  ·omega
  ·have:=sumL_mem l t h; omega
theorem sumL_is (l:List (List UInt8)):sumL l=(l.map (fun t=>t.length)).sum+3 * l.length:=by
 induction l with
 | nil=>rfl
 | cons x l ih=>simp [sumL] at ih ⊢; omega
def TxtsAt (w:World) (a:Addr) (ps:List (List UInt8)):Prop:=∀ j (hj:j < ps.length),a.block < w.heap.size∧w.cell? (a.add j)=some (.string ⟨(ps[j]).toArray⟩)
theorem same_list (a b:List UInt8) (w:World) (ha:a.length≤140737488355328) (hb:b.length≤140737488355328) :
  Calls Tryz.prog 180 #[.string ⟨a.toArray⟩,.string ⟨b.toArray⟩] w fun e w'=>e=.returned (.bool (sameB a b))∧Below w.heap.size w w' :=
 same_any ⟨a.toArray⟩ ⟨b.toArray⟩ w (by rw [size_list]; omega) (by rw [size_list]; omega)
theorem clone_list (l:List UInt8) (w:World) (h:l.length≤140737488355328) :
  Calls Tryz.prog 26 #[.string ⟨l.toArray⟩] w fun e w'=>e=.returned (.string ⟨l.toArray⟩)∧Below w.heap.size w w':=sclone_any ⟨l.toArray⟩ w (by rw [size_list]; omega)
theorem refnum_list (l:List UInt8) (most:Int) (w:World) (h:l.length≤140737488355328) (h0:0≤most) (h1:most≤1000000) :
  Calls Tryz.prog 60 #[.string ⟨l.toArray⟩,.int .i64 most] w fun e w'=>e=.returned (.tuple #[.int .i64 (numV most l).1,.int .i64 (numV most l).2])∧w'=w:=refnumber_any ⟨l.toArray⟩ most w (by rw [size_list]; unfold maxLen; omega) (by omega) (by omega)
theorem vis_snoc (l:List UInt8) (b:UInt8):visB (l++[b])=(visB l && visc b):=by simp [visB]
theorem vis_bad {s:ByteArray} {k:Nat} (h:k < s.size) (hb:visc s[k]=false):visB s.data.toList=false:=by
 unfold visB;rw [List.all_eq_false];exact ⟨s[k],by rw [split_at s k h]; simp,by rw [hb]; simp⟩
theorem visc_is (b:UInt8):visc b=!((decide (b.toNat < 32) && b != 9) || b==127):=rfl
set_option maxHeartbeats 400000 in
theorem rvisible_any (s:ByteArray) (w:World) (hs:s.size≤140737488355328) :
  Calls Tryz.prog 58 #[.string s] w fun e w'=>e=.returned (.bool (visB s.data.toList))∧w'=w:=by
 go_enter Tryz.func58,Tryz.ntmps58
 go_wp2
 go_loop [3] (fun i=>∃ k:Nat,k≤s.size∧i=.int .i64 k∧Hid (visB (s.data.toList.take k)=true)) (fun i=>s.size - (intOf i).toNat)
 case atStart=>exact ⟨0,Nat.zero_le _,rfl,hid (by simp [visB])⟩
 case round =>
  obtain ⟨k,hk,rfl,hv⟩:=hrel;by_cases hlt:k < s.size
  ·have hgood:Hid (visc s[k]=true → visB (s.data.toList.take (k+1))=true):=fun h=>by rw [take_snoc s k hlt,vis_snoc,hv.out,h]; rfl
   have hbad:=hid (@vis_bad s k hlt);have hbd:=u8_bd s[k];have hvis:=hid (visc_is s[k]);clear hv;by_cases h32:s[k].toNat < 32
   ·have h32':(s[k].toNat:Int) < 32:=by omega
    by_cases h9:s[k]=9
    ·have e9:((s[k].toNat:Int) != 9)=false:=by rw [h9]; rfl
     have e127:((s[k].toNat:Int)==127)=false:=by rw [h9]; rfl
     have hnx:=hid (hgood.out (by rw [hvis.out,h9]; decide));clear hgood hbad hvis h9;go_wp2
     go_round
     case rel=>exact ⟨k+1,by omega,by go_num,hnx⟩
     case measure=>simp [intOf]; omega
    ·have e9:((s[k].toNat:Int) != 9)=true:=by rw [bne,show ((s[k].toNat:Int)==9)=false from u8_ne (b:=9) h9]; rfl
     have hv:Hid (visB s.data.toList=false):=hbad.out (by rw [hvis.out]; simp [h32,h9]);clear hgood hbad hvis h9;go_wp2;go_ret;exact ⟨ret_bool hv.out.symm,rfl⟩
   ·have h32':¬ ((s[k].toNat:Int) < 32):=by omega
    by_cases h127:s[k]=127
    ·have e127:((s[k].toNat:Int)==127)=true:=by rw [h127]; rfl
     have hv:Hid (visB s.data.toList=false):=hbad.out (by rw [hvis.out]; simp [h127]);clear hgood hbad hvis h127;go_wp2;go_ret;exact ⟨ret_bool hv.out.symm,rfl⟩
    ·have e127:((s[k].toNat:Int)==127)=false:=u8_ne (b:=127) h127;have hnx:=hid (hgood.out (by rw [hvis.out]; simp [h32,h127]));clear hgood hbad hvis h127;go_wp2
     go_round
     case rel=>exact ⟨k+1,by omega,by go_num,hnx⟩
     case measure=>simp [intOf]; omega
  ·have hv2:Hid (visB s.data.toList=true):=show _=_ by have:=hv.out; rw [take_all s k (by omega)] at this; exact this
   clear hv;go_wp2;go_ret;exact ⟨ret_bool hv2.out.symm,rfl⟩
theorem rvisible_list (l:List UInt8) (w:World) (h:l.length≤140737488355328) :
  Calls Tryz.prog 58 #[.string ⟨l.toArray⟩] w fun e w'=>e=.returned (.bool (visB l))∧w'=w:=rvisible_any ⟨l.toArray⟩ w (by rw [size_list]; exact h)
set_option maxHeartbeats 400000 in
theorem fvisible_any (s:ByteArray) (w:World) (hs:s.size≤140737488355328) :
  Calls Tryz.prog 199 #[.string s] w fun e w'=>e=.returned (.bool (visB s.data.toList))∧w'=w:=by
 go_enter Tryz.func199,Tryz.ntmps199
 go_wp2
 go_loop [6] (fun i=>∃ k:Nat,k≤s.size∧i=.int .i64 k∧Hid (visB (s.data.toList.take k)=true)) (fun i=>s.size - (intOf i).toNat)
 case atStart=>exact ⟨0,Nat.zero_le _,rfl,hid (by simp [visB])⟩
 case round =>
  obtain ⟨k,hk,rfl,hv⟩:=hrel;by_cases hlt:k < s.size
  ·have hgood:Hid (visc s[k]=true → visB (s.data.toList.take (k+1))=true):=fun h=>by rw [take_snoc s k hlt,vis_snoc,hv.out,h]; rfl
   have hbad:=hid (@vis_bad s k hlt);have hbd:=u8_bd s[k];have hvis:=hid (visc_is s[k]);clear hv;by_cases h32:s[k].toNat < 32
   ·have h32':(s[k].toNat:Int) < 32:=by omega
    by_cases h9:s[k]=9
    ·have e9:((s[k].toNat:Int) != 9)=false:=by rw [h9]; rfl
     have e127:((s[k].toNat:Int)==127)=false:=by rw [h9]; rfl
     have hnx:=hid (hgood.out (by rw [hvis.out,h9]; decide));clear hgood hbad hvis h9;go_wp2
     go_round
     case rel=>exact ⟨k+1,by omega,by go_num,hnx⟩
     case measure=>simp [intOf]; omega
    ·have e9:((s[k].toNat:Int) != 9)=true:=by rw [bne,show ((s[k].toNat:Int)==9)=false from u8_ne (b:=9) h9]; rfl
     have hv:Hid (visB s.data.toList=false):=hbad.out (by rw [hvis.out]; simp [h32,h9]);clear hgood hbad hvis h9;go_wp2;go_ret;exact ⟨ret_bool hv.out.symm,rfl⟩
   ·have h32':¬ ((s[k].toNat:Int) < 32):=by omega
    by_cases h127:s[k]=127
    ·have e127:((s[k].toNat:Int)==127)=true:=by rw [h127]; rfl
     have hv:Hid (visB s.data.toList=false):=hbad.out (by rw [hvis.out]; simp [h127]);clear hgood hbad hvis h127;go_wp2;go_ret;exact ⟨ret_bool hv.out.symm,rfl⟩
    ·have e127:((s[k].toNat:Int)==127)=false:=u8_ne (b:=127) h127;have hnx:=hid (hgood.out (by rw [hvis.out]; simp [h32,h127]));clear hgood hbad hvis h127;go_wp2
     go_round
     case rel=>exact ⟨k+1,by omega,by go_num,hnx⟩
     case measure=>simp [intOf]; omega
  ·have hv2:Hid (visB s.data.toList=true):=show _=_ by have:=hv.out; rw [take_all s k (by omega)] at this; exact this
   clear hv;go_wp2;go_ret;exact ⟨ret_bool hv2.out.symm,rfl⟩
theorem fvisible_list (l:List UInt8) (w:World) (h:l.length≤140737488355328) :
  Calls Tryz.prog 199 #[.string ⟨l.toArray⟩] w fun e w'=>e=.returned (.bool (visB l))∧w'=w:=fvisible_any ⟨l.toArray⟩ w (by rw [size_list]; exact h)
set_option maxHeartbeats 400000 in
theorem rvalue_list (l:List UInt8) (w:World) (h:l.length≤140737488355328) :
  Calls Tryz.prog 149 #[.string ⟨l.toArray⟩] w fun e w'=>e=.returned (.bool (valB l))∧w'=w:=by
 have KV:=hid (fun w'=>rvisible_list l w' h);have KT:=hid (fun w'=>reftrim_list l w' (by omega));have hv:valB l=(visB l && trimL l==l):=rfl;generalize valB l=r at hv ⊢
 cases hb:visB l with
 | false =>
  rw [hb] at KV hv;have HV:Hid (r=false):=hv;clear hv hb
  go_enter Tryz.func149,Tryz.ntmps149
  go_wp2_with fail
  refine (KV.out _).mono ?_
  rintro e w ⟨rfl,rfl⟩;go_wp2;go_ret;exact ⟨ret_bool HV.out.symm,rfl⟩
 | true =>
  rw [hb] at KV hv;have HV:Hid (r=(trimL l==l)):=hv;clear hv hb;generalize trimL l=t at KT HV
  go_enter Tryz.func149,Tryz.ntmps149
  go_wp2_with fail
  refine (KV.out _).mono ?_
  rintro e w ⟨rfl,rfl⟩;go_wp2_with fail
  refine (KT.out _).mono ?_
  rintro e w ⟨rfl,rfl⟩;go_wp2;go_ret;exact ⟨ret_bool (by rw [HV.out]),rfl⟩
set_option maxHeartbeats 400000 in
theorem fvalue_list (l:List UInt8) (w:World) (h:l.length≤140737488355328) :
  Calls Tryz.prog 174 #[.string ⟨l.toArray⟩] w fun e w'=>e=.returned (.bool (valB l))∧Below w.heap.size w w':=by
 have KV:=hid (fun w'=>fvisible_list l w' h);have KT:=hid (fun w'=>trim_list l w' (by omega));have hv:valB l=(visB l && trimL l==l):=rfl;generalize valB l=r at hv ⊢
 cases hb:visB l with
 | false =>
  rw [hb] at KV hv;have HV:Hid (r=false):=hv;clear hv hb
  go_enter Tryz.func174,Tryz.ntmps174
  go_wp2_with fail
  refine (KV.out _).mono ?_
  rintro e w ⟨rfl,rfl⟩;go_wp2;go_ret;exact ⟨ret_bool HV.out.symm,Below.refl _ _⟩
 | true =>
  rw [hb] at KV hv;have HV:Hid (r=(trimL l==l)):=hv;clear hv hb;generalize trimL l=t at KT HV
  go_enter Tryz.func174,Tryz.ntmps174
  go_wp2_with fail
  refine (KV.out _).mono ?_
  rintro e w ⟨rfl,rfl⟩;go_wp2_with fail
  refine (KT.out _).mono ?_
  rintro e w1 ⟨rfl,hw1⟩;go_wp2;go_ret;exact ⟨ret_bool (by rw [HV.out]),hw1⟩
theorem rlength_list (l:List UInt8) (w:World) (h:l.length≤140737488355328) :
  Calls Tryz.prog 59 #[.string ⟨l.toArray⟩] w fun e w'=>e=.returned (.bool (lengthB l))∧Below w.heap.size w w':=by
 have K:=hid (fun w'=>refsame_list l lengthK w' h (by decide));have hv:lengthB l=sameB l lengthK:=rfl;rw [← hv] at K
 go_enter Tryz.func59,Tryz.ntmps59
 go_wp2_with fail
 refine (K.out _).mono ?_
 rintro e w1 ⟨rfl,hw1⟩;go_wp2;go_ret;exact ⟨rfl,hw1⟩
theorem flength_list (l:List UInt8) (w:World) (h:l.length≤140737488355328) :
  Calls Tryz.prog 177 #[.string ⟨l.toArray⟩] w fun e w'=>e=.returned (.bool (lengthB l))∧Below w.heap.size w w':=by
 have K:=hid (fun w'=>same_list l lengthK w' h (by decide));have hv:lengthB l=sameB l lengthK:=rfl;rw [← hv] at K
 go_enter Tryz.func177,Tryz.ntmps177
 go_wp2_with fail
 refine (K.out _).mono ?_
 rintro e w1 ⟨rfl,hw1⟩;go_wp2;go_ret;exact ⟨rfl,hw1⟩
def tgtB (l:List UInt8):Bool:=!l.isEmpty && (visB l && !blkB l)
set_option maxHeartbeats 400000 in
theorem ftarget_list (l:List UInt8) (w:World) (h:l.length≤140737488355328) :
  Calls Tryz.prog 175 #[.string ⟨l.toArray⟩] w fun e w'=>e=.returned (.bool (tgtB l))∧Below w.heap.size w w':=by
 have KV:=hid (fun w'=>fvisible_list l w' h);have KC:=hid (fun w'=>bcontainsAny_any l w' h);have hv:tgtB l=(!l.isEmpty && (visB l && !blkB l)):=rfl;generalize tgtB l=r at hv ⊢;generalize blkB l=k at KC hv
 cases he:l.isEmpty with
 | true =>
  have HV:Hid (r=false):=show _=_ by rw [hv,he]; rfl
  clear hv KV KC
  go_enter Tryz.func175,Tryz.ntmps175
  go_wp2;go_ret;exact ⟨ret_bool HV.out.symm,Below.refl _ _⟩
 | false =>
  cases hb:visB l with
  | false =>
   rw [hb] at KV;have HV:Hid (r=false):=show _=_ by rw [hv,hb,he]; rfl
   clear hv hb KC
   go_enter Tryz.func175,Tryz.ntmps175
   go_wp2_with fail
   refine (KV.out _).mono ?_
   rintro e w ⟨rfl,rfl⟩;go_wp2;go_ret;exact ⟨ret_bool HV.out.symm,Below.refl _ _⟩
  | true =>
   rw [hb] at KV;have HV:Hid (r=!k):=show _=_ by rw [hv,hb,he]; simp
   clear hv hb
   go_enter Tryz.func175,Tryz.ntmps175
   go_wp2_with fail
   refine (KV.out _).mono ?_
   rintro e w ⟨rfl,rfl⟩;go_wp2_with fail
   refine (KC.out _).mono ?_
   rintro e w1 ⟨rfl,hw1⟩;go_wp2;go_ret;exact ⟨ret_bool (by rw [HV.out]),hw1⟩
theorem behind_drop {l:List UInt8} {b:UInt8} (h:blk b=true):behindL (l++[b])=behindL l:=by
 unfold behindL; simp [h]
theorem behind_stop {l:List UInt8} {b:UInt8} (h:blk b=false):behindL (l++[b])=l++[b]:=by
 unfold behindL; simp [h]
theorem last_split (t:ByteArray) (h:0 < t.size):t.data.toList=(t.extract 0 (t.size - 1)).data.toList++[t[t.size - 1]]:=by
 have:=take_snoc t (t.size - 1) (by omega)
 rw [show t.size - 1+1=t.size by omega,take_all t t.size (Nat.le_refl _)] at this;rw [Lib.extract_from_zero,← this]
def strSize:Value → Nat | .string t=>t.size | _=>0
theorem ret_data {t:ByteArray} {l:List UInt8} (h:t.data.toList=l):Ending.returned (.string t)=.returned (.string ⟨l.toArray⟩):=by
 rw [← h]
set_option maxHeartbeats 400000 in
theorem rbehind_any (s:ByteArray) (w:World) (hs:s.size≤140737488355328) :
  Calls Tryz.prog 56 #[.string s] w fun e w'=>e=.returned (.string ⟨(behindL s.data.toList).toArray⟩)∧w'=w:=by
 go_enter Tryz.func56,Tryz.ntmps56
 go_wp2
 go_loop [0] (fun x=>∃ t:ByteArray,x=.string t∧t.size≤s.size∧Hid (behindL s.data.toList=behindL t.data.toList)) (fun x=>strSize x)
 case atStart=>exact ⟨s,rfl,Nat.le_refl _,hid rfl⟩
 case round =>
  obtain ⟨t,rfl,hts,hv⟩:=hrel;by_cases h0:0 < t.size
  ·have hl:=last_split t h0;have hbd:=u8_bd t[t.size - 1];have ht1:((t.size:Int) - 1).toNat=t.size - 1:=by omega
   have HZ:Hid ((t.extract 0 (t.size - 1)).size=t.size - 1):=show _=_ by rw [ByteArray.size_extract]; omega
   by_cases hb:blk t[t.size - 1]=true
   ·have hb':(cls t[t.size - 1].toNat==32)=true:=by rw [← blk_cls]; exact hb
    have hnx:Hid (behindL s.data.toList=behindL (t.extract 0 (t.size - 1)).data.toList):=show _=_ by rw [hv.out,hl,behind_drop hb]
    clear hl hb hv;go_wp2_with (go_at_call 77; refine (refclass_any _ _ hbd.1 hbd.2).mono ?_; rintro e w' ⟨rfl,rfl⟩)
    go_round
    case rel=>exact ⟨t.extract 0 (t.size - 1),rfl,by rw [HZ.out]; omega,hnx⟩
    case measure=>show (t.extract 0 (t.size - 1)).size < t.size; rw [HZ.out]; omega
   ·have hb':(cls t[t.size - 1].toNat==32)=false:=by rw [← blk_cls]; simpa using hb
    have hE:Hid (t.data.toList=behindL s.data.toList):=show _=_ by rw [hv.out,hl,behind_stop (by simpa using hb)]
    clear hl hb hv;go_wp2_with (go_at_call 77; refine (refclass_any _ _ hbd.1 hbd.2).mono ?_; rintro e w' ⟨rfl,rfl⟩)
    go_ret;exact ⟨ret_data hE.out,rfl⟩
  ·have hE:Hid (t.data.toList=behindL s.data.toList):=show _=_ by
    have:t.data.toList=[]:=List.eq_nil_of_length_eq_zero (by rw [len_data]; omega)
    rw [hv.out,this]; rfl
   clear hv;go_wp2;go_ret;exact ⟨ret_data hE.out,rfl⟩
theorem rbehind_list (l:List UInt8) (w:World) (h:l.length≤140737488355328) :
  Calls Tryz.prog 56 #[.string ⟨l.toArray⟩] w fun e w'=>e=.returned (.string ⟨(behindL l).toArray⟩)∧w'=w:=rbehind_any ⟨l.toArray⟩ w (by rw [size_list]; exact h)
theorem long_cases (l:List UInt8):(∃ k,∃ h:k < longT.length,lowL l=[longT[k].1]∧longV l=longT[k].2)∨((∀ x ∈ longT,lowL l ≠ [x.1])∧longV l=l):=by
 unfold longV
 cases h:longT.find? (fun x=>lowL l==[x.1]) with
 | none =>
  right
  refine ⟨fun x hx e=>?_,rfl⟩
  have:=List.find?_eq_none.1 h x hx
  rw [e] at this; simp at this
 | some x =>
  left
  obtain ⟨k,hk,he⟩:=List.getElem_of_mem (List.mem_of_find?_eq_some h);have h2:=List.find?_some h;refine ⟨k,hk,?_,?_⟩
  ·rw [he]; simpa using h2
  ·rw [he]
theorem long_len (l:List UInt8):(longV l).length≤l.length+16:=by
 rcases long_cases l with ⟨k,hk,h1,h2⟩ | ⟨h1,h2⟩
 ·rw [h2]
  have:∀ x ∈ longT,x.2.length≤16:=by decide
  have:=this _ (List.getElem_mem hk); omega
 ·rw [h2]; omega
theorem beq_no {t:List UInt8} {b:UInt8} (h:t ≠ [b]):(t==[b])=false:=by simpa using h
set_option maxHeartbeats 2000000 in
set_option maxRecDepth 100000 in
theorem flong_list (l:List UInt8) (w:World) (h:l.length≤140737488355328) :
  Calls Tryz.prog 176 #[.string ⟨l.toArray⟩] w fun e w'=>e=.returned (.string ⟨(longV l).toArray⟩)∧Below w.heap.size w w':=by
 have KL:=hid (fun w'=>lower_list l w' (by omega));have KC:=hid (fun w'=>clone_list l w' h)
 rcases long_cases l with ⟨k,hk,h1,h2⟩ | ⟨h1,h2⟩
 ·rw [h1] at KL;rw [h2];have hk2:k < 12:=hk;clear h1 h2 KC
  rcases (show k=0∨k=1∨k=2∨k=3∨k=4∨k=5∨k=6∨k=7∨k=8∨k=9∨k=10∨k=11 by omega) with rfl | rfl | rfl | rfl | rfl | rfl | rfl | rfl | rfl | rfl | rfl | rfl
  all_goals (
   simp only [longT,List.getElem_cons_zero,List.getElem_cons_succ] at KL ⊢;clear hk hk2
   go_enter Tryz.func176,Tryz.ntmps176
   go_wp2_with fail
   refine (KL.out _).mono ?_
   rintro e w1 ⟨rfl,hw1⟩;go_wp2;go_ret;exact ⟨rfl,hw1⟩)
 ·rw [h2];have c0:=beq_no (h1 (118,[86,105,97]) (by decide));have c1:=beq_no (h1 (102,[70,114,111,109]) (by decide));have c2:=beq_no (h1 (116,[84,111]) (by decide));have c3:=beq_no (h1 (105,[67,97,108,108,45,73,68]) (by decide));have c4:=beq_no (h1 (109,[67,111,110,116,97,99,116]) (by decide));have c5:=beq_no (h1 (101,[67,111,110,116,101,110,116,45,69,110,99,111,100,105,110,103]) (by decide));have c6:=beq_no (h1 (108,[67,111,110,116,101,110,116,45,76,101,110,103,116,104]) (by decide));have c7:=beq_no (h1 (99,[67,111,110,116,101,110,116,45,84,121,112,101]) (by decide));have c8:=beq_no (h1 (115,[83,117,98,106,101,99,116]) (by decide));have c9:=beq_no (h1 (107,[83,117,112,112,111,114,116,101,100]) (by decide));have c10:=beq_no (h1 (111,[69,118,101,110,116]) (by decide));have c11:=beq_no (h1 (117,[65,108,108,111,119,45,69,118,101,110,116,115]) (by decide));clear h1 h2;generalize lowL l=t at KL c0 c1 c2 c3 c4 c5 c6 c7 c8 c9 c10 c11;simp only at c0 c1 c2 c3 c4 c5 c6 c7 c8 c9 c10 c11
  go_enter Tryz.func176,Tryz.ntmps176
  go_wp2_with fail
  refine (KL.out _).mono ?_
  rintro e w1 ⟨rfl,hw1⟩;go_wp2_with fail
  refine (KC.out _).mono ?_
  rintro e w2 ⟨rfl,hw2⟩;go_wp2;go_ret;exact ⟨rfl,hw1.trans (hw2.mono hw1.size)⟩
end Go.Proofs.YtiogedceommcoaaGreatDoor
namespace Go.Proofs.YtiogedceommcoaaGreatDoor
open Go.RowKit Go.Sort Sc
theorem followsF:Tryz.prog.follows .mixedOrders=true:=by kernel_rfl
theorem below_reF {w W:World} (h:Below w.heap.size w W) (d:Nat) (os:Array Obj):Below w.heap.size w (grow (redrawn W d) os):=h.trans ((below_regrown W d os).mono h.size)
def lettersK:ByteArray:=⟨#[118,102,116,105,109,101,108,99,115,107,111,117]⟩
theorem long_sign {k:Nat} (hk:k < longT.length):lettersK.extract k (k+1)=⟨[longT[k].1].toArray⟩:=by
 have h:∀ k:Fin 12,lettersK.extract k.val (k.val+1)=⟨[(longT[k.val]'k.isLt).1].toArray⟩:=by decide +kernel
 exact h ⟨k,hk⟩
theorem long_row {k:Nat} (hk:k < longT.length):(strs (longT.map Prod.snd))[k]? = some (.string ⟨longT[k].2.toArray⟩):=by
 simp [strs,hk]
theorem long_apart:∀ a b:Fin 12,(longT[a.val]'a.isLt).1=(longT[b.val]'b.isLt).1 → a=b:=by decide +kernel
theorem long_at {l:List UInt8} {k:Nat} (hk:k < longT.length) (h:lowL l=[longT[k].1]):longV l=longT[k].2:=by
 rcases long_cases l with ⟨j,hj,h1,h2⟩ | ⟨h1,_⟩
 ·have e:=long_apart ⟨j,hj⟩ ⟨k,hk⟩ (by rw [h] at h1; exact (List.cons.inj h1.symm).1);obtain rfl:j=k:=congrArg Fin.val e;exact h2
 ·exact absurd h (h1 _ (List.getElem_mem hk))
theorem long_none {l:List UInt8} (h:∀ j (hj:j < longT.length),lowL l ≠ [longT[j].1]):longV l=l:=by
 rcases long_cases l with ⟨j,hj,h1,h2⟩ | ⟨_,h2⟩
 ·exact absurd h1 (h j hj)
 ·exact h2
set_option maxHeartbeats 1000000 in
set_option maxRecDepth 100000 in
theorem rlong_list (l:List UInt8) (w:World) (h:l.length≤140737488355328) :
  Calls Tryz.prog 55 #[.string ⟨l.toArray⟩] w fun e w'=>e=.returned (.string ⟨(longV l).toArray⟩)∧Below w.heap.size w w':=by
 have KL:=hid (fun w'=>reflower_l l w' h);have HAT:Hid (∀ k (hk:k < longT.length),lowL l=[longT[k].1] → longV l=longT[k].2):=fun k hk h=>long_at hk h;have HNONE:Hid ((∀ j (hj:j < longT.length),lowL l ≠ [longT[j].1]) → longV l=l):=fun h=>long_none h;generalize lowL l=t at KL HAT HNONE;have HR:=hid (show RowIs (w.alloc (.cells (strs (longT.map Prod.snd)).toArray 9)) w.heap.size 9 (strs (longT.map Prod.snd)) by unfold RowIs; rw [heap_alloc_new]);have hA:=(Below.refl _ w).alloc (Nat.le_refl _) (.cells (strs (longT.map Prod.snd)).toArray 9);have hlt:=alloc_lt w (.cells (strs (longT.map Prod.snd)).toArray 9);have hz12:(ByteArray.mk #[118,102,116,105,109,101,108,99,115,107,111,117]).size=12:=rfl
 go_enter Tryz.func55,Tryz.ntmps55
 go_wp2;generalize hW:w.alloc _=W;rw [show w.alloc (.cells (strs (longT.map Prod.snd)).toArray 9)=W from hW] at HR hA hlt;clear hW
 go_loopw [5] (fun i wr=>∃ k:Nat,k≤12∧i=.int .i64 k∧Hid (∀ j (hj:j < longT.length),j < k → t ≠ [longT[j].1])∧Below W.heap.size W wr) (fun i _=>12 - (intOf i).toNat)
 case atStart=>exact ⟨0,by omega,rfl,fun j _ h=>by omega,Below.refl _ _⟩
 case round =>
  obtain ⟨k,hk,rfl,hno,hb⟩:=hrel;by_cases hlt2:k < 12
  ·have hkl:k < longT.length:=hlt2;have hsg:(ByteArray.mk #[118,102,116,105,109,101,108,99,115,107,111,117]).extract k (k+1)=⟨[longT[k].1].toArray⟩:=long_sign hkl;have hcell:wr.cell? ⟨w.heap.size,k,none⟩=some (.string ⟨longT[k].2.toArray⟩):=by
    have h1:=(HR.out.below hb hlt).cell k (by rw [strs_length]; exact hkl);rw [h1];have h2:=long_row hkl;rw [List.getElem?_eq_getElem (by rw [strs_length]; exact hkl)] at h2;exact h2
   have hat:=hid (HAT.out k hkl);have hext:Hid (t ≠ [longT[k].1] → ∀ j (hj:j < longT.length),j < k+1 → t ≠ [longT[j].1]):=fun hne j hj hjk=>by
    by_cases e:j=k
    ·subst e; exact hne
    ·exact hno.out j hj (by omega)
   have hwr:IntKind.i64.wrap ((k:Int)+1)=((k+1:Nat):Int):=by
    simp [IntKind.wrap,IntKind.bits,IntKind.signed]; omega
   have c:=hid (fun (d:Nat) (os:Array Obj)=>Calls.regrown_of (KL.out (grow (redrawn wr d) os)));generalize longT[k].1=s at hsg hat hext;generalize longT[k].2=v at hcell hat;replace hcell:=cell_regrown hcell;clear hno hkl;by_cases he:t=[s]
   ·have heq:(t==[s])=true:=by simpa using he
    have hv:=hid (hat.out he);subst he;clear hat hext;go_wp2;refine wp_region_quiet_below followsF (by kernel_rfl) ?_
    repeat (go_big_quiet_step (with_reducible exact c.out _ _))
    refine wpQuiet_nil ?_
    intro _ hw';obtain ⟨⟨dq,osq⟩,hw''⟩:=hw';subst hw'';have hb1:=below_reF hb dq osq;have hc1:=hcell dq osq;clear c hcell;go_wp2;go_ret;exact ⟨by rw [hv.out]; rfl,hA.trans (hb1.mono hA.size)⟩
   ·have heq:(t==[s])=false:=by simpa using he
    have hnx:=hid (hext.out he);clear hat hext he;go_wp2;refine wp_region_quiet_below followsF (by kernel_rfl) ?_
    repeat (go_big_quiet_step (with_reducible exact c.out _ _))
    refine wpQuiet_nil ?_
    intro _ hw';obtain ⟨⟨dq,osq⟩,hw''⟩:=hw';subst hw'';have hb1:=below_reF hb dq osq;clear c hcell;go_wp2;go_roundw
    case rel=>exact ⟨k+1,by omega,by go_num,hnx,hb1⟩
    case measure=>simp [intOf]; omega
  ·have hv:=hid (HNONE.out fun j hj=>hno.out j hj (by have:j < 12:=hj; omega));clear hno;go_wp2;go_ret;exact ⟨by rw [hv.out]; rfl,hA.trans (hb.mono hA.size)⟩
theorem all_blk (l:List UInt8):l.all (fun b=>!blk b)=!blkB l:=by
 unfold blkB
 induction l with
 | nil=>rfl
 | cons b l ih=>rw [List.all_cons,List.any_cons,ih]; cases blk b <;> rfl
theorem first_resp {m:Ms} (h:m.method.isEmpty=true):firstB m=(decide (100≤m.status) && (decide (m.status≤699) && (valB m.reason && m.target.isEmpty))):=by
 unfold firstB;rw [if_pos (by simpa using h)];by_cases h1:100≤m.status <;> by_cases h2:m.status≤699 <;> simp [h1,h2] <;> (generalize m.target.isEmpty=a; generalize valB m.reason=b; revert a b; decide)
theorem first_req {m:Ms} (h:m.method.isEmpty=false):firstB m=(tokenB m.method && (tgtB m.target && (decide (m.status=0) && m.reason.isEmpty))):=by
 unfold firstB;rw [if_neg (by intro e; rw [e] at h; cases h),all_blk,tgtB];generalize blkB m.target=a;generalize tokenB m.method=b;generalize m.target.isEmpty=c;generalize visB m.target=d;generalize decide (m.status=0)=e;generalize m.reason.isEmpty=f
 revert a b c d e f; decide
theorem tok_below (l:List UInt8) (w:World) (h:l.length≤140737488355328) :
  Calls Tryz.prog 44 #[.string ⟨l.toArray⟩] w fun e w'=>e=.returned (.bool (tokenB l))∧Below w.heap.size w w':=(token_list l w h).mono fun _ _ ⟨h1,h2⟩=>⟨h1,by rw [h2]; exact Below.refl _ _⟩
def BoxH (w:World) (b:Nat) (x:Hdr):Prop:=w.cell? ⟨b,0,none⟩=some (.string ⟨x.name.toArray⟩)∧w.cell? ⟨b,1,none⟩=some (.string ⟨x.value.toArray⟩)
theorem BoxH.below {w w':World} {b B:Nat} {x:Hdr} (k:BoxH w b x) (hb:Below B w w') (hlt:b < B):BoxH w' b x:=⟨cell_below hb hlt k.1,cell_below hb hlt k.2⟩
def objH (x:Hdr):Obj:=.cells #[.string ⟨x.name.toArray⟩,.string ⟨x.value.toArray⟩] 52
theorem boxH_new (w:World) (x:Hdr):BoxH (w.alloc (objH x)) w.heap.size x:=by
 unfold BoxH World.cell? objH;simp only [heap_alloc_new];exact ⟨rfl,rfl⟩
def hdrV (x:Hdr):Value:=.agg #[.string ⟨x.name.toArray⟩,.string ⟨x.value.toArray⟩]
set_option maxHeartbeats 2000000 in
set_option maxRecDepth 100000 in
theorem hmay_any (x:Hdr) (w:World) (hn:x.name.length≤140737488355328) (hv:x.value.length≤140737488355328) :
  Calls Tryz.prog 145 #[hdrV x] w fun e w'=>e=.returned (.bool (hdrB x))∧Below w.heap.size w w':=by
 obtain ⟨n,v⟩:=x;simp only at hn hv;have hm:hdrB ⟨n,v⟩=(tokenB n && (longV n==n && (!lengthB n && valB v))):=rfl;have hx:=boxH_new w ⟨n,v⟩;have hb0:Below w.heap.size w (w.alloc (objH ⟨n,v⟩)):=(Below.refl _ w).alloc (Nat.le_refl _) _;unfold objH at hx hb0;unfold hdrV;simp only at hx hb0 ⊢;have cT:=hid (fun (d:Nat) (os:Array Obj)=>Calls.regrown_of (tok_below n (grow (redrawn (w.alloc (.cells #[.string ⟨n.toArray⟩,.string ⟨v.toArray⟩] 52)) d) os) hn));have cL:=hid (fun (d:Nat) (os:Array Obj)=>Calls.regrown_of (flong_list n (grow (redrawn (w.alloc (.cells #[.string ⟨n.toArray⟩,.string ⟨v.toArray⟩] 52)) d) os) hn));have cN:=hid (fun (d:Nat) (os:Array Obj)=>Calls.regrown_of (flength_list n (grow (redrawn (w.alloc (.cells #[.string ⟨n.toArray⟩,.string ⟨v.toArray⟩] 52)) d) os) hn));have cV:=hid (fun (d:Nat) (os:Array Obj)=>Calls.regrown_of (fvalue_list v (grow (redrawn (w.alloc (.cells #[.string ⟨n.toArray⟩,.string ⟨v.toArray⟩] 52)) d) os) hv));obtain ⟨x0,x1⟩:=hx;simp only at x0 x1;replace x0:=cell_regrown x0;replace x1:=cell_regrown x1;generalize hdrB ⟨n,v⟩=r at hm ⊢;generalize longV n=q at cL hm;generalize lengthB n=lb at cN hm;generalize valB v=vb at cV hm;generalize tokenB n=tb at cT hm
 cases hq:(q==n) with
 | false =>
  rw [hq] at hm
  cases tb
  all_goals (
   have HM:Hid (r=false):=show _=_ by rw [hm]; rfl
   clear hm
   go_enter Tryz.func145,Tryz.ntmps145
   go_wp2;refine wp_region_quiet_below followsF (by kernel_rfl) ?_
   repeat (go_big_quiet_step (first | with_reducible exact cT.out _ _ | with_reducible exact cL.out _ _ | with_reducible exact cN.out _ _ | with_reducible exact cV.out _ _))
   refine wpQuiet_nil ?_
   intro _ hw';obtain ⟨⟨dq,osq⟩,hw''⟩:=hw';subst hw'';go_wp2;go_ret;exact ⟨ret_bool HM.out.symm,below_reF hb0 dq osq⟩)
 | true =>
  rw [hq] at hm
  cases tb <;> cases lb
  all_goals (
   obtain ⟨z,hz⟩:∃ z,r=z:=⟨_,rfl⟩
   have HM:=hid hm;clear hm
   go_enter Tryz.func145,Tryz.ntmps145
   go_wp2;refine wp_region_quiet_below followsF (by kernel_rfl) ?_
   repeat (go_big_quiet_step (first | with_reducible exact cT.out _ _ | with_reducible exact cL.out _ _ | with_reducible exact cN.out _ _ | with_reducible exact cV.out _ _))
   refine wpQuiet_nil ?_
   intro _ hw';obtain ⟨⟨dq,osq⟩,hw''⟩:=hw';subst hw'';go_wp2;go_ret;exact ⟨ret_bool (by rw [HM.out]; simp),below_reF hb0 dq osq⟩)
set_option maxHeartbeats 2000000 in
set_option maxRecDepth 100000 in
theorem fstart_any (m:Ms) (ao:Option Addr) (hn hc:Nat) (w:World) (hsm:SmallM 140737488355328 m) :
  Calls Tryz.prog 144 #[msgV m (.slice ao hn hc)] w fun e w'=>e=.returned (.bool (firstB m))∧Below w.heap.size w w':=by
 have KV:=hid (fun w'=>fvalue_list m.reason w' hsm.2.2.1);have KG:=hid (fun w'=>ftarget_list m.target w' hsm.2.1);have KT:=hid (fun w'=>token_list m.method w' hsm.1);have f1:=@first_resp m;have f2:=@first_req m;have HBX:=hid (boxM_new w m (.slice ao hn hc));have hb0:Below w.heap.size w (w.alloc (objM m (.slice ao hn hc))):=(Below.refl _ w).alloc (Nat.le_refl _) _;have hlt:=alloc_lt w (objM m (.slice ao hn hc));clear hsm;obtain ⟨me,ta,st,re,hs,bo⟩:=m;unfold msgV;unfold objM at HBX hb0 hlt;simp only at KV KG KT f1 f2 HBX hb0 hlt ⊢;generalize firstB _=r at f1 f2 ⊢;obtain ⟨x0,x1,x2,x3,x4,x5⟩:=HBX.out;simp only at x0 x1 x2 x3 x4 x5
 cases he:me.isEmpty with
 | true =>
  have hf:=f1 he;clear f1 f2 KG KT;by_cases h1:100≤st
  ·by_cases h2:st≤699
   ·have HM:Hid (r=(valB re && ta.isEmpty)):=show _=_ by rw [hf]; simp [h1,h2]
    clear hf;generalize valB re=vb at KV HM
    go_enter Tryz.func144,Tryz.ntmps144
    go_wp2_with fail
    refine (KV.out _).mono ?_
    rintro e w1 ⟨rfl,hw1⟩;have HB1:=hid (BoxM.below HBX.out hw1 hlt);have hb1:=hb0.trans (hw1.mono hb0.size);clear HBX hw1 hb0 hlt x0 x1 x2 x3 x4 x5 KV;obtain ⟨x0,x1,x2,x3,x4,x5⟩:=HB1.out;simp only at x0 x1 x2 x3 x4 x5
    cases vb
    all_goals (
     go_wp2;go_ret;exact ⟨ret_bool (by rw [HM.out]; simp),hb1⟩)
   ·have HM:Hid (r=false):=show _=_ by rw [hf]; simp [h2]
    clear hf
    go_enter Tryz.func144,Tryz.ntmps144
    go_wp2;go_ret;exact ⟨ret_bool HM.out.symm,hb0⟩
  ·have HM:Hid (r=false):=show _=_ by rw [hf]; simp [h1]
   clear hf
   go_enter Tryz.func144,Tryz.ntmps144
   go_wp2;go_ret;exact ⟨ret_bool HM.out.symm,hb0⟩
 | false =>
  have hf:=f2 he;clear f1 f2 KV;generalize tokenB me=tb at KT hf;generalize tgtB ta=gb at KG hf
  cases tb with
  | false =>
   have HM:Hid (r=false):=show _=_ by rw [hf]; rfl
   clear hf
   go_enter Tryz.func144,Tryz.ntmps144
   go_wp2_with fail
   refine (KT.out _).mono ?_
   rintro e w1 ⟨rfl,rfl⟩;go_wp2;go_ret;exact ⟨ret_bool HM.out.symm,hb0⟩
  | true =>
   have HM:Hid (r=(gb && (decide (st=0) && re.isEmpty))):=show _=_ by rw [hf]; rfl
   clear hf
   go_enter Tryz.func144,Tryz.ntmps144
   go_wp2_with fail
   refine (KT.out _).mono ?_
   rintro e w1 ⟨rfl,rfl⟩;go_wp2_with fail
   refine (KG.out _).mono ?_
   rintro e w1 ⟨rfl,hw1⟩;have HB1:=hid (BoxM.below HBX.out hw1 hlt);have hb1:=hb0.trans (hw1.mono hb0.size);clear HBX hw1 hb0 hlt x0 x1 x2 x3 x4 x5 KG KT;obtain ⟨x0,x1,x2,x3,x4,x5⟩:=HB1.out;simp only at x0 x1 x2 x3 x4 x5
   cases gb with
   | false =>
    go_wp2;go_ret;exact ⟨ret_bool (by rw [HM.out]; rfl),hb1⟩
   | true =>
    by_cases h0:st=0
    ·have e0:(st==0)=true:=by simpa using h0
     have HM2:Hid (r=re.isEmpty):=show _=_ by rw [HM.out]; simp [h0]
     subst h0;clear HM;go_wp2;go_ret;exact ⟨ret_bool HM2.out.symm,hb1⟩
    ·have e0:(st==0)=false:=by simpa using h0
     have HM2:Hid (r=false):=show _=_ by rw [HM.out]; simp [h0]
     clear HM h0;go_wp2;go_ret;exact ⟨ret_bool HM2.out.symm,hb1⟩
theorem checkM_1 {m:Ms} (h:firstB m=false):checkM m=60:=by rw [checkM,if_pos h]
theorem checkM_2 {m:Ms} (h:firstB m=true) (h2:64 < m.headers.length):checkM m=4:=by rw [checkM,if_neg (by simp [h]),if_pos h2]
theorem checkM_3 {m:Ms} (h:firstB m=true) (h2:¬ 64 < m.headers.length) (h3:m.headers.all hdrB=false):checkM m=61:=by rw [checkM,if_neg (by simp [h]),if_neg h2,if_pos h3]
theorem checkM_4 {m:Ms} (h:firstB m=true) (h2:¬ 64 < m.headers.length) (h3:m.headers.all hdrB=true):checkM m=0:=by rw [checkM,if_neg (by simp [h]),if_neg h2,if_neg (by simp [h3])]
theorem hdrs_bad {hs:List Hdr} {k:Nat} (hk:k < hs.length) (h:hdrB hs[k]=false):hs.all hdrB=false:=by
 rw [List.all_eq_false]; exact ⟨hs[k],List.getElem_mem hk,by rw [h]; simp⟩
theorem hdrs_more {hs:List Hdr} {k:Nat} (hk:k < hs.length) (h:(hs.take k).all hdrB=true) (h2:hdrB hs[k]=true):(hs.take (k+1)).all hdrB=true:=by
 rw [List.take_succ_eq_append_getElem hk,List.all_append,h]; simp [h2]
theorem HdrsAt.get {w:World} {v:Value} {hs:List Hdr} (h:HdrsAt w v hs):∃ (ao:Option Addr) (cap:Nat),v=.slice ao hs.length cap∧∀ k (hk:k < hs.length),∃ a,ao=some a∧a.block < w.heap.size∧HdrAt w a k hs[k]:=by
 rcases h with ⟨rfl,rfl⟩ | ⟨a,cap,rfl,_,hc⟩
 ·exact ⟨none,0,rfl,fun k hk=>by simp at hk⟩
 ·exact ⟨some a,cap,rfl,fun k hk=>⟨a,rfl,(hc k hk).1,(hc k hk).2⟩⟩
set_option maxHeartbeats 2000000 in
set_option maxRecDepth 100000 in
theorem fcheck_any (m:Ms) (h:Value) (w:World) (hsm:SmallM 140737488355328 m) (hat:HdrsAt w h m.headers) :
  Calls Tryz.prog 100 #[msgV m h] w fun e w'=>e=.returned (.int .i64 (checkM m))∧Below w.heap.size w w':=by
 obtain ⟨ao,cap,rfl,hcell⟩:=hat.get;have HC:=hid hcell;have KS:=hid (fun w'=>fstart_any m ao m.headers.length cap w' hsm);have c1:=hid (@checkM_1 m);have c2:=hid (@checkM_2 m);have c3:=hid (@checkM_3 m);have c4:=hid (@checkM_4 m);have HSM:=hid hsm.2.2.2.2.2;have HBX:=hid (boxM_new w m (.slice ao m.headers.length cap));have hb0:Below w.heap.size w (w.alloc (objM m (.slice ao m.headers.length cap))):=(Below.refl _ w).alloc (Nat.le_refl _) _;have hlt:=alloc_lt w (objM m (.slice ao m.headers.length cap));clear hsm hat hcell;obtain ⟨me,ta,st,re,hs,bo⟩:=m;unfold msgV at KS ⊢;unfold objM at HBX hb0 hlt;simp only at HC KS c1 c2 c3 c4 HSM HBX hb0 hlt ⊢;generalize checkM _=r at c1 c2 c3 c4 ⊢;generalize firstB _=fb at KS c1 c2 c3 c4;obtain ⟨n,hn⟩:∃ n,n=hs.length:=⟨_,rfl⟩
 rw [← hn] at HBX hb0 hlt KS c2 c3 c4 ⊢;have HN:=hid hn;clear hn;obtain ⟨x0,x1,x2,x3,x4,x5⟩:=HBX.out;simp only at x0 x1 x2 x3 x4 x5
 go_enter Tryz.func100,Tryz.ntmps100
 go_wp2_with fail
 refine (KS.out _).mono ?_
 rintro e w1 ⟨rfl,hw1⟩;have HB1:=hid (BoxM.below HBX.out hw1 hlt);have hb1:=hb0.trans (hw1.mono hb0.size);have hlt1:=Nat.lt_of_lt_of_le hlt hw1.size;clear HBX hw1 hb0 hlt x0 x1 x2 x3 x4 x5 KS;obtain ⟨x0,x1,x2,x3,x4,x5⟩:=HB1.out;simp only at x0 x1 x2 x3 x4 x5
 cases fb with
 | false =>
  have hv:=hid (c1.out rfl);go_wp2;go_ret;exact ⟨ret_int hv.out.symm,hb1⟩
 | true =>
  by_cases h64:64 < n
  ·have h64':(64:Int) < (n:Int):=by omega
   have hv:=hid (c2.out rfl h64);go_wp2;go_ret;exact ⟨ret_int hv.out.symm,hb1⟩
  ·have h64':¬ ((64:Int) < (n:Int)):=by omega
   have C3:=hid (c3.out rfl h64);have C4:=hid (c4.out rfl h64);clear c1 c2 c3 c4;go_wp2
   go_loopw [15] (fun i wr=>∃ k:Nat,k≤n∧i=.int .i64 k∧Hid ((hs.take k).all hdrB=true)∧Below w1.heap.size w1 wr) (fun i _=>n - (intOf i).toNat)
   case atStart=>exact ⟨0,Nat.zero_le _,rfl,hid (by simp),Below.refl _ _⟩
   case round =>
    clear x0 x1 x2 x3 x4 x5 HB1;obtain ⟨k,hk,rfl,hall,hb⟩:=hrel;by_cases hlt2:k < n
    ·have hkl:k < hs.length:=by have:=HN.out; omega
     obtain ⟨a,ha,hab,h0,h1⟩:=HC.out k hkl;have hbw:Below w.heap.size w wr:=hb1.trans (hb.mono hb1.size);have d0:=cell_below hbw (by rw [add_block]; exact hab) h0;have d1:=cell_below hbw (by simp only [add_block]; exact hab) h1;have hss:=HSM.out _ (List.getElem_mem hkl);have KH:=hid (fun w'=>hmay_any hs[k] w' hss.1 hss.2);have hbad:=hid (@hdrs_bad hs k hkl);have hmore:=hid (@hdrs_more hs k hkl hall.out);clear hab h0 h1 hall HC HSM;subst ha;generalize hs[k]=x at d0 d1 hss KH hbad hmore;obtain ⟨nm,vl⟩:=x;unfold hdrV at KH;simp only at d0 d1 hss KH;have hbA:=(Below.refl _ wr).alloc (Nat.le_refl _) (.cells #[.string ⟨nm.toArray⟩,.string ⟨vl.toArray⟩] 52);generalize hdrB ⟨nm,vl⟩=hb2 at KH hbad hmore
     cases hb2 with
     | false =>
      have hv:=hid (C3.out (hbad.out rfl));clear C3 C4 hbad hmore;go_wp2_with fail
      refine (KH.out _).mono ?_
      rintro e w2 ⟨rfl,hw2⟩;go_wp2;go_ret;exact ⟨ret_int hv.out.symm,hbw.trans ((hbA.trans (hw2.mono hbA.size)).mono hbw.size)⟩
     | true =>
      have hnx:=hid (hmore.out rfl);clear hbad hmore;go_wp2_with fail
      refine (KH.out _).mono ?_
      rintro e w2 ⟨rfl,hw2⟩;have hb3:=hb.trans ((hbA.trans (hw2.mono hbA.size)).mono hb.size);go_wp2;go_roundw
      case rel=>exact ⟨k+1,by omega,by go_num,hnx,hb3⟩
      case measure=>simp [intOf]; omega
    ·have hv:=hid (C4.out (by have h:=hall.out; rw [List.take_of_length_le (by have:=HN.out; omega)] at h; exact h));clear C3 C4 hall;go_wp2;go_ret;exact ⟨ret_int hv.out.symm,hb1.trans (hb.mono hb1.size)⟩
def startP (m:Ms):List (List UInt8):=if m.method=[] then [versionK,[32],digL m.status.toNat,[32],m.reason,crlf] else [m.method,[32],m.target,[32],versionK,crlf]
def hdrP (x:Hdr):List (List UInt8):=[x.name,[58,32],x.value,crlf]
def lastP (b:List UInt8):List (List UInt8):=[lengthK,[58,32],digL b.length,crlf,crlf,b]
def piecesM (m:Ms):List (List UInt8):=startP m++m.headers.flatMap hdrP++lastP m.body
theorem startP_len (m:Ms):(startP m).length=6:=by unfold startP; split <;> rfl
theorem startP_flat (m:Ms):(startP m).flatten=lineT m++crlf:=by
 unfold startP lineT
 split <;> simp
theorem hdrsP_flat:∀ hs:List Hdr,(hs.flatMap hdrP).flatten=(hs.map hdrLine).flatMap (fun l=>l++crlf)
 | []=>rfl
 | x :: hs=>by
  rw [List.flatMap_cons,List.flatten_append,hdrsP_flat hs]
  simp [hdrP,hdrLine]
theorem hdrsP_len:∀ hs:List Hdr,(hs.flatMap hdrP).length=4 * hs.length
 | []=>rfl
 | x :: hs=>by
  rw [List.flatMap_cons,List.length_append,hdrsP_len hs]
  simp [hdrP]; omega
theorem hdrsP_step {hs:List Hdr} {k:Nat} (hk:k < hs.length):(hs.take (k+1)).flatMap hdrP=(hs.take k).flatMap hdrP++hdrP hs[k]:=by
 rw [List.take_succ_eq_append_getElem hk,List.flatMap_append]; simp
theorem pieces_flat (m:Ms):(piecesM m).flatten=textM m:=by
 unfold piecesM textM linesT;rw [List.flatten_append,List.flatten_append,startP_flat,hdrsP_flat,List.flatMap_cons,List.flatMap_append]
 simp [lastP,lenLine]
theorem wp_appT {P:Program} (w:World) {ops:Array Oper} {rest:List Oper} {o:Oper} {a:Act} {Q:Exit → Act → World → Prop} (hgd:o.guard=none)
  (s x:Operand) (t:TypeId) (ho:o.op=Op.call { callee:=Callee.builtin Builtin.append,args:=#[s,x],argTypes:=#[t,t] }) (B:Nat) (e:TypeId) (i:TypeInfo)
  (z:Value) (ht:P.underlying t=some (TypeDesc.slice e)) (hi:P.info? e=some i) (hz:i.zero=some z) (hsize:i.size=1) (hby:i.bytes=16) (hzs:z.cells.size=1)
  (v:Value) (xs:List (List UInt8)) (hs:a.eval s=v) (hown:Own w B e v (strs xs)) (ad:Addr) (c:Nat) (news:List (List UInt8)) (m:Nat) (hm:news.length=m) (hx:a.eval x=Value.slice (some ad) m c)
  (hnews:∀ (j:Nat) (u:Value),(strs news)[j]? = some u → w.cell? (ad.add j)=some u)
  (hlen:xs.length+m≤8796093022208) (w0:World) (hb:Below B w0 w) (hB:B≤w.heap.size)
  (h:∀ (v':Value) (w':World),Own w' B e v' (strs (xs++news)) → Below B w0 w' → B≤w'.heap.size → wpList P ops Q rest (a.put o.dst v') w'):wpList P ops Q (o :: rest) a w:=by
 refine wp_app w hgd s x t ho B e i z 16 ht hi hz hsize hby hzs v (strs xs) hs hown ad m c (strs news) hx (by rw [strs_length]; exact hm) hnews (by intro u hu; simp [strs] at hu; obtain ⟨p,_,rfl⟩:=hu; rfl) (by rw [strs_length]; unfold maxLen; omega) (by rw [strs_length]; omega) w0 hb hB ?_
 intro v' w' h1 h2 h3;refine h v' w' ?_ h2 h3
 have e:strs (xs++news)=strs xs++strs news:=by simp [strs]
 rw [e]; exact h1
end Go.Proofs.YtiogedceommcoaaGreatDoor
