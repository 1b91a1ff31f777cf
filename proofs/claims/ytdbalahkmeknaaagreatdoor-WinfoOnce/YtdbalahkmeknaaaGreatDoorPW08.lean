/-
  RefCut, StrLib, AnySet, RXL, RefWritten, ParOwn, NdOwn, NdFr, RX9, WR2.
-/
import Derived.Test.YtdbalahkmeknaaaGreatDoorPW07
import Derived.Lib.Bytealg
import Derived.Lib.CountLaws
import Derived.Laws.Entries
import Derived.Lib.AsciiSet
import Derived.Laws.RangeAny
import Derived.Laws.Runes
import Derived.Laws.ResultCell
import Derived.Deep.WholeRow
import Derived.Deep.LoopGhost
import Derived.OneCell
import Derived.Laws.OwnMore
import Derived.Deep.AppendLies
import Derived.WalkMore
import Derived.Lib.OthersKept
import Derived.Lib.FrozenHead2
import Derived.Deep.Cut
import Derived.Deep.CutRange
import Derived.Defers
import Derived.Recover
import Derived.Laws.Pointers
import Derived.Maps.OwnOps
import Derived.Maps.OwnSet
set_option linter.unusedVariables false
set_option linter.unusedSimpArgs false
set_option maxRecDepth 20000
namespace Go.Proofs.YtdbalahkmeknaaaGreatDoor
open Go.RowKit Sc
def lenOf:Value → Nat
 | .string s=>s.size
 | _=>0
theorem size_list (l:List UInt8):(⟨l.toArray⟩:ByteArray).size=l.length:=by simp [ByteArray.size]
theorem splitL_next {c:UInt8} {l0 r:List UInt8} {ps:List (List UInt8)} (h:splitL c l0=ps++splitL c r) (hb:(cutL c r).2.2=true):splitL c l0=(ps++[(cutL c r).1])++splitL c (cutL c r).2.1:=by
 rw [h,splitL_cut c r,if_pos hb]; simp
theorem idx_cases (l:List UInt8) (c:UInt8):(c ∉ l∧Lib.indexByte l c=-1)∨∃ a b,l=a++c :: b∧c ∉ a∧Lib.indexByte l c=(a.length:Int):=by
 induction l with
 | nil=>exact .inl ⟨by simp,rfl⟩
 | cons x l ih =>
  by_cases h:x=c
  ·subst h; exact .inr ⟨[],l,rfl,by simp,by simp [Lib.indexByte]⟩
  ·have hb:(x==c)=false:=by simpa using h
   rcases ih with ⟨h1,h2⟩ | ⟨a,b,h1,h2,h3⟩
   ·exact .inl ⟨by rw [List.mem_cons,not_or]; exact ⟨fun e=>h e.symm,h1⟩,by simp [Lib.indexByte,hb,h2]⟩
   ·refine .inr ⟨x :: a,b,by rw [h1]; rfl,by rw [List.mem_cons,not_or]; exact ⟨fun e=>h e.symm,h2⟩,?_⟩
    rw [Lib.indexByte,hb,h3]
    have:((a.length:Int)==-1)=false:=by rw [beq_eq_false_iff_ne]; omega
    simp [this]
set_option maxHeartbeats 400000 in
theorem slIndexByte_any (s:ByteArray) (c:UInt8) (w:World) :
  Calls Tryz.prog 169 #[.string s,.int .u8 c.toNat] w fun e w'=>e=.returned (.int .i64 (Lib.indexByte s.data.toList c))∧w'=w:=by
 have hc:(c.toNat:Int).toNat.toUInt8=c:=by simp
 go_enter Tryz.func169,Tryz.ntmps169
 go_wp2;rw [run_callFunc_extern Tryz.func180 (by kernel_rfl) (by kernel_rfl) (by kernel_rfl) (e:=Extern.BytealgIndexByte.indexByte) (by kernel_rfl),Lib.run_indexByteString,hc];simp only [Result.andThen];rw [Oper.upon_value];go_wp2;go_ret;exact ⟨rfl,rfl⟩
set_option maxHeartbeats 400000 in
theorem strIndexByte_any (s:ByteArray) (c:UInt8) (w:World) :
  Calls Tryz.prog 141 #[.string s,.int .u8 c.toNat] w fun e w'=>e=.returned (.int .i64 (Lib.indexByte s.data.toList c))∧w'=w:=by
 go_enter Tryz.func141,Tryz.ntmps141
 go_wp2_with (go_at_call 169; refine (slIndexByte_any _ _ _).mono ?_; rintro e w' ⟨rfl,rfl⟩)
 go_ret;exact ⟨rfl,rfl⟩
set_option maxHeartbeats 1000000 in
theorem slIndex_any (s:ByteArray) (c:UInt8) (w:World) :
  Calls Tryz.prog 171 #[.string s,.string ⟨#[c]⟩] w fun e w'=>e=.returned (.int .i64 (Lib.indexByte s.data.toList c))∧w'=w:=by
 have h0:(ByteArray.mk #[c]).size=1:=rfl;by_cases hs:s=⟨#[c]⟩
 ·subst hs;have hv:Hid (Lib.indexByte (ByteArray.mk #[c]).data.toList c=0):=show _=_ by simp [Lib.indexByte]
  go_enter Tryz.func171,Tryz.ntmps171
  go_wp2;go_ret;exact ⟨ret_int hv.out.symm,rfl⟩
 ·have hne:([c]==s.toList)=false:=by
   rw [beq_eq_false_iff_ne];intro e
   apply hs
   rw [ByteArray.toList_eq] at e
   apply ByteArray.ext
   exact (Array.toList_inj.1 (show s.data.toList=(#[c]:Array UInt8).toList from e.symm))
  go_enter Tryz.func171,Tryz.ntmps171
  go_wp2_with (go_at_call 169; refine (slIndexByte_any _ c _).mono ?_; rintro e w' ⟨rfl,rfl⟩)
  go_ret;exact ⟨rfl,rfl⟩
set_option maxHeartbeats 400000 in
theorem strIndex_any (s:ByteArray) (c:UInt8) (w:World) :
  Calls Tryz.prog 186 #[.string s,.string ⟨#[c]⟩] w fun e w'=>e=.returned (.int .i64 (Lib.indexByte s.data.toList c))∧w'=w:=by
 go_enter Tryz.func186,Tryz.ntmps186
 go_wp2_with (go_at_call 171; refine (slIndex_any _ c _).mono ?_; rintro e w' ⟨rfl,rfl⟩)
 go_ret;exact ⟨rfl,rfl⟩
theorem cut_data (s:ByteArray) {a b:List UInt8} {c:UInt8} (h:s.data.toList=a++c :: b):s.extract 0 a.length=⟨a.toArray⟩∧s.extract (a.length+1) s.size=⟨b.toArray⟩∧s.size=a.length+1+b.length:=by
 have hl:=len_data s;rw [h] at hl
 simp at hl
 refine ⟨?_,?_,by omega⟩
 ·rw [ext_list,h]; simp
 ·rw [ext_list,h,List.drop_append,List.drop_eq_nil_of_le (by omega),← hl];have e:a.length+1 - a.length=1:=by omega
  have e2:a.length+(b.length+1) - (a.length+1)=b.length:=by omega
  rw [e,e2]; simp
set_option maxHeartbeats 1000000 in
theorem slCut_any (s:ByteArray) (c:UInt8) (w:World) (hs:s.size≤9223372036854775807) :
  Calls Tryz.prog 145 #[.string s,.string ⟨#[c]⟩] w fun e w'=>e=.returned (.tuple #[.string ⟨(cutL c s.data.toList).1.toArray⟩,.string ⟨(cutL c s.data.toList).2.1.toArray⟩,.bool (cutL c s.data.toList).2.2])∧∃ q,w'=w.drewN q:=by
 have h0:(ByteArray.mk #[c]).size=1:=rfl
 rcases idx_cases s.data.toList c with ⟨h1,h2⟩ | ⟨a,b,h1,h2,h3⟩
 ·have hv:Hid (cutL c s.data.toList=(s.data.toList,[],false)):=cutL_miss h1;clear h1
  go_enter Tryz.func145,Tryz.ntmps145
  go_wp2_with (go_at_call 171; refine (slIndex_any _ c _).mono ?_; rintro e w' ⟨rfl,rfl⟩; rw [h2])
  go_ret3
  exact ⟨ret_cut hv.out,0,rfl⟩
 ·obtain ⟨e1,e2,e3⟩:=cut_data s h1;have hv:Hid (cutL c s.data.toList=(a,b,true)):=show _=_ by rw [h1]; exact cutL_hit h2
  have E1:Hid _:=e1;rw [e3] at e2;have E2:Hid _:=e2;clear e1 e2 h1 h2;have hk:a.length < s.size:=by omega
  have hwr:IntKind.i64.wrap ((a.length:Int)+1)=((a.length+1:Nat):Int):=by
   simp [IntKind.wrap,IntKind.bits,IntKind.signed]; omega
  go_enter Tryz.func145,Tryz.ntmps145
  go_wp2_with (go_at_call 171; refine (slIndex_any _ c _).mono ?_; rintro e w' ⟨rfl,rfl⟩; rw [h3])
  go_quiet (fail)
  go_wp2;go_ret3
  exact ⟨ret_cut (by rw [hv.out,E1.out,E2.out]),nq,rfl⟩
set_option maxHeartbeats 400000 in
theorem strCut_any (s:ByteArray) (c:UInt8) (w:World) (hs:s.size≤9223372036854775807) :
  Calls Tryz.prog 115 #[.string s,.string ⟨#[c]⟩] w fun e w'=>e=.returned (.tuple #[.string ⟨(cutL c s.data.toList).1.toArray⟩,.string ⟨(cutL c s.data.toList).2.1.toArray⟩,.bool (cutL c s.data.toList).2.2])∧∃ q,w'=w.drewN q:=by
 go_enter Tryz.func115,Tryz.ntmps115
 go_wp2_with (go_at_call 145; refine (slCut_any _ c _ hs).mono ?_; rintro e w' ⟨rfl,q,rfl⟩)
 go_ret3
 exact ⟨rfl,q,rfl⟩
set_option maxHeartbeats 400000 in
theorem strCount_any (s:ByteArray) (c:UInt8) (w:World) :
  Calls Tryz.prog 185 #[.string s,.string ⟨#[c]⟩] w fun e w'=>e=.returned (.int .i64 (Lib.countByte s.data.toList c))∧w'=w:=by
 have h0:(ByteArray.mk #[c]).size=1:=rfl
 go_enter Tryz.func185,Tryz.ntmps185
 go_wp2;rw [run_callFunc_extern Tryz.func190 (by kernel_rfl) (by kernel_rfl) (by kernel_rfl) (e:=Extern.BytealgCount.count) (by kernel_rfl),Lib.run_countString];simp only [Result.andThen];rw [Oper.upon_value];go_wp2;go_ret;exact ⟨rfl,rfl⟩
def startsB (c:UInt8) (l:List UInt8):Bool:=l.getD 0 0==c
def endsB (c:UInt8) (l:List UInt8):Bool:=l.getD (l.length - 1) 0==c
set_option maxHeartbeats 400000 in
theorem slPrefix_any (s:ByteArray) (c:UInt8) (w:World) (h0c:(0==c)=false) :
  Calls Tryz.prog 127 #[.string s,.string ⟨#[c]⟩] w fun e w'=>e=.returned (.bool (startsB c s.data.toList))∧w'=w:=by
 have h0:(ByteArray.mk #[c]).size=1:=rfl;by_cases hs:1≤s.size
 ·have e1:Hid ((s.extract 0 1).toList=[s.data.toList.getD 0 0]):=show _=_ by
   rw [ByteArray.toList_eq,ext_list];have hl:=len_data s
   cases hd:s.data.toList with
   | nil=>rw [hd] at hl; simp at hl; omega
   | cons x l=>simp
  go_enter Tryz.func127,Tryz.ntmps127
  go_wp2;go_ret;refine ⟨ret_bool ?_,rfl⟩
  rw [e1.out,startsB]
  simp
 ·have hl:Hid (startsB c s.data.toList=false):=show _=_ by
   rw [List.eq_nil_of_length_eq_zero (l:=s.data.toList) (by rw [len_data]; omega)]; exact h0c
  go_enter Tryz.func127,Tryz.ntmps127
  go_wp2;go_ret;exact ⟨ret_bool hl.out.symm,rfl⟩
set_option maxHeartbeats 400000 in
theorem strPrefix_any (s:ByteArray) (c:UInt8) (w:World) (h0c:(0==c)=false) :
  Calls Tryz.prog 164 #[.string s,.string ⟨#[c]⟩] w fun e w'=>e=.returned (.bool (startsB c s.data.toList))∧w'=w:=by
 go_enter Tryz.func164,Tryz.ntmps164
 go_wp2_with (go_at_call 127; refine (slPrefix_any _ c _ h0c).mono ?_; rintro e w' ⟨rfl,rfl⟩)
 go_ret;exact ⟨rfl,rfl⟩
set_option maxHeartbeats 400000 in
theorem slSuffix_any (s:ByteArray) (c:UInt8) (w:World) (h0c:(0==c)=false) (hs:s.size≤9223372036854775807) :
  Calls Tryz.prog 191 #[.string s,.string ⟨#[c]⟩] w fun e w'=>e=.returned (.bool (endsB c s.data.toList))∧w'=w:=by
 have h0:(ByteArray.mk #[c]).size=1:=rfl;by_cases hs:1≤s.size
 ·have e1:Hid ((s.extract (s.size - 1) s.size).toList=[s.data.toList.getD (s.size - 1) 0]):=show _=_ by
   rw [ByteArray.toList_eq,ext_list];have hl:=len_data s;have e:s.size - (s.size - 1)=1:=by omega
   rw [e,List.drop_eq_getElem_cons (by omega),List.getD_eq_getElem?_getD,List.getElem?_eq_getElem (by omega)]
   simp
  have hwr:IntKind.i64.wrap ((s.size:Int) - 1)=((s.size - 1:Nat):Int):=by
   simp [IntKind.wrap,IntKind.bits,IntKind.signed]; omega
  go_enter Tryz.func191,Tryz.ntmps191
  go_wp2;go_ret;refine ⟨ret_bool ?_,rfl⟩
  rw [e1.out,endsB,len_data]
  simp
 ·have hl:Hid (endsB c s.data.toList=false):=show _=_ by
   rw [List.eq_nil_of_length_eq_zero (l:=s.data.toList) (by rw [len_data]; omega)]; exact h0c
  go_enter Tryz.func191,Tryz.ntmps191
  go_wp2;go_ret;exact ⟨ret_bool hl.out.symm,rfl⟩
set_option maxHeartbeats 400000 in
theorem strSuffix_any (s:ByteArray) (c:UInt8) (w:World) (h0c:(0==c)=false) (hs:s.size≤9223372036854775807) :
  Calls Tryz.prog 187 #[.string s,.string ⟨#[c]⟩] w fun e w'=>e=.returned (.bool (endsB c s.data.toList))∧w'=w:=by
 go_enter Tryz.func187,Tryz.ntmps187
 go_wp2_with (go_at_call 191; refine (slSuffix_any _ c _ h0c hs).mono ?_; rintro e w' ⟨rfl,rfl⟩)
 go_ret;exact ⟨rfl,rfl⟩
theorem infoSet:(Tryz.prog.info? 152).map (fun i=>(i.zero,i.size))=some (some (.agg (Array.replicate 256 (.bool false))),256):=by kernel_rfl
theorem underSet:Tryz.prog.underlying 152=some (.array 256 4):=by kernel_rfl
theorem decode_wide (s:ByteArray) (pos:Nat) (h:pos < s.size):1≤(Utf8.decode s pos).2∧pos+(Utf8.decode s pos).2≤s.size∧∀ k,1≤k → k < (Utf8.decode s pos).2 → ∃ hk:pos+k < s.size,128≤(s[pos+k]'hk).toNat:=by
 have hg:∀ k (hk:pos+k < s.size),s.get! (pos+k)=s[pos+k]'hk:=fun k hk=>by simp [ByteArray.get!,getElem!_pos,hk]; rfl
 have hc:∀ k,(decide (pos+k < s.size) && ((s.get! (pos+k)).toNat / 64==2))=true → ∃ hk:pos+k < s.size,128≤(s[pos+k]'hk).toNat:=fun k hk=>by
  simp only [Bool.and_eq_true,decide_eq_true_eq,beq_iff_eq] at hk;refine ⟨hk.1,?_⟩
  have:=hk.2
  rw [hg k hk.1] at this;omega
 have hlt:∀ k,(decide (pos+k < s.size) && ((s.get! (pos+k)).toNat / 64==2))=true → pos+k < s.size:=fun k hk=>(hc k hk).1
 have fin:∀ (m:Nat),1≤m → (∀ k,1≤k → k < m → (decide (pos+k < s.size) && ((s.get! (pos+k)).toNat / 64==2))=true) → 1≤m∧pos+m≤s.size∧∀ k,1≤k → k < m → ∃ hk:pos+k < s.size,128≤(s[pos+k]'hk).toNat:=by
  intro m hm hall;refine ⟨hm,?_,fun k h1 h2=>hc k (hall k h1 h2)⟩
  by_cases h1:m=1
  ·omega
  ·have:=hlt (m - 1) (hall (m - 1) (by omega) (by omega)); omega
 have two:∀ {a:Bool},(a && (decide (pos+1 < s.size) && ((s.get! (pos+1)).toNat / 64==2)))=true → ∀ k,1≤k → k < 2 → (decide (pos+k < s.size) && ((s.get! (pos+k)).toNat / 64==2))=true:=by
  intro a ha k h1 h2;rw [Bool.and_eq_true] at ha;obtain rfl:k=1:=by omega
  exact ha.2
 simp only [Utf8.decode]
 split
 ·exact fin 1 (Nat.le_refl _) (fun k h1 h2=>by omega)
 split
 ·rename_i h2
  split
  ·exact fin 2 (by omega) (two h2)
  ·exact fin 1 (Nat.le_refl _) (fun k h1 h2=>by omega)
 split
 ·rename_i h3
  split
  ·refine fin 3 (by omega) (fun k h1 h2=>?_)
   rw [Bool.and_eq_true,Bool.and_eq_true] at h3;obtain ⟨⟨_,a1⟩,a2⟩:=h3
   rcases (show k=1∨k=2 by omega) with rfl | rfl
   ·exact a1
   ·exact a2
  ·exact fin 1 (Nat.le_refl _) (fun k h1 h2=>by omega)
 split
 ·rename_i h3
  split
  ·refine fin 4 (by omega) (fun k h1 h2=>?_)
   rw [Bool.and_eq_true,Bool.and_eq_true,Bool.and_eq_true] at h3;obtain ⟨⟨⟨_,a1⟩,a2⟩,a3⟩:=h3
   rcases (show k=1∨k=2∨k=3 by omega) with rfl | rfl | rfl
   ·exact a1
   ·exact a2
   ·exact a3
  ·exact fin 1 (Nat.le_refl _) (fun k h1 h2=>by omega)
 ·exact fin 1 (Nat.le_refl _) (fun k h1 h2=>by omega)
theorem encode_high {c:Nat} (h:128≤c):∃ (r:List UInt8) (b:UInt8),Utf8.encode (c:Int)=⟨(r++[b]).toArray⟩∧1≤r.length∧r.length≤3∧128≤b.toNat:=by
 have hb:∀ n:Nat,n < 64 → 128≤(UInt8.ofNat (128+n)).toNat:=fun n hn=>by simp [UInt8.toNat_ofNat']; omega
 unfold Utf8.encode;generalize hd:(if Utf8.valid (c:Int)=true then (c:Int).toNat else Utf8.runeError)=d
 have hd2:128≤d:=by
  rw [← hd]
  split
  ·simpa using h
  ·decide
 have h3:=hb (d % 64) (by omega)
 simp only
 rw [if_neg (by omega)]
 split
 ·exact ⟨[UInt8.ofNat (192+d / 64)],UInt8.ofNat (128+d % 64),rfl,by simp,by simp,h3⟩
 split
 ·exact ⟨[UInt8.ofNat (224+d / 4096),UInt8.ofNat (128+d / 64 % 64)],UInt8.ofNat (128+d % 64),rfl,by simp,by simp,h3⟩
 ·exact ⟨[UInt8.ofNat (240+d / 262144),UInt8.ofNat (128+d / 4096 % 64),UInt8.ofNat (128+d / 64 % 64)],UInt8.ofNat (128+d % 64),rfl,by simp,by simp,h3⟩
theorem wp_load_new {P:Program} {w:World} {ops:Array Oper} {rest:List Oper} {o:Oper} {a:Act} {Q:Exit → Act → World → Prop} (hgd:o.guard=none) (p:Operand) (t:TypeId) (ho:o.op=Op.load t p)
  (c:Array Value) (n:Nat) (e:TypeId) (hu:P.underlying t=some (.array n e)) (hi:(P.info? t).map (·.size)=some c.size) (hp:a.eval p=.pointer (some ⟨w.heap.size,0,none⟩))
  (h:wpList P ops Q rest (a.put o.dst (.agg c)) (w.alloc (.cells c t))):wpList P ops Q (o :: rest) a (w.alloc (.cells c t)):=by
 refine wpList_plain hgd fun K hK=>?_
 have hr:=run_loadAt_new (P:=P) w t c n e hu hi;unfold Oper.wp execOp;simp only [ho,hp,Sem.run_bind,Sem.run_pure,Result.andThen_ok,hr];exact hK _ _ h
theorem wp_store_new {P:Program} {w:World} {ops:Array Oper} {rest:List Oper} {o:Oper} {a:Act} {Q:Exit → Act → World → Prop} (hgd:o.guard=none) (p x:Operand) (t:TypeId) (ho:o.op=Op.store t p x) (hd:o.dst=none)
  (c c':Array Value) (hi:(P.info? t).map (·.size)=some c'.size) (hcc:c.size=c'.size) (h1:c'.all (·.oneCell')=true) (g:Nat) (hg:w.heap.size=g) (hp:a.eval p=.pointer (some ⟨g,0,none⟩)) (hx:a.eval x=.agg c')
  (h:wpList P ops Q rest a (w.alloc (.cells c' t))):wpList P ops Q (o :: rest) a (w.alloc (.cells c t)):=by
 refine wpList_plain hgd fun K hK=>?_
 have hr:=run_storeAt_new (P:=P) w t c c' hi hcc h1;rw [hg] at hr;unfold Oper.wp execOp;simp only [ho,hp,hx,Sem.run_bind,Sem.run_pure,Result.andThen_ok,hr];exact hK _ _ (by rw [hd]; exact h)
set_option maxHeartbeats 1000000 in
set_option maxRecDepth 100000 in
theorem makeSet_any (chars:ByteArray) (w:World) (hs:chars.size < 4294967281) (hascii:∀ (j:Nat) b,chars.data.toList[j]? = some b → b.toNat < 128) :
  Calls Tryz.prog 132 #[.string chars] w fun e w'=>e=.returned (.tuple #[.agg (Lib.setCells chars.data.toList),.bool true])∧w'=w.alloc (.cells (Lib.setCells chars.data.toList) 152):=by
 have HA:=hid hascii;clear hascii;have hzv:=(zero_of_info infoSet).1
 go_enter Tryz.func132,Tryz.ntmps132
 go_wp2;rw [← Lib.setCells_nil]
 go_loopg [4] chars.size (fun g s4 wx=>∃ i:Nat,i+g=chars.size∧s4=.int .i64 i∧wx=w.alloc (.cells (Lib.setCells (chars.data.toList.take i)) 152))
 case atStart=>exact ⟨0,by omega,rfl,rfl⟩
 case round =>
  obtain ⟨i,hig,rfl,rfl⟩:=hrel
  cases gk with
  | zero =>
   obtain rfl:i=chars.size:=by omega
   have hiz:¬ ((chars.size:Int) < (chars.size:Int)):=by omega
   rw [show chars.data.toList.take chars.size=chars.data.toList from take_all chars chars.size (Nat.le_refl _)];have hi138:=(zero_of_info infoSet).2;have hsz:=Lib.setCells_size chars.data.toList;have hi2:=hid (show (Tryz.prog.info? 152).map (·.size)=some (Lib.setCells chars.data.toList).size by rw [hsz]; exact hi138);have hld:=run_loadVar_new (P:=Tryz.prog) w 152 (Lib.setCells chars.data.toList) 256 4 underSet (by rw [hsz]; exact hi138);clear hig;have HLD:=hid hld;clear hld hi138;go_wp2_with (first | (refine wp_load_new rfl (.tmp 2) 152 rfl (Lib.setCells chars.data.toList) 256 4 underSet hi2.out rfl ?_) | (refine wp_store_new rfl (.tmp 2) (.tmp 20) 152 rfl rfl (Lib.setCells chars.data.toList) (Lib.setCells chars.data.toList) hi2.out rfl (Lib.setCells_one _) _ rfl rfl rfl ?_))
   (try simp only [Exit.inBlock,Exit.then])
   refine bodyPost_ret (v:=.tuple #[.agg (Lib.setCells chars.data.toList),.bool true]) ?_ rfl ⟨rfl,rfl⟩
   rw [results_cell_tmp rfl]
   simp [asAddr,Result.andThen,HLD.out]
  | succ g =>
   have hi:i < chars.size:=by omega
   have hiz:(i:Int) < (chars.size:Int):=by omega
   obtain ⟨x,hx⟩:∃ x:UInt8,chars[i]'hi=x:=⟨_,rfl⟩
   have hxl:chars.data.toList[i]? = some x:=by rw [← hx]; exact getL chars i hi
   have hx128:¬ ((128:Int)≤(x.toNat:Int)):=by have:=HA.out i x hxl; omega
   have hx256:(x.toNat:Int) < 256:=by have:=HA.out i x hxl; omega
   have hcell:=Lib.setCells_at (chars.data.toList.take i) x;have Hx:=hid hxl;clear hxl;go_wp2
   go_roundg g
   case measure=>omega
   case rel=>exact ⟨i+1,by omega,by first | rfl | simp,by rw [List.take_add_one,Hx.out]; simp only [Option.toList]; rw [Lib.setCells_snoc]⟩
set_option maxHeartbeats 400000 in
theorem setHas_any (b:Nat) (x:UInt8) (v:Bool) (w:World) (hc:w.cell? ⟨b,x.toNat,none⟩=some (.bool v)) :
  Calls Tryz.prog 133 #[.pointer (some ⟨b,0,none⟩),.int .u8 x.toNat] w fun e w'=>e=.returned (.bool v)∧w'=w:=by
 have hx256:(x.toNat:Int) < 256:=by have:=UInt8.toNat_lt x; omega
 go_enter Tryz.func133,Tryz.ntmps133
 go_wp2;go_ret;exact ⟨rfl,rfl⟩
set_option maxHeartbeats 400000 in
theorem useSet_any (n:Int) (w:World):Calls Tryz.prog 131 #[.int .i64 n] w fun e w'=>e=.returned (.bool (decide (8 < n)))∧w'=w:=by
 go_enter Tryz.func131,Tryz.ntmps131
 go_wp2;go_ret;exact ⟨rfl,rfl⟩
set_option maxHeartbeats 400000 in
theorem validRune_any (c:Nat) (w:World):Calls Tryz.prog 159 #[.int .i32 c] w fun e w'=>(∃ b,e=.returned (.bool b))∧w'=w:=by
 have h0:(0:Int)≤(c:Int):=by omega
 by_cases h1:(c:Int) < 55296
 ·go_enter Tryz.func159,Tryz.ntmps159
  go_wp2;go_ret;exact ⟨by first | exact Or.inl rfl | exact Or.inr rfl | exact ⟨_,rfl⟩,rfl⟩
 ·by_cases h2:(57343:Int) < (c:Int)
  ·by_cases h3:(c:Int)≤1114111
   ·go_enter Tryz.func159,Tryz.ntmps159
    go_wp2;go_ret;exact ⟨by first | exact Or.inl rfl | exact Or.inr rfl | exact ⟨_,rfl⟩,rfl⟩
   ·go_enter Tryz.func159,Tryz.ntmps159
    go_wp2;go_ret;exact ⟨by first | exact Or.inl rfl | exact Or.inr rfl | exact ⟨_,rfl⟩,rfl⟩
  ·go_enter Tryz.func159,Tryz.ntmps159
   go_wp2;go_ret;exact ⟨by first | exact Or.inl rfl | exact Or.inr rfl | exact ⟨_,rfl⟩,rfl⟩
def runL (p:UInt8 → Bool) (l:List UInt8) (at':Nat):Nat:=at'+((l.drop at').takeWhile p).length
section
variable {p : UInt8 → Bool} {l : List UInt8} {k : Nat}
theorem run_le (hk:k≤l.length):k≤runL p l k∧runL p l k≤l.length:=by
 unfold runL
 have h1:((l.drop k).takeWhile p).length≤(l.drop k).length:=by
  have:=congrArg List.length (List.takeWhile_append_dropWhile (p:=p) (l:=l.drop k))
  rw [List.length_append] at this; omega
 rw [List.length_drop] at h1;omega
theorem run_drop:l.drop (runL p l k)=(l.drop k).dropWhile p:=by
 unfold runL;rw [← List.drop_drop];have h:=List.takeWhile_append_dropWhile (p:=p) (l:=l.drop k);generalize (l.drop k).takeWhile p=a at h ⊢;generalize (l.drop k).dropWhile p=b at h ⊢;rw [← h]; exact List.drop_left
theorem run_take:(l.drop k).take (runL p l k - k)=(l.drop k).takeWhile p:=by
 unfold runL;rw [Nat.add_sub_cancel_left];have h:=List.takeWhile_append_dropWhile (p:=p) (l:=l.drop k);generalize (l.drop k).takeWhile p=a at h ⊢;generalize (l.drop k).dropWhile p=b at h;rw [← h]; exact List.take_left
end
theorem ret_wr {p:List UInt8 × Bool} {x:List UInt8} {b:Bool} (h:p=(x,b)):Ending.returned (.tuple #[.string ⟨x.toArray⟩,.bool b])=.returned (.tuple #[.string ⟨p.1.toArray⟩,.bool p.2]):=by rw [h]
def parsCells (ps:List Par):List Value:=ps.flatMap parCells
theorem parsCells_len (ps:List Par):(parsCells ps).length=ps.length * 3:=by
 induction ps with
 | nil=>rfl
 | cons p ps ih=>simp [parsCells,parCells] at ih ⊢; omega
theorem parsCells_get (ps:List Par) (k:Nat) (hk:k < ps.length):(parsCells ps)[k * 3]? = some (.string ⟨ps[k].name.toArray⟩)∧(parsCells ps)[k * 3+1]? = some (.string ⟨ps[k].value.toArray⟩)∧(parsCells ps)[k * 3+2]? = some (.bool ps[k].has):=by
 induction ps generalizing k with
 | nil=>simp at hk
 | cons p ps ih =>
  have e:parsCells (p :: ps)=parCells p++parsCells ps:=rfl
  cases k with
  | zero=>rw [e]; simp [parCells]
  | succ k =>
   have:=ih k (by simpa using hk)
   rw [e,show (k+1) * 3=k * 3+3 by omega]
   simpa [parCells] using this
def OwnP (w:World) (B:Nat) (v:Value) (ps:List Par):Prop:=w.ownsRow B 70 3 v ps.length (parsCells ps)
theorem OwnP.nil (w:World) (B:Nat):OwnP w B (.slice none 0 0) []:=World.ownsRow_nil _ _ _ _
theorem OwnP.alloc {w:World} {B:Nat} {v:Value} {ps:List Par} (h:OwnP w B v ps) (o:Obj):OwnP (w.alloc o) B v ps:=World.ownsRow.alloc h o
theorem OwnP.below {w w':World} {B:Nat} {v:Value} {ps:List Par} (h:OwnP w B v ps) (hb:Below w.heap.size w w'):OwnP w' B v ps:=by
 obtain ⟨h1,h2⟩:=h;refine ⟨h1,?_⟩
 rcases h2 with h2 | ⟨g,cap,cur,hv,hg,hh,r⟩
 ·exact Or.inl h2
 ·exact Or.inr ⟨g,cap,cur,hv,hg,by rw [hb.block g (Array.getElem?_eq_some_iff.1 hh).1]; exact hh,r⟩
theorem OwnP.parsAt {w:World} {B:Nat} {v:Value} {ps:List Par} (h:OwnP w B v ps):ParsAt w v ps:=by
 have h0:=h
 rcases h.2 with ⟨rfl,hn⟩ | ⟨g,cap,cur,rfl,hb,hg,r⟩
 ·exact Or.inl ⟨rfl,List.eq_nil_of_length_eq_zero hn⟩
 ·refine Or.inr ⟨⟨g,0,none⟩,cap,rfl,fun k hk=>⟨(Array.getElem?_eq_some_iff.1 hg).1,?_⟩⟩
  obtain ⟨c0,c1,c2⟩:=parsCells_get ps k hk;have a0:=World.ownsRow.cells h0 (g:=g) rfl (k * 3) _ c0;have a1:=World.ownsRow.cells h0 (g:=g) rfl (k * 3+1) _ c1;have a2:=World.ownsRow.cells h0 (g:=g) rfl (k * 3+2) _ c2;have e:∀ j,(⟨g,0,none⟩:Addr).add j=⟨g,j,none⟩:=fun j=>by unfold Addr.add; split <;> simp_all
  rw [e] at a0 a1 a2;unfold ParAt;rw [e];exact ⟨a0,a1,a2⟩
theorem infoPar:(Tryz.prog.info? 70).map (fun i=>(i.zero,i.size,i.bytes))=some (some (.agg #[.string .empty,.string .empty,.bool false]),3,40):=by kernel_rfl
theorem wp_appP {P:Program} (w:World) {ops:Array Oper} {rest:List Oper} {o:Oper} {a:Act} {Q:Exit → Act → World → Prop} (hgd:o.guard=none)
  (s x:Operand) (t:TypeId) (ho:o.op=Op.call { callee:=Callee.builtin Builtin.append,args:=#[s,x],argTypes:=#[t,t] }) (B:Nat) (i:TypeInfo)
  (z:Value) (ht:P.underlying t=some (TypeDesc.slice 70)) (hi:P.info? 70=some i) (hz:i.zero=some z) (hsize:i.size=3) (hby:i.bytes=40) (hzs:z.cells.size=3)
  (v:Value) (ps:List Par) (hs:a.eval s=v) (hown:OwnP w B v ps) (ad:Addr) (c:Nat) (p:Par) (hx:a.eval x=Value.slice (some ad) 1 c)
  (hnews:∀ (j:Nat) (u:Value),(parCells p)[j]? = some u → w.cell? (ad.add j)=some u)
  (hlen:ps.length≤2000000) (w0:World) (hb:Below B w0 w) (hB:B≤w.heap.size)
  (h:∀ (v':Value) (w':World),OwnP w' B v' (ps++[p]) → Below B w0 w' → B≤w'.heap.size → wpList P ops Q rest (a.put o.dst v') w'):wpList P ops Q (o :: rest) a w:=by
 refine wpList_append_own w hgd s x t ho B 70 i z 3 40 ht hi hz hsize hby hzs (by decide) v ps.length (parsCells ps) hs hown ad 1 c (parCells p) hx rfl hnews (by intro u hu; simp [parCells] at hu; rcases hu with rfl | rfl | rfl <;> rfl) (by unfold maxLen; omega) (by omega) hB ?_
 intro v' w' hown' hgr _;refine h v' w' ?_ (hb.grown hgr hB (fun k hk=>(World.ownsRow.lt hown k hk).1)) (Nat.le_trans hB hgr.size)
 unfold OwnP;have e:parsCells (ps++[p])=parsCells ps++parCells p:=by simp [parsCells]
 rw [e,List.length_append];exact hown'
def ndsCells (cs:List NdC):List Value:=cs.flatMap ndCells
theorem ndCells_len (c:NdC):(ndCells c).length=4:=rfl
theorem ndsCells_get (cs:List NdC) (k:Nat) (hk:k < cs.length) (j:Nat) (u:Value) (h:(ndCells cs[k])[j]? = some u):(ndsCells cs)[k * 4+j]? = some u:=by
 induction cs generalizing k with
 | nil=>simp at hk
 | cons c cs ih =>
  have e:ndsCells (c :: cs)=ndCells c++ndsCells cs:=rfl
  cases k with
  | zero =>
   have hj:j < 4:=by have:=(List.getElem?_eq_some_iff.1 h).1; simpa [ndCells] using this
   rw [e,List.getElem?_append_left (by rw [ndCells_len]; omega),Nat.zero_mul,Nat.zero_add];exact h
  | succ k =>
   have:=ih k (by simpa using hk) (by simpa using h)
   rw [e,List.getElem?_append_right (by rw [ndCells_len]; omega),ndCells_len,show (k+1) * 4+j - 4=k * 4+j by omega];exact this
theorem ownP_mono {w:World} {B C:Nat} {v:Value} {ps:List Par} (h:OwnP w B v ps) (hc:C≤B):OwnP w C v ps:=by
 obtain ⟨h1,h2⟩:=h;refine ⟨h1,?_⟩
 rcases h2 with h2 | ⟨g,cap,cur,hv,hg,r⟩
 ·exact Or.inl h2
 ·exact Or.inr ⟨g,cap,cur,hv,Nat.le_trans hc hg,r⟩
def OwnN (w:World) (B:Nat) (v:Value) (cs:List NdC):Prop:=w.ownsRow B 49 4 v cs.length (ndsCells cs)∧∀ c ∈ cs,OwnP w B c.a c.nd.attrs
theorem OwnN.nil (w:World) (B:Nat):OwnN w B (.slice none 0 0) []:=⟨World.ownsRow_nil _ _ _ _,fun c hc=>by simp at hc⟩
theorem OwnN.below {w w':World} {B:Nat} {v:Value} {cs:List NdC} (h:OwnN w B v cs) (hb:Below w.heap.size w w'):OwnN w' B v cs:=by
 obtain ⟨⟨h1,h2⟩,h3⟩:=h;refine ⟨⟨h1,?_⟩,fun c hc=>(h3 c hc).below hb⟩
 rcases h2 with h2 | ⟨g,cap,cur,hv,hg,hh,r⟩
 ·exact Or.inl h2
 ·exact Or.inr ⟨g,cap,cur,hv,hg,by rw [hb.block g (Array.getElem?_eq_some_iff.1 hh).1]; exact hh,r⟩
theorem OwnN.mono {w:World} {B C:Nat} {v:Value} {cs:List NdC} (h:OwnN w B v cs) (hc:C≤B):OwnN w C v cs:=by
 obtain ⟨⟨h1,h2⟩,h3⟩:=h;refine ⟨⟨h1,?_⟩,fun c hc'=>ownP_mono (h3 c hc') hc⟩
 rcases h2 with h2 | ⟨g,cap,cur,hv,hg,r⟩
 ·exact Or.inl h2
 ·exact Or.inr ⟨g,cap,cur,hv,Nat.le_trans hc hg,r⟩
theorem OwnN.alloc {w:World} {B:Nat} {v:Value} {cs:List NdC} (h:OwnN w B v cs) (o:Obj):OwnN (w.alloc o) B v cs:=h.below ((Below.refl _ w).alloc (Nat.le_refl _) o)
theorem OwnN.form {w:World} {B:Nat} {v:Value} {cs:List NdC} (h:OwnN w B v cs):∃ a cap,v=.slice a cs.length cap:=by
 rcases h.1.2 with ⟨rfl,hn⟩ | ⟨g,cap,cur,rfl,_⟩
 ·exact ⟨none,0,by rw [hn]⟩
 ·exact ⟨_,cap,rfl⟩
theorem OwnN.ndsAt {w:World} {B:Nat} {v:Value} {cs:List NdC} (h:OwnN w B v cs):NdsAt w v cs:=by
 have h0:=h.1
 rcases h.1.2 with ⟨rfl,hn⟩ | ⟨g,cap,cur,rfl,hb,hg,r⟩
 ·exact ⟨none,0,by rw [hn],fun k hk=>by omega⟩
 ·refine ⟨some ⟨g,0,none⟩,cap,rfl,fun k hk=>⟨_,rfl,(Array.getElem?_eq_some_iff.1 hg).1,?_,(h.2 _ (List.getElem_mem hk)).parsAt⟩⟩
  have e:∀ j,(⟨g,0,none⟩:Addr).add j=⟨g,j,none⟩:=fun j=>by unfold Addr.add; split <;> simp_all
  have c:∀ j u,(ndCells cs[k])[j]? = some u → w.cell? ⟨g,k * 4+j,none⟩=some u:=fun j u hj=>by
   have:=World.ownsRow.cells h0 (g:=g) rfl (k * 4+j) _ (ndsCells_get cs k hk j u hj)
   rw [e] at this; exact this
  refine ⟨?_,?_,?_,?_⟩
  ·rw [e]; exact c 0 _ rfl
  ·rw [e]; exact c 1 _ rfl
  ·rw [e]; exact c 2 _ rfl
  ·rw [e]; exact c 3 _ rfl
theorem rows_neN {w:World} {B1 B2 e1 e2 s1 s2 n1 n2:Nat} {v1 v2:Value} {x1 x2:List Value} (h1:w.ownsRow B1 e1 s1 v1 n1 x1) (h2:w.ownsRow B2 e2 s2 v2 n2 x2) (hne:e2 ≠ e1):v2.ownBlock=none∨v2.ownBlock ≠ v1.ownBlock:=by
 rcases h2.2 with ⟨rfl,_⟩ | ⟨g2,c2,u2,rfl,_,hg2,_⟩
 ·exact Or.inl rfl
 ·right
  rcases h1.2 with ⟨rfl,_⟩ | ⟨g1,c1,u1,rfl,_,hg1,_⟩
  ·simp [Value.ownBlock]
  ·simp only [Value.ownBlock];intro e
   injection e with e
   rw [e,hg1] at hg2
   injection hg2 with hg2
   injection hg2 with _ hg2
   exact hne hg2.symm
theorem infoNodeB:(Tryz.prog.info? 49).map (fun i=>(i.zero,i.size,i.bytes))=some (some (.agg #[.int .i64 0,.string .empty,.slice none 0 0,.string .empty]),4,64):=by kernel_rfl
def setText (c:NdC) (t:List UInt8):NdC:=⟨{ c.nd with text:=t },c.a⟩
theorem nds_set (t:List UInt8):∀ (cs:List NdC) (k:Nat) (hk:k < cs.length),ndsCells (cs.set k (setText cs[k] t))=(ndsCells cs).set (k * 4+3) (.string ⟨t.toArray⟩)
 | [],k,hk=>by simp at hk
 | c :: cs,0,hk=>by
  have e:∀ (c:NdC) (cs:List NdC),ndsCells (c :: cs)=ndCells c++ndsCells cs:=fun _ _=>rfl;rw [List.set_cons_zero,e,e]
  simp [ndCells,setText]
 | c :: cs,k+1,hk=>by
  have e:∀ (c:NdC) (cs:List NdC),ndsCells (c :: cs)=ndCells c++ndsCells cs:=fun _ _=>rfl;have ih:=nds_set t cs k (by simpa using hk);rw [List.set_cons_succ,e,e];have e2:(c :: cs)[k+1]=cs[k]'(by simpa using hk):=rfl;rw [e2,ih,List.set_append_right _ _ (by rw [ndCells_len]; omega),ndCells_len]
  congr 2
  omega
theorem OwnN.text {w:World} {B g cap:Nat} {cs:List NdC} (h:OwnN w B (.slice (some ⟨g,0,none⟩) cs.length cap) cs) (k:Nat) (hk:k < cs.length) (t:List UInt8) :
  OwnN (w.setCell ⟨g,k * 4+3,none⟩ (.string ⟨t.toArray⟩)) B (.slice (some ⟨g,0,none⟩) cs.length cap) (cs.set k (setText cs[k] t)):=by
 have keep:∀ (ps:List Par) (u:Value),OwnP w B u ps → OwnP (w.setCell ⟨g,k * 4+3,none⟩ (.string ⟨t.toArray⟩)) B u ps:=fun ps u hu=>by
  refine ownsRow_setCell_other hu ?_ _
  rcases rows_neN h.1 hu (by decide) with h1 | h1
  ·rw [h1]; simp
  ·simpa [Value.ownBlock] using h1
 refine ⟨?_,fun c hc=>?_⟩
 ·rw [nds_set t cs k hk,List.length_set];exact (World.ownsRow.stored h.1 _ _).1
 ·rcases List.mem_or_eq_of_mem_set hc with hc | hc
  ·exact keep _ _ (h.2 c hc)
  ·subst hc;exact keep _ _ (h.2 cs[k] (List.getElem_mem hk))
structure FrN (v:Value) (w:World) (v':Value) (w':World):Prop where
 os:w'.os=w.os
 tape:w'.tape=w.tape
 output:w'.output=w.output
 size:w.heap.size≤w'.heap.size
 block:∀ b,b < w.heap.size → v.ownBlock ≠ some b → w'.heap[b]? = w.heap[b]?
 own:∀ g,v'.ownBlock=some g → v.ownBlock=some g∨w.heap.size≤g
def okN (l:List Nd) (i:Nat) (h:i < l.length):Prop :=
 (0 < i → 1≤l[i].deep∧l[i].deep≤(l[i - 1]'(by omega)).deep+1)∧nodeOk l[i]=true∧(∀ h2:i+1 < l.length,l[i].deep < l[i+1].deep → l[i].text=[])
theorem steps_iff:∀ l:List Nd,stepsX l=true ↔ ∀ i (h:i < l.length),okN l i h
 | []=>by simp [stepsX]
 | [x]=>by
  constructor
  ·intro h i hi
   have:i=0:=by simp at hi; exact hi
   subst this;exact ⟨fun hp=>absurd hp (by omega),h,fun h2=>absurd h2 (by simp)⟩
  ·intro h;exact (h 0 (by simp)).2.1
 | x :: y :: r=>by
  have hnx:nextOk x y=true ↔ (1≤y.deep∧y.deep≤x.deep+1)∧(x.deep < y.deep → x.text=[]):=by
   unfold nextOk;rw [Bool.and_eq_true,decide_eq_true_iff,Bool.or_eq_true,Bool.not_eq_true',decide_eq_false_iff_not,List.isEmpty_iff]
   constructor
   ·rintro ⟨h1,h2⟩;exact ⟨h1,fun h=>h2.resolve_left (fun h3=>h3 h)⟩
   ·rintro ⟨h1,h2⟩;refine ⟨h1,?_⟩
    by_cases h:x.deep < y.deep
    ·exact .inr (h2 h)
    ·exact .inl h
  rw [stepsX,Bool.and_eq_true,Bool.and_eq_true,steps_iff (y :: r),hnx]
  constructor
  ·rintro ⟨h1,h2,h3⟩ i hi
   match i,hi with
   | 0,hi=>exact ⟨fun hp=>absurd hp (by omega),h1,fun _ hd=>h2.2 hd⟩
   | 1,hi=>exact ⟨fun _=>h2.1,(h3 0 (by simp)).2.1,fun h4 hd=>(h3 0 (by simp)).2.2 (by simpa using h4) hd⟩
   | j+2,hi =>
    have h:=h3 (j+1) (by simpa using hi);exact ⟨fun _=>h.1 (by omega),h.2.1,fun h4 hd=>h.2.2 (by simp only [List.length_cons] at h4 ⊢; omega) hd⟩
  ·intro h;have h0:=h 0 (by simp);have h1:=h 1 (by simp);refine ⟨h0.2.1,⟨h1.1 (by omega),fun hd=>h0.2.2 (by simp) hd⟩,fun i hi=>?_⟩
   have hh:=h (i+1) (by simpa using hi);refine ⟨fun hp=>?_,hh.2.1,fun h4 hd=>hh.2.2 (by simpa using h4) hd⟩
   obtain ⟨j,rfl⟩:∃ j,i=j+1:=⟨i - 1,by omega⟩
   exact hh.1 (by omega)
def okC (cs:List NdC) (i:Nat) (h:i < cs.length):Prop :=
 (0 < i → 1≤cs[i].nd.deep∧cs[i].nd.deep≤(cs[i - 1]'(by omega)).nd.deep+1)∧nodeOk cs[i].nd=true∧(∀ h2:i+1 < cs.length,cs[i].nd.deep < cs[i+1].nd.deep → cs[i].nd.text=[])
theorem okC_iff (cs:List NdC) (i:Nat) (h:i < cs.length):okC cs i h ↔ okN (ndsL cs) i (by rw [ndsL_len]; exact h):=by
 unfold okC okN
 simp [ndsL]
theorem chk_bad {cs:List NdC} {i:Nat} (h:i < cs.length) (hb:¬ okC cs i h):checkX (ndsL cs)=130:=by
 unfold checkX;rw [if_pos];refine .inr (.inr (.inr ?_))
 cases hs:stepsX (ndsL cs) with
 | false=>rfl
 | true=>exact absurd ((okC_iff cs i h).2 ((steps_iff _).1 hs i _)) hb
theorem chk_head {cs:List NdC} (h:0 < cs.length) (hb:cs[0].nd.deep ≠ 0):checkX (ndsL cs)=130:=by
 unfold checkX;rw [if_pos];refine .inr (.inr (.inl ?_))
 rw [List.head?_eq_getElem?]
 simpa [ndsL,h] using hb
theorem chk_ok {cs:List NdC} (h:0 < cs.length) (h2:cs.length≤200) (h0:cs[0].nd.deep=0) (ha:∀ i (hi:i < cs.length),okC cs i hi):checkX (ndsL cs)=0:=by
 unfold checkX;rw [if_neg];have e:=ndsL_len cs;have hs:stepsX (ndsL cs)=true:=(steps_iff _).2 fun i hi=>(okC_iff cs i (by rw [← e]; exact hi)).1 (ha i _);rintro (h3 | h3 | h3 | h3)
 ·omega
 ·omega
 ·apply h3
  rw [List.head?_eq_getElem?]
  simpa [ndsL,h] using h0
 ·rw [hs] at h3; cases h3
theorem chk_size {cs:List NdC} (h:cs.length < 1∨200 < cs.length):checkX (ndsL cs)=130:=by
 unfold checkX;rw [if_pos];rw [ndsL_len]
 rcases h with h | h
 ·exact .inl h
 ·exact .inr (.inl h)
theorem drop_extract (l:List UInt8) (n:Nat) (h:n≤l.length):(⟨l.toArray⟩:ByteArray).extract n l.length=⟨(l.drop n).toArray⟩:=by
 apply ByteArray.ext
 simp [List.take_of_length_le]
end Go.Proofs.YtdbalahkmeknaaaGreatDoor
