/-
  StrLib, AnySet, XTrim, RX1, RX2, XName, RefTexts, RX7, RX9.
-/
import Derived.Test.YtldkidljjbkmbaaGreatDoorPX08
import Derived.Lib.Bytealg
import Derived.Lib.CountLaws
import Derived.Laws.Entries
import Derived.Lib.AsciiSet
import Derived.Laws.RangeAny
import Derived.Laws.Runes
import Derived.Laws.ResultCell
import Derived.Deep.WholeRow
import Derived.Deep.LoopGhost
set_option linter.unusedVariables false
set_option linter.unusedSimpArgs false
set_option maxRecDepth 20000
namespace Go.Proofs.YtldkidljjbkmbaaGreatDoor
open Go.RowKit Sc
theorem idx_cases (l:List UInt8) (c:UInt8):(c ∉ l∧Lib.indexByte l c=-1)∨∃ a b,l=a++c :: b∧c ∉ a∧Lib.indexByte l c=(a.length:Int):=by
 induction l with
 | nil=>exact .inl ⟨by simp,rfl⟩
 | cons x l ih =>
  by_cases h:x=c
  ·subst h; exact .inr ⟨[],l,rfl,by simp,by simp [Lib.indexByte]⟩
  ·have hb:(x==c)=false:=by simpa using h
   rcases ih with ⟨h1,h2⟩ | ⟨a,b,h1,h2,h3⟩
   ·exact .inl ⟨by rw [List.mem_cons,not_or]; exact ⟨fun e=>h e.symm,h1⟩,by simp [Lib.indexByte,hb,h2]⟩
   ·refine .inr ⟨x :: a,b,by rw [h1]; rfl,by rw [List.mem_cons,not_or]; exact ⟨fun e=>h e.symm,h2⟩,?_⟩
    rw [Lib.indexByte,hb,h3]
    have:((a.length:Int)==-1)=false:=by rw [beq_eq_false_iff_ne]; omega
    simp [this]
set_option maxHeartbeats 400000 in
theorem slIndexByte_any (s:ByteArray) (c:UInt8) (w:World) :
  Calls Tryz.prog 150 #[.string s,.int .u8 c.toNat] w fun e w'=>e=.returned (.int .i64 (Lib.indexByte s.data.toList c))∧w'=w:=by
 have hc:(c.toNat:Int).toNat.toUInt8=c:=by simp
 go_enter Tryz.func150,Tryz.ntmps150
 go_wp2;rw [run_callFunc_extern Tryz.func164 (by kernel_rfl) (by kernel_rfl) (by kernel_rfl) (e:=Extern.BytealgIndexByte.indexByte) (by kernel_rfl),Lib.run_indexByteString,hc];simp only [Result.andThen];rw [Oper.upon_value];go_wp2;go_ret;exact ⟨rfl,rfl⟩
set_option maxHeartbeats 400000 in
theorem strIndexByte_any (s:ByteArray) (c:UInt8) (w:World) :
  Calls Tryz.prog 126 #[.string s,.int .u8 c.toNat] w fun e w'=>e=.returned (.int .i64 (Lib.indexByte s.data.toList c))∧w'=w:=by
 go_enter Tryz.func126,Tryz.ntmps126
 go_wp2_with (go_at_call 150; refine (slIndexByte_any _ _ _).mono ?_; rintro e w' ⟨rfl,rfl⟩)
 go_ret;exact ⟨rfl,rfl⟩
set_option maxHeartbeats 1000000 in
theorem slIndex_any (s:ByteArray) (c:UInt8) (w:World) :
  Calls Tryz.prog 135 #[.string s,.string ⟨#[c]⟩] w fun e w'=>e=.returned (.int .i64 (Lib.indexByte s.data.toList c))∧w'=w:=by
 have h0:(ByteArray.mk #[c]).size=1:=rfl;by_cases hs:s=⟨#[c]⟩
 ·subst hs;have hv:Hid (Lib.indexByte (ByteArray.mk #[c]).data.toList c=0):=show _=_ by simp [Lib.indexByte]
  go_enter Tryz.func135,Tryz.ntmps135
  go_wp2;go_ret;exact ⟨ret_int hv.out.symm,rfl⟩
 ·have hne:([c]==s.toList)=false:=by
   rw [beq_eq_false_iff_ne];intro e
   apply hs
   rw [ByteArray.toList_eq] at e
   apply ByteArray.ext
   exact (Array.toList_inj.1 (show s.data.toList=(#[c]:Array UInt8).toList from e.symm))
  go_enter Tryz.func135,Tryz.ntmps135
  go_wp2_with (go_at_call 150; refine (slIndexByte_any _ c _).mono ?_; rintro e w' ⟨rfl,rfl⟩)
  go_ret;exact ⟨rfl,rfl⟩
set_option maxHeartbeats 400000 in
theorem strIndex_any (s:ByteArray) (c:UInt8) (w:World) :
  Calls Tryz.prog 162 #[.string s,.string ⟨#[c]⟩] w fun e w'=>e=.returned (.int .i64 (Lib.indexByte s.data.toList c))∧w'=w:=by
 go_enter Tryz.func162,Tryz.ntmps162
 go_wp2_with (go_at_call 135; refine (slIndex_any _ c _).mono ?_; rintro e w' ⟨rfl,rfl⟩)
 go_ret;exact ⟨rfl,rfl⟩
theorem cut_data (s:ByteArray) {a b:List UInt8} {c:UInt8} (h:s.data.toList=a++c :: b):s.extract 0 a.length=⟨a.toArray⟩∧s.extract (a.length+1) s.size=⟨b.toArray⟩∧s.size=a.length+1+b.length:=by
 have hl:=len_data s;rw [h] at hl
 simp at hl
 refine ⟨?_,?_,by omega⟩
 ·rw [ext_list,h]; simp
 ·rw [ext_list,h,List.drop_append,List.drop_eq_nil_of_le (by omega),← hl];have e:a.length+1 - a.length=1:=by omega
  have e2:a.length+(b.length+1) - (a.length+1)=b.length:=by omega
  rw [e,e2]; simp
set_option maxHeartbeats 1000000 in
theorem slCut_any (s:ByteArray) (c:UInt8) (w:World) (hs:s.size≤9223372036854775807) :
  Calls Tryz.prog 106 #[.string s,.string ⟨#[c]⟩] w fun e w'=>e=.returned (.tuple #[.string ⟨(cutL c s.data.toList).1.toArray⟩,.string ⟨(cutL c s.data.toList).2.1.toArray⟩,.bool (cutL c s.data.toList).2.2])∧∃ q,w'=w.drewN q:=by
 have h0:(ByteArray.mk #[c]).size=1:=rfl
 rcases idx_cases s.data.toList c with ⟨h1,h2⟩ | ⟨a,b,h1,h2,h3⟩
 ·have hv:Hid (cutL c s.data.toList=(s.data.toList,[],false)):=cutL_miss h1;clear h1
  go_enter Tryz.func106,Tryz.ntmps106
  go_wp2_with (go_at_call 135; refine (slIndex_any _ c _).mono ?_; rintro e w' ⟨rfl,rfl⟩; rw [h2])
  go_ret3
  exact ⟨ret_cut hv.out,0,rfl⟩
 ·obtain ⟨e1,e2,e3⟩:=cut_data s h1;have hv:Hid (cutL c s.data.toList=(a,b,true)):=show _=_ by rw [h1]; exact cutL_hit h2
  have E1:Hid _:=e1;rw [e3] at e2;have E2:Hid _:=e2;clear e1 e2 h1 h2;have hk:a.length < s.size:=by omega
  have hwr:IntKind.i64.wrap ((a.length:Int)+1)=((a.length+1:Nat):Int):=by
   simp [IntKind.wrap,IntKind.bits,IntKind.signed]; omega
  go_enter Tryz.func106,Tryz.ntmps106
  go_wp2_with (go_at_call 135; refine (slIndex_any _ c _).mono ?_; rintro e w' ⟨rfl,rfl⟩; rw [h3])
  go_quiet (fail)
  go_wp2;go_ret3
  exact ⟨ret_cut (by rw [hv.out,E1.out,E2.out]),nq,rfl⟩
set_option maxHeartbeats 400000 in
theorem strCut_any (s:ByteArray) (c:UInt8) (w:World) (hs:s.size≤9223372036854775807) :
  Calls Tryz.prog 74 #[.string s,.string ⟨#[c]⟩] w fun e w'=>e=.returned (.tuple #[.string ⟨(cutL c s.data.toList).1.toArray⟩,.string ⟨(cutL c s.data.toList).2.1.toArray⟩,.bool (cutL c s.data.toList).2.2])∧∃ q,w'=w.drewN q:=by
 go_enter Tryz.func74,Tryz.ntmps74
 go_wp2_with (go_at_call 106; refine (slCut_any _ c _ hs).mono ?_; rintro e w' ⟨rfl,q,rfl⟩)
 go_ret3
 exact ⟨rfl,q,rfl⟩
set_option maxHeartbeats 400000 in
theorem strCount_any (s:ByteArray) (c:UInt8) (w:World) :
  Calls Tryz.prog 161 #[.string s,.string ⟨#[c]⟩] w fun e w'=>e=.returned (.int .i64 (Lib.countByte s.data.toList c))∧w'=w:=by
 have h0:(ByteArray.mk #[c]).size=1:=rfl
 go_enter Tryz.func161,Tryz.ntmps161
 go_wp2;rw [run_callFunc_extern Tryz.func170 (by kernel_rfl) (by kernel_rfl) (by kernel_rfl) (e:=Extern.BytealgCount.count) (by kernel_rfl),Lib.run_countString];simp only [Result.andThen];rw [Oper.upon_value];go_wp2;go_ret;exact ⟨rfl,rfl⟩
def startsB (c:UInt8) (l:List UInt8):Bool:=l.getD 0 0==c
def endsB (c:UInt8) (l:List UInt8):Bool:=l.getD (l.length - 1) 0==c
set_option maxHeartbeats 400000 in
theorem slPrefix_any (s:ByteArray) (c:UInt8) (w:World) (h0c:(0==c)=false) :
  Calls Tryz.prog 145 #[.string s,.string ⟨#[c]⟩] w fun e w'=>e=.returned (.bool (startsB c s.data.toList))∧w'=w:=by
 have h0:(ByteArray.mk #[c]).size=1:=rfl;by_cases hs:1≤s.size
 ·have e1:Hid ((s.extract 0 1).toList=[s.data.toList.getD 0 0]):=show _=_ by
   rw [ByteArray.toList_eq,ext_list];have hl:=len_data s
   cases hd:s.data.toList with
   | nil=>rw [hd] at hl; simp at hl; omega
   | cons x l=>simp
  go_enter Tryz.func145,Tryz.ntmps145
  go_wp2;go_ret;refine ⟨ret_bool ?_,rfl⟩
  rw [e1.out,startsB]
  simp
 ·have hl:Hid (startsB c s.data.toList=false):=show _=_ by
   rw [List.eq_nil_of_length_eq_zero (l:=s.data.toList) (by rw [len_data]; omega)]; exact h0c
  go_enter Tryz.func145,Tryz.ntmps145
  go_wp2;go_ret;exact ⟨ret_bool hl.out.symm,rfl⟩
set_option maxHeartbeats 400000 in
theorem strPrefix_any (s:ByteArray) (c:UInt8) (w:World) (h0c:(0==c)=false) :
  Calls Tryz.prog 140 #[.string s,.string ⟨#[c]⟩] w fun e w'=>e=.returned (.bool (startsB c s.data.toList))∧w'=w:=by
 go_enter Tryz.func140,Tryz.ntmps140
 go_wp2_with (go_at_call 145; refine (slPrefix_any _ c _ h0c).mono ?_; rintro e w' ⟨rfl,rfl⟩)
 go_ret;exact ⟨rfl,rfl⟩
set_option maxHeartbeats 400000 in
theorem slSuffix_any (s:ByteArray) (c:UInt8) (w:World) (h0c:(0==c)=false) (hs:s.size≤9223372036854775807) :
  Calls Tryz.prog 171 #[.string s,.string ⟨#[c]⟩] w fun e w'=>e=.returned (.bool (endsB c s.data.toList))∧w'=w:=by
 have h0:(ByteArray.mk #[c]).size=1:=rfl;by_cases hs:1≤s.size
 ·have e1:Hid ((s.extract (s.size - 1) s.size).toList=[s.data.toList.getD (s.size - 1) 0]):=show _=_ by
   rw [ByteArray.toList_eq,ext_list];have hl:=len_data s;have e:s.size - (s.size - 1)=1:=by omega
   rw [e,List.drop_eq_getElem_cons (by omega),List.getD_eq_getElem?_getD,List.getElem?_eq_getElem (by omega)]
   simp
  have hwr:IntKind.i64.wrap ((s.size:Int) - 1)=((s.size - 1:Nat):Int):=by
   simp [IntKind.wrap,IntKind.bits,IntKind.signed]; omega
  go_enter Tryz.func171,Tryz.ntmps171
  go_wp2;go_ret;refine ⟨ret_bool ?_,rfl⟩
  rw [e1.out,endsB,len_data]
  simp
 ·have hl:Hid (endsB c s.data.toList=false):=show _=_ by
   rw [List.eq_nil_of_length_eq_zero (l:=s.data.toList) (by rw [len_data]; omega)]; exact h0c
  go_enter Tryz.func171,Tryz.ntmps171
  go_wp2;go_ret;exact ⟨ret_bool hl.out.symm,rfl⟩
set_option maxHeartbeats 400000 in
theorem strSuffix_any (s:ByteArray) (c:UInt8) (w:World) (h0c:(0==c)=false) (hs:s.size≤9223372036854775807) :
  Calls Tryz.prog 163 #[.string s,.string ⟨#[c]⟩] w fun e w'=>e=.returned (.bool (endsB c s.data.toList))∧w'=w:=by
 go_enter Tryz.func163,Tryz.ntmps163
 go_wp2_with (go_at_call 171; refine (slSuffix_any _ c _ h0c hs).mono ?_; rintro e w' ⟨rfl,rfl⟩)
 go_ret;exact ⟨rfl,rfl⟩
theorem infoSet:(Tryz.prog.info? 151).map (fun i=>(i.zero,i.size))=some (some (.agg (Array.replicate 256 (.bool false))),256):=by kernel_rfl
theorem underSet:Tryz.prog.underlying 151=some (.array 256 4):=by kernel_rfl
theorem wp_load_new {P:Program} {w:World} {ops:Array Oper} {rest:List Oper} {o:Oper} {a:Act} {Q:Exit → Act → World → Prop} (hgd:o.guard=none) (p:Operand) (t:TypeId) (ho:o.op=Op.load t p)
  (c:Array Value) (n:Nat) (e:TypeId) (hu:P.underlying t=some (.array n e)) (hi:(P.info? t).map (·.size)=some c.size) (hp:a.eval p=.pointer (some ⟨w.heap.size,0,none⟩))
  (h:wpList P ops Q rest (a.put o.dst (.agg c)) (w.alloc (.cells c t))):wpList P ops Q (o :: rest) a (w.alloc (.cells c t)):=by
 refine wpList_plain hgd fun K hK=>?_
 have hr:=run_loadAt_new (P:=P) w t c n e hu hi;unfold Oper.wp execOp;simp only [ho,hp,Sem.run_bind,Sem.run_pure,Result.andThen_ok,hr];exact hK _ _ h
theorem wp_store_new {P:Program} {w:World} {ops:Array Oper} {rest:List Oper} {o:Oper} {a:Act} {Q:Exit → Act → World → Prop} (hgd:o.guard=none) (p x:Operand) (t:TypeId) (ho:o.op=Op.store t p x) (hd:o.dst=none)
  (c c':Array Value) (hi:(P.info? t).map (·.size)=some c'.size) (hcc:c.size=c'.size) (h1:c'.all (·.oneCell')=true) (g:Nat) (hg:w.heap.size=g) (hp:a.eval p=.pointer (some ⟨g,0,none⟩)) (hx:a.eval x=.agg c')
  (h:wpList P ops Q rest a (w.alloc (.cells c' t))):wpList P ops Q (o :: rest) a (w.alloc (.cells c t)):=by
 refine wpList_plain hgd fun K hK=>?_
 have hr:=run_storeAt_new (P:=P) w t c c' hi hcc h1;rw [hg] at hr;unfold Oper.wp execOp;simp only [ho,hp,hx,Sem.run_bind,Sem.run_pure,Result.andThen_ok,hr];exact hK _ _ (by rw [hd]; exact h)
set_option maxHeartbeats 1000000 in
set_option maxRecDepth 100000 in
theorem makeSet_any (chars:ByteArray) (w:World) (hs:chars.size < 4294967281) (hascii:∀ (j:Nat) b,chars.data.toList[j]? = some b → b.toNat < 128) :
  Calls Tryz.prog 129 #[.string chars] w fun e w'=>e=.returned (.tuple #[.agg (Lib.setCells chars.data.toList),.bool true])∧w'=w.alloc (.cells (Lib.setCells chars.data.toList) 151):=by
 have HA:=hid hascii;clear hascii;have hzv:=(zero_of_info infoSet).1
 go_enter Tryz.func129,Tryz.ntmps129
 go_wp2;rw [← Lib.setCells_nil]
 go_loopg [4] chars.size (fun g s4 wx=>∃ i:Nat,i+g=chars.size∧s4=.int .i64 i∧wx=w.alloc (.cells (Lib.setCells (chars.data.toList.take i)) 151))
 case atStart=>exact ⟨0,by omega,rfl,rfl⟩
 case round =>
  obtain ⟨i,hig,rfl,rfl⟩:=hrel
  cases gk with
  | zero =>
   obtain rfl:i=chars.size:=by omega
   have hiz:¬ ((chars.size:Int) < (chars.size:Int)):=by omega
   rw [show chars.data.toList.take chars.size=chars.data.toList from take_all chars chars.size (Nat.le_refl _)];have hi138:=(zero_of_info infoSet).2;have hsz:=Lib.setCells_size chars.data.toList;have hi2:=hid (show (Tryz.prog.info? 151).map (·.size)=some (Lib.setCells chars.data.toList).size by rw [hsz]; exact hi138);have hld:=run_loadVar_new (P:=Tryz.prog) w 151 (Lib.setCells chars.data.toList) 256 4 underSet (by rw [hsz]; exact hi138);clear hig;have HLD:=hid hld;clear hld hi138;go_wp2_with (first | (refine wp_load_new rfl (.tmp 2) 151 rfl (Lib.setCells chars.data.toList) 256 4 underSet hi2.out rfl ?_) | (refine wp_store_new rfl (.tmp 2) (.tmp 20) 151 rfl rfl (Lib.setCells chars.data.toList) (Lib.setCells chars.data.toList) hi2.out rfl (Lib.setCells_one _) _ rfl rfl rfl ?_))
   (try simp only [Exit.inBlock,Exit.then])
   refine bodyPost_ret (v:=.tuple #[.agg (Lib.setCells chars.data.toList),.bool true]) ?_ rfl ⟨rfl,rfl⟩
   rw [results_cell_tmp rfl]
   simp [asAddr,Result.andThen,HLD.out]
  | succ g =>
   have hi:i < chars.size:=by omega
   have hiz:(i:Int) < (chars.size:Int):=by omega
   obtain ⟨x,hx⟩:∃ x:UInt8,chars[i]'hi=x:=⟨_,rfl⟩
   have hxl:chars.data.toList[i]? = some x:=by rw [← hx]; exact getL chars i hi
   have hx128:¬ ((128:Int)≤(x.toNat:Int)):=by have:=HA.out i x hxl; omega
   have hx256:(x.toNat:Int) < 256:=by have:=HA.out i x hxl; omega
   have hcell:=Lib.setCells_at (chars.data.toList.take i) x;have Hx:=hid hxl;clear hxl;go_wp2
   go_roundg g
   case measure=>omega
   case rel=>exact ⟨i+1,by omega,by first | rfl | simp,by rw [List.take_add_one,Hx.out]; simp only [Option.toList]; rw [Lib.setCells_snoc]⟩
set_option maxHeartbeats 400000 in
theorem setHas_any (b:Nat) (x:UInt8) (v:Bool) (w:World) (hc:w.cell? ⟨b,x.toNat,none⟩=some (.bool v)) :
  Calls Tryz.prog 151 #[.pointer (some ⟨b,0,none⟩),.int .u8 x.toNat] w fun e w'=>e=.returned (.bool v)∧w'=w:=by
 have hx256:(x.toNat:Int) < 256:=by have:=UInt8.toNat_lt x; omega
 go_enter Tryz.func151,Tryz.ntmps151
 go_wp2;go_ret;exact ⟨rfl,rfl⟩
def xbL:List UInt8:=[32,9,13,10]
theorem xbL_is (b:UInt8):xbL.contains b=xblk b:=by
 have:∀ b:UInt8,xbL.contains b=xblk b:=by apply byte_all; decide +kernel
 exact this b
theorem xb_ascii:∀ (j:Nat) (b:UInt8),(⟨#[32,9,13,10]⟩:ByteArray).data.toList[j]? = some b → b.toNat < 128:=by
 intro j b h
 have:b ∈ [32,9,13,10]:=List.mem_of_getElem? h
 simp at this
 rcases this with rfl | rfl | rfl | rfl <;> decide
theorem xbehind_drop {l:List UInt8} {b:UInt8} (h:xblk b=true):xbehind (l++[b])=xbehind l:=by
 unfold xbehind; simp [h]
theorem xbehind_stop {l:List UInt8} {b:UInt8} (h:xblk b=false):xbehind (l++[b])=l++[b]:=by
 unfold xbehind; simp [h]
theorem xbehind_len (l:List UInt8):(xbehind l).length≤l.length:=by
 unfold xbehind
 have:=(List.dropWhile_suffix (l:=l.reverse) xblk).length_le
 simpa using this
theorem xlast_split (t:ByteArray) (h:0 < t.size):t.data.toList=(t.extract 0 (t.size - 1)).data.toList++[t[t.size - 1]]:=by
 have:=take_snoc t (t.size - 1) (by omega)
 rw [show t.size - 1+1=t.size by omega,take_all t t.size (Nat.le_refl _)] at this;rw [Lib.extract_from_zero,← this]
theorem xfirst_split (t:ByteArray) (h:0 < t.size):t.data.toList=t[0] :: (t.extract 1 t.size).data.toList:=by
 have e:=ext_list t 1 t.size
 have e2:(t.extract 1 t.size).data.toList=t.data.toList.drop 1:=by
  rw [e]
  show (t.data.toList.drop 1).take (t.size - 1)=_
  rw [List.take_of_length_le];rw [List.length_drop,len_data]; omega
 rw [e2];have hl:=len_data t
 have:=getL t 0 h
 cases hd:t.data.toList with
 | nil=>rw [hd] at hl; simp at hl; omega
 | cons a r=>rw [hd] at this; simp at this; rw [this]; rfl
def xstrSize:Value → Nat | .string t=>t.size | _=>0
theorem xret_data {t:ByteArray} {l:List UInt8} (h:t.data.toList=l):Ending.returned (.string t)=.returned (.string ⟨l.toArray⟩):=by
 rw [← h]
set_option maxHeartbeats 400000 in
theorem xtrimR_any (s:ByteArray) (b:Nat) (w:World) (hs:s.size≤140737488355328) (hc:∀ x:UInt8,w.cell? ⟨b,x.toNat,none⟩=some (.bool (xblk x))) :
  Calls Tryz.prog 131 #[.string s,.pointer (some ⟨b,0,none⟩)] w fun e w'=>e=.returned (.string ⟨(xbehind s.data.toList).toArray⟩)∧w'=w:=by
 have HC:=hid hc;clear hc
 go_enter Tryz.func131,Tryz.ntmps131
 go_wp2
 go_loop [0] (fun x=>∃ t:ByteArray,x=.string t∧t.size≤s.size∧Hid (xbehind s.data.toList=xbehind t.data.toList)) (fun x=>xstrSize x)
 case atStart=>exact ⟨s,rfl,Nat.le_refl _,hid rfl⟩
 case round =>
  obtain ⟨t,rfl,hts,hv⟩:=hrel;by_cases h0:0 < t.size
  ·have hl:=xlast_split t h0;have ht1:((t.size:Int) - 1).toNat=t.size - 1:=by omega
   have HZ:Hid ((t.extract 0 (t.size - 1)).size=t.size - 1):=show _=_ by rw [ByteArray.size_extract]; omega
   have KH:=hid (setHas_any b t[t.size - 1] _ _ (HC.out t[t.size - 1]));by_cases hb:xblk t[t.size - 1]=true
   ·rw [hb] at KH;have hnx:Hid (xbehind s.data.toList=xbehind (t.extract 0 (t.size - 1)).data.toList):=show _=_ by rw [hv.out,hl,xbehind_drop hb]
    clear hl hb hv;go_wp2_with (go_at_call 151; refine KH.out.mono ?_; rintro e w' ⟨rfl,hw⟩; rw [hw])
    go_round
    case rel=>exact ⟨t.extract 0 (t.size - 1),rfl,by rw [HZ.out]; omega,hnx⟩
    case measure=>show (t.extract 0 (t.size - 1)).size < t.size; rw [HZ.out]; omega
   ·have hb2:xblk t[t.size - 1]=false:=by simpa using hb
    rw [hb2] at KH;have hE:Hid (t.data.toList=xbehind s.data.toList):=show _=_ by rw [hv.out,hl,xbehind_stop hb2]
    clear hl hb hb2 hv;go_wp2_with (go_at_call 151; refine KH.out.mono ?_; rintro e w' ⟨rfl,hw⟩; rw [hw])
    go_ret;exact ⟨xret_data hE.out,rfl⟩
  ·have hE:Hid (t.data.toList=xbehind s.data.toList):=show _=_ by
    have:t.data.toList=[]:=List.eq_nil_of_length_eq_zero (by rw [len_data]; omega)
    rw [hv.out,this]; rfl
   clear hv;go_wp2;go_ret;exact ⟨xret_data hE.out,rfl⟩
set_option maxHeartbeats 400000 in
theorem xtrimL_any (s:ByteArray) (b:Nat) (w:World) (hs:s.size≤140737488355328) (hc:∀ x:UInt8,w.cell? ⟨b,x.toNat,none⟩=some (.bool (xblk x))) :
  Calls Tryz.prog 130 #[.string s,.pointer (some ⟨b,0,none⟩)] w fun e w'=>e=.returned (.string ⟨(s.data.toList.dropWhile xblk).toArray⟩)∧w'=w:=by
 have HC:=hid hc;clear hc
 go_enter Tryz.func130,Tryz.ntmps130
 go_wp2
 go_loop [0] (fun x=>∃ t:ByteArray,x=.string t∧t.size≤s.size∧Hid (s.data.toList.dropWhile xblk=t.data.toList.dropWhile xblk)) (fun x=>xstrSize x)
 case atStart=>exact ⟨s,rfl,Nat.le_refl _,hid rfl⟩
 case round =>
  obtain ⟨t,rfl,hts,hv⟩:=hrel;by_cases h0:0 < t.size
  ·have hl:=xfirst_split t h0;have HZ:Hid ((t.extract 1 t.size).size=t.size - 1):=show _=_ by rw [ByteArray.size_extract]; omega
   have KH:=hid (setHas_any b t[0] _ _ (HC.out t[0]));have h1:(1:Int)≤(t.size:Int):=by omega
   by_cases hb:xblk t[0]=true
   ·rw [hb] at KH;have hnx:Hid (s.data.toList.dropWhile xblk=(t.extract 1 t.size).data.toList.dropWhile xblk):=show _=_ by rw [hv.out,hl,List.dropWhile_cons,if_pos hb]
    clear hl hb hv;go_wp2_with (go_at_call 151; refine KH.out.mono ?_; rintro e w' ⟨rfl,hw⟩; rw [hw])
    go_round
    case rel=>exact ⟨t.extract 1 t.size,rfl,by rw [HZ.out]; omega,hnx⟩
    case measure=>show (t.extract 1 t.size).size < t.size; rw [HZ.out]; omega
   ·have hb2:xblk t[0]=false:=by simpa using hb
    rw [hb2] at KH;have hE:Hid (t.data.toList=s.data.toList.dropWhile xblk):=show _=_ by rw [hv.out,hl,List.dropWhile_cons,if_neg hb]
    clear hl hb hb2 hv;go_wp2_with (go_at_call 151; refine KH.out.mono ?_; rintro e w' ⟨rfl,hw⟩; rw [hw])
    go_ret;exact ⟨xret_data hE.out,rfl⟩
  ·have hE:Hid (t.data.toList=s.data.toList.dropWhile xblk):=show _=_ by
    have:t.data.toList=[]:=List.eq_nil_of_length_eq_zero (by rw [len_data]; omega)
    rw [hv.out,this]; rfl
   clear hv;go_wp2;go_ret;exact ⟨xret_data hE.out,rfl⟩
theorem xtrim_two (l:List UInt8):(xbehind l).dropWhile xblk=xtrim l:=by
 unfold xtrim xbehind;by_cases h:∀ b ∈ l,xblk b=true
 ·rw [drop_blanks h];have h2:l.reverse.dropWhile xblk=[]:=drop_blanks (fun b hb=>h b (List.mem_reverse.1 hb));rw [h2]; rfl
 ·have hx:∃ a c r,l=a++c :: r∧(∀ b ∈ a,xblk b=true)∧xblk c=false:=by
   have e:=List.takeWhile_append_dropWhile (p:=xblk) (l:=l)
   cases hd:l.dropWhile xblk with
   | nil =>
    exfalso
    apply h
    intro b hb;rw [hd,List.append_nil] at e;rw [← e] at hb;exact List.all_eq_true.1 (List.all_takeWhile) b hb
   | cons c r =>
    refine ⟨l.takeWhile xblk,c,r,by rw [← hd]; exact e.symm,fun b hb=>List.all_eq_true.1 (List.all_takeWhile) b hb,?_⟩
    have:=List.head?_dropWhile_not xblk l
    rw [hd] at this; simpa using this
  obtain ⟨a,c,r,rfl,ha,hc⟩:=hx;have e1:∀ q:List UInt8,(a++c :: q).dropWhile xblk=c :: q:=fun q=>(takeW_app ha hc).2;rw [e1]
  have e2:∀ q:List UInt8,xblk c=false → ((c :: q).reverse.dropWhile xblk).reverse=c :: (q.reverse.dropWhile xblk).reverse:=fun q _=>by
   rw [List.reverse_cons];by_cases hq:∀ b ∈ q,xblk b=true
   ·have h2:q.reverse.dropWhile xblk=[]:=drop_blanks (fun b hb=>hq b (List.mem_reverse.1 hb));rw [h2,List.dropWhile_append,h2]; simp [hc]
   ·rw [List.dropWhile_append]
    have:(q.reverse.dropWhile xblk).isEmpty=false:=by
     cases hh:q.reverse.dropWhile xblk with
     | nil =>
      exfalso; apply hq
      intro b hb;have e3:=List.takeWhile_append_dropWhile (p:=xblk) (l:=q.reverse);rw [hh,List.append_nil] at e3;have hb2:b ∈ q.reverse.takeWhile xblk:=by rw [e3]; exact List.mem_reverse.2 hb
      exact List.all_eq_true.1 (List.all_takeWhile) b hb2
     | cons x y=>rfl
    rw [if_neg (by simp [this])]
    simp
  have e4:((a++c :: r).reverse.dropWhile xblk).reverse=a++((c :: r).reverse.dropWhile xblk).reverse:=by
   rw [List.reverse_append,List.dropWhile_append]
   have:((c :: r).reverse.dropWhile xblk).isEmpty=false:=by
    cases hh:(c :: r).reverse.dropWhile xblk with
    | nil=>have:=e2 r hc; rw [hh] at this; simp at this
    | cons x y=>rfl
   rw [if_neg (by rw [this]; exact Bool.false_ne_true)]; simp
  rw [e4,e2 r hc,e1]
set_option maxHeartbeats 1000000 in
set_option maxRecDepth 100000 in
theorem xtrimAll_list (l:List UInt8) (w:World) (hl:l.length≤140737488355328) :
  Calls Tryz.prog 102 #[.string ⟨l.toArray⟩,.string ⟨#[32,9,13,10]⟩] w fun e w'=>e=.returned (.string ⟨(xtrim l).toArray⟩)∧Below w.heap.size w w':=by
 cases he:l.isEmpty with
 | true =>
  obtain rfl:l=[]:=by simpa using he
  have hE:Hid (xtrim []=[]):=rfl
  go_enter Tryz.func102,Tryz.ntmps102
  go_wp2;go_ret;exact ⟨by rw [hE.out]; rfl,Below.refl _ _⟩
 | false =>
  have KM:=hid (makeSet_any ⟨#[32,9,13,10]⟩ w (by decide) xb_ascii);have hsz:=Lib.setCells_size [32,9,13,10];have hi2:=hid (show (Tryz.prog.info? 151).map (·.size)=some (Lib.setCells [32,9,13,10]).size by rw [hsz]; exact (zero_of_info infoSet).2);have hzv:=(zero_of_info infoSet).1
  have hcellAt:∀ x:UInt8,((w.alloc (.cells (Lib.setCells [32,9,13,10]) 151)).alloc (.cells (Lib.setCells [32,9,13,10]) 151)).cell? ⟨w.heap.size+1,x.toNat,none⟩=some (.bool (xblk x)):=fun x=>by
   rw [World.cell?_alloc_at _ _ _ _ (by simp),Lib.setCells_at,← xbL_is]; rfl
  have KT:=hid (xtrimR_any ⟨l.toArray⟩ (w.heap.size+1) _ (by rw [size_list]; exact hl) hcellAt);have KL:=hid (xtrimL_any ⟨(xbehind l).toArray⟩ (w.heap.size+1) _ (by rw [size_list]; exact Nat.le_trans (xbehind_len l) hl) hcellAt);rw [show ((⟨(xbehind l).toArray⟩:ByteArray).data.toList.dropWhile xblk)=xtrim l from xtrim_two l] at KL;generalize xtrim l=R at KL;have hb2:Below w.heap.size w ((w.alloc (.cells (Lib.setCells [32,9,13,10]) 151)).alloc (.cells (Lib.setCells [32,9,13,10]) 151)):=((Below.refl _ _).alloc (Nat.le_refl _) _).alloc (by simp) _;have hrep:Hid ((Array.replicate 256 (Value.bool false)).size=(Lib.setCells [32,9,13,10]).size):=show _=_ by rw [hsz,Array.size_replicate]
  have HA1:Hid ((w.alloc (.cells (Lib.setCells [32,9,13,10]) 151)).heap.size=w.heap.size+1):=show _=_ by simp
  clear hcellAt hsz
  go_enter Tryz.func102,Tryz.ntmps102
  go_wp2_with (first
   | (go_at_call 129; refine KM.out.mono ?_; rintro e w' ⟨rfl,hw⟩; rw [hw])
   | (go_at_call 131; refine KT.out.mono ?_; rintro e w' ⟨rfl,hw⟩; rw [hw])
   | (go_at_call 130; refine KL.out.mono ?_; rintro e w' ⟨rfl,hw⟩; rw [hw])
   | (refine wp_store_new rfl (.tmp 5) (.tmp 32) 151 rfl rfl (Array.replicate 256 (.bool false)) (Lib.setCells [32,9,13,10]) hi2.out hrep.out (Lib.setCells_one _) (w.heap.size+1) HA1.out rfl rfl ?_))
  go_ret;exact ⟨rfl,hb2⟩
theorem getB (s:ByteArray) (k:Nat) (h:k < s.size):s.data.toList[k]'(by rw [len_data]; exact h)=s[k]:=by
 have:=getL s k h
 rw [List.getElem?_eq_getElem (by rw [len_data]; exact h)] at this;exact Option.some.inj this
theorem all_snocX (p:UInt8 → Bool) (s:ByteArray) (k:Nat) (h:k < s.size) (ha:(s.data.toList.take k).all p=true) (hp:p s[k]=true):(s.data.toList.take (k+1)).all p=true:=by
 rw [take_snoc s k h,List.all_append,ha]; simp [hp]
theorem all_badX (p:UInt8 → Bool) (s:ByteArray) (k:Nat) (h:k < s.size) (hp:p s[k]=false):s.data.toList.all p=false:=by
 rw [List.all_eq_false];exact ⟨s[k],by rw [← getB s k h]; exact List.getElem_mem _,by simp [hp]⟩
theorem sign_low {b:UInt8} (hx:xblk b=false) (h:b.toNat < 32):signX b=false:=by
 unfold signX; rw [hx]; simp [h]
theorem sign_ok {b:UInt8} (h:¬ b.toNat < 32) (h2:¬ b=127):signX b=true:=by
 unfold signX; simp [h,h2]
theorem name_bad (s:ByteArray) (k:Nat) (h:k < s.size) (hp:namc s[k]=false):nameX s.data.toList=false:=by
 unfold nameX; rw [all_badX _ _ _ h hp]; rfl
theorem name_head (s:ByteArray) (h:0 < s.size) (hp:letX s[0]=false):nameX s.data.toList=false:=by
 unfold nameX
 have:s.data.toList.head? = some s[0]:=by
  rw [List.head?_eq_getElem?,getL s 0 h]
 rw [this]; simp [hp]
theorem name_end (s:ByteArray) (k:Nat) (hk:s.size≤k) (ha:(s.data.toList.take k).all namc=true) (hh:k=0∨∃ h:0 < s.size,letX s[0]=true):nameX s.data.toList=(decide (1≤s.size) && decide (s.size≤64)):=by
 rw [take_all s k hk] at ha;unfold nameX;rw [ha,len_data,Bool.true_and]
 rcases hh with hh | ⟨h,hl⟩
 ·have h0:s.size=0:=by omega
  have:s.data.toList=[]:=List.eq_nil_of_length_eq_zero (by rw [len_data]; exact h0)
  rw [this,h0]; rfl
 ·have:s.data.toList.head? = some s[0]:=by
   rw [List.head?_eq_getElem?,getL s 0 h]
  rw [this];have h1:decide (1≤s.size)=true:=decide_eq_true (by omega);rw [h1]; simp [hl]
theorem begins_any (c:UInt8) (w:World):Calls Tryz.prog 98 #[.int .u8 c.toNat] w fun e w'=>e=.returned (.bool (letX c))∧w'=w:=by
 have hbd:=u8_bd c;have KC:=hid (fun w'=>class_any c.toNat w' hbd.1 hbd.2);have hV:letX c=(isB c.toNat 2 || c==95):=rfl;by_cases h:c=95
 ·have q:((c.toNat:Int)==95)=true:=u8_eq (b:=95) h;have HV:Hid (letX c=true):=show _=_ by rw [hV,h]; rfl
  clear hV h
  go_enter Tryz.func98,Tryz.ntmps98
  go_wp2;go_ret;exact ⟨ret_bool HV.out.symm,rfl⟩
 ·have q:((c.toNat:Int)==95)=false:=u8_ne (b:=95) h;have HV:Hid (letX c=isB c.toNat 2):=show _=_ by rw [hV,beq_eq_false_iff_ne.2 h,Bool.or_false]
  clear hV h
  go_enter Tryz.func98,Tryz.ntmps98
  go_wp2_with (go_at_call 125; refine (KC.out _).mono ?_; rintro e w' ⟨rfl,rfl⟩)
  go_ret;exact ⟨by rw [HV.out]; exact ret_bool rfl,rfl⟩
theorem namc_is:∀ c:UInt8,namc c=(c==95 || (c==45 || (c==46 || (c==58 || isB c.toNat 3)))):=by apply byte_all; decide +kernel
theorem goesOn_any (c:UInt8) (w:World):Calls Tryz.prog 99 #[.int .u8 c.toNat] w fun e w'=>e=.returned (.bool (namc c))∧w'=w:=by
 have hbd:=u8_bd c;have KC:=hid (fun w'=>class_any c.toNat w' hbd.1 hbd.2);have hV:=namc_is c;generalize namc c=R at hV ⊢;by_cases h:c=95
 ·have q:((c.toNat:Int)==95)=true:=u8_eq (b:=95) h;have HV:Hid (R=true):=show _=_ by rw [hV,h]; rfl
  clear hV h
  go_enter Tryz.func99,Tryz.ntmps99
  go_wp2;go_ret;exact ⟨ret_bool HV.out.symm,rfl⟩
 have q:((c.toNat:Int)==95)=false:=u8_ne (b:=95) h;rw [beq_eq_false_iff_ne.2 h,Bool.false_or] at hV;clear h;by_cases h:c=45
 ·have q1:((c.toNat:Int)==45)=true:=u8_eq (b:=45) h;have HV:Hid (R=true):=show _=_ by rw [hV,h]; rfl
  clear hV h
  go_enter Tryz.func99,Tryz.ntmps99
  go_wp2;go_ret;exact ⟨ret_bool HV.out.symm,rfl⟩
 have q1:((c.toNat:Int)==45)=false:=u8_ne (b:=45) h;rw [beq_eq_false_iff_ne.2 h,Bool.false_or] at hV;clear h;by_cases h:c=46
 ·have q2:((c.toNat:Int)==46)=true:=u8_eq (b:=46) h;have HV:Hid (R=true):=show _=_ by rw [hV,h]; rfl
  clear hV h
  go_enter Tryz.func99,Tryz.ntmps99
  go_wp2;go_ret;exact ⟨ret_bool HV.out.symm,rfl⟩
 have q2:((c.toNat:Int)==46)=false:=u8_ne (b:=46) h;rw [beq_eq_false_iff_ne.2 h,Bool.false_or] at hV;clear h;by_cases h:c=58
 ·have q3:((c.toNat:Int)==58)=true:=u8_eq (b:=58) h;have HV:Hid (R=true):=show _=_ by rw [hV,h]; rfl
  clear hV h
  go_enter Tryz.func99,Tryz.ntmps99
  go_wp2;go_ret;exact ⟨ret_bool HV.out.symm,rfl⟩
 have q3:((c.toNat:Int)==58)=false:=u8_ne (b:=58) h;rw [beq_eq_false_iff_ne.2 h,Bool.false_or] at hV;clear h;have HV:=hid hV;clear hV
 go_enter Tryz.func99,Tryz.ntmps99
 go_wp2_with (go_at_call 125; refine (KC.out _).mono ?_; rintro e w' ⟨rfl,rfl⟩)
 go_ret;exact ⟨by rw [HV.out]; exact ret_bool rfl,rfl⟩
set_option maxHeartbeats 1000000 in
theorem xname_any (s:ByteArray) (w:World) (hs:s.size≤140737488355328) :
  Calls Tryz.prog 66 #[.string s] w fun e w'=>e=.returned (.bool (nameX s.data.toList))∧w'=w:=by
 have HG:=hid goesOn_any;have HE:=hid (name_end s);have HB:=hid (fun k h=>name_bad s k h);have HH:=hid (fun h=>name_head s h);have hl:=len_data s
 have hlong:s.size=0∨64 < s.size → nameX s.data.toList=false:=fun h=>by
  unfold nameX;rw [hl]
  rcases h with h | h
  ·have:s.data.toList=[]:=List.eq_nil_of_length_eq_zero (by omega)
   rw [this]; rfl
  ·rw [decide_eq_false (by omega)]; simp
 generalize nameX s.data.toList=R at HE HB HH hlong ⊢;by_cases h0:s.size=0
 ·have hR:Hid (R=false):=hlong (.inl h0)
  have e0:s=⟨#[]⟩:=by
   apply ByteArray.ext
   apply Array.eq_empty_of_size_eq_zero
   exact h0
  subst e0;clear HE HB HH hlong hl
  go_enter Tryz.func66,Tryz.ntmps66
  go_wp2;go_ret;exact ⟨ret_bool hR.out.symm,rfl⟩
 have e0:s.toList.isEmpty=false:=by
  rw [ByteArray.toList_eq,List.isEmpty_eq_false_iff];intro e;rw [e] at hl;exact h0 hl.symm
 by_cases h64:64 < s.size
 ·have hR:Hid (R=false):=hlong (.inr h64);have r1:(64:Int) < (s.size:Int):=by omega
  clear HE HB HH hlong hl h0
  go_enter Tryz.func66,Tryz.ntmps66
  go_wp2;go_ret;exact ⟨ret_bool hR.out.symm,rfl⟩
 have r1:¬ (64:Int) < (s.size:Int):=by omega
 have hp:0 < s.size:=by omega
 have KB:=hid (fun w'=>begins_any s[0] w');have hbd:=u8_bd s[0]
 cases hb:letX s[0] with
 | false =>
  rw [hb] at KB;have hR:Hid (R=false):=HH.out hp hb;clear HE HB HH hlong hl h0 hb
  go_enter Tryz.func66,Tryz.ntmps66
  go_wp2_with (go_at_call 98; refine (KB.out _).mono ?_; rintro e w' ⟨rfl,rfl⟩)
  go_ret;exact ⟨ret_bool hR.out.symm,rfl⟩
 | true =>
  rw [hb] at KB
  have HE2:Hid (∀ k,s.size≤k → (s.data.toList.take k).all namc=true → R=true):=fun k h1 h2=>by
   rw [HE.out k h1 h2 (.inr ⟨hp,hb⟩),decide_eq_true (by omega),decide_eq_true (by omega)]; rfl
  clear HE HH hlong hl h0 hb
  go_enter Tryz.func66,Tryz.ntmps66
  go_wp2_with (go_at_call 98; refine (KB.out _).mono ?_; rintro e w' ⟨rfl,rfl⟩)
  clear KB hbd
  go_loop [19] (fun i=>∃ k:Nat,k≤s.size∧i=.int .i64 k∧Hid ((s.data.toList.take k).all namc=true)) (fun i=>s.size - (intOf i).toNat)
  case atStart=>exact ⟨0,Nat.zero_le _,rfl,hid (by simp)⟩
  case round =>
   obtain ⟨k,hk,rfl,hv⟩:=hrel;by_cases hlt:k < s.size
   ·have KG:=hid (fun w'=>HG.out s[k] w');have hbd:=u8_bd s[k]
    cases hn:namc s[k] with
    | true =>
     rw [hn] at KG;have hv2:=hid (all_snocX namc s k hlt hv.out hn);clear hv hn;go_wp2_with (go_at_call 99; refine (KG.out _).mono ?_; rintro e w' ⟨rfl,rfl⟩)
     go_round
     case rel=>exact ⟨k+1,by omega,by go_num,hv2⟩
     case measure=>simp [intOf]; omega
    | false =>
     rw [hn] at KG;have hR:Hid (R=false):=HB.out k hlt hn;clear hv hn;go_wp2_with (go_at_call 99; refine (KG.out _).mono ?_; rintro e w' ⟨rfl,rfl⟩)
     go_ret;exact ⟨ret_bool hR.out.symm,rfl⟩
   ·have hR:Hid (R=true):=HE2.out k (by omega) hv.out;clear hv;go_wp2;go_ret;exact ⟨ret_bool hR.out.symm,rfl⟩
theorem xname_list (l:List UInt8) (w:World) (h:l.length≤140737488355328) :
  Calls Tryz.prog 66 #[.string ⟨l.toArray⟩] w fun e w'=>e=.returned (.bool (nameX l))∧w'=w:=xname_any ⟨l.toArray⟩ w (by rw [size_list]; exact h)
theorem xblk_idx:∀ c:UInt8,decide (Lib.indexByte [32,9,13,10] c < 0)=!xblk c:=by apply byte_all; decide +kernel
set_option maxHeartbeats 1000000 in
theorem xsigns_any (s:ByteArray) (w:World) (hs:s.size≤140737488355328) :
  Calls Tryz.prog 101 #[.string s] w fun e w'=>e=.returned (.bool (signsX s.data.toList))∧w'=w:=by
 have HB:Hid (∀ k (h:k < s.size),signX s[k]=false → signsX s.data.toList=false):=fun k h hp=>all_badX signX s k h hp;have HE:Hid (∀ k,s.size≤k → (s.data.toList.take k).all signX=true → signsX s.data.toList=true):=fun k h1 h2=>by rw [take_all s k h1] at h2; exact h2
 generalize signsX s.data.toList=R at HB HE ⊢
 go_enter Tryz.func101,Tryz.ntmps101
 go_wp2
 go_loop [6] (fun i=>∃ k:Nat,k≤s.size∧i=.int .i64 k∧Hid ((s.data.toList.take k).all signX=true)) (fun i=>s.size - (intOf i).toNat)
 case atStart=>exact ⟨0,Nat.zero_le _,rfl,hid (by simp)⟩
 case round =>
  obtain ⟨k,hk,rfl,hv⟩:=hrel;by_cases hlt:k < s.size
  ·have hbd:=u8_bd s[k];have KI:=hid (fun w'=>strIndexByte_any ⟨#[32,9,13,10]⟩ s[k] w');have hx:decide (Lib.indexByte (⟨#[32,9,13,10]⟩:ByteArray).data.toList s[k] < 0)=!xblk s[k]:=xblk_idx s[k];generalize Lib.indexByte (⟨#[32,9,13,10]⟩:ByteArray).data.toList s[k]=n at KI hx;by_cases h127:s[k]=127
   ·have q:((s[k].toNat:Int)==127)=true:=u8_eq (b:=127) h127;have hR:Hid (R=false):=HB.out k hlt (by rw [h127]; decide);clear hv h127 hx;go_wp2;go_ret;exact ⟨ret_bool hR.out.symm,rfl⟩
   have q:((s[k].toNat:Int)==127)=false:=u8_ne (b:=127) h127;by_cases h32:s[k].toNat < 32
   ·have r:(s[k].toNat:Int) < 32:=by omega
    cases hb:xblk s[k] with
    | true =>
     have hv2:=hid (all_snocX signX s k hlt hv.out (by unfold signX; rw [hb]; rfl));have hn:¬ n < 0:=of_decide_eq_false (by rw [hx,hb]; rfl);clear hv h127 hx hb;go_wp2_with (go_at_call 126; refine (KI.out _).mono ?_; rintro e w' ⟨rfl,rfl⟩)
     go_round
     case rel=>exact ⟨k+1,by omega,by go_num,hv2⟩
     case measure=>simp [intOf]; omega
    | false =>
     have hR:Hid (R=false):=HB.out k hlt (sign_low hb h32);have hn:n < 0:=of_decide_eq_true (by rw [hx,hb]; rfl);clear hv h127 hx hb;go_wp2_with (go_at_call 126; refine (KI.out _).mono ?_; rintro e w' ⟨rfl,rfl⟩)
     go_ret;exact ⟨ret_bool hR.out.symm,rfl⟩
   ·have r:¬ (s[k].toNat:Int) < 32:=by omega
    have hv2:=hid (all_snocX signX s k hlt hv.out (sign_ok h32 h127));clear hv h127 hx;go_wp2
    go_round
    case rel=>exact ⟨k+1,by omega,by go_num,hv2⟩
    case measure=>simp [intOf]; omega
  ·have hR:Hid (R=true):=HE.out k (by omega) hv.out;clear hv;go_wp2;go_ret;exact ⟨ret_bool hR.out.symm,rfl⟩
theorem xsigns_list (l:List UInt8) (w:World) (h:l.length≤140737488355328) :
  Calls Tryz.prog 101 #[.string ⟨l.toArray⟩] w fun e w'=>e=.returned (.bool (signsX l))∧w'=w:=xsigns_any ⟨l.toArray⟩ w (by rw [size_list]; exact h)
set_option maxHeartbeats 400000 in
theorem xtext_any (l:List UInt8) (w:World) (h:l.length≤140737488355328) :
  Calls Tryz.prog 68 #[.string ⟨l.toArray⟩] w fun e w'=>e=.returned (.bool (signsX l && xtrim l==l))∧Below w.heap.size w w':=by
 have KS:=hid (fun w'=>xsigns_list l w' h);have KT:=hid (fun w'=>xtrimAll_list l w' h)
 cases hs:signsX l with
 | false =>
  rw [hs] at KS;clear hs
  go_enter Tryz.func68,Tryz.ntmps68
  go_wp2_with fail
  refine (KS.out _).mono ?_
  rintro e w ⟨rfl,rfl⟩;go_wp2;go_ret;exact ⟨rfl,Below.refl _ _⟩
 | true =>
  rw [hs] at KS;clear hs;generalize xtrim l=t at KT ⊢
  go_enter Tryz.func68,Tryz.ntmps68
  go_wp2_with fail
  refine (KS.out _).mono ?_
  rintro e w ⟨rfl,rfl⟩;go_wp2_with fail
  refine (KT.out _).mono ?_
  rintro e w1 ⟨rfl,hw1⟩;go_wp2;go_ret;exact ⟨by simp,hw1⟩
theorem own_strs {w:World} {B e:Nat} {v:Value} {ps:List (List UInt8)} (h:Own w B e v (strs ps)) (hne:ps ≠ []) :
  ∃ g cap,v=.slice (some ⟨g,0,none⟩) ps.length cap∧∀ j (hj:j < ps.length),w.cell? ⟨g,j,none⟩=some (.string ⟨(ps[j]).toArray⟩):=by
 rcases h.2 with ⟨rfl,hn⟩ | ⟨g,cap,cur,rfl,hb,hg,_⟩
 ·rw [strs_length] at hn;exact absurd (List.eq_nil_of_length_eq_zero hn) hne
 ·refine ⟨g,cap,by rw [strs_length],fun j hj=>?_⟩
  have:=World.ownsRow.cells h (g:=g) rfl j (.string ⟨(ps[j]).toArray⟩) (by simp [strs,hj])
  unfold Addr.add at this;by_cases h0:j=0
  ·subst h0; simpa using this
  ·simpa [h0] using this
theorem distinct_snoc (p:Par):∀ l:List Par,distinctX (l++[p])=(distinctX l && l.all (fun q=>!(q.name==p.name)))
 | []=>rfl
 | x :: l=>by
  rw [List.cons_append,distinctX,distinct_snoc p l,distinctX,List.all_cons,List.all_append];have e:(p.name==x.name)=(x.name==p.name):=by rw [Bool.eq_iff_iff]; simp; exact eq_comm
  simp only [List.all_cons,List.all_nil,Bool.and_true,e];generalize (l.all fun q=>!(q.name==x.name))=a;generalize (l.all fun q=>!(q.name==p.name))=b;generalize distinctX l=c;generalize (x.name==p.name)=d
  cases a <;> cases b <;> cases c <;> cases d <;> rfl
theorem distinct_front:∀ a b:List Par,distinctX (a++b)=true → distinctX a=true
 | [],b,_=>rfl
 | x :: a,b,h=>by
  rw [List.cons_append,distinctX,List.all_append,Bool.and_eq_true,Bool.and_eq_true] at h;rw [distinctX,h.1.1,distinct_front a b h.2]; rfl
def attrOk (p:Par):Bool:=nameX p.name && (p.has && signsX p.value)
theorem attrsOk_is (l:List Par) (h:l.length≤16):attrsOk l=(l.all attrOk && distinctX l):=by
 unfold attrsOk; rw [decide_eq_true h]; rfl
theorem attrs_snoc {l:List Par} {j:Nat} (hj:j < l.length) (ha:((l.take j).all attrOk && distinctX (l.take j))=true) (h1:attrOk l[j]=true) (h2:(l.take j).all (fun q=>!(q.name==l[j].name))=true):((l.take (j+1)).all attrOk && distinctX (l.take (j+1)))=true:=by
 rw [Bool.and_eq_true] at ha;rw [List.take_succ_eq_append_getElem hj,distinct_snoc,List.all_append,ha.1,ha.2,h2]
 simp [h1]
theorem attrs_bad {l:List Par} {j:Nat} (hl:l.length≤16) (hj:j < l.length) (h1:attrOk l[j]=false):attrsOk l=false:=by
 rw [attrsOk_is l hl]
 have:l.all attrOk=false:=by rw [List.all_eq_false]; exact ⟨l[j],List.getElem_mem hj,by simp [h1]⟩
 rw [this]; rfl
theorem attrs_twice {l:List Par} {j m:Nat} (hl:l.length≤16) (hj:j < l.length) (hm:m < j) (h1:(l[m].name==l[j].name)=true):attrsOk l=false:=by
 rw [attrsOk_is l hl]
 have:distinctX l=false:=by
  cases hd:distinctX l with
  | false=>rfl
  | true =>
   have e:=List.take_append_drop (j+1) l;rw [← e] at hd;have h3:=distinct_front _ _ hd;rw [List.take_succ_eq_append_getElem hj,distinct_snoc,Bool.and_eq_true,List.all_eq_true] at h3;have h4:=h3.2 l[m] (by rw [List.mem_take_iff_getElem]; exact ⟨m,by omega,rfl⟩);rw [h1] at h4; cases h4
 rw [this]; simp
theorem ParsAt.open {w:World} {v:Value} {ps:List Par} (h:ParsAt w v ps):∃ ao cap,v=.slice ao ps.length cap∧∀ k (hk:k < ps.length),∃ a,ao=some a∧a.block < w.heap.size∧ParAt w a k ps[k]:=by
 rcases h with ⟨rfl,rfl⟩ | ⟨a,cap,rfl,hc⟩
 ·exact ⟨none,0,rfl,fun k hk=>by simp at hk⟩
 ·exact ⟨some a,cap,rfl,fun k hk=>⟨a,rfl,(hc k hk).1,(hc k hk).2⟩⟩
def okN (l:List Nd) (i:Nat) (h:i < l.length):Prop :=
 (0 < i → 1≤l[i].deep∧l[i].deep≤(l[i - 1]'(by omega)).deep+1)∧nodeOk l[i]=true∧(∀ h2:i+1 < l.length,l[i].deep < l[i+1].deep → l[i].text=[])
end Go.Proofs.YtldkidljjbkmbaaGreatDoor
