/-
  Unesc, WrittenL, Params, HeadTypeL, RefCut, StrLib, StrSplit, RefTexts, RefHost, RefCheck.
-/
import Derived.Test.YtiogedceommcoaaGreatDoorK04
import Derived.Laws.StructEq
import Derived.ChangeKeysEq
import Derived.Lib.Bytealg
import Derived.Lib.CountLaws
import Derived.Laws.Entries
import Derived.Deep.Slices
import Derived.ChangeArms
set_option linter.unusedVariables false
set_option linter.unusedSimpArgs false
set_option maxRecDepth 20000
namespace Go.Proofs.YtiogedceommcoaaGreatDoor
open Go.RowKit Sc
set_option maxHeartbeats 2000000 in
theorem unescape_any (s:ByteArray) (w:World) (hs:s.size≤140737488355328) :
  Calls Tryz.prog 193 #[.string s] w fun e w'=>e=.returned (.tuple #[.string ⟨(unescV s.data.toList).1.toArray⟩,.int .i64 (unescV s.data.toList).2])∧Below w.heap.size w w':=by
 obtain ⟨i0,hi,hz0,hz1,hz2⟩:=info_parts info5
 go_enter Tryz.func193,Tryz.ntmps193
 go_wp2_with (at_make; refine wp_make _ rfl _ _ 143 rfl w.heap.size 5 i0 (.int .u8 0) Tryz.underlying143 hi hz0 hz1 .i64 .i64 _ s.size rfl rfl rfl (by rw [hz2]; omega) (by unfold maxLen; omega) w (Below.refl _ _) (Nat.le_refl _) ?_; intro v0 w1 hown1 hb1 hB1)
 go_loopw [4,5] (fun v i wr=>∃ (k:Nat) (acc:List UInt8),k≤s.size∧i=.int .i64 k∧acc.length≤k∧Own wr w.heap.size 5 v (Lib.byteCells acc)∧Below w.heap.size w wr∧w.heap.size≤wr.heap.size ∧
   Hid (UneAt s.data.toList acc (s.data.toList.drop k))) (fun _ i _=>s.size - (intOf i).toNat)
 case atStart=>exact ⟨0,[],Nat.zero_le _,rfl,Nat.le_refl _,hown1,hb1,hB1,show UneAt _ _ _ by rw [List.drop_zero]; exact uneAt0 _⟩
 case round =>
  clear hown1 hb1 hB1;obtain ⟨k,acc,hk,rfl,hac,hown,hb,hB,hu⟩:=hrel;by_cases hlt:k < s.size
  ·have hu':=hu.out;rw [drop_cons s k hlt] at hu';by_cases h37:(s[k].toNat:Int)=37
   ·have c1:((s[k].toNat:Int)==37)=true:=by simpa using h37
    by_cases hsh:k+2 < s.size
    ·rw [drop_cons s (k+1) (by omega),drop_cons s (k+1+1) (by omega)] at hu';by_cases hx:(isB s[k+1].toNat 4 && isB s[k+2].toNat 4)=true
     ·have hx1:isB s[k+1].toNat 4=true:=by simp at hx; exact hx.1
      have hx2:isB s[k+2].toNat 4=true:=by simp at hx; exact hx.2
      have hn:Hid (UneAt s.data.toList (acc++[hxb s[k+1] s[k+2]]) (s.data.toList.drop (k+1+1+1))):=uneAt_hex hu' h37 hx1 hx2;have HX:Hid ((isB s[k+1].toNat 4 && isB s[k+2].toNat 4)=true):=hx;clear hu hu' h37 hx;go_wp2_with (go_at_call 98; refine (all_hex2 s k hsh (by unfold maxLen; omega) _ true HX.out).mono ?_; rintro e w' ⟨rfl,rfl⟩)
      have q1:IntKind.i64.wrap ((k:Int)+1)=(k:Int)+1:=by simp [IntKind.wrap,IntKind.signed,IntKind.bits]; omega
      have q2:IntKind.i64.wrap ((k:Int)+2)=(k:Int)+2:=by simp [IntKind.wrap,IntKind.signed,IntKind.bits]; omega
      have q3:((k:Int)+1).toNat=k+1:=by omega
      have q4:((k:Int)+2).toNat=k+2:=by omega
      have q5:(0:Int)≤(k:Int)+1:=by omega
      have q6:(k:Int)+1 < (s.size:Int):=by omega
      have q7:(0:Int)≤(k:Int)+2:=by omega
      have q8:(k:Int)+2 < (s.size:Int):=by omega
      go_quiet ((go_at_call 211; exact Calls.quiet_of_same (hexvalue_any _ _ (by assumption))))
      have qv:=or_hex hx1 hx2;have hown':=hown.drewN nq;have hb':Below w.heap.size w (w'.drewN nq):=Below.drewN hb nq;have hB':w.heap.size≤(w'.drewN nq).heap.size:=hB;generalize w'.drewN nq=wq at hown' hb' hB' ⊢;rw [qv];clear hown hb hB qv;go_wp2_with (at_builtin; refine wp_app _ rfl (.tmp 50) (.tmp 52) 143 rfl w.heap.size 5 i0 (.int .u8 0) 1 Tryz.underlying143 hi hz0 hz1 hz2 rfl _ _ rfl (by exact hown'.alloc _) ⟨_,0,none⟩ 1 1 (Lib.byteCells [hxb s[k+1] s[k+2]]) rfl rfl (by exact one_new _ _ _) (byteCells_one _) (by rw [Lib.byteCells_length]; unfold maxLen; omega) (by rw [Lib.byteCells_length]; omega) w (by exact hb'.alloc hB' _) (by simp; omega) ?_; intro v3 w3 hown3 hb3 hB3)
      rw [byteCells_snoc] at hown3;go_wp2;go_roundw
      case rel=>exact ⟨k+1+1+1,_,by omega,by go_num,by simp; omega,hown3,hb3,hB3,hn⟩
      case measure=>simp [intOf]; omega
     ·have hx':(isB s[k+1].toNat 4 && isB s[k+2].toNat 4)=false:=by simpa using hx
      have hv:Hid (unescV s.data.toList=([],12)):=unescV_none (uneAt_bad hu' h37 hx');have HX:Hid ((isB s[k+1].toNat 4 && isB s[k+2].toNat 4)=false):=hx';clear hu hu' h37 hx hx';go_wp2_with (go_at_call 98; refine (all_hex2 s k hsh (by unfold maxLen; omega) _ false HX.out).mono ?_; rintro e w' ⟨rfl,rfl⟩)
      go_ret2;exact ⟨ret_str [] 12 hv.out,hb⟩
    ·have hv:Hid (unescV s.data.toList=([],12)):=unescV_none (uneAt_short hu' h37 (by rw [List.length_drop,len_data]; omega));clear hu hu' h37;go_wp2;go_ret2;exact ⟨ret_str [] 12 hv.out,hb⟩
   ·have c1:((s[k].toNat:Int)==37)=false:=by simpa using h37
    have hn:Hid (UneAt s.data.toList (acc++[s[k]]) (s.data.toList.drop (k+1))):=uneAt_plain hu' h37;clear hu hu' h37;go_wp2_with (at_builtin; refine wp_app _ rfl (.tmp 50) (.tmp 52) 143 rfl w.heap.size 5 i0 (.int .u8 0) 1 Tryz.underlying143 hi hz0 hz1 hz2 rfl _ _ rfl (hown.alloc _) ⟨_,0,none⟩ 1 1 (Lib.byteCells [s[k]]) rfl rfl (by exact one_new _ _ _) (byteCells_one _) (by rw [Lib.byteCells_length]; unfold maxLen; omega) (by rw [Lib.byteCells_length]; omega) w (hb.alloc hB _) (by simp; omega) ?_; intro v3 w3 hown3 hb3 hB3)
    rw [byteCells_snoc] at hown3;go_wp2;go_roundw
    case rel=>exact ⟨k+1,_,by omega,by go_num,by simp; omega,hown3,hb3,hB3,hn⟩
    case measure=>simp [intOf]; omega
  ·have hu':=hu.out;rw [drop_all s k (by omega)] at hu';have hv:Hid (unescV s.data.toList=(acc,0)):=unescV_some (uneAt_end hu');have hcv:=conv_own (P:=Tryz.prog) _ Tryz.underlying143 Tryz.underlying5 Tryz.underlying9 hown;clear hu hu';go_wp2;go_ret2;exact ⟨ret_str acc 0 hv.out,hb⟩
def okw (keep:List UInt8) (b:UInt8):Bool:=b==37 || (isB b.toNat 16 || hasL b keep)
def writtenV (keep l:List UInt8):List UInt8 × Bool:=if l.all (okw keep)=true then ((unescV l).1,(unescV l).2==0) else ([],false)
structure Par where
 name:List UInt8
 value:List UInt8
 has:Bool
deriving DecidableEq
def parCells (p:Par):List Value:=[.string ⟨p.name.toArray⟩,.string ⟨p.value.toArray⟩,.bool p.has]
def parOf (keep l:List UInt8):Option Par :=
 if (writtenV keep (cutL 61 l).1).2=true∧(writtenV keep (cutL 61 l).2.1).2=true then some ⟨(writtenV keep (cutL 61 l).1).1,(writtenV keep (cutL 61 l).2.1).1,(cutL 61 l).2.2⟩ else none
def parsOf (keep:List UInt8):List (List UInt8) → Option (List Par)
 | []=>some []
 | l :: ls=>match parOf keep l,parsOf keep ls with
  | some p,some ps=>some (p :: ps)
  | _,_=>none
theorem okw_snoc {keep:List UInt8} {s:ByteArray} {k:Nat} (hk:k < s.size) (h:(s.data.toList.take k).all (okw keep)=true) (hb:okw keep s[k]=true):(s.data.toList.take (k+1)).all (okw keep)=true:=by
 rw [take_snoc s k hk,List.all_append,h]; simp [hb]
theorem written_bad {keep:List UInt8} {s:ByteArray} {k:Nat} (hk:k < s.size) (hb:okw keep s[k]=false):writtenV keep s.data.toList=([],false):=by
 have:s.data.toList.all (okw keep)=false:=by
  rw [List.all_eq_false];refine ⟨s[k],?_,by simp [hb]⟩
  have:=getL s k hk
  exact List.mem_of_getElem? this
 rw [writtenV,this]; rfl
theorem written_all {keep l:List UInt8} (h:l.all (okw keep)=true):writtenV keep l=((unescV l).1,(unescV l).2==0):=by rw [writtenV,if_pos h]
def ParAt (w:World) (a:Addr) (k:Nat) (p:Par):Prop :=
 w.cell? (a.add (k * 3))=some (.string ⟨p.name.toArray⟩)∧w.cell? ⟨(a.add (k * 3)).block,(a.add (k * 3)).off+1,none⟩=some (.string ⟨p.value.toArray⟩)∧w.cell? ⟨(a.add (k * 3)).block,(a.add (k * 3)).off+2,none⟩=some (.bool p.has)
def ParsAt (w:World) (v:Value) (ps:List Par):Prop :=
 (v=.slice none 0 0∧ps=[])∨∃ (a:Addr) (cap:Nat),v=.slice (some a) ps.length cap∧∀ k (hk:k < ps.length),a.block < w.heap.size∧ParAt w a k ps[k]
theorem cell_below {B:Nat} {w w':World} (h:Below B w w') {a:Addr} (ha:a.block < B) {v:Value} (hc:w.cell? a=some v):w'.cell? a=some v:=by
 rw [← hc];simp only [World.cell?];rw [h.block a.block ha]
theorem add_block (a:Addr) (i:Nat):(a.add i).block=a.block:=by unfold Addr.add; split <;> rfl
theorem ParAt.below {B:Nat} {w w':World} {a:Addr} {k:Nat} {p:Par} (h:ParAt w a k p) (hb:Below B w w') (ha:a.block < B):ParAt w' a k p :=
 ⟨cell_below hb (by rw [add_block]; exact ha) h.1,cell_below hb (by simp only [add_block]; exact ha) h.2.1,cell_below hb (by simp only [add_block]; exact ha) h.2.2⟩
theorem ParsAt.below {w w':World} {v:Value} {ps:List Par} (h:ParsAt w v ps) (hb:Below w.heap.size w w'):ParsAt w' v ps:=by
 rcases h with h | ⟨a,cap,hv,hc⟩
 ·exact Or.inl h
 ·exact Or.inr ⟨a,cap,hv,fun k hk=>⟨Nat.lt_of_lt_of_le (hc k hk).1 hb.size,(hc k hk).2.below hb (hc k hk).1⟩⟩
theorem ParsAt.form {w:World} {v:Value} {ps:List Par} (h:ParsAt w v ps):∃ a cap,v=.slice a ps.length cap:=by
 rcases h with ⟨rfl,rfl⟩ | ⟨a,cap,rfl,_⟩
 ·exact ⟨none,0,rfl⟩
 ·exact ⟨_,cap,rfl⟩
structure Uri where
 scheme:List UInt8
 user:List UInt8
 host:List UInt8
 port:Int
 params:List Par
 headers:List Par
deriving DecidableEq
def uriV (u:Uri) (p h:Value):Value:=.agg #[.string ⟨u.scheme.toArray⟩,.string ⟨u.user.toArray⟩,.string ⟨u.host.toArray⟩,.int .i64 u.port,p,h]
def typeT (s:List UInt8):List UInt8:=lowL (trimL ((partsV 59 s).headD []))
def typeOk (t:List UInt8):Bool:=(cutL 47 t).2.2 && (tokenB (cutL 47 t).1 && tokenB (cutL 47 t).2.1)
theorem u8_eq {a b:UInt8} (h:a=b):((a.toNat:Int)==(b.toNat:Int))=true:=by simp [h]
theorem u8_ne {a b:UInt8} (h:¬ a=b):((a.toNat:Int)==(b.toNat:Int))=false:=by
 simp only [beq_eq_false_iff_ne,ne_eq];intro e; exact h (UInt8.toNat_inj.1 (by omega))
theorem notMem_snoc {c:UInt8} {s:ByteArray} {k:Nat} (hk:k < s.size) (h:c ∉ s.data.toList.take k) (hc:¬ s[k]=c):c ∉ s.data.toList.take (k+1):=by
 rw [take_snoc s k hk];simp only [List.mem_append,List.mem_singleton,not_or];exact ⟨h,fun e=>hc e.symm⟩
theorem split_at (s:ByteArray) (k:Nat) (hk:k < s.size):s.data.toList=s.data.toList.take k++s[k] :: s.data.toList.drop (k+1):=by
 rw [← drop_cons s k hk,List.take_append_drop]
theorem ret_cut {p:List UInt8 × List UInt8 × Bool} {x y:ByteArray} {b:Bool} (h:p=(x.data.toList,y.data.toList,b)):Ending.returned (.tuple #[.string x,.string y,.bool b])=.returned (.tuple #[.string ⟨p.1.toArray⟩,.string ⟨p.2.1.toArray⟩,.bool p.2.2]):=by
 have hx:(⟨x.data.toList.toArray⟩:ByteArray)=x:=by apply ByteArray.ext; simp
 have hy:(⟨y.data.toList.toArray⟩:ByteArray)=y:=by apply ByteArray.ext; simp
 rw [h,hx,hy]
set_option maxHeartbeats 400000 in
theorem cut3_any (s:ByteArray) (c:UInt8) (w:World) (hs:s.size≤maxLen) :
  Calls Tryz.prog 54 #[.string s,.int .u8 c.toNat] w fun e w'=>e=.returned (.tuple #[.string ⟨(cutL c s.data.toList).1.toArray⟩,.string ⟨(cutL c s.data.toList).2.1.toArray⟩,.bool (cutL c s.data.toList).2.2])∧∃ q,w'=w.drewN q:=by
 unfold maxLen at hs
 go_enter Tryz.func54,Tryz.ntmps54
 go_wp2
 go_loop [7] (fun i=>∃ k:Nat,k≤s.size∧i=.int .i64 k∧Hid (c ∉ s.data.toList.take k)) (fun i=>s.size - (intOf i).toNat)
 case atStart=>exact ⟨0,Nat.zero_le _,rfl,show _ ∉ _ by simp⟩
 case round =>
  obtain ⟨k,hk,rfl,hno⟩:=hrel;by_cases hlt:k < s.size
  ·by_cases hc:s[k]=c
   ·have he:=u8_eq hc;have hv:Hid (cutL c s.data.toList=(s.data.toList.take k,s.data.toList.drop (k+1),true)):=show _=_ by
     conv=>lhs; rw [split_at s k hlt,hc]
     exact cutL_hit hno.out
    have e1:Hid ((s.extract 0 k).data.toList=s.data.toList.take k):=show _=_ by rw [ext_list]; simp
    have e2:Hid ((s.extract (k+1) s.size).data.toList=s.data.toList.drop (k+1)):=show _=_ by
     rw [ext_list,List.take_of_length_le (by rw [List.length_drop,len_data]; omega)]
    clear hc hno;have hwr:IntKind.i64.wrap ((k:Int)+1)=((k+1:Nat):Int):=by
     simp [IntKind.wrap,IntKind.bits,IntKind.signed]; omega
    go_wp2
    go_quiet (fail)
    go_wp2;go_ret3
    exact ⟨ret_cut (by rw [hv.out,e1.out,e2.out]),nq,rfl⟩
   ·have he:=u8_ne hc;have hno2:Hid (c ∉ s.data.toList.take (k+1)):=notMem_snoc hlt hno.out hc;clear hc hno;go_wp2
    go_round
    case rel=>exact ⟨k+1,by omega,by go_num,hno2⟩
    case measure=>simp [intOf]; omega
  ·have hv:Hid (cutL c s.data.toList=(s.data.toList,[],false)):=show _=_ by
    have:=hno.out
    rw [take_all s k (by omega)] at this;exact cutL_miss this
   clear hno;go_wp2;go_ret3
   exact ⟨ret_cut hv.out,0,rfl⟩
theorem cut3_list (r:List UInt8) (c:UInt8) (w:World) (hs:r.length≤9223372036854775807) :
  Calls Tryz.prog 54 #[.string ⟨r.toArray⟩,.int .u8 c.toNat] w fun e w'=>e=.returned (.tuple #[.string ⟨(cutL c r).1.toArray⟩,.string ⟨(cutL c r).2.1.toArray⟩,.bool (cutL c r).2.2])∧∃ q,w'=w.drewN q :=
 cut3_any ⟨r.toArray⟩ c w (by unfold maxLen; simp [ByteArray.size]; omega)
theorem size_list (l:List UInt8):(⟨l.toArray⟩:ByteArray).size=l.length:=by simp [ByteArray.size]
theorem splitL_next {c:UInt8} {l0 r:List UInt8} {ps:List (List UInt8)} (h:splitL c l0=ps++splitL c r) (hb:(cutL c r).2.2=true):splitL c l0=(ps++[(cutL c r).1])++splitL c (cutL c r).2.1:=by
 rw [h,splitL_cut c r,if_pos hb]; simp
theorem cutL_dec {c:UInt8} {r:List UInt8} (hb:(cutL c r).2.2=true):(cutL c r).2.1.length < r.length:=by
 have h:=cutL_join c r hb
 have:=congrArg List.length h
 simp at this; omega
theorem idx_cases (l:List UInt8) (c:UInt8):(c ∉ l∧Lib.indexByte l c=-1)∨∃ a b,l=a++c :: b∧c ∉ a∧Lib.indexByte l c=(a.length:Int):=by
 induction l with
 | nil=>exact .inl ⟨by simp,rfl⟩
 | cons x l ih =>
  by_cases h:x=c
  ·subst h; exact .inr ⟨[],l,rfl,by simp,by simp [Lib.indexByte]⟩
  ·have hb:(x==c)=false:=by simpa using h
   rcases ih with ⟨h1,h2⟩ | ⟨a,b,h1,h2,h3⟩
   ·exact .inl ⟨by rw [List.mem_cons,not_or]; exact ⟨fun e=>h e.symm,h1⟩,by simp [Lib.indexByte,hb,h2]⟩
   ·refine .inr ⟨x :: a,b,by rw [h1]; rfl,by rw [List.mem_cons,not_or]; exact ⟨fun e=>h e.symm,h2⟩,?_⟩
    rw [Lib.indexByte,hb,h3]
    have:((a.length:Int)==-1)=false:=by rw [beq_eq_false_iff_ne]; omega
    simp [this]
set_option maxHeartbeats 400000 in
theorem slIndexByte_any (s:ByteArray) (c:UInt8) (w:World) :
  Calls Tryz.prog 209 #[.string s,.int .u8 c.toNat] w fun e w'=>e=.returned (.int .i64 (Lib.indexByte s.data.toList c))∧w'=w:=by
 have hc:(c.toNat:Int).toNat.toUInt8=c:=by simp
 go_enter Tryz.func209,Tryz.ntmps209
 go_wp2;rw [run_callFunc_extern Tryz.func218 (by kernel_rfl) (by kernel_rfl) (by kernel_rfl) (e:=Extern.BytealgIndexByte.indexByte) (by kernel_rfl),Lib.run_indexByteString,hc];simp only [Result.andThen];rw [Oper.upon_value];go_wp2;go_ret;exact ⟨rfl,rfl⟩
set_option maxHeartbeats 400000 in
theorem strIndexByte_any (s:ByteArray) (c:UInt8) (w:World) :
  Calls Tryz.prog 192 #[.string s,.int .u8 c.toNat] w fun e w'=>e=.returned (.int .i64 (Lib.indexByte s.data.toList c))∧w'=w:=by
 go_enter Tryz.func192,Tryz.ntmps192
 go_wp2_with (go_at_call 209; refine (slIndexByte_any _ _ _).mono ?_; rintro e w' ⟨rfl,rfl⟩)
 go_ret;exact ⟨rfl,rfl⟩
set_option maxHeartbeats 1000000 in
theorem slIndex_any (s:ByteArray) (c:UInt8) (w:World) :
  Calls Tryz.prog 191 #[.string s,.string ⟨#[c]⟩] w fun e w'=>e=.returned (.int .i64 (Lib.indexByte s.data.toList c))∧w'=w:=by
 have h0:(ByteArray.mk #[c]).size=1:=rfl;by_cases hs:s=⟨#[c]⟩
 ·subst hs;have hv:Hid (Lib.indexByte (ByteArray.mk #[c]).data.toList c=0):=show _=_ by simp [Lib.indexByte]
  go_enter Tryz.func191,Tryz.ntmps191
  go_wp2;go_ret;exact ⟨ret_int hv.out.symm,rfl⟩
 ·have hne:([c]==s.toList)=false:=by
   rw [beq_eq_false_iff_ne];intro e
   apply hs
   rw [ByteArray.toList_eq] at e
   apply ByteArray.ext
   exact (Array.toList_inj.1 (show s.data.toList=(#[c]:Array UInt8).toList from e.symm))
  go_enter Tryz.func191,Tryz.ntmps191
  go_wp2_with (go_at_call 209; refine (slIndexByte_any _ c _).mono ?_; rintro e w' ⟨rfl,rfl⟩)
  go_ret;exact ⟨rfl,rfl⟩
set_option maxHeartbeats 400000 in
theorem strIndex_any (s:ByteArray) (c:UInt8) (w:World) :
  Calls Tryz.prog 214 #[.string s,.string ⟨#[c]⟩] w fun e w'=>e=.returned (.int .i64 (Lib.indexByte s.data.toList c))∧w'=w:=by
 go_enter Tryz.func214,Tryz.ntmps214
 go_wp2_with (go_at_call 191; refine (slIndex_any _ c _).mono ?_; rintro e w' ⟨rfl,rfl⟩)
 go_ret;exact ⟨rfl,rfl⟩
theorem cut_data (s:ByteArray) {a b:List UInt8} {c:UInt8} (h:s.data.toList=a++c :: b):s.extract 0 a.length=⟨a.toArray⟩∧s.extract (a.length+1) s.size=⟨b.toArray⟩∧s.size=a.length+1+b.length:=by
 have hl:=len_data s;rw [h] at hl
 simp at hl
 refine ⟨?_,?_,by omega⟩
 ·rw [ext_list,h]; simp
 ·rw [ext_list,h,List.drop_append,List.drop_eq_nil_of_le (by omega),← hl];have e:a.length+1 - a.length=1:=by omega
  have e2:a.length+(b.length+1) - (a.length+1)=b.length:=by omega
  rw [e,e2]; simp
set_option maxHeartbeats 1000000 in
theorem slCut_any (s:ByteArray) (c:UInt8) (w:World) (hs:s.size≤9223372036854775807) :
  Calls Tryz.prog 161 #[.string s,.string ⟨#[c]⟩] w fun e w'=>e=.returned (.tuple #[.string ⟨(cutL c s.data.toList).1.toArray⟩,.string ⟨(cutL c s.data.toList).2.1.toArray⟩,.bool (cutL c s.data.toList).2.2])∧∃ q,w'=w.drewN q:=by
 have h0:(ByteArray.mk #[c]).size=1:=rfl
 rcases idx_cases s.data.toList c with ⟨h1,h2⟩ | ⟨a,b,h1,h2,h3⟩
 ·have hv:Hid (cutL c s.data.toList=(s.data.toList,[],false)):=cutL_miss h1;clear h1
  go_enter Tryz.func161,Tryz.ntmps161
  go_wp2_with (go_at_call 191; refine (slIndex_any _ c _).mono ?_; rintro e w' ⟨rfl,rfl⟩; rw [h2])
  go_ret3
  exact ⟨ret_cut hv.out,0,rfl⟩
 ·obtain ⟨e1,e2,e3⟩:=cut_data s h1;have hv:Hid (cutL c s.data.toList=(a,b,true)):=show _=_ by rw [h1]; exact cutL_hit h2
  have E1:Hid _:=e1;rw [e3] at e2;have E2:Hid _:=e2;clear e1 e2 h1 h2;have hk:a.length < s.size:=by omega
  have hwr:IntKind.i64.wrap ((a.length:Int)+1)=((a.length+1:Nat):Int):=by
   simp [IntKind.wrap,IntKind.bits,IntKind.signed]; omega
  go_enter Tryz.func161,Tryz.ntmps161
  go_wp2_with (go_at_call 191; refine (slIndex_any _ c _).mono ?_; rintro e w' ⟨rfl,rfl⟩; rw [h3])
  go_quiet (fail)
  go_wp2;go_ret3
  exact ⟨ret_cut (by rw [hv.out,E1.out,E2.out]),nq,rfl⟩
set_option maxHeartbeats 400000 in
theorem strCut_any (s:ByteArray) (c:UInt8) (w:World) (hs:s.size≤9223372036854775807) :
  Calls Tryz.prog 120 #[.string s,.string ⟨#[c]⟩] w fun e w'=>e=.returned (.tuple #[.string ⟨(cutL c s.data.toList).1.toArray⟩,.string ⟨(cutL c s.data.toList).2.1.toArray⟩,.bool (cutL c s.data.toList).2.2])∧∃ q,w'=w.drewN q:=by
 go_enter Tryz.func120,Tryz.ntmps120
 go_wp2_with (go_at_call 161; refine (slCut_any _ c _ hs).mono ?_; rintro e w' ⟨rfl,q,rfl⟩)
 go_ret3
 exact ⟨rfl,q,rfl⟩
set_option maxHeartbeats 400000 in
theorem strCount_any (s:ByteArray) (c:UInt8) (w:World) :
  Calls Tryz.prog 213 #[.string s,.string ⟨#[c]⟩] w fun e w'=>e=.returned (.int .i64 (Lib.countByte s.data.toList c))∧w'=w:=by
 have h0:(ByteArray.mk #[c]).size=1:=rfl
 go_enter Tryz.func213,Tryz.ntmps213
 go_wp2;rw [run_callFunc_extern Tryz.func222 (by kernel_rfl) (by kernel_rfl) (by kernel_rfl) (e:=Extern.BytealgCount.count) (by kernel_rfl),Lib.run_countString];simp only [Result.andThen];rw [Oper.upon_value];go_wp2;go_ret;exact ⟨rfl,rfl⟩
def startsB (c:UInt8) (l:List UInt8):Bool:=l.getD 0 0==c
def endsB (c:UInt8) (l:List UInt8):Bool:=l.getD (l.length - 1) 0==c
set_option maxHeartbeats 400000 in
theorem slPrefix_any (s:ByteArray) (c:UInt8) (w:World) (h0c:(0==c)=false) :
  Calls Tryz.prog 154 #[.string s,.string ⟨#[c]⟩] w fun e w'=>e=.returned (.bool (startsB c s.data.toList))∧w'=w:=by
 have h0:(ByteArray.mk #[c]).size=1:=rfl;by_cases hs:1≤s.size
 ·have e1:Hid ((s.extract 0 1).toList=[s.data.toList.getD 0 0]):=show _=_ by
   rw [ByteArray.toList_eq,ext_list];have hl:=len_data s
   cases hd:s.data.toList with
   | nil=>rw [hd] at hl; simp at hl; omega
   | cons x l=>simp
  go_enter Tryz.func154,Tryz.ntmps154
  go_wp2;go_ret;refine ⟨ret_bool ?_,rfl⟩
  rw [e1.out,startsB]
  simp
 ·have hl:Hid (startsB c s.data.toList=false):=show _=_ by
   rw [List.eq_nil_of_length_eq_zero (l:=s.data.toList) (by rw [len_data]; omega)]; exact h0c
  go_enter Tryz.func154,Tryz.ntmps154
  go_wp2;go_ret;exact ⟨ret_bool hl.out.symm,rfl⟩
set_option maxHeartbeats 400000 in
theorem strPrefix_any (s:ByteArray) (c:UInt8) (w:World) (h0c:(0==c)=false) :
  Calls Tryz.prog 111 #[.string s,.string ⟨#[c]⟩] w fun e w'=>e=.returned (.bool (startsB c s.data.toList))∧w'=w:=by
 go_enter Tryz.func111,Tryz.ntmps111
 go_wp2_with (go_at_call 154; refine (slPrefix_any _ c _ h0c).mono ?_; rintro e w' ⟨rfl,rfl⟩)
 go_ret;exact ⟨rfl,rfl⟩
set_option maxHeartbeats 400000 in
theorem slSuffix_any (s:ByteArray) (c:UInt8) (w:World) (h0c:(0==c)=false) (hs:s.size≤9223372036854775807) :
  Calls Tryz.prog 223 #[.string s,.string ⟨#[c]⟩] w fun e w'=>e=.returned (.bool (endsB c s.data.toList))∧w'=w:=by
 have h0:(ByteArray.mk #[c]).size=1:=rfl;by_cases hs:1≤s.size
 ·have e1:Hid ((s.extract (s.size - 1) s.size).toList=[s.data.toList.getD (s.size - 1) 0]):=show _=_ by
   rw [ByteArray.toList_eq,ext_list];have hl:=len_data s;have e:s.size - (s.size - 1)=1:=by omega
   rw [e,List.drop_eq_getElem_cons (by omega),List.getD_eq_getElem?_getD,List.getElem?_eq_getElem (by omega)]
   simp
  have hwr:IntKind.i64.wrap ((s.size:Int) - 1)=((s.size - 1:Nat):Int):=by
   simp [IntKind.wrap,IntKind.bits,IntKind.signed]; omega
  go_enter Tryz.func223,Tryz.ntmps223
  go_wp2;go_ret;refine ⟨ret_bool ?_,rfl⟩
  rw [e1.out,endsB,len_data]
  simp
 ·have hl:Hid (endsB c s.data.toList=false):=show _=_ by
   rw [List.eq_nil_of_length_eq_zero (l:=s.data.toList) (by rw [len_data]; omega)]; exact h0c
  go_enter Tryz.func223,Tryz.ntmps223
  go_wp2;go_ret;exact ⟨ret_bool hl.out.symm,rfl⟩
set_option maxHeartbeats 400000 in
theorem strSuffix_any (s:ByteArray) (c:UInt8) (w:World) (h0c:(0==c)=false) (hs:s.size≤9223372036854775807) :
  Calls Tryz.prog 215 #[.string s,.string ⟨#[c]⟩] w fun e w'=>e=.returned (.bool (endsB c s.data.toList))∧w'=w:=by
 go_enter Tryz.func215,Tryz.ntmps215
 go_wp2_with (go_at_call 223; refine (slSuffix_any _ c _ h0c hs).mono ?_; rintro e w' ⟨rfl,rfl⟩)
 go_ret;exact ⟨rfl,rfl⟩
theorem splitL_count (c:UInt8) (l:List UInt8):(splitL c l).length=Lib.countByte l c+1:=by
 unfold Lib.countByte
 induction l with
 | nil=>rfl
 | cons x l ih =>
  obtain ⟨p,ps,hp⟩:=splitL_cons c l;rw [splitL];rw [hp] at ih ⊢;by_cases h:x=c
  ·rw [if_pos h,h,List.count_cons_self]; simp at ih ⊢; omega
  ·rw [if_neg h,List.count_cons_of_ne h]; simpa using ih
def filledS (ps:List (List UInt8)) (n:Nat):List Value:=strs ps++List.replicate (n - ps.length) (.string .empty)
theorem filledS_len (ps:List (List UInt8)) (n:Nat) (h:ps.length≤n):(filledS ps n).length=n:=by simp [filledS,strs]; omega
theorem filledS_full (ps:List (List UInt8)) (n:Nat) (h:ps.length=n):filledS ps n=strs ps:=by simp [filledS,h]
theorem filledS_set (ps:List (List UInt8)) (n:Nat) (p:List UInt8) (h:ps.length < n):(filledS ps n).set ps.length (.string ⟨p.toArray⟩)=filledS (ps++[p]) n:=by
 have e:n - ps.length=(n - (ps.length+1))+1:=by omega
 have hl:(strs ps).length=ps.length:=strs_length ps;unfold filledS;rw [List.set_append_right _ _ (by omega),hl,Nat.sub_self,e,List.replicate_succ,List.set_cons_zero,strs_append,List.append_assoc,List.length_append]
 rfl
theorem made_rowS (w:World) (e:TypeId) (n:Nat):RowIs (w.alloc (.cells (madeCells #[.string .empty] n) e)) w.heap.size e (filledS [] n):=by
 unfold RowIs;rw [heap_alloc_new]
 have:madeCells #[.string .empty] n=(filledS [] n).toArray:=by
  apply Array.ext
  ·simp [size_madeCells,filledS,strs]
  ·intro i h1 h2
   simp [madeCells,filledS,strs,Nat.mod_one]
 rw [this]
set_option maxHeartbeats 1000000 in
theorem genSplit_any (l0:List UInt8) (c:UInt8) (w:World) (hs:l0.length≤1048576) :
  Calls Tryz.prog 194 #[.string ⟨l0.toArray⟩,.string ⟨#[c]⟩,.int .i64 0,.int .i64 (-1)] w fun e w'=>∃ v,e=.returned v∧Own w' w.heap.size 9 v (strs (splitL c l0))∧Below w.heap.size w w':=by
 obtain ⟨i0,hi,hz0,hz1,hz2⟩:=info_parts info9;have h0:(ByteArray.mk #[c]).size=1:=rfl;have hz:(⟨l0.toArray⟩:ByteArray).size=l0.length:=size_list l0;obtain ⟨N,hN⟩:∃ N,N=(splitL c l0).length:=⟨_,rfl⟩
 have hN1:N≤l0.length+1:=by rw [hN]; exact splitL_len c l0
 have hcn:(Lib.countByte l0 c:Int)=(N:Int) - 1:=by rw [hN,splitL_count]; omega
 have hN0:1≤N:=by rw [hN,splitL_count]; omega
 have hmk:∀ u:World,(Instr.makeSlice 35 (.int .i64 (N:Int)) (.int .i64 (N:Int))).run Tryz.prog u =
   .ok (.slice (some ⟨u.heap.size,0,none⟩) N N) (u.alloc (.cells (madeCells #[.string .empty] N) 9)):=fun u=>by
  have h:=run_make (P:=Tryz.prog) u 35 9 i0 (.string .empty) Tryz.underlying35 hi hz0 .i64 .i64 (N:Int) (N:Int) (by omega) (Int.le_refl _) (by rw [hz2]; omega) (by omega)
  simpa [hz1,Value.cells] using h
 have hr0:Hid (RowIs (w.alloc (.cells (madeCells #[.string .empty] N) 9)) w.heap.size 9 (filledS [] N)):=made_rowS w _ _;have hw1:IntKind.i64.wrap ((N:Int) - 1+1)=(N:Int):=by
  simp [IntKind.wrap,IntKind.bits,IntKind.signed]; omega
 have hNs:Hid _:=hN;clear hN
 go_enter Tryz.func194,Tryz.ntmps194
 go_wp2_with (go_at_call 213; refine (strCount_any _ c _).mono ?_; rintro e w' ⟨rfl,rfl⟩; rw [hcn])
 clear hmk
 go_loopw [0,10] (fun x i wr=>∃ (r:List UInt8) (ps:List (List UInt8)),x=.string ⟨r.toArray⟩∧i=.int .i64 ps.length∧Hid (splitL c l0=ps++splitL c r)∧r.length≤l0.length∧Hid (RowIs wr w'.heap.size 9 (filledS ps N))∧Below w'.heap.size w' wr) (fun _ i _=>N - (intOf i).toNat)
 case atStart=>exact ⟨l0,[],rfl,rfl,show _=_ from rfl,Nat.le_refl _,hr0,(Below.refl _ _).alloc (Nat.le_refl _) _⟩
 case round =>
  clear hr0 hcn hw1 hz;obtain ⟨r,ps,rfl,rfl,hsp,hrl,hr,hb⟩:=hrel;have hz:(⟨r.toArray⟩:ByteArray).size=r.length:=size_list r;have hln:N=ps.length+(splitL c r).length:=by rw [hNs.out,hsp.out,List.length_append]
  have hln1:1≤(splitL c r).length:=by rw [splitL_count]; omega
  have hf:=hr.out.frozen ps.length;obtain ⟨x,hc⟩:∃ x,wr.cell? ⟨w'.heap.size,ps.length,none⟩=some x:=⟨_,hr.out.cell ps.length (by rw [filledS_len _ _ (by omega)]; omega)⟩
  by_cases hlt:ps.length < N - 1
  ·have hin:c ∈ r:=by
    apply Classical.byContradiction
    intro hno;rw [splitL_cut,cutL_miss hno] at hln
    simp at hln; omega
   rcases idx_cases r c with ⟨h1,_⟩ | ⟨a,b,h1,h2,h3⟩
   ·exact absurd hin h1
   ·have hd:(⟨r.toArray⟩:ByteArray).data.toList=a++c :: b:=h1;obtain ⟨e1,e2,e3⟩:=cut_data ⟨r.toArray⟩ hd;rw [hz] at e3;have hcut:cutL c r=(a,b,true):=by rw [h1]; exact cutL_hit h2
    have hsp2:Hid (splitL c l0=(ps++[a])++splitL c b):=show _=_ by
     have:=splitL_next hsp.out (by rw [hcut]); rw [hcut] at this; exact this
    have hr':Hid (RowIs (wr.setCell ⟨w'.heap.size,ps.length,none⟩ (.string ⟨a.toArray⟩)) w'.heap.size 9 (filledS (ps++[a]) N)):=by
     have h:=hr.out.set ps.length (.string ⟨a.toArray⟩);rw [filledS_set ps N a (by omega)] at h;exact h
    have hwr:IntKind.i64.wrap ((a.length:Int)+1)=((a.length+1:Nat):Int):=by
     simp [IntKind.wrap,IntKind.bits,IntKind.signed]; omega
    have h3':Lib.indexByte (⟨r.toArray⟩:ByteArray).data.toList c=(a.length:Int):=h3;rw [hz,e3] at e2;clear hd hcut hin h1 h2 hsp hr hln hln1;go_wp2_with (go_at_call 214; refine (strIndex_any _ c _).mono ?_; rintro e w2 ⟨rfl,rfl⟩; rw [h3'])
    go_roundw
    case rel=>exact ⟨b,ps++[a],by first | rfl | rw [e2],by simp,hsp2,by omega,hr',hb.setCell (Nat.le_refl _) _⟩
    case measure=>simp [intOf]; omega
  ·have hone:splitL c r=[r]:=by
    have:(splitL c r).length=1:=by omega
    rw [splitL_count,Lib.countByte] at this;exact splitL_cut c r ▸ (by
     have hno:c ∉ r:=List.count_eq_zero.1 (by omega);rw [cutL_miss hno]; rfl)
   have hr':Hid (Own (wr.setCell ⟨w'.heap.size,ps.length,none⟩ (.string ⟨r.toArray⟩)) w'.heap.size 9 (.slice (some ⟨w'.heap.size,0,none⟩) N N) (strs (splitL c l0))):=by
    have h:=hr.out.set ps.length (.string ⟨r.toArray⟩);rw [filledS_set ps N r (by omega),filledS_full _ _ (by rw [List.length_append,hln,hone])] at h;rw [hsp.out,hone];exact h.own _ N (Nat.le_refl _) (by rw [strs_length,List.length_append,hln,hone]) (by unfold maxLen; omega)
   have hN2:ps.length+1=N:=by rw [hone] at hln; simp at hln; omega
   clear hone hr hsp hln hln1;go_wp2;go_ret;exact ⟨_,rfl,by first | exact hr'.out | (have:=hr'.out; simpa [hN2] using this),hb.setCell (Nat.le_refl _) _⟩
set_option maxHeartbeats 400000 in
theorem strSplit_any (s:ByteArray) (c:UInt8) (w:World) (hs:s.size≤1048576) :
  Calls Tryz.prog 164 #[.string s,.string ⟨#[c]⟩] w fun e w'=>∃ v,e=.returned v∧Own w' w.heap.size 9 v (strs (splitL c s.data.toList))∧Below w.heap.size w w':=by
 have hs0:s=⟨s.data.toList.toArray⟩:=by apply ByteArray.ext; simp
 have hl:=len_data s;generalize s.data.toList=l0 at hs0 hl ⊢;subst hs0;rw [← hl] at hs
 go_enter Tryz.func164,Tryz.ntmps164
 go_wp2_with (go_at_call 194; refine (genSplit_any _ c _ hs).mono ?_; rintro e w' ⟨v,rfl,hown,hb⟩)
 go_ret;exact ⟨_,rfl,hown,hb⟩
theorem own_strs {w:World} {B e:Nat} {v:Value} {ps:List (List UInt8)} (h:Own w B e v (strs ps)) (hne:ps ≠ []) :
  ∃ g cap,v=.slice (some ⟨g,0,none⟩) ps.length cap∧∀ j (hj:j < ps.length),w.cell? ⟨g,j,none⟩=some (.string ⟨(ps[j]).toArray⟩):=by
 rcases h.2 with ⟨rfl,hn⟩ | ⟨g,cap,cur,rfl,hb,hg,_⟩
 ·rw [strs_length] at hn;exact absurd (List.eq_nil_of_length_eq_zero hn) hne
 ·refine ⟨g,cap,by rw [strs_length],fun j hj=>?_⟩
  have:=World.ownsRow.cells h (g:=g) rfl j (.string ⟨(ps[j]).toArray⟩) (by simp [strs,hj])
  unfold Addr.add at this;by_cases h0:j=0
  ·subst h0; simpa using this
  ·simpa [h0] using this
def labAll (ps:List (List UInt8)):Bool:=ps.all labB
theorem labAll_snoc {ps:List (List UInt8)} {k:Nat} (hk:k < ps.length) (h:labAll (ps.take k)=true) (hb:labB ps[k]=true):labAll (ps.take (k+1))=true:=by
 unfold labAll at *;rw [List.take_succ_eq_append_getElem hk,List.all_append,h]
 simp [hb]
theorem labAll_bad {ps:List (List UInt8)} {k:Nat} (hk:k < ps.length) (hb:labB ps[k]=false):labAll ps=false:=by
 unfold labAll;rw [List.all_eq_false];exact ⟨ps[k],List.getElem_mem hk,by simp [hb]⟩
def BoxU (w:World) (b:Nat) (u:Uri) (p h:Value):Prop :=
 w.cell? ⟨b,0,none⟩=some (.string ⟨u.scheme.toArray⟩)∧w.cell? ⟨b,1,none⟩=some (.string ⟨u.user.toArray⟩)∧w.cell? ⟨b,2,none⟩=some (.string ⟨u.host.toArray⟩) ∧
 w.cell? ⟨b,3,none⟩=some (.int .i64 u.port)∧w.cell? ⟨b,4,none⟩=some p∧w.cell? ⟨b,5,none⟩=some h
theorem BoxU.below {w w':World} {b B:Nat} {u:Uri} {p h:Value} (k:BoxU w b u p h) (hb:Below B w w') (hlt:b < B):BoxU w' b u p h :=
 ⟨cell_below hb hlt k.1,cell_below hb hlt k.2.1,cell_below hb hlt k.2.2.1,cell_below hb hlt k.2.2.2.1,cell_below hb hlt k.2.2.2.2.1,cell_below hb hlt k.2.2.2.2.2⟩
theorem box_new (w:World) (u:Uri) (p h:Value):BoxU (w.alloc (.cells #[.string ⟨u.scheme.toArray⟩,.string ⟨u.user.toArray⟩,.string ⟨u.host.toArray⟩,.int .i64 u.port,p,h] 29)) w.heap.size u p h:=by
 unfold BoxU World.cell?;simp only [heap_alloc_new];exact ⟨rfl,rfl,rfl,rfl,rfl,rfl⟩
theorem has_snoc {ps:List Par} {k:Nat} (hk:k < ps.length) (h:(ps.take k).all (·.has)=true) (hb:ps[k].has=true):(ps.take (k+1)).all (·.has)=true:=by
 rw [List.take_succ_eq_append_getElem hk,List.all_append,h]; simp [hb]
theorem has_bad {ps:List Par} {k:Nat} (hk:k < ps.length) (hb:ps[k].has=false):ps.all (·.has)=false:=by
 rw [List.all_eq_false]; exact ⟨ps[k],List.getElem_mem hk,by simp [hb]⟩
end Go.Proofs.YtiogedceommcoaaGreatDoor
