/-
  Kit, Pure, Bytes, Own, Texts, Quote, Clone, Parts, Unquote, Escape, Unesc.
-/
import Derived.Test.YtldkidljjbkmbaaGreatDoorRows
import Derived.WalkKit
import Derived.WalkSpells
import Derived.WalkLawsBesides
import Derived.Below
import Derived.Laws.IdiomStrings
import Derived.Laws.BytesArg
import Derived.Lib.UnsafeStr
import Derived.Deep.RegionLaw
import Derived.Lib.BufferWrite
import Derived.Laws.MakeOwn
import Derived.Laws.CopyOwn
import Derived.Deep.QuietTactic
import Derived.BigQuiet
set_option linter.unusedVariables false
set_option linter.unusedSimpArgs false
set_option maxRecDepth 20000
namespace Go.Proofs.YtldkidljjbkmbaaGreatDoor
open Go.RowKit
theorem i64_of {a:Int} (h:(Lit.int .i64 a).wf=true):-9223372036854775808≤a∧a≤9223372036854775807:=by
 simpa [Lit.wf,IntKind.min,IntKind.max,IntKind.signed,IntKind.bits] using h
theorem below_drewN (w:World) (q:Nat):Below w.heap.size w (w.drewN q):=⟨rfl,rfl,rfl,Nat.le_refl _,fun _ _=>rfl⟩
theorem ret_int {k:IntKind} {a b:Int} (h:a=b):Ending.returned (.int k a)=.returned (.int k b):=by rw [h]
theorem ret_bool {a b:Bool} (h:a=b):Ending.returned (.bool a)=.returned (.bool b):=by rw [h]
theorem info5:(Tryz.prog.info? 5).map (fun i=>(i.zero,i.size,i.bytes))=some (some (.int .u8 0),1,1):=by kernel_rfl
theorem u8_bd (b:UInt8):0≤(b.toNat:Int)∧(b.toNat:Int)≤255:=by
 have:=b.toNat_lt; omega
theorem getL (s:ByteArray) (k:Nat) (h:k < s.size):s.data.toList[k]? = some s[k]:=by
 simp only [Array.getElem?_toList];have h':k < s.data.size:=h;rw [Array.getElem?_eq_getElem h']
 rfl
theorem take_snoc (s:ByteArray) (k:Nat) (h:k < s.size):s.data.toList.take (k+1)=s.data.toList.take k++[s[k]]:=by
 rw [List.take_succ_eq_append_getElem (by simpa using h)]; rfl
theorem drop_cons (s:ByteArray) (k:Nat) (h:k < s.size):s.data.toList.drop k=s[k] :: s.data.toList.drop (k+1):=by
 rw [List.drop_eq_getElem_cons (by simpa using h)]; rfl
theorem take_all (s:ByteArray) (k:Nat) (h:s.size≤k):s.data.toList.take k=s.data.toList:=List.take_of_length_le (by simpa using h)
theorem drop_all (s:ByteArray) (k:Nat) (h:s.size≤k):s.data.toList.drop k=[]:=List.drop_of_length_le (by simpa using h)
theorem len_data (s:ByteArray):s.data.toList.length=s.size:=by rw [Array.length_toList]; rfl
theorem ret_pair {p:Int × Int} (a b:Int) (h:p=(a,b)):Ending.returned (.tuple #[.int .i64 a,.int .i64 b])=.returned (.tuple #[.int .i64 p.1,.int .i64 p.2]):=by rw [h]
theorem data_ne {s:ByteArray} (h:0 < s.size):s.data.toList ≠ []:=by
 intro h'; have:=len_data s; rw [h'] at this; simp at this; omega
theorem isE_false {s:ByteArray} (h:0 < s.size):s.toList.isEmpty=false:=by
 have:=data_ne h
 rw [ByteArray.toList_eq]; simpa using this
theorem isE_true {s:ByteArray} (h:s.size=0):s.toList.isEmpty=true:=by
 have:s.data.toList=[]:=List.eq_nil_of_length_eq_zero (by rw [len_data,h])
 rw [ByteArray.toList_eq,this]; rfl
theorem ext_list (s:ByteArray) (a b:Nat):s.extract a b=⟨((s.data.toList.drop a).take (b - a)).toArray⟩:=by
 have h:=ByteArray.extract_mk s.data.toList a b;have h':(⟨s.data.toList.toArray⟩:ByteArray)=s:=by apply ByteArray.ext; simp
 rw [h'] at h;exact h
theorem hid {p:Prop} (h:p):Hid p:=h
theorem alloc_lt (w:World) (o:Obj):w.heap.size < (w.alloc o).heap.size:=by simp
end Go.Proofs.YtldkidljjbkmbaaGreatDoor
namespace Go.Proofs.YtldkidljjbkmbaaGreatDoor.Sc
def low (c:Int):Int:=if 65≤c∧c≤90 then c+32 else c
def sgn (c:Int):Int :=
 if c=45∨c=46 then 88 else if c=33∨c=126∨c=42∨c=95∨c=39 then 24
 else if c=37∨c=43∨c=96 then 8 else if c=40∨c=41 then 16 else if c=32∨c=9 then 32 else 0
def cls (c:Int):Int :=
 if 48≤c∧c≤57 then 93 else if 97≤low c∧low c≤102 then 94 else if 103≤low c∧low c≤122 then 90 else sgn c
theorem low_bd {c:Int} (h0:0≤c) (h1:c≤255):0≤low c∧low c≤255:=by
 unfold low; split <;> omega
end Go.Proofs.YtldkidljjbkmbaaGreatDoor.Sc
namespace Go.Proofs.YtldkidljjbkmbaaGreatDoor
open Go.RowKit Sc
def isB (c class_:Int):Bool:=!(bits BinOp.and IntKind.i64 (cls c) class_==0)
set_option maxHeartbeats 400000 in
theorem lower_any (c:Int) (w:World) (h0:0≤c) (h1:c≤255) :
  Calls Tryz.prog 107 #[.int .u8 c] w fun e w'=>e=.returned (.int .u8 (low c))∧w'=w:=by
 go_enter Tryz.func107,Tryz.ntmps107
 go_wp2
 all_goals go_ret
 all_goals (refine ⟨ret_int ?_,rfl⟩; unfold low; first | rw [if_pos (by omega)] | rw [if_neg (by omega)])
set_option maxHeartbeats 400000 in
theorem sign_any (c:Int) (w:World) (h0:0≤c) (h1:c≤255) :
  Calls Tryz.prog 149 #[.int .u8 c] w fun e w'=>e=.returned (.int .i64 (sgn c))∧w'=w:=by
 go_enter Tryz.func149,Tryz.ntmps149
 go_wp2
 all_goals go_ret
 all_goals (refine ⟨ret_int ?_,rfl⟩; simp only [beq_iff_eq,beq_eq_false_iff_ne,ne_eq] at *; unfold sgn; repeat (first | rw [if_pos (by omega)] | rw [if_neg (by omega)]))
set_option maxHeartbeats 400000 in
theorem class_any (c:Int) (w:World) (h0:0≤c) (h1:c≤255) :
  Calls Tryz.prog 125 #[.int .u8 c] w fun e w'=>e=.returned (.int .i64 (cls c))∧w'=w:=by
 have hb:=low_bd h0 h1
 go_enter Tryz.func125,Tryz.ntmps125
 go_wp2_with (first
  | (go_at_call 107; refine (lower_any _ _ h0 h1).mono ?_; rintro e w' ⟨rfl,rfl⟩)
  | (go_at_call 149; refine (sign_any _ _ h0 h1).mono ?_; rintro e w' ⟨rfl,rfl⟩))
 all_goals go_ret
 all_goals (refine ⟨ret_int ?_,rfl⟩; unfold cls; repeat (first | rw [if_pos (by omega)] | rw [if_neg (by omega)]))
set_option maxHeartbeats 400000 in
theorem is_any (c class_:Int) (w:World) (h0:0≤c) (h1:c≤255) :
  Calls Tryz.prog 144 #[.int .u8 c,.int .i64 class_] w fun e w'=>e=.returned (.bool (isB c class_))∧w'=w:=by
 go_enter Tryz.func144,Tryz.ntmps144
 go_wp2_with (go_at_call 125; refine (class_any _ _ h0 h1).mono ?_; rintro e w' ⟨rfl,rfl⟩)
 all_goals go_ret
 all_goals exact ⟨ret_bool rfl,rfl⟩
end Go.Proofs.YtldkidljjbkmbaaGreatDoor
namespace Go.Proofs.YtldkidljjbkmbaaGreatDoor
open Go.RowKit
def Own (w:World) (B:Nat) (e:TypeId) (v:Value) (xs:List Value):Prop:=w.ownsRow B e 1 v xs.length xs
theorem Own.alloc {w:World} {B:Nat} {e:TypeId} {v:Value} {xs:List Value} (h:Own w B e v xs) (o:Obj):Own (w.alloc o) B e v xs:=World.ownsRow.alloc h o
theorem Own.drew {w:World} {B:Nat} {e:TypeId} {v:Value} {xs:List Value} (h:Own w B e v xs):Own w.drew B e v xs:=World.ownsRow.drew h
theorem Own.below {w w':World} {B:Nat} {e:TypeId} {v:Value} {xs:List Value} (h:Own w B e v xs) (hb:Below w.heap.size w w'):Own w' B e v xs:=by
 obtain ⟨h1,h2⟩:=h;refine ⟨h1,?_⟩
 rcases h2 with h2 | ⟨g,cap,cur,hv,hg,hh,r⟩
 ·exact Or.inl h2
 ·exact Or.inr ⟨g,cap,cur,hv,hg,by rw [hb.block g (Array.getElem?_eq_some_iff.1 hh).1]; exact hh,r⟩
theorem wp_app {P:Program} (w:World) {ops:Array Oper} {rest:List Oper} {o:Oper} {a:Act} {Q:Exit → Act → World → Prop} (hgd:o.guard=none)
  (s x:Operand) (t:TypeId) (ho:o.op=Op.call { callee:=Callee.builtin Builtin.append,args:=#[s,x],argTypes:=#[t,t] }) (B:Nat) (e:TypeId) (i:TypeInfo)
  (z:Value) (bytes:Nat) (ht:P.underlying t=some (TypeDesc.slice e)) (hi:P.info? e=some i) (hz:i.zero=some z) (hsize:i.size=1) (hby:i.bytes=bytes) (hzs:z.cells.size=1)
  (v:Value) (xs:List Value) (hs:a.eval s=v) (hown:Own w B e v xs) (ad:Addr) (m:Nat) (c:Nat) (news:List Value) (hx:a.eval x=Value.slice (some ad) m c) (hl:news.length=m)
  (hnews:∀ (j:Nat) (u:Value),news[j]? = some u → w.cell? (ad.add j)=some u) (h1:∀ u ∈ news,u.oneCell'=true)
  (h63:xs.length+m≤maxLen) (hbytes:(xs.length+m) * bytes≤140737488355328) (w0:World) (hb:Below B w0 w) (hB:B≤w.heap.size)
  (h:∀ (v':Value) (w':World),Own w' B e v' (xs++news) → Below B w0 w' → B≤w'.heap.size → wpList P ops Q rest (a.put o.dst v') w'):wpList P ops Q (o :: rest) a w:=by
 refine wpList_append_own w hgd s x t ho B e i z 1 bytes ht hi hz hsize hby hzs (by decide) v xs.length xs hs hown ad m c news hx (by simpa using hl) hnews h1 h63 hbytes hB ?_
 intro v' w' hown' hgr _;refine h v' w' ?_ (hb.grown hgr hB (fun k hk=>(World.ownsRow.lt hown k hk).1)) (Nat.le_trans hB hgr.size)
 unfold Own;rw [List.length_append,hl];exact hown'
theorem step_app {P:Program} {ops:Array Oper} {o:Oper} {a:Act} {w:World} {K:Act → World → Prop} {Q:Exit → Act → World → Prop} {E:Prop} (hgd:o.guard=none)
  (s x:Operand) (t:TypeId) (ho:o.op=Op.call { callee:=Callee.builtin Builtin.append,args:=#[s,x],argTypes:=#[t,t] }) (B:Nat) (e:TypeId) (i:TypeInfo)
  (z:Value) (bytes:Nat) (ht:P.underlying t=some (TypeDesc.slice e)) (hi:P.info? e=some i) (hz:i.zero=some z) (hsize:i.size=1) (hby:i.bytes=bytes) (hzs:z.cells.size=1)
  (v:Value) (xs:List Value) (hs:a.eval s=v) (hown:Own w B e v xs) (ad:Addr) (m:Nat) (c:Nat) (news:List Value) (hx:a.eval x=Value.slice (some ad) m c) (hl:news.length=m)
  (hnews:∀ (j:Nat) (u:Value),news[j]? = some u → w.cell? (ad.add j)=some u) (h1:∀ u ∈ news,u.oneCell'=true)
  (h63:xs.length+m≤maxLen) (hbytes:(xs.length+m) * bytes≤140737488355328) (w0:World) (hb:Below B w0 w) (hB:B≤w.heap.size)
  (h:∀ (v':Value) (w':World),Own w' B e v' (xs++news) → Below B w0 w' → B≤w'.heap.size → K (a.put o.dst v') w') :
  if Region.wanted o (yielded ops a.tmps)=true then Oper.wp P o a w K Q else E:=by
 have hw:Region.wanted o (yielded ops a.tmps)=true:=by simp [Region.wanted,hgd]
 rw [if_pos hw];obtain ⟨v',w',hrun,r1,hgr,_⟩:=run_append_own (P:=P) w B t o.type e i z 1 bytes ht hi hz hsize hby hzs (by decide) v xs.length xs hown ad m c news (by simpa using hl) hnews h1 h63 hbytes hB;unfold Oper.wp
 simp [execOp,ho,resolve,invoke,builtin,hs,hx,hrun,Result.andThen]
 refine h v' w' ?_ (hb.grown hgr hB (fun k hk=>(World.ownsRow.lt hown k hk).1)) (Nat.le_trans hB hgr.size)
 unfold Own;rw [List.length_append,hl];exact r1
theorem wp_make {P:Program} (w:World) {ops:Array Oper} {rest:List Oper} {o:Oper} {a:Act} {Q:Exit → Act → World → Prop} (hg:o.guard=none)
  (l c:Operand) (t:TypeId) (hop:o.op=Op.makeSlice t l c) (B:Nat) (e:TypeId) (i:TypeInfo) (z:Value) (h1:P.underlying t=some (TypeDesc.slice e))
  (h2:P.info? e=some i) (h3:i.zero=some z) (h4:i.size=1) (kl kc:IntKind) (C:Int) (n:Nat) (hl:a.eval l=Value.int kl 0) (hc:a.eval c=Value.int kc C) (hC:C=↑n)
  (b2:i.bytes * n≤281474976710656) (b3:n≤maxLen) (w0:World) (hb:Below B w0 w) (b4:B≤w.heap.size)
  (hK:∀ (v:Value) (w':World),Own w' B e v [] → Below B w0 w' → B≤w'.heap.size → wpList P ops Q rest (a.put o.dst v) w') :
  wpList P ops Q (o :: rest) a w:=by
 refine wpList_make_own w hg l c t hop B e i z 1 h1 h2 h3 h4 kl kc C n hl hc hC b2 b3 b4 ?_
 intro w' hown hgr;exact hK _ w' hown (hb.grown hgr b4 (fun k hk=>by cases hk)) (Nat.le_trans b4 hgr.size)
theorem conv_own {P:Program} {w:World} {B e src dst:Nat} {v:Value} (l:List UInt8) (hs:P.underlying src=some (.slice e)) (he:P.underlying e=some (.int .u8)) (hd:P.underlying dst=some .string)
  (h:Own w B e v (Lib.byteCells l)):(convert src dst v).run P w=.ok (.string ⟨l.toArray⟩) w:=by
 have hl:(Lib.byteCells l).length=l.length:=Lib.byteCells_length l
 rcases h.2 with ⟨rfl,hn⟩ | ⟨g,cap,cur,rfl,hb,hg,_,_,hc,hx⟩
 ·have:l=[]:=List.eq_nil_of_length_eq_zero (by rw [← hl,hn])
  subst this;exact run_convert_bytes_nil w src e hs he 0 0 dst hd
 ·rw [hl];refine run_convert_bytes_back w src dst e _ cap l hs he hd fun j hj=>?_
  refine World.ownsRow.cells h (g:=g) rfl j _ ?_
  simp [Lib.byteCells,List.getElem?_eq_getElem hj]
theorem one_new (w:World) (e:TypeId) (x:Value):∀ (j:Nat) (u:Value),[x][j]? = some u → (w.alloc (.cells #[x] e)).cell? ((⟨w.heap.size,0,none⟩:Addr).add j)=some u:=by
 intro j u hj
 match j,hj with
 | 0,hj=>simp at hj; subst hj; simp [Addr.add]
theorem byteCells_one (l:List UInt8):∀ u ∈ Lib.byteCells l,u.oneCell'=true:=by
 intro u hu;simp only [Lib.byteCells,List.mem_map] at hu;obtain ⟨b,_,rfl⟩:=hu
 rfl
end Go.Proofs.YtldkidljjbkmbaaGreatDoor
namespace Go.Proofs.YtldkidljjbkmbaaGreatDoor
open Go.RowKit Sc
def allB (class_:Int) (l:List UInt8):Bool:=l.all fun b=>isB b.toNat class_
theorem allB_snoc (class_:Int) (l:List UInt8) (b:UInt8):allB class_ (l++[b])=(allB class_ l && isB b.toNat class_):=by simp [allB]
theorem allB_hit {class_:Int} {s:ByteArray} {k:Nat} (h:k < s.size) (hb:isB s[k].toNat class_=false):allB class_ s.data.toList=false:=by
 rw [allB,List.all_eq_false];exact ⟨s[k],List.mem_of_getElem? (getL s k h),by simp [hb]⟩
set_option maxHeartbeats 400000 in
theorem all_any (s:ByteArray) (class_:Int) (w:World) (hs:s.size≤maxLen) :
  Calls Tryz.prog 158 #[.string s,.int .i64 class_] w fun e w'=>e=.returned (.bool (allB class_ s.data.toList))∧w'=w:=by
 unfold maxLen at hs
 go_enter Tryz.func158,Tryz.ntmps158
 go_wp2
 go_loop [5,8] (fun _ i=>∃ k:Nat,k≤s.size∧i=.int .i64 k∧Hid (allB class_ (s.data.toList.take k)=true)) (fun _ i=>s.size - (intOf i).toNat)
 case atStart=>exact ⟨0,Nat.zero_le _,rfl,rfl⟩
 case round =>
  obtain ⟨k,hk,rfl,hall⟩:=hrel;by_cases hlt:k < s.size
  ·have hbd:=u8_bd s[k];by_cases hb:isB s[k].toNat class_=true
   ·go_wp2_with (go_at_call 144; refine (is_any _ _ _ hbd.1 hbd.2).mono ?_; rintro e w' ⟨rfl,rfl⟩)
    go_round
    case rel=>exact ⟨k+1,by omega,by go_num,show _=_ by rw [take_snoc s k hlt,allB_snoc,hall.out,hb]; rfl⟩
    case measure=>simp [intOf]; omega
   ·have hb':isB s[k].toNat class_=false:=by simpa using hb
    clear hb;go_wp2_with (go_at_call 144; refine (is_any _ _ _ hbd.1 hbd.2).mono ?_; rintro e w' ⟨rfl,rfl⟩)
    go_ret;exact ⟨ret_bool (allB_hit hlt hb').symm,rfl⟩
  ·go_wp2;go_ret;exact ⟨ret_bool (by rw [← hall.out,take_all s k (by omega)]),rfl⟩
def numL (most:Int):Int → List UInt8 → Option Int
 | n,[]=>some n
 | n,b :: r=>if (b.toNat:Int) - 48 > most∨n > (most - ((b.toNat:Int) - 48)) / 10 then none else numL most (10 * n+((b.toNat:Int) - 48)) r
def numV (most:Int) (l:List UInt8):Int × Int :=
 if l=[]∨allB 1 l=false then (0,10) else match numL most 0 l with | some n=>(n,0) | none=>(0,9)
theorem isB_digit (c:Int) (h0:0≤c) (h1:c≤255):isB c 1=decide (48≤c∧c≤57):=by
 obtain ⟨n,rfl⟩:=Int.eq_ofNat_of_zero_le h0;have h:∀ n:Fin 256,isB (n.val:Int) 1=decide (48≤(n.val:Int)∧(n.val:Int)≤57):=by decide +kernel
 exact h ⟨n,by omega⟩
theorem digit_at {s:ByteArray} (h:allB 1 s.data.toList=true) (k:Nat) (hk:k < s.size):48≤(s[k].toNat:Int)∧(s[k].toNat:Int)≤57:=by
 have hb:=u8_bd s[k]
 have:=(List.all_eq_true.1 h) s[k] (List.mem_of_getElem? (getL s k hk))
 rw [isB_digit _ hb.1 hb.2] at this
 simpa using this
theorem numL_stop {most n:Int} {s:ByteArray} {k:Nat} (hk:k < s.size) (h:(s[k].toNat:Int) - 48 > most∨n > (most - ((s[k].toNat:Int) - 48)) / 10):numL most n (s.data.toList.drop k)=none:=by
 rw [drop_cons s k hk,numL,if_pos h]
theorem numL_go {most n:Int} {s:ByteArray} {k:Nat} (hk:k < s.size) (h:¬ ((s[k].toNat:Int) - 48 > most∨n > (most - ((s[k].toNat:Int) - 48)) / 10)) :
  numL most n (s.data.toList.drop k)=numL most (10 * n+((s[k].toNat:Int) - 48)) (s.data.toList.drop (k+1)):=by
 rw [drop_cons s k hk,numL,if_neg h]
set_option maxHeartbeats 400000 in
theorem number_any (s:ByteArray) (most:Int) (w:World) (hs:s.size≤maxLen) (hm0:-9223372036854775808≤most) (hm1:most≤9223372036854775807) :
  Calls Tryz.prog 139 #[.string s,.int .i64 most] w fun e w'=>e=.returned (.tuple #[.int .i64 (numV most s.data.toList).1,.int .i64 (numV most s.data.toList).2])∧w'=w:=by
 have hs0:=hs;unfold maxLen at hs;by_cases he:s.size=0
 ·have hE:=isE_true he
  have hv:numV most s.data.toList=(0,10):=by
   have:s.data.toList=[]:=List.eq_nil_of_length_eq_zero (by rw [len_data,he])
   rw [numV,if_pos (Or.inl this)]
  have HV:Hid _:=hv; clear hv
  go_enter Tryz.func139,Tryz.ntmps139
  go_wp2;go_ret2;exact ⟨ret_pair 0 10 HV.out,rfl⟩
 have hE:=isE_false (s:=s) (by omega);have hne:=data_ne (s:=s) (by omega);by_cases ha:allB 1 s.data.toList=true
 ·have hdig:Hid (∀ k (hk:k < s.size),48≤(s[k].toNat:Int)∧(s[k].toNat:Int)≤57):=fun k hk=>digit_at ha k hk
  have HV:Hid (numV most s.data.toList=match numL most 0 s.data.toList with | some n=>(n,0) | none=>(0,9)):=by
   show _=_
   rw [numV,if_neg (by simp [hne,ha])]
  clear hne
  go_enter Tryz.func139,Tryz.ntmps139
  go_wp2_with (go_at_call 158; refine (all_any _ _ _ hs0).mono ?_; rintro e w' ⟨rfl,rfl⟩)
  go_loop [6,18] (fun n i=>∃ (k:Nat) (m:Int),k≤s.size∧i=.int .i64 k∧n=.int .i64 m∧0≤m∧m≤9223372036854775807∧Hid (numL most 0 s.data.toList=numL most m (s.data.toList.drop k))) (fun _ i=>s.size - (intOf i).toNat)
  case atStart=>exact ⟨0,0,Nat.zero_le _,rfl,rfl,by omega,by omega,rfl⟩
  case round =>
   obtain ⟨k,m,hk,rfl,rfl,hm0',hm1',hnum⟩:=hrel;by_cases hlt:k < s.size
   ·have hd:=hdig.out k hlt;by_cases h1:most < (s[k].toNat:Int) - 48
    ·have hst:=numL_stop (most:=most) (n:=m) hlt (Or.inl (by omega));have HS:Hid _:=hst; clear hst
     go_wp2;go_ret2;exact ⟨ret_pair 0 9 (by rw [HV.out,hnum.out,HS.out]),rfl⟩
    ·by_cases h2:(most - ((s[k].toNat:Int) - 48)) / 10 < m
     ·have hst:=numL_stop (most:=most) (n:=m) hlt (Or.inr (by omega));have HS:Hid _:=hst; clear hst
      go_wp2;go_ret2;exact ⟨ret_pair 0 9 (by rw [HV.out,hnum.out,HS.out]),rfl⟩
     ·have hst:=numL_go (most:=most) (n:=m) hlt (by omega);have HS:Hid _:=hst; clear hst
      go_wp2
      go_round
      case rel=>exact ⟨k+1,10 * m+((s[k].toNat:Int) - 48),by omega,by go_num,by go_num,by omega,by omega,show _=_ by rw [hnum.out,HS.out]⟩
      case measure=>simp [intOf]; omega
   ·have hdr:=drop_all s k (by omega);have HD:Hid _:=hdr; clear hdr
    go_wp2;go_ret2;exact ⟨ret_pair m 0 (by rw [HV.out,hnum.out,HD.out]; rfl),rfl⟩
 ·have ha':allB 1 s.data.toList=false:=by simpa using ha
  have hv:numV most s.data.toList=(0,10):=by rw [numV,if_pos (Or.inr ha')]
  have HV:Hid _:=hv; clear hv ha hne
  go_enter Tryz.func139,Tryz.ntmps139
  go_wp2_with (go_at_call 158; refine (all_any _ _ _ hs0).mono ?_; rintro e w' ⟨rfl,rfl⟩)
  go_ret2;exact ⟨ret_pair 0 10 HV.out,rfl⟩
theorem ret_str {p:List UInt8 × Int} (a:List UInt8) (b:Int) (h:p=(a,b)):Ending.returned (.tuple #[.string ⟨a.toArray⟩,.int .i64 b])=.returned (.tuple #[.string ⟨p.1.toArray⟩,.int .i64 p.2]):=by rw [h]
theorem wp_copy_str {P:Program} {w:World} {ops:Array Oper} {rest:List Oper} {o:Oper} {a:Act} {Q:Exit → Act → World → Prop} (hgd:o.guard=none) (d x:Operand) (dT sT:TypeId)
  (ho:o.op=.call { callee:=.builtin .copy,args:=#[d,x],argTypes:=#[dT,sT] }) (elem:TypeId) (hu:P.underlying dT=some (.slice elem)) (hsz:(P.info? elem).map (·.size)=some 1)
  (g dCap:Nat) (s:ByteArray) (hd:a.eval d=.slice (some ⟨g,0,none⟩) s.size dCap) (hs:a.eval x=.string s)
  (cur:Array Value) (t:TypeId) (hg:w.heap[g]? = some (.cells cur t (0,0))) (hfit:cur.size=s.size) (B:Nat) (w0:World) (hb:Below B w0 w) (hB:B≤g)
  (h:∀ w',Hid (w'.heap[g]? = some (.cells (Lib.byteCells s.data.toList).toArray t (0,0))) → Below B w0 w' → wpList P ops Q rest (a.put o.dst (goInt s.size)) w'):wpList P ops Q (o :: rest) a w:=by
 refine wpList_plain hgd fun K hK=>?_
 have hrun:=Lib.run_copy_row_string (P:=P) w dT sT o.type elem g 0 s.size dCap s cur t hu hsz hg (Nat.le_refl _) (by omega)
 have hrow:(cur.toList.take 0++Lib.byteCells s.data.toList++cur.toList.drop (0+s.size)).toArray=(Lib.byteCells s.data.toList).toArray:=by
  rw [List.drop_of_length_le (by rw [Array.length_toList]; omega)]; simp
 rw [hrow] at hrun;unfold Oper.wp
 simp [execOp,ho,resolve,invoke,builtin,hd,hs,hrun,Result.andThen]
 exact hK _ _ (h _ (setRow_heap w g cur _ t (0,0) hg) (below_setRow hb hB _))
theorem wp_str_of_row {P:Program} {w:World} {ops:Array Oper} {rest:List Oper} {o:Oper} {a:Act} {Q:Exit → Act → World → Prop} (hgd:o.guard=none) (p n:Operand) (pt it:TypeId)
  (ho:o.op=.call { callee:=.builtin .unsafeString,args:=#[p,n],argTypes:=#[pt,it] }) (e:TypeId) (hp:P.underlying pt=some (.pointer e)) (hc:P.cellsOf e=1)
  (g:Nat) (l:List UInt8) (h0:l ≠ []) (h63:l.length≤9223372036854775807) (hpv:a.eval p=.pointer (some ⟨g,0,none⟩)) (m:Int) (hnv:a.eval n=.int .i64 m) (hm:m=l.length)
  (hg:Hid (w.heap[g]? = some (.cells (Lib.byteCells l).toArray e (0,0)))) (B:Nat) (w0:World) (hb:Below B w0 w) (hB:B≤g)
  (h:∀ w',Below B w0 w' → wpList P ops Q rest (a.put o.dst (.string ⟨l.toArray⟩)) w'):wpList P ops Q (o :: rest) a w:=by
 subst hm;refine wpList_plain hgd fun K hK=>?_
 have hg':=hg.out;have hsh:w.shape? g=some (e,l.length):=by simp [World.shape?,hg',Lib.byteCells_length]
 have hrun:=Lib.run_unsafeString_row (P:=P) w pt it o.type e hp hc g l.length hsh l h0 (Nat.le_refl _) h63 (fun j x hj=>by
  have hj':j < l.length:=(List.getElem?_eq_some_iff.1 hj).1;by_cases e0:j=0
  ·subst e0; simp [World.cell?,Addr.add,hg',Lib.byteCells,hj]
  ·simp [World.cell?,Addr.add,e0,hg',Lib.byteCells,hj])
 unfold Oper.wp
 simp [execOp,ho,resolve,invoke,builtin,hpv,hnv,hrun,Result.andThen]
 exact hK _ _ (h _ (Lib.below_freeze hb hB _))
theorem ret_back (s:ByteArray):Ending.returned (.string ⟨s.data.toList.toArray⟩)=.returned (.string s):=by
 have h:(⟨s.data.toList.toArray⟩:ByteArray)=s:=by apply ByteArray.ext; simp
 rw [h]
theorem bytesz5:(Tryz.prog.info? 5).map (·.size)=some 1:=by kernel_rfl
theorem cells5:Tryz.prog.cellsOf 5=1:=by kernel_rfl
set_option maxHeartbeats 400000 in
theorem clone_any (s:ByteArray) (w:World) (hs:s.size≤281474976710656) :
  Calls Tryz.prog 34 #[.string s] w fun e w'=>e=.returned (.string s)∧Below w.heap.size w w':=by
 obtain ⟨i0,hi,hz0,hz1,hz2⟩:=info_parts info5;by_cases h0:s.size=0
 ·have he:s=⟨#[]⟩:=by
   have:s.data.toList=[]:=List.eq_nil_of_length_eq_zero (by rw [len_data,h0])
   apply ByteArray.ext; apply Array.toList_inj.1; rw [this]
  subst he
  go_enter Tryz.func34,Tryz.ntmps34
  go_wp2;go_ret;exact ⟨rfl,Below.refl _ _⟩
 ·have hmk:∀ u:World,(Instr.makeSlice 86 (.int .i64 (s.size:Int)) (.int .i64 (s.size:Int))).run Tryz.prog u =
    .ok (.slice (some ⟨u.heap.size,0,none⟩) s.size s.size) (u.alloc (.cells (madeCells #[.int .u8 0] s.size) 5)):=fun u=>by
   have h:=run_make (P:=Tryz.prog) u 86 5 i0 (.int .u8 0) Tryz.underlying86 hi hz0 .i64 .i64 (s.size:Int) (s.size:Int) (by omega) (Int.le_refl _) (by rw [hz2]; omega) (by omega)
   simpa [hz1,Value.cells] using h
  have hne:((s.size:Int)==0)=false:=by simpa using h0
  have hl:=data_ne (s:=s) (by omega);have hpos:(0:Int) < (s.size:Int):=by omega
  have HL:Hid _:=hl; clear hl
  go_enter Tryz.func34,Tryz.ntmps34
  go_wp2_with (first
   | (refine wp_copy_str rfl (.tmp 10) (.tmp 11) 86 9 rfl 5 Tryz.underlying86 bytesz5 w.heap.size s.size s rfl rfl _ 5 (heap_alloc_new w _) (size_madeCells _ _) w.heap.size w ((Below.refl _ _).alloc (Nat.le_refl _) _) (Nat.le_refl _) ?_; intro w2 hg2 hb2)
   | (refine wp_str_of_row rfl (.tmp 14) (.tmp 16) 102 3 rfl 5 Tryz.underlying102 cells5 w.heap.size s.data.toList HL.out (by rw [len_data]; omega) rfl _ rfl (by rw [len_data]) hg2 w.heap.size w hb2 (Nat.le_refl _) ?_; intro w3 hb3))
  go_ret;exact ⟨ret_back s,hb3⟩
set_option maxHeartbeats 400000 in
theorem sclone_any (s:ByteArray) (w:World) (hs:s.size≤281474976710656) :
  Calls Tryz.prog 20 #[.string s] w fun e w'=>e=.returned (.string s)∧Below w.heap.size w w':=by
 go_enter Tryz.func20,Tryz.ntmps20
 go_wp2_with (go_at_call 34; refine (clone_any _ _ hs).mono ?_; rintro e w' ⟨rfl,hb⟩)
 go_ret;exact ⟨rfl,hb⟩
structure Pl where
 q:Bool
 e:Bool
 a:Bool
theorem info9:(Tryz.prog.info? 9).map (fun i=>(i.zero,i.size,i.bytes))=some (some (.string .empty),1,16):=by kernel_rfl
def strs (ps:List (List UInt8)):List Value:=ps.map fun p=>Value.string ⟨p.toArray⟩
theorem strs_length (ps:List (List UInt8)):(strs ps).length=ps.length:=by simp [strs]
theorem strs_append (a b:List (List UInt8)):strs (a++b)=strs a++strs b:=by simp [strs]
def mid (l:List UInt8) (a b:Nat):List UInt8:=(l.drop a).take (b - a)
theorem mid_snoc (s:ByteArray) (a k:Nat) (ha:a≤k) (hk:k < s.size):mid s.data.toList a (k+1)=mid s.data.toList a k++[s[k]]:=by
 have e:k+1 - a=(k - a)+1:=by omega
 have hl:k - a < (s.data.toList.drop a).length:=by rw [List.length_drop,len_data]; omega
 rw [mid,mid,e,List.take_succ_eq_append_getElem hl]
 congr 2
 rw [List.getElem_drop];simp only [show a+(k - a)=k by omega]
 rfl
theorem map_snoc (acc:List UInt8) (b:UInt8) (x:Option (List UInt8)):(x.map (b :: ·)).map (acc++·)=x.map ((acc++[b])++·):=by
 cases x <;> simp
theorem byteCells_snoc (l:List UInt8) (b:UInt8):Lib.byteCells l++Lib.byteCells [b]=Lib.byteCells (l++[b]):=by rw [← Lib.byteCells_append]
def kept0:Array Value:=(List.replicate 256 (.bool false)).toArray
theorem zero52 (u:World):Sem.run Tryz.prog (zeroValue 150) u=.ok (.agg kept0) u:=by kernel_rfl
def Marks (w:World) (B:Nat) (f:Nat → Bool):Prop:=∀ j,j < 256 → w.cell? ⟨B,j,none⟩=some (.bool (f j))∧w.frozen? ⟨B,j,none⟩=false
theorem marks0 (w:World):Marks (w.alloc (.cells kept0 150)) w.heap.size (fun _=>false):=by
 intro j hj
 constructor
 ·rw [World.cell?_alloc_new,kept0,List.getElem?_toArray,List.getElem?_replicate,if_pos hj]
 ·exact World.frozen?_alloc_new w kept0 150 j
theorem marks_set {w:World} {B:Nat} {f:Nat → Bool} (h:Marks w B f) (n:Nat) (hn:n < 256) (b:Bool):Marks (w.setCell ⟨B,n,none⟩ (.bool b)) B (fun j=>if j=n then b else f j):=by
 intro j hj
 constructor
 ·by_cases e:j=n
  ·subst e;rw [World.cell?_setCell_same _ _ _ (h j hj).1]; simp
  ·rw [World.cell?_setCell_other _ _ _ _ (by intro e'; injection e' with _ e2; exact e e2.symm),(h j hj).1]; simp [e]
 ·rw [World.frozen?_setCell]; exact (h j hj).2
theorem marks_congr {w:World} {B:Nat} {f g:Nat → Bool} (h:Marks w B f) (hfg:∀ j,f j=g j):Marks w B g:=by
 intro j hj; rw [← hfg j]; exact h j hj
theorem marks_below {w w':World} {B:Nat} {f:Nat → Bool} (h:Marks w B f) (hb:Below (B+1) w w'):Marks w' B f:=by
 intro j hj;exact ⟨(hb.cell (p:=⟨B,j,none⟩) (Nat.lt_succ_self B)).trans (h j hj).1,(hb.frozen (p:=⟨B,j,none⟩) (Nat.lt_succ_self B)).trans (h j hj).2⟩
def inK (l:List UInt8) (j:Nat):Bool:=l.any fun b=>b.toNat==j
theorem inK_snoc (l:List UInt8) (b:UInt8) (j:Nat):(if j=b.toNat then true else inK l j)=inK (l++[b]) j:=by
 by_cases h:j=b.toNat
 ·simp [inK,h]
 ·have h':(b.toNat==j)=false:=by simp; exact fun e=>h e.symm
  simp [inK,h,h']
def hexd (n:Nat):UInt8:=[48,49,50,51,52,53,54,55,56,57,65,66,67,68,69,70].getD n 0
def free (kp:Nat → Bool) (b:UInt8):Bool:=isB b.toNat 16 || kp b.toNat
def esc (kp:Nat → Bool):List UInt8 → List UInt8
 | []=>[]
 | b :: r=>(if free kp b then [b] else [37,hexd (b.toNat / 16),hexd (b.toNat % 16)])++esc kp r
def kpF (keep:List UInt8) (j:Nat):Bool:=if j=37 then false else inK keep j
theorem esc_append (kp:Nat → Bool) (a b:List UInt8):esc kp (a++b)=esc kp a++esc kp b:=by
 induction a with
 | nil=>rfl
 | cons x r ih=>simp only [List.cons_append,esc,ih,List.append_assoc]
theorem esc_len (kp:Nat → Bool) (l:List UInt8):(esc kp l).length≤3 * l.length:=by
 induction l with
 | nil=>simp [esc]
 | cons x r ih=>simp only [esc,List.length_append,List.length_cons]; split <;> simp <;> omega
theorem esc_cells1 (kp:Nat → Bool) (l:List UInt8) (b:UInt8) (h:free kp b=true):Lib.byteCells (esc kp l)++Lib.byteCells [b]=Lib.byteCells (esc kp (l++[b])):=by
 rw [← Lib.byteCells_append]; simp [esc_append,esc,h]
theorem esc_cells3 (kp:Nat → Bool) (l:List UInt8) (b:UInt8) (h:free kp b=false) :
  Lib.byteCells (esc kp l)++Lib.byteCells [37,hexd (b.toNat / 16),hexd (b.toNat % 16)]=Lib.byteCells (esc kp (l++[b])):=by
 rw [← Lib.byteCells_append]; simp [esc_append,esc,h]
theorem esc_cells_len (kp:Nat → Bool) (l:List UInt8):(Lib.byteCells (esc kp l)).length≤3 * l.length:=by
 rw [Lib.byteCells_length]; exact esc_len kp l
theorem hexi (i:Int) (n:Nat) (hi:i.toNat=n) (h:i.toNat < 16):(((ByteArray.mk #[48,49,50,51,52,53,54,55,56,57,65,66,67,68,69,70])[i.toNat]'h).toNat:Int)=((hexd n).toNat:Int):=by
 subst hi;have hh:∀ n:Fin 16,(((ByteArray.mk #[48,49,50,51,52,53,54,55,56,57,65,66,67,68,69,70])[n.val]'n.isLt).toNat:Int)=((hexd n.val).toNat:Int):=by decide +kernel
 exact hh ⟨i.toNat,h⟩
theorem three_new (w:World) (e:TypeId) (x y z:Value) (l:List Value) (hl:l=[x,y,z]) :
  ∀ (j:Nat) (u:Value),l[j]? = some u → (w.alloc (.cells #[x,y,z] e)).drew.cell? ((⟨w.heap.size,0,none⟩:Addr).add j)=some u:=by
 subst hl;intro j u hj;rw [show (w.alloc (.cells #[x,y,z] e)).drew.cell? = (w.alloc (.cells #[x,y,z] e)).cell? from rfl]
 match j,hj with
 | 0,hj=>simp at hj; subst hj; simp [Addr.add]
 | 1,hj=>simp at hj; subst hj; simp [Addr.add]
 | 2,hj=>simp at hj; subst hj; simp [Addr.add]
theorem and15 (b:UInt8):bits BinOp.and IntKind.u8 (b.toNat:Int) 15=(b.toNat:Int) % 16:=by
 have h:∀ n:Fin 256,bits BinOp.and IntKind.u8 (n.val:Int) 15=(n.val:Int) % 16:=by decide +kernel
 exact h ⟨b.toNat,b.toNat_lt⟩
set_option maxHeartbeats 1000000 in
theorem escape_any (s keep:ByteArray) (w:World) (hs:3 * s.size≤140737488355328) (hk:keep.size≤9223372036854775807) :
  Calls Tryz.prog 115 #[.string s,.string keep] w fun e w'=>e=.returned (.string ⟨(esc (kpF keep.data.toList) s.data.toList).toArray⟩)∧Below w.heap.size w w':=by
 have hz52:=zero52;obtain ⟨i0,hi,hz0,hz1,hz2⟩:=info_parts info5
 go_enter Tryz.func115,Tryz.ntmps115
 go_wp2;clear hz52;have hm0:=marks0 w
 go_loopw [12] (fun i wr=>∃ k:Nat,k≤keep.size∧i=.int .i64 k∧Hid (Marks wr w.heap.size (inK (keep.data.toList.take k)))∧Below w.heap.size w wr∧w.heap.size+1≤wr.heap.size) (fun i _=>keep.size - (intOf i).toNat)
 case atStart=>exact ⟨0,Nat.zero_le _,rfl,hm0,(Below.refl _ _).alloc (Nat.le_refl _) _,by simp⟩
 case round =>
  obtain ⟨k,hk',rfl,hm,hb,hB⟩:=hrel;by_cases hlt:k < keep.size
  ·have hbd:=u8_bd keep[k];have hc:=(hm.out keep[k].toNat keep[k].toNat_lt).1;have hf:=(hm.out keep[k].toNat keep[k].toNat_lt).2
   have hm':Hid (Marks (wr.setCell ⟨w.heap.size,keep[k].toNat,none⟩ (.bool true)) w.heap.size (inK (keep.data.toList.take (k+1)))):=by
    rw [take_snoc keep k hlt];exact marks_congr (marks_set hm.out keep[k].toNat keep[k].toNat_lt true) (inK_snoc _ _)
   go_wp2;go_roundw
   case rel=>exact ⟨k+1,by omega,by go_num,hm',hb.setCell (Nat.le_refl _) _,by simpa using hB⟩
   case measure=>simp [intOf]; omega
  ·rw [take_all keep k (by omega)] at hm;have hc:=(hm.out 37 (by omega)).1;have hf:=(hm.out 37 (by omega)).2;have hm2:Hid (Marks (wr.setCell ⟨w.heap.size,37,none⟩ (.bool false)) w.heap.size (kpF keep.data.toList)):=marks_set hm.out 37 (by omega) false;have hb2:Below w.heap.size w (wr.setCell ⟨w.heap.size,37,none⟩ (.bool false)):=hb.setCell (Nat.le_refl _) _;have hB2:w.heap.size+1≤(wr.setCell ⟨w.heap.size,37,none⟩ (.bool false)).heap.size:=by simpa using hB
   clear hm hb hB hk' hm0;go_wp2_with (at_make; refine wp_make _ rfl _ _ 86 rfl (w.heap.size+1) 5 i0 (.int .u8 0) Tryz.underlying86 hi hz0 hz1 .i64 .i64 _ s.size rfl rfl (by omega) (by rw [hz2]; omega) (by unfold maxLen; omega) _ (Below.refl _ _) hB2 ?_; intro v0 w1 hown1 hb1 hB1)
   have hm1:Hid (Marks w1 w.heap.size (kpF keep.data.toList)):=marks_below hm2.out hb1;have hbw:Below w.heap.size w w1:=hb2.trans (hb1.mono (by omega));clear hm2 hb2 hB2 hb1 hc hf
   go_loopw [7,26] (fun v i wr=>∃ k:Nat,k≤s.size∧i=.int .i64 k∧Own wr (w.heap.size+1) 5 v (Lib.byteCells (esc (kpF keep.data.toList) (s.data.toList.take k)))∧Below (w.heap.size+1) w1 wr∧w.heap.size+1≤wr.heap.size) (fun _ i _=>s.size - (intOf i).toNat)
   case atStart=>exact ⟨0,Nat.zero_le _,rfl,hown1,Below.refl _ _,hB1⟩
   case round =>
    clear hown1 hB1;obtain ⟨k,hk',rfl,hown,hb,hB⟩:=hrel;have hlen:=esc_cells_len (kpF keep.data.toList) (s.data.toList.take k);have hlk:(s.data.toList.take k).length≤k:=List.length_take_le _ _;by_cases hlt:k < s.size
    ·have hbd:=u8_bd s[k];have hcell:=((marks_below hm1.out hb) s[k].toNat s[k].toNat_lt).1;by_cases hfree:free (kpF keep.data.toList) s[k]=true
     ·have hcs:=esc_cells1 (kpF keep.data.toList) (s.data.toList.take k) s[k] hfree;rw [← take_snoc s k hlt] at hcs;have HC:Hid _:=hcs; clear hcs
      have HF:Hid _:=hfree; clear hfree
      by_cases hpl:isB s[k].toNat 16=true
      ·go_wp2_with (first
        | (go_at_call 144; refine (is_any _ _ _ hbd.1 hbd.2).mono ?_; rintro e w' ⟨rfl,rfl⟩)
        | (at_builtin; refine wp_app _ rfl (.tmp 39) (.tmp 41) 86 rfl (w.heap.size+1) 5 i0 (.int .u8 0) 1 Tryz.underlying86 hi hz0 hz1 hz2 rfl _ _ rfl (hown.alloc _) ⟨_,0,none⟩ 1 1 (Lib.byteCells [s[k]]) rfl rfl (by exact one_new _ _ _) (byteCells_one _) (by unfold maxLen; omega) (by omega) w1 (hb.alloc hB _) (by simp; omega) ?_; intro v3 w3 hown3 hb3 hB3))
       rw [HC.out] at hown3;go_roundw
       case rel=>exact ⟨k+1,by omega,by go_num,hown3,hb3,hB3⟩
       case measure=>simp [intOf]; omega
      ·have hpl':isB s[k].toNat 16=false:=by simpa using hpl
       have hkp:kpF keep.data.toList s[k].toNat=true:=by have:=HF.out; rw [free,hpl'] at this; simpa using this
       rw [hkp] at hcell;have HK:Hid _:=hkp; clear hkp hpl
       go_wp2_with (first
        | (go_at_call 144; refine (is_any _ _ _ hbd.1 hbd.2).mono ?_; rintro e w' ⟨rfl,rfl⟩)
        | (at_builtin; refine wp_app _ rfl (.tmp 39) (.tmp 41) 86 rfl (w.heap.size+1) 5 i0 (.int .u8 0) 1 Tryz.underlying86 hi hz0 hz1 hz2 rfl _ _ rfl (hown.alloc _) ⟨_,0,none⟩ 1 1 (Lib.byteCells [s[k]]) rfl rfl (by exact one_new _ _ _) (byteCells_one _) (by unfold maxLen; omega) (by omega) w1 (hb.alloc hB _) (by simp; omega) ?_; intro v3 w3 hown3 hb3 hB3))
       rw [HC.out] at hown3;go_roundw
       case rel=>exact ⟨k+1,by omega,by go_num,hown3,hb3,hB3⟩
       case measure=>simp [intOf]; omega
     ·have hfree':free (kpF keep.data.toList) s[k]=false:=by simpa using hfree
      have hcs:=esc_cells3 (kpF keep.data.toList) (s.data.toList.take k) s[k] hfree';rw [← take_snoc s k hlt] at hcs;have HC:Hid _:=hcs; clear hcs
      have hpl:isB s[k].toNat 16=false:=by rw [free] at hfree'; simp at hfree'; exact hfree'.1
      have hkp:kpF keep.data.toList s[k].toNat=false:=by rw [free] at hfree'; simp at hfree'; exact hfree'.2
      rw [hkp] at hcell;clear hkp hfree hfree'
      go_wp2_with (first
        | (go_at_call 144; refine (is_any _ _ _ hbd.1 hbd.2).mono ?_; rintro e w' ⟨rfl,rfl⟩))
      have hA:(0:Int)≤(s[k].toNat:Int) / 16:=by omega
      have hB':(s[k].toNat:Int) / 16 < 16:=by omega
      have hC:bits BinOp.and IntKind.u8 (s[k].toNat:Int) 15=(s[k].toNat:Int) % 16:=and15 _;have hD:(0:Int)≤(s[k].toNat:Int) % 16:=by omega
      have hE:(s[k].toNat:Int) % 16 < 16:=by omega
      go_region_law (refine step_app rfl (.tmp 43) (.tmp 50) 86 rfl (w.heap.size+1) 5 i0 (.int .u8 0) 1 Tryz.underlying86 hi hz0 hz1 hz2 rfl _ _ rfl (by exact (hown.alloc _).drew) ⟨_,0,none⟩ 3 3 (Lib.byteCells [37,hexd (s[k].toNat / 16),hexd (s[k].toNat % 16)]) rfl rfl (by refine three_new _ _ _ _ _ _ ?_; simp only [Lib.byteCells,List.map_cons,List.map_nil]; rw [hexi _ (s[k].toNat / 16) (by omega),hexi _ (s[k].toNat % 16) (by omega)]; rfl) (byteCells_one _) (by unfold maxLen; omega) (by omega) w1 (by exact (hb.alloc hB _).drew) (by simp; omega) ?_; intro v3 w3 hown3 hb3 hB3)
      all_goals
       rw [HC.out] at hown3;go_wp2;go_roundw
       case rel=>exact ⟨k+1,by omega,by go_num,hown3,hb3,hB3⟩
       case measure=>simp [intOf]; omega
    ·have hta:=take_all s k (by omega);rw [hta] at hown;clear hta hlen hlk;have hcv:=conv_own (P:=Tryz.prog) _ Tryz.underlying86 Tryz.underlying5 Tryz.underlying9 hown;go_wp2;go_ret;exact ⟨rfl,hbw.trans (hb.mono (by omega))⟩
theorem Own.drewN {w:World} {B:Nat} {e:TypeId} {v:Value} {xs:List Value} (h:Own w B e v xs) (q:Nat):Own (w.drewN q) B e v xs:=h
theorem Below.drewN {B:Nat} {a w:World} (h:Below B a w) (q:Nat):Below B a (w.drewN q):=⟨h.os,h.tape,h.output,h.size,h.block⟩
def hexv (c:Int):Int:=if 48≤c∧c≤57 then c - 48 else low c - 87
theorem isB_hex (c:Int) (h0:0≤c) (h1:c≤255):isB c 4=decide (48≤c∧c≤57∨97≤c∧c≤102∨65≤c∧c≤70):=by
 obtain ⟨n,rfl⟩:=Int.eq_ofNat_of_zero_le h0;have h:∀ n:Fin 256,isB (n.val:Int) 4=decide (48≤(n.val:Int)∧(n.val:Int)≤57∨97≤(n.val:Int)∧(n.val:Int)≤102∨65≤(n.val:Int)∧(n.val:Int)≤70):=by decide +kernel
 exact h ⟨n,by omega⟩
theorem hex_of {b:UInt8} (h:isB b.toNat 4=true):48≤(b.toNat:Int)∧(b.toNat:Int)≤57∨97≤(b.toNat:Int)∧(b.toNat:Int)≤102∨65≤(b.toNat:Int)∧(b.toNat:Int)≤70:=by
 have hb:=u8_bd b;rw [isB_hex _ hb.1 hb.2] at h
 simpa using h
theorem hexv_bd {b:UInt8} (h:isB b.toNat 4=true):0≤hexv b.toNat∧hexv b.toNat≤15:=by
 have:=hex_of h
 unfold hexv low
 repeat' split
 all_goals omega
def hxb (x y:UInt8):UInt8:=UInt8.ofNat (16 * hexv x.toNat+hexv y.toNat).toNat
theorem hxb_toNat {x y:UInt8} (hx:isB x.toNat 4=true) (hy:isB y.toNat 4=true):((hxb x y).toNat:Int)=16 * hexv x.toNat+hexv y.toNat:=by
 have h1:=hexv_bd hx;have h2:=hexv_bd hy;rw [hxb,UInt8.toNat_ofNat'];omega
set_option maxHeartbeats 400000 in
theorem hexvalue_any (b:UInt8) (w:World) (h:isB b.toNat 4=true) :
  Calls Tryz.prog 159 #[.int .u8 b.toNat] w fun e w'=>e=.returned (.int .u8 (hexv b.toNat))∧w'=w:=by
 have hbd:=u8_bd b;have hx:=hex_of h;by_cases hd:48≤(b.toNat:Int)∧(b.toNat:Int)≤57
 ·have h1:isB b.toNat 1=true:=by rw [isB_digit _ hbd.1 hbd.2]; simpa using hd
  have hv:Hid (hexv b.toNat=(b.toNat:Int) - 48):=by show _=_; rw [hexv,if_pos hd]
  obtain ⟨hd1,hd2⟩:=hd;clear h hx
  go_enter Tryz.func159,Tryz.ntmps159
  go_wp2_with (go_at_call 144; refine (is_any _ _ _ hbd.1 hbd.2).mono ?_; rintro e w' ⟨rfl,rfl⟩)
  go_ret;exact ⟨ret_int hv.out.symm,rfl⟩
 ·have h1:isB b.toNat 1=false:=by rw [isB_digit _ hbd.1 hbd.2]; simpa using hd
  have hl:97≤low b.toNat∧low b.toNat≤102:=by unfold low; split <;> omega
  have hv:Hid (hexv b.toNat=low b.toNat - 97+10):=by show _=_; rw [hexv,if_neg hd]; omega
  obtain ⟨hl1,hl2⟩:=hl;clear h hx hd
  go_enter Tryz.func159,Tryz.ntmps159
  go_wp2_with (first
   | (go_at_call 144; refine (is_any _ _ _ hbd.1 hbd.2).mono ?_; rintro e w' ⟨rfl,rfl⟩)
   | (go_at_call 107; refine (lower_any _ _ hbd.1 hbd.2).mono ?_; rintro e w' ⟨rfl,rfl⟩))
  go_ret;exact ⟨ret_int hv.out.symm,rfl⟩
def une:List UInt8 → Option (List UInt8)
 | []=>some []
 | [b]=>if (b.toNat:Int)=37 then none else some [b]
 | [b,x]=>if (b.toNat:Int)=37 then none else (une [x]).map (b :: ·)
 | b :: x :: y :: r=>if (b.toNat:Int)=37 then (if isB x.toNat 4 && isB y.toNat 4 then (une r).map (hxb x y :: ·) else none) else (une (x :: y :: r)).map (b :: ·)
theorem une_plain {b:UInt8} {r:List UInt8} (h:(b.toNat:Int) ≠ 37):une (b :: r)=(une r).map (b :: ·):=by
 match r with
 | []=>simp [une,h]
 | [x]=>show (if (b.toNat:Int)=37 then none else (une [x]).map (b :: ·))=_; rw [if_neg h]
 | x :: y :: r=>rw [une,if_neg h]
theorem une_short {b:UInt8} {r:List UInt8} (h:(b.toNat:Int)=37) (hr:r.length < 2):une (b :: r)=none:=by
 match r,hr with
 | [],_=>simp [une,h]
 | [x],_=>rw [une,if_pos h]
 | x :: y :: r,hr=>simp at hr; omega
theorem une_hex {b x y:UInt8} {r:List UInt8} (h:(b.toNat:Int)=37) (hx:isB x.toNat 4=true) (hy:isB y.toNat 4=true):une (b :: x :: y :: r)=(une r).map (hxb x y :: ·):=by
 rw [une,if_pos h,hx,hy]; rfl
theorem une_bad {b x y:UInt8} {r:List UInt8} (h:(b.toNat:Int)=37) (hx:(isB x.toNat 4 && isB y.toNat 4)=false):une (b :: x :: y :: r)=none:=by
 rw [une,if_pos h,hx]; rfl
def unescV (l:List UInt8):List UInt8 × Int:=match une l with | some r=>(r,0) | none=>([],12)
theorem unescV_some {l r:List UInt8} (h:une l=some r):unescV l=(r,0):=by rw [unescV,h]
theorem unescV_none {l:List UInt8} (h:une l=none):unescV l=([],12):=by rw [unescV,h]
def UneAt (l acc rest:List UInt8):Prop:=une l=(une rest).map (acc++·)
theorem uneAt0 (l:List UInt8):UneAt l [] l:=by unfold UneAt; cases une l <;> simp
theorem uneAt_end {l acc:List UInt8} (h:UneAt l acc []):une l=some acc:=by rw [h]; simp [une]
theorem uneAt_plain {l acc:List UInt8} {b:UInt8} {r:List UInt8} (h:UneAt l acc (b :: r)) (hb:(b.toNat:Int) ≠ 37):UneAt l (acc++[b]) r:=by
 unfold UneAt at *;rw [h,une_plain hb]; exact map_snoc acc b (une r)
theorem uneAt_hex {l acc:List UInt8} {b x y:UInt8} {r:List UInt8} (h:UneAt l acc (b :: x :: y :: r)) (hb:(b.toNat:Int)=37) (hx:isB x.toNat 4=true) (hy:isB y.toNat 4=true):UneAt l (acc++[hxb x y]) r:=by
 unfold UneAt at *;rw [h,une_hex hb hx hy]; exact map_snoc acc _ (une r)
theorem uneAt_short {l acc:List UInt8} {b:UInt8} {r:List UInt8} (h:UneAt l acc (b :: r)) (hb:(b.toNat:Int)=37) (hr:r.length < 2):une l=none:=by
 unfold UneAt at h;rw [h,une_short hb hr]; rfl
theorem uneAt_bad {l acc:List UInt8} {b x y:UInt8} {r:List UInt8} (h:UneAt l acc (b :: x :: y :: r)) (hb:(b.toNat:Int)=37) (hx:(isB x.toNat 4 && isB y.toNat 4)=false):une l=none:=by
 unfold UneAt at h;rw [h,une_bad hb hx]; rfl
theorem or_hex {x y:UInt8} (hx:isB x.toNat 4=true) (hy:isB y.toNat 4=true):bits BinOp.or IntKind.u8 (hexv x.toNat * 16 % 256) (hexv y.toNat)=((hxb x y).toNat:Int):=by
 rw [hxb_toNat hx hy];have h1:=hexv_bd hx;have h2:=hexv_bd hy;obtain ⟨m,hm⟩:=Int.eq_ofNat_of_zero_le h1.1;obtain ⟨n,hn⟩:=Int.eq_ofNat_of_zero_le h2.1;rw [hm,hn];have h:∀ m n:Fin 16,bits BinOp.or IntKind.u8 ((m.val:Int) * 16 % 256) (n.val:Int)=16 * (m.val:Int)+(n.val:Int):=by decide +kernel
 exact h ⟨m,by omega⟩ ⟨n,by omega⟩
theorem all2 (s:ByteArray) (k:Nat) (h:k+2 < s.size) (c:Int):allB c (s.extract (k+1) (k+3)).data.toList=(isB s[k+1].toNat c && isB s[k+2].toNat c):=by
 have e:(s.extract (k+1) (k+3)).data.toList=[s[k+1],s[k+2]]:=by
  rw [ext_list,show k+3 - (k+1)=2 by omega,drop_cons s (k+1) (by omega),drop_cons s (k+1+1) (by omega)]
  rfl
 rw [e,allB]; simp
theorem all_hex2 (s:ByteArray) (k:Nat) (h:k+2 < s.size) (hs:s.size≤maxLen) (w:World) (b:Bool) (hb:(isB s[k+1].toNat 4 && isB s[k+2].toNat 4)=b) :
  Calls Tryz.prog 158 #[.string (s.extract (k+1) (k+3)),.int .i64 4] w fun e w'=>e=.returned (.bool b)∧w'=w:=by
 have:=all_any (s.extract (k+1) (k+3)) 4 w (by rw [ByteArray.size_extract]; omega)
 rw [all2 s k h,hb] at this;exact this
end Go.Proofs.YtldkidljjbkmbaaGreatDoor
