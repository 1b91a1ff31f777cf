/-
  Own, Row, Kit, Pure, Bytes, Texts, Clone, RefClass.
-/
import Derived.WalkKit
import Derived.WalkSpells
import Derived.Laws.IdiomStrings
import Derived.Laws.BytesArg
import Derived.Lib.UnsafeStr
import Derived.Deep.RegionLaw
import Derived.Laws.MakeOwn
import Derived.Lib.BufferWrite
import Derived.Test.YtbmjodlbkgblpaaGreatDoorRows
import Derived.WalkLawsBesides
import Derived.Below
import Derived.Laws.CopyOwn
set_option linter.unusedVariables false
set_option linter.unusedSimpArgs false
set_option maxRecDepth 20000
namespace Go.Proofs.YtbmjodlbkgblpaaGreatDoor
open Go.RowKit
def Own (w:World) (B:Nat) (e:TypeId) (v:Value) (xs:List Value):Prop:=w.ownsRow B e 1 v xs.length xs
theorem Own.nil (w:World) (B:Nat) (e:TypeId):Own w B e (.slice none 0 0) []:=World.ownsRow_nil _ _ _ _
theorem Own.alloc {w:World} {B:Nat} {e:TypeId} {v:Value} {xs:List Value} (h:Own w B e v xs) (o:Obj):Own (w.alloc o) B e v xs:=World.ownsRow.alloc h o
theorem Own.drew {w:World} {B:Nat} {e:TypeId} {v:Value} {xs:List Value} (h:Own w B e v xs):Own w.drew B e v xs:=World.ownsRow.drew h
theorem Own.below {w w':World} {B:Nat} {e:TypeId} {v:Value} {xs:List Value} (h:Own w B e v xs) (hb:Below w.heap.size w w'):Own w' B e v xs:=by
 obtain ⟨h1,h2⟩:=h;refine ⟨h1,?_⟩
 rcases h2 with h2 | ⟨g,cap,cur,hv,hg,hh,r⟩
 ·exact Or.inl h2
 ·exact Or.inr ⟨g,cap,cur,hv,hg,by rw [hb.block g (Array.getElem?_eq_some_iff.1 hh).1]; exact hh,r⟩
theorem Own.form {w:World} {B:Nat} {e:TypeId} {v:Value} {xs:List Value} (h:Own w B e v xs):∃ a cap,v=.slice a xs.length cap:=by
 rcases h.2 with ⟨rfl,hn⟩ | ⟨g,cap,cur,rfl,_⟩
 ·exact ⟨none,0,by rw [hn]⟩
 ·exact ⟨_,cap,rfl⟩
theorem wp_app {P:Program} (w:World) {ops:Array Oper} {rest:List Oper} {o:Oper} {a:Act} {Q:Exit → Act → World → Prop} (hgd:o.guard=none)
  (s x:Operand) (t:TypeId) (ho:o.op=Op.call { callee:=Callee.builtin Builtin.append,args:=#[s,x],argTypes:=#[t,t] }) (B:Nat) (e:TypeId) (i:TypeInfo)
  (z:Value) (bytes:Nat) (ht:P.underlying t=some (TypeDesc.slice e)) (hi:P.info? e=some i) (hz:i.zero=some z) (hsize:i.size=1) (hby:i.bytes=bytes) (hzs:z.cells.size=1)
  (v:Value) (xs:List Value) (hs:a.eval s=v) (hown:Own w B e v xs) (ad:Addr) (m:Nat) (c:Nat) (news:List Value) (hx:a.eval x=Value.slice (some ad) m c) (hl:news.length=m)
  (hnews:∀ (j:Nat) (u:Value),news[j]? = some u → w.cell? (ad.add j)=some u) (h1:∀ u ∈ news,u.oneCell'=true)
  (h63:xs.length+m≤maxLen) (hbytes:(xs.length+m) * bytes≤140737488355328) (w0:World) (hb:Below B w0 w) (hB:B≤w.heap.size)
  (h:∀ (v':Value) (w':World),Own w' B e v' (xs++news) → Below B w0 w' → B≤w'.heap.size → wpList P ops Q rest (a.put o.dst v') w'):wpList P ops Q (o :: rest) a w:=by
 refine wpList_append_own w hgd s x t ho B e i z 1 bytes ht hi hz hsize hby hzs (by decide) v xs.length xs hs hown ad m c news hx (by simpa using hl) hnews h1 h63 hbytes hB ?_
 intro v' w' hown' hgr _;refine h v' w' ?_ (hb.grown hgr hB (fun k hk=>(World.ownsRow.lt hown k hk).1)) (Nat.le_trans hB hgr.size)
 unfold Own;rw [List.length_append,hl];exact hown'
theorem step_app {P:Program} {ops:Array Oper} {o:Oper} {a:Act} {w:World} {K:Act → World → Prop} {Q:Exit → Act → World → Prop} {E:Prop} (hgd:o.guard=none)
  (s x:Operand) (t:TypeId) (ho:o.op=Op.call { callee:=Callee.builtin Builtin.append,args:=#[s,x],argTypes:=#[t,t] }) (B:Nat) (e:TypeId) (i:TypeInfo)
  (z:Value) (bytes:Nat) (ht:P.underlying t=some (TypeDesc.slice e)) (hi:P.info? e=some i) (hz:i.zero=some z) (hsize:i.size=1) (hby:i.bytes=bytes) (hzs:z.cells.size=1)
  (v:Value) (xs:List Value) (hs:a.eval s=v) (hown:Own w B e v xs) (ad:Addr) (m:Nat) (c:Nat) (news:List Value) (hx:a.eval x=Value.slice (some ad) m c) (hl:news.length=m)
  (hnews:∀ (j:Nat) (u:Value),news[j]? = some u → w.cell? (ad.add j)=some u) (h1:∀ u ∈ news,u.oneCell'=true)
  (h63:xs.length+m≤maxLen) (hbytes:(xs.length+m) * bytes≤140737488355328) (w0:World) (hb:Below B w0 w) (hB:B≤w.heap.size)
  (h:∀ (v':Value) (w':World),Own w' B e v' (xs++news) → Below B w0 w' → B≤w'.heap.size → K (a.put o.dst v') w') :
  if Region.wanted o (yielded ops a.tmps)=true then Oper.wp P o a w K Q else E:=by
 have hw:Region.wanted o (yielded ops a.tmps)=true:=by simp [Region.wanted,hgd]
 rw [if_pos hw];obtain ⟨v',w',hrun,r1,hgr,_⟩:=run_append_own (P:=P) w B t o.type e i z 1 bytes ht hi hz hsize hby hzs (by decide) v xs.length xs hown ad m c news (by simpa using hl) hnews h1 h63 hbytes hB;unfold Oper.wp
 simp [execOp,ho,resolve,invoke,builtin,hs,hx,hrun,Result.andThen]
 refine h v' w' ?_ (hb.grown hgr hB (fun k hk=>(World.ownsRow.lt hown k hk).1)) (Nat.le_trans hB hgr.size)
 unfold Own;rw [List.length_append,hl];exact r1
theorem wp_make {P:Program} (w:World) {ops:Array Oper} {rest:List Oper} {o:Oper} {a:Act} {Q:Exit → Act → World → Prop} (hg:o.guard=none)
  (l c:Operand) (t:TypeId) (hop:o.op=Op.makeSlice t l c) (B:Nat) (e:TypeId) (i:TypeInfo) (z:Value) (h1:P.underlying t=some (TypeDesc.slice e))
  (h2:P.info? e=some i) (h3:i.zero=some z) (h4:i.size=1) (kl kc:IntKind) (C:Int) (n:Nat) (hl:a.eval l=Value.int kl 0) (hc:a.eval c=Value.int kc C) (hC:C=↑n)
  (b2:i.bytes * n≤281474976710656) (b3:n≤maxLen) (w0:World) (hb:Below B w0 w) (b4:B≤w.heap.size)
  (hK:∀ (v:Value) (w':World),Own w' B e v [] → Below B w0 w' → B≤w'.heap.size → wpList P ops Q rest (a.put o.dst v) w') :
  wpList P ops Q (o :: rest) a w:=by
 refine wpList_make_own w hg l c t hop B e i z 1 h1 h2 h3 h4 kl kc C n hl hc hC b2 b3 b4 ?_
 intro w' hown hgr;exact hK _ w' hown (hb.grown hgr b4 (fun k hk=>by cases hk)) (Nat.le_trans b4 hgr.size)
theorem conv_own {P:Program} {w:World} {B e src dst:Nat} {v:Value} (l:List UInt8) (hs:P.underlying src=some (.slice e)) (he:P.underlying e=some (.int .u8)) (hd:P.underlying dst=some .string)
  (h:Own w B e v (Lib.byteCells l)):(convert src dst v).run P w=.ok (.string ⟨l.toArray⟩) w:=by
 have hl:(Lib.byteCells l).length=l.length:=Lib.byteCells_length l
 rcases h.2 with ⟨rfl,hn⟩ | ⟨g,cap,cur,rfl,hb,hg,_,_,hc,hx⟩
 ·have:l=[]:=List.eq_nil_of_length_eq_zero (by rw [← hl,hn])
  subst this;exact run_convert_bytes_nil w src e hs he 0 0 dst hd
 ·rw [hl];refine run_convert_bytes_back w src dst e _ cap l hs he hd fun j hj=>?_
  refine World.ownsRow.cells h (g:=g) rfl j _ ?_
  simp [Lib.byteCells,List.getElem?_eq_getElem hj]
theorem one_new (w:World) (e:TypeId) (x:Value):∀ (j:Nat) (u:Value),[x][j]? = some u → (w.alloc (.cells #[x] e)).cell? ((⟨w.heap.size,0,none⟩:Addr).add j)=some u:=by
 intro j u hj
 match j,hj with
 | 0,hj=>simp at hj; subst hj; simp [Addr.add]
theorem byteCells_one (l:List UInt8):∀ u ∈ Lib.byteCells l,u.oneCell'=true:=by
 intro u hu;simp only [Lib.byteCells,List.mem_map] at hu;obtain ⟨b,_,rfl⟩:=hu
 rfl
def RowIs (w:World) (g:Nat) (e:TypeId) (l:List Value):Prop:=w.heap[g]? = some (.cells l.toArray e (0,0))
theorem RowIs.cell {w:World} {g:Nat} {e:TypeId} {l:List Value} (h:RowIs w g e l) (j:Nat) (hj:j < l.length):w.cell? ⟨g,j,none⟩=some l[j]:=by
 unfold RowIs at h
 simp [World.cell?,h,hj]
theorem RowIs.frozen {w:World} {g:Nat} {e:TypeId} {l:List Value} (h:RowIs w g e l) (j:Nat):w.frozen? ⟨g,j,none⟩=false:=by
 unfold RowIs at h
 simp [World.frozen?,h]
theorem RowIs.set {w:World} {g:Nat} {e:TypeId} {l:List Value} (h:RowIs w g e l) (j:Nat) (v:Value):RowIs (w.setCell ⟨g,j,none⟩ v) g e (l.set j v):=by
 have:=heap_setCell_same w g j l.toArray e v h
 unfold RowIs;rw [this]
 simp
theorem RowIs.below {w w':World} {g:Nat} {e:TypeId} {l:List Value} (h:RowIs w g e l) {B:Nat} (hb:Below B w w') (hg:g < B):RowIs w' g e l:=by
 unfold RowIs;rw [hb.block g hg];exact h
theorem RowIs.own {w:World} {g:Nat} {e:TypeId} {l:List Value} (h:RowIs w g e l) (B n:Nat) (hB:B≤g) (hn:l.length=n) (hm:n≤maxLen):Own w B e (.slice (some ⟨g,0,none⟩) n n) l:=by
 subst hn;refine ⟨by simp,Or.inr ⟨g,l.length,l.toArray,rfl,hB,h,Nat.le_refl _,hm,by simp,by simp⟩⟩
def filled (l:List UInt8) (n:Nat):List Value:=Lib.byteCells l++List.replicate (n - l.length) (.int .u8 0)
theorem filled_len (l:List UInt8) (n:Nat) (h:l.length≤n):(filled l n).length=n:=by simp [filled,Lib.byteCells]; omega
theorem filled_full (l:List UInt8) (n:Nat) (h:l.length=n):filled l n=Lib.byteCells l:=by simp [filled,h]
theorem filled_set (l:List UInt8) (n:Nat) (b:UInt8) (h:l.length < n):(filled l n).set l.length (.int .u8 b.toNat)=filled (l++[b]) n:=by
 have e:n - l.length=(n - (l.length+1))+1:=by omega
 have hl:(Lib.byteCells l).length=l.length:=Lib.byteCells_length l;unfold filled;rw [List.set_append_right _ _ (by omega),hl,Nat.sub_self,e,List.replicate_succ,List.set_cons_zero,Lib.byteCells_append,List.append_assoc,List.length_append]
 rfl
theorem made_row (w:World) (e:TypeId) (n:Nat):RowIs (w.alloc (.cells (madeCells #[.int .u8 0] n) e)) w.heap.size e (filled [] n):=by
 unfold RowIs;rw [heap_alloc_new]
 have:madeCells #[.int .u8 0] n=(filled [] n).toArray:=by
  apply Array.ext
  ·simp [size_madeCells,filled,Lib.byteCells]
  ·intro i h1 h2
   simp [madeCells,filled,Lib.byteCells,Nat.mod_one]
 rw [this]
theorem i64_of {a:Int} (h:(Lit.int .i64 a).wf=true):-9223372036854775808≤a∧a≤9223372036854775807:=by
 simpa [Lit.wf,IntKind.min,IntKind.max,IntKind.signed,IntKind.bits] using h
theorem below_drewN (w:World) (q:Nat):Below w.heap.size w (w.drewN q):=⟨rfl,rfl,rfl,Nat.le_refl _,fun _ _=>rfl⟩
theorem ret_int {k:IntKind} {a b:Int} (h:a=b):Ending.returned (.int k a)=.returned (.int k b):=by rw [h]
theorem ret_bool {a b:Bool} (h:a=b):Ending.returned (.bool a)=.returned (.bool b):=by rw [h]
theorem info5:(Tryz.prog.info? 5).map (fun i=>(i.zero,i.size,i.bytes))=some (some (.int .u8 0),1,1):=by kernel_rfl
theorem u8_bd (b:UInt8):0≤(b.toNat:Int)∧(b.toNat:Int)≤255:=by
 have:=b.toNat_lt; omega
theorem getL (s:ByteArray) (k:Nat) (h:k < s.size):s.data.toList[k]? = some s[k]:=by
 simp only [Array.getElem?_toList];have h':k < s.data.size:=h;rw [Array.getElem?_eq_getElem h']
 rfl
theorem take_snoc (s:ByteArray) (k:Nat) (h:k < s.size):s.data.toList.take (k+1)=s.data.toList.take k++[s[k]]:=by
 rw [List.take_succ_eq_append_getElem (by simpa using h)]; rfl
theorem drop_cons (s:ByteArray) (k:Nat) (h:k < s.size):s.data.toList.drop k=s[k] :: s.data.toList.drop (k+1):=by
 rw [List.drop_eq_getElem_cons (by simpa using h)]; rfl
theorem take_all (s:ByteArray) (k:Nat) (h:s.size≤k):s.data.toList.take k=s.data.toList:=List.take_of_length_le (by simpa using h)
theorem drop_all (s:ByteArray) (k:Nat) (h:s.size≤k):s.data.toList.drop k=[]:=List.drop_of_length_le (by simpa using h)
theorem len_data (s:ByteArray):s.data.toList.length=s.size:=by rw [Array.length_toList]; rfl
theorem ret_pair {p:Int × Int} (a b:Int) (h:p=(a,b)):Ending.returned (.tuple #[.int .i64 a,.int .i64 b])=.returned (.tuple #[.int .i64 p.1,.int .i64 p.2]):=by rw [h]
theorem data_ne {s:ByteArray} (h:0 < s.size):s.data.toList ≠ []:=by
 intro h'; have:=len_data s; rw [h'] at this; simp at this; omega
theorem isE_false {s:ByteArray} (h:0 < s.size):s.toList.isEmpty=false:=by
 have:=data_ne h
 rw [ByteArray.toList_eq]; simpa using this
theorem isE_true {s:ByteArray} (h:s.size=0):s.toList.isEmpty=true:=by
 have:s.data.toList=[]:=List.eq_nil_of_length_eq_zero (by rw [len_data,h])
 rw [ByteArray.toList_eq,this]; rfl
theorem ext_list (s:ByteArray) (a b:Nat):s.extract a b=⟨((s.data.toList.drop a).take (b - a)).toArray⟩:=by
 have h:=ByteArray.extract_mk s.data.toList a b;have h':(⟨s.data.toList.toArray⟩:ByteArray)=s:=by apply ByteArray.ext; simp
 rw [h'] at h;exact h
theorem hid {p:Prop} (h:p):Hid p:=h
theorem alloc_lt (w:World) (o:Obj):w.heap.size < (w.alloc o).heap.size:=by simp
end Go.Proofs.YtbmjodlbkgblpaaGreatDoor
namespace Go.Proofs.YtbmjodlbkgblpaaGreatDoor.Sc
def low (c:Int):Int:=if 65≤c∧c≤90 then c+32 else c
def sgn (c:Int):Int :=
 if c=45∨c=46 then 88 else if c=33∨c=126∨c=42∨c=95∨c=39 then 24
 else if c=37∨c=43∨c=96 then 8 else if c=40∨c=41 then 16 else if c=32∨c=9 then 32 else 0
def cls (c:Int):Int :=
 if 48≤c∧c≤57 then 93 else if 97≤low c∧low c≤102 then 94 else if 103≤low c∧low c≤122 then 90 else sgn c
theorem low_bd {c:Int} (h0:0≤c) (h1:c≤255):0≤low c∧low c≤255:=by
 unfold low; split <;> omega
end Go.Proofs.YtbmjodlbkgblpaaGreatDoor.Sc
namespace Go.Proofs.YtbmjodlbkgblpaaGreatDoor
open Go.RowKit Sc
def isB (c class_:Int):Bool:=!(bits BinOp.and IntKind.i64 (cls c) class_==0)
set_option maxHeartbeats 400000 in
theorem lower_any (c:Int) (w:World) (h0:0≤c) (h1:c≤255) :
  Calls Tryz.prog 115 #[.int .u8 c] w fun e w'=>e=.returned (.int .u8 (low c))∧w'=w:=by
 go_enter Tryz.func115,Tryz.ntmps115
 go_wp2
 all_goals go_ret
 all_goals (refine ⟨ret_int ?_,rfl⟩; unfold low; first | rw [if_pos (by omega)] | rw [if_neg (by omega)])
set_option maxHeartbeats 400000 in
theorem sign_any (c:Int) (w:World) (h0:0≤c) (h1:c≤255) :
  Calls Tryz.prog 136 #[.int .u8 c] w fun e w'=>e=.returned (.int .i64 (sgn c))∧w'=w:=by
 go_enter Tryz.func136,Tryz.ntmps136
 go_wp2
 all_goals go_ret
 all_goals (refine ⟨ret_int ?_,rfl⟩; simp only [beq_iff_eq,beq_eq_false_iff_ne,ne_eq] at *; unfold sgn; repeat (first | rw [if_pos (by omega)] | rw [if_neg (by omega)]))
set_option maxHeartbeats 400000 in
theorem class_any (c:Int) (w:World) (h0:0≤c) (h1:c≤255) :
  Calls Tryz.prog 113 #[.int .u8 c] w fun e w'=>e=.returned (.int .i64 (cls c))∧w'=w:=by
 have hb:=low_bd h0 h1
 go_enter Tryz.func113,Tryz.ntmps113
 go_wp2_with (first
  | (go_at_call 115; refine (lower_any _ _ h0 h1).mono ?_; rintro e w' ⟨rfl,rfl⟩)
  | (go_at_call 136; refine (sign_any _ _ h0 h1).mono ?_; rintro e w' ⟨rfl,rfl⟩))
 all_goals go_ret
 all_goals (refine ⟨ret_int ?_,rfl⟩; unfold cls; repeat (first | rw [if_pos (by omega)] | rw [if_neg (by omega)]))
set_option maxHeartbeats 400000 in
theorem is_any (c class_:Int) (w:World) (h0:0≤c) (h1:c≤255) :
  Calls Tryz.prog 93 #[.int .u8 c,.int .i64 class_] w fun e w'=>e=.returned (.bool (isB c class_))∧w'=w:=by
 go_enter Tryz.func93,Tryz.ntmps93
 go_wp2_with (go_at_call 113; refine (class_any _ _ h0 h1).mono ?_; rintro e w' ⟨rfl,rfl⟩)
 all_goals go_ret
 all_goals exact ⟨ret_bool rfl,rfl⟩
def allB (class_:Int) (l:List UInt8):Bool:=l.all fun b=>isB b.toNat class_
theorem allB_snoc (class_:Int) (l:List UInt8) (b:UInt8):allB class_ (l++[b])=(allB class_ l && isB b.toNat class_):=by simp [allB]
theorem allB_hit {class_:Int} {s:ByteArray} {k:Nat} (h:k < s.size) (hb:isB s[k].toNat class_=false):allB class_ s.data.toList=false:=by
 rw [allB,List.all_eq_false];exact ⟨s[k],List.mem_of_getElem? (getL s k h),by simp [hb]⟩
set_option maxHeartbeats 400000 in
theorem all_any (s:ByteArray) (class_:Int) (w:World) (hs:s.size≤maxLen) :
  Calls Tryz.prog 73 #[.string s,.int .i64 class_] w fun e w'=>e=.returned (.bool (allB class_ s.data.toList))∧w'=w:=by
 unfold maxLen at hs
 go_enter Tryz.func73,Tryz.ntmps73
 go_wp2
 go_loop [5,8] (fun _ i=>∃ k:Nat,k≤s.size∧i=.int .i64 k∧Hid (allB class_ (s.data.toList.take k)=true)) (fun _ i=>s.size - (intOf i).toNat)
 case atStart=>exact ⟨0,Nat.zero_le _,rfl,rfl⟩
 case round =>
  obtain ⟨k,hk,rfl,hall⟩:=hrel;by_cases hlt:k < s.size
  ·have hbd:=u8_bd s[k];by_cases hb:isB s[k].toNat class_=true
   ·go_wp2_with (go_at_call 93; refine (is_any _ _ _ hbd.1 hbd.2).mono ?_; rintro e w' ⟨rfl,rfl⟩)
    go_round
    case rel=>exact ⟨k+1,by omega,by go_num,show _=_ by rw [take_snoc s k hlt,allB_snoc,hall.out,hb]; rfl⟩
    case measure=>simp [intOf]; omega
   ·have hb':isB s[k].toNat class_=false:=by simpa using hb
    clear hb;go_wp2_with (go_at_call 93; refine (is_any _ _ _ hbd.1 hbd.2).mono ?_; rintro e w' ⟨rfl,rfl⟩)
    go_ret;exact ⟨ret_bool (allB_hit hlt hb').symm,rfl⟩
  ·go_wp2;go_ret;exact ⟨ret_bool (by rw [← hall.out,take_all s k (by omega)]),rfl⟩
def numL (most:Int):Int → List UInt8 → Option Int
 | n,[]=>some n
 | n,b :: r=>if (b.toNat:Int) - 48 > most∨n > (most - ((b.toNat:Int) - 48)) / 10 then none else numL most (10 * n+((b.toNat:Int) - 48)) r
def numV (most:Int) (l:List UInt8):Int × Int :=
 if l=[]∨allB 1 l=false then (0,10) else match numL most 0 l with | some n=>(n,0) | none=>(0,9)
theorem isB_digit (c:Int) (h0:0≤c) (h1:c≤255):isB c 1=decide (48≤c∧c≤57):=by
 obtain ⟨n,rfl⟩:=Int.eq_ofNat_of_zero_le h0;have h:∀ n:Fin 256,isB (n.val:Int) 1=decide (48≤(n.val:Int)∧(n.val:Int)≤57):=by decide +kernel
 exact h ⟨n,by omega⟩
theorem digit_at {s:ByteArray} (h:allB 1 s.data.toList=true) (k:Nat) (hk:k < s.size):48≤(s[k].toNat:Int)∧(s[k].toNat:Int)≤57:=by
 have hb:=u8_bd s[k]
 have:=(List.all_eq_true.1 h) s[k] (List.mem_of_getElem? (getL s k hk))
 rw [isB_digit _ hb.1 hb.2] at this
 simpa using this
theorem numL_stop {most n:Int} {s:ByteArray} {k:Nat} (hk:k < s.size) (h:(s[k].toNat:Int) - 48 > most∨n > (most - ((s[k].toNat:Int) - 48)) / 10):numL most n (s.data.toList.drop k)=none:=by
 rw [drop_cons s k hk,numL,if_pos h]
theorem numL_go {most n:Int} {s:ByteArray} {k:Nat} (hk:k < s.size) (h:¬ ((s[k].toNat:Int) - 48 > most∨n > (most - ((s[k].toNat:Int) - 48)) / 10)) :
  numL most n (s.data.toList.drop k)=numL most (10 * n+((s[k].toNat:Int) - 48)) (s.data.toList.drop (k+1)):=by
 rw [drop_cons s k hk,numL,if_neg h]
set_option maxHeartbeats 400000 in
theorem number_any (s:ByteArray) (most:Int) (w:World) (hs:s.size≤maxLen) (hm0:-9223372036854775808≤most) (hm1:most≤9223372036854775807) :
  Calls Tryz.prog 142 #[.string s,.int .i64 most] w fun e w'=>e=.returned (.tuple #[.int .i64 (numV most s.data.toList).1,.int .i64 (numV most s.data.toList).2])∧w'=w:=by
 have hs0:=hs;unfold maxLen at hs;by_cases he:s.size=0
 ·have hE:=isE_true he
  have hv:numV most s.data.toList=(0,10):=by
   have:s.data.toList=[]:=List.eq_nil_of_length_eq_zero (by rw [len_data,he])
   rw [numV,if_pos (Or.inl this)]
  have HV:Hid _:=hv; clear hv
  go_enter Tryz.func142,Tryz.ntmps142
  go_wp2;go_ret2;exact ⟨ret_pair 0 10 HV.out,rfl⟩
 have hE:=isE_false (s:=s) (by omega);have hne:=data_ne (s:=s) (by omega);by_cases ha:allB 1 s.data.toList=true
 ·have hdig:Hid (∀ k (hk:k < s.size),48≤(s[k].toNat:Int)∧(s[k].toNat:Int)≤57):=fun k hk=>digit_at ha k hk
  have HV:Hid (numV most s.data.toList=match numL most 0 s.data.toList with | some n=>(n,0) | none=>(0,9)):=by
   show _=_
   rw [numV,if_neg (by simp [hne,ha])]
  clear hne
  go_enter Tryz.func142,Tryz.ntmps142
  go_wp2_with (go_at_call 73; refine (all_any _ _ _ hs0).mono ?_; rintro e w' ⟨rfl,rfl⟩)
  go_loop [6,18] (fun n i=>∃ (k:Nat) (m:Int),k≤s.size∧i=.int .i64 k∧n=.int .i64 m∧0≤m∧m≤9223372036854775807∧Hid (numL most 0 s.data.toList=numL most m (s.data.toList.drop k))) (fun _ i=>s.size - (intOf i).toNat)
  case atStart=>exact ⟨0,0,Nat.zero_le _,rfl,rfl,by omega,by omega,rfl⟩
  case round =>
   obtain ⟨k,m,hk,rfl,rfl,hm0',hm1',hnum⟩:=hrel;by_cases hlt:k < s.size
   ·have hd:=hdig.out k hlt;by_cases h1:most < (s[k].toNat:Int) - 48
    ·have hst:=numL_stop (most:=most) (n:=m) hlt (Or.inl (by omega));have HS:Hid _:=hst; clear hst
     go_wp2;go_ret2;exact ⟨ret_pair 0 9 (by rw [HV.out,hnum.out,HS.out]),rfl⟩
    ·by_cases h2:(most - ((s[k].toNat:Int) - 48)) / 10 < m
     ·have hst:=numL_stop (most:=most) (n:=m) hlt (Or.inr (by omega));have HS:Hid _:=hst; clear hst
      go_wp2;go_ret2;exact ⟨ret_pair 0 9 (by rw [HV.out,hnum.out,HS.out]),rfl⟩
     ·have hst:=numL_go (most:=most) (n:=m) hlt (by omega);have HS:Hid _:=hst; clear hst
      go_wp2
      go_round
      case rel=>exact ⟨k+1,10 * m+((s[k].toNat:Int) - 48),by omega,by go_num,by go_num,by omega,by omega,show _=_ by rw [hnum.out,HS.out]⟩
      case measure=>simp [intOf]; omega
   ·have hdr:=drop_all s k (by omega);have HD:Hid _:=hdr; clear hdr
    go_wp2;go_ret2;exact ⟨ret_pair m 0 (by rw [HV.out,hnum.out,HD.out]; rfl),rfl⟩
 ·have ha':allB 1 s.data.toList=false:=by simpa using ha
  have hv:numV most s.data.toList=(0,10):=by rw [numV,if_pos (Or.inr ha')]
  have HV:Hid _:=hv; clear hv ha hne
  go_enter Tryz.func142,Tryz.ntmps142
  go_wp2_with (go_at_call 73; refine (all_any _ _ _ hs0).mono ?_; rintro e w' ⟨rfl,rfl⟩)
  go_ret2;exact ⟨ret_pair 0 10 HV.out,rfl⟩
theorem wp_copy_str {P:Program} {w:World} {ops:Array Oper} {rest:List Oper} {o:Oper} {a:Act} {Q:Exit → Act → World → Prop} (hgd:o.guard=none) (d x:Operand) (dT sT:TypeId)
  (ho:o.op=.call { callee:=.builtin .copy,args:=#[d,x],argTypes:=#[dT,sT] }) (elem:TypeId) (hu:P.underlying dT=some (.slice elem)) (hsz:(P.info? elem).map (·.size)=some 1)
  (g dCap:Nat) (s:ByteArray) (hd:a.eval d=.slice (some ⟨g,0,none⟩) s.size dCap) (hs:a.eval x=.string s)
  (cur:Array Value) (t:TypeId) (hg:w.heap[g]? = some (.cells cur t (0,0))) (hfit:cur.size=s.size) (B:Nat) (w0:World) (hb:Below B w0 w) (hB:B≤g)
  (h:∀ w',Hid (w'.heap[g]? = some (.cells (Lib.byteCells s.data.toList).toArray t (0,0))) → Below B w0 w' → wpList P ops Q rest (a.put o.dst (goInt s.size)) w'):wpList P ops Q (o :: rest) a w:=by
 refine wpList_plain hgd fun K hK=>?_
 have hrun:=Lib.run_copy_row_string (P:=P) w dT sT o.type elem g 0 s.size dCap s cur t hu hsz hg (Nat.le_refl _) (by omega)
 have hrow:(cur.toList.take 0++Lib.byteCells s.data.toList++cur.toList.drop (0+s.size)).toArray=(Lib.byteCells s.data.toList).toArray:=by
  rw [List.drop_of_length_le (by rw [Array.length_toList]; omega)]; simp
 rw [hrow] at hrun;unfold Oper.wp
 simp [execOp,ho,resolve,invoke,builtin,hd,hs,hrun,Result.andThen]
 exact hK _ _ (h _ (setRow_heap w g cur _ t (0,0) hg) (below_setRow hb hB _))
theorem wp_str_of_row {P:Program} {w:World} {ops:Array Oper} {rest:List Oper} {o:Oper} {a:Act} {Q:Exit → Act → World → Prop} (hgd:o.guard=none) (p n:Operand) (pt it:TypeId)
  (ho:o.op=.call { callee:=.builtin .unsafeString,args:=#[p,n],argTypes:=#[pt,it] }) (e:TypeId) (hp:P.underlying pt=some (.pointer e)) (hc:P.cellsOf e=1)
  (g:Nat) (l:List UInt8) (h0:l ≠ []) (h63:l.length≤9223372036854775807) (hpv:a.eval p=.pointer (some ⟨g,0,none⟩)) (m:Int) (hnv:a.eval n=.int .i64 m) (hm:m=l.length)
  (hg:Hid (w.heap[g]? = some (.cells (Lib.byteCells l).toArray e (0,0)))) (B:Nat) (w0:World) (hb:Below B w0 w) (hB:B≤g)
  (h:∀ w',Below B w0 w' → wpList P ops Q rest (a.put o.dst (.string ⟨l.toArray⟩)) w'):wpList P ops Q (o :: rest) a w:=by
 subst hm;refine wpList_plain hgd fun K hK=>?_
 have hg':=hg.out;have hsh:w.shape? g=some (e,l.length):=by simp [World.shape?,hg',Lib.byteCells_length]
 have hrun:=Lib.run_unsafeString_row (P:=P) w pt it o.type e hp hc g l.length hsh l h0 (Nat.le_refl _) h63 (fun j x hj=>by
  have hj':j < l.length:=(List.getElem?_eq_some_iff.1 hj).1;by_cases e0:j=0
  ·subst e0; simp [World.cell?,Addr.add,hg',Lib.byteCells,hj]
  ·simp [World.cell?,Addr.add,e0,hg',Lib.byteCells,hj])
 unfold Oper.wp
 simp [execOp,ho,resolve,invoke,builtin,hpv,hnv,hrun,Result.andThen]
 exact hK _ _ (h _ (Lib.below_freeze hb hB _))
theorem ret_back (s:ByteArray):Ending.returned (.string ⟨s.data.toList.toArray⟩)=.returned (.string s):=by
 have h:(⟨s.data.toList.toArray⟩:ByteArray)=s:=by apply ByteArray.ext; simp
 rw [h]
theorem bytesz5:(Tryz.prog.info? 5).map (·.size)=some 1:=by kernel_rfl
theorem cells5:Tryz.prog.cellsOf 5=1:=by kernel_rfl
set_option maxHeartbeats 400000 in
theorem clone_any (s:ByteArray) (w:World) (hs:s.size≤281474976710656) :
  Calls Tryz.prog 39 #[.string s] w fun e w'=>e=.returned (.string s)∧Below w.heap.size w w':=by
 obtain ⟨i0,hi,hz0,hz1,hz2⟩:=info_parts info5;by_cases h0:s.size=0
 ·have he:s=⟨#[]⟩:=by
   have:s.data.toList=[]:=List.eq_nil_of_length_eq_zero (by rw [len_data,h0])
   apply ByteArray.ext; apply Array.toList_inj.1; rw [this]
  subst he
  go_enter Tryz.func39,Tryz.ntmps39
  go_wp2;go_ret;exact ⟨rfl,Below.refl _ _⟩
 ·have hmk:∀ u:World,(Instr.makeSlice 124 (.int .i64 (s.size:Int)) (.int .i64 (s.size:Int))).run Tryz.prog u =
    .ok (.slice (some ⟨u.heap.size,0,none⟩) s.size s.size) (u.alloc (.cells (madeCells #[.int .u8 0] s.size) 5)):=fun u=>by
   have h:=run_make (P:=Tryz.prog) u 124 5 i0 (.int .u8 0) Tryz.underlying124 hi hz0 .i64 .i64 (s.size:Int) (s.size:Int) (by omega) (Int.le_refl _) (by rw [hz2]; omega) (by omega)
   simpa [hz1,Value.cells] using h
  have hne:((s.size:Int)==0)=false:=by simpa using h0
  have hl:=data_ne (s:=s) (by omega);have hpos:(0:Int) < (s.size:Int):=by omega
  have HL:Hid _:=hl; clear hl
  go_enter Tryz.func39,Tryz.ntmps39
  go_wp2_with (first
   | (refine wp_copy_str rfl (.tmp 10) (.tmp 11) 124 9 rfl 5 Tryz.underlying124 bytesz5 w.heap.size s.size s rfl rfl _ 5 (heap_alloc_new w _) (size_madeCells _ _) w.heap.size w ((Below.refl _ _).alloc (Nat.le_refl _) _) (Nat.le_refl _) ?_; intro w2 hg2 hb2)
   | (refine wp_str_of_row rfl (.tmp 14) (.tmp 16) 125 3 rfl 5 Tryz.underlying125 cells5 w.heap.size s.data.toList HL.out (by rw [len_data]; omega) rfl _ rfl (by rw [len_data]) hg2 w.heap.size w hb2 (Nat.le_refl _) ?_; intro w3 hb3))
  go_ret;exact ⟨ret_back s,hb3⟩
set_option maxHeartbeats 400000 in
theorem sclone_any (s:ByteArray) (w:World) (hs:s.size≤281474976710656) :
  Calls Tryz.prog 24 #[.string s] w fun e w'=>e=.returned (.string s)∧Below w.heap.size w w':=by
 go_enter Tryz.func24,Tryz.ntmps24
 go_wp2_with (go_at_call 39; refine (clone_any _ _ hs).mono ?_; rintro e w' ⟨rfl,hb⟩)
 go_ret;exact ⟨rfl,hb⟩
def hasB (c:Int) (s:ByteArray):Bool:=s.data.toList.any fun b=>(b.toNat:Int)==c
theorem hasB_hit {c:Int} {s:ByteArray} {k:Nat} (h:k < s.size) (hb:(s[k].toNat:Int)=c):hasB c s=true:=by
 rw [hasB,List.any_eq_true];exact ⟨s[k],List.mem_of_getElem? (getL s k h),by simp [hb]⟩
set_option maxHeartbeats 400000 in
theorem has_any (s:ByteArray) (c:Int) (w:World) (hs:s.size≤maxLen) :
  Calls Tryz.prog 81 #[.string s,.int .u8 c] w fun e w'=>e=.returned (.bool (hasB c s))∧w'=w:=by
 unfold maxLen at hs
 go_enter Tryz.func81,Tryz.ntmps81
 go_wp2
 go_loop [5] (fun i=>∃ k:Nat,k≤s.size∧i=.int .i64 k∧Hid ((s.data.toList.take k).any (fun b=>(b.toNat:Int)==c)=false)) (fun i=>s.size - (intOf i).toNat)
 case atStart=>exact ⟨0,Nat.zero_le _,rfl,rfl⟩
 case round =>
  obtain ⟨k,hk,rfl,hall⟩:=hrel;by_cases hlt:k < s.size
  ·by_cases hb:(s[k].toNat:Int)=c
   ·have hb':((s[k].toNat:Int)==c)=true:=by simpa using hb
    have HH:Hid (hasB c s=true):=hasB_hit hlt hb;clear hb;go_wp2;go_ret;exact ⟨ret_bool HH.out.symm,rfl⟩
   ·have hb':((s[k].toNat:Int)==c)=false:=by simpa using hb
    clear hb;go_wp2
    go_round
    case rel=>exact ⟨k+1,by omega,by go_num,show _=_ by rw [take_snoc s k hlt,List.any_append,hall.out]; simpa using hb'⟩
    case measure=>simp [intOf]; omega
  ·go_wp2;go_ret;exact ⟨ret_bool (by rw [hasB,← hall.out,take_all s k (by omega)]),rfl⟩
theorem of256 {p:Int → Prop} (h:∀ n:Fin 256,p (n.val:Int)) (c:Int) (h0:0≤c) (h1:c≤255):p c:=by
 obtain ⟨n,rfl⟩:=Int.eq_ofNat_of_zero_le h0;exact h ⟨n,by omega⟩
def bDg (c:Int):Bool:=decide (48≤c∧c≤57)
theorem hasDg (c:Int) (w:World) (h0:0≤c) (h1:c≤255):Calls Tryz.prog 81 #[.string ⟨#[48,49,50,51,52,53,54,55,56,57]⟩,.int .u8 c] w fun e w'=>e=.returned (.bool (bDg c))∧w'=w:=by
 have h:hasB c ⟨#[48,49,50,51,52,53,54,55,56,57]⟩=bDg c:=of256 (p:=fun c=>hasB c ⟨#[48,49,50,51,52,53,54,55,56,57]⟩=bDg c) (by decide +kernel) c h0 h1;rw [← h];exact has_any _ c w (by decide)
def bLe (c:Int):Bool:=decide (97≤c∧c≤122∨65≤c∧c≤90)
theorem hasLe (c:Int) (w:World) (h0:0≤c) (h1:c≤255):Calls Tryz.prog 81 #[.string ⟨#[97,98,99,100,101,102,103,104,105,106,107,108,109,110,111,112,113,114,115,116,117,118,119,120,121,122,65,66,67,68,69,70,71,72,73,74,75,76,77,78,79,80,81,82,83,84,85,86,87,88,89,90]⟩,.int .u8 c] w fun e w'=>e=.returned (.bool (bLe c))∧w'=w:=by
 have h:hasB c ⟨#[97,98,99,100,101,102,103,104,105,106,107,108,109,110,111,112,113,114,115,116,117,118,119,120,121,122,65,66,67,68,69,70,71,72,73,74,75,76,77,78,79,80,81,82,83,84,85,86,87,88,89,90]⟩=bLe c:=of256 (p:=fun c=>hasB c ⟨#[97,98,99,100,101,102,103,104,105,106,107,108,109,110,111,112,113,114,115,116,117,118,119,120,121,122,65,66,67,68,69,70,71,72,73,74,75,76,77,78,79,80,81,82,83,84,85,86,87,88,89,90]⟩=bLe c) (by decide +kernel) c h0 h1;rw [← h];exact has_any _ c w (by decide)
def bHx (c:Int):Bool:=decide (48≤c∧c≤57∨97≤c∧c≤102∨65≤c∧c≤70)
theorem hasHx (c:Int) (w:World) (h0:0≤c) (h1:c≤255):Calls Tryz.prog 81 #[.string ⟨#[48,49,50,51,52,53,54,55,56,57,97,98,99,100,101,102,65,66,67,68,69,70]⟩,.int .u8 c] w fun e w'=>e=.returned (.bool (bHx c))∧w'=w:=by
 have h:hasB c ⟨#[48,49,50,51,52,53,54,55,56,57,97,98,99,100,101,102,65,66,67,68,69,70]⟩=bHx c:=of256 (p:=fun c=>hasB c ⟨#[48,49,50,51,52,53,54,55,56,57,97,98,99,100,101,102,65,66,67,68,69,70]⟩=bHx c) (by decide +kernel) c h0 h1;rw [← h];exact has_any _ c w (by decide)
def bTk (c:Int):Bool:=decide (48≤c∧c≤57∨97≤c∧c≤122∨65≤c∧c≤90∨c=45∨c=46∨c=33∨c=37∨c=42∨c=95∨c=43∨c=96∨c=39∨c=126)
theorem hasTk (c:Int) (w:World) (h0:0≤c) (h1:c≤255):Calls Tryz.prog 81 #[.string ⟨#[48,49,50,51,52,53,54,55,56,57,97,98,99,100,101,102,103,104,105,106,107,108,109,110,111,112,113,114,115,116,117,118,119,120,121,122,65,66,67,68,69,70,71,72,73,74,75,76,77,78,79,80,81,82,83,84,85,86,87,88,89,90,45,46,33,37,42,95,43,96,39,126]⟩,.int .u8 c] w fun e w'=>e=.returned (.bool (bTk c))∧w'=w:=by
 have h:hasB c ⟨#[48,49,50,51,52,53,54,55,56,57,97,98,99,100,101,102,103,104,105,106,107,108,109,110,111,112,113,114,115,116,117,118,119,120,121,122,65,66,67,68,69,70,71,72,73,74,75,76,77,78,79,80,81,82,83,84,85,86,87,88,89,90,45,46,33,37,42,95,43,96,39,126]⟩=bTk c:=of256 (p:=fun c=>hasB c ⟨#[48,49,50,51,52,53,54,55,56,57,97,98,99,100,101,102,103,104,105,106,107,108,109,110,111,112,113,114,115,116,117,118,119,120,121,122,65,66,67,68,69,70,71,72,73,74,75,76,77,78,79,80,81,82,83,84,85,86,87,88,89,90,45,46,33,37,42,95,43,96,39,126]⟩=bTk c) (by decide +kernel) c h0 h1;rw [← h];exact has_any _ c w (by decide)
def bPl (c:Int):Bool:=decide (48≤c∧c≤57∨97≤c∧c≤122∨65≤c∧c≤90∨c=45∨c=95∨c=46∨c=33∨c=126∨c=42∨c=39∨c=40∨c=41)
theorem hasPl (c:Int) (w:World) (h0:0≤c) (h1:c≤255):Calls Tryz.prog 81 #[.string ⟨#[48,49,50,51,52,53,54,55,56,57,97,98,99,100,101,102,103,104,105,106,107,108,109,110,111,112,113,114,115,116,117,118,119,120,121,122,65,66,67,68,69,70,71,72,73,74,75,76,77,78,79,80,81,82,83,84,85,86,87,88,89,90,45,95,46,33,126,42,39,40,41]⟩,.int .u8 c] w fun e w'=>e=.returned (.bool (bPl c))∧w'=w:=by
 have h:hasB c ⟨#[48,49,50,51,52,53,54,55,56,57,97,98,99,100,101,102,103,104,105,106,107,108,109,110,111,112,113,114,115,116,117,118,119,120,121,122,65,66,67,68,69,70,71,72,73,74,75,76,77,78,79,80,81,82,83,84,85,86,87,88,89,90,45,95,46,33,126,42,39,40,41]⟩=bPl c:=of256 (p:=fun c=>hasB c ⟨#[48,49,50,51,52,53,54,55,56,57,97,98,99,100,101,102,103,104,105,106,107,108,109,110,111,112,113,114,115,116,117,118,119,120,121,122,65,66,67,68,69,70,71,72,73,74,75,76,77,78,79,80,81,82,83,84,85,86,87,88,89,90,45,95,46,33,126,42,39,40,41]⟩=bPl c) (by decide +kernel) c h0 h1;rw [← h];exact has_any _ c w (by decide)
def bHo (c:Int):Bool:=decide (48≤c∧c≤57∨97≤c∧c≤122∨65≤c∧c≤90∨c=45∨c=46)
theorem hasHo (c:Int) (w:World) (h0:0≤c) (h1:c≤255):Calls Tryz.prog 81 #[.string ⟨#[48,49,50,51,52,53,54,55,56,57,97,98,99,100,101,102,103,104,105,106,107,108,109,110,111,112,113,114,115,116,117,118,119,120,121,122,65,66,67,68,69,70,71,72,73,74,75,76,77,78,79,80,81,82,83,84,85,86,87,88,89,90,45,46]⟩,.int .u8 c] w fun e w'=>e=.returned (.bool (bHo c))∧w'=w:=by
 have h:hasB c ⟨#[48,49,50,51,52,53,54,55,56,57,97,98,99,100,101,102,103,104,105,106,107,108,109,110,111,112,113,114,115,116,117,118,119,120,121,122,65,66,67,68,69,70,71,72,73,74,75,76,77,78,79,80,81,82,83,84,85,86,87,88,89,90,45,46]⟩=bHo c:=of256 (p:=fun c=>hasB c ⟨#[48,49,50,51,52,53,54,55,56,57,97,98,99,100,101,102,103,104,105,106,107,108,109,110,111,112,113,114,115,116,117,118,119,120,121,122,65,66,67,68,69,70,71,72,73,74,75,76,77,78,79,80,81,82,83,84,85,86,87,88,89,90,45,46]⟩=bHo c) (by decide +kernel) c h0 h1;rw [← h];exact has_any _ c w (by decide)
set_option maxHeartbeats 400000 in
theorem refclass0 (c:Int) (w:World) (h0:0≤c) (h1:c≤255) (h:48≤c∧c≤57) :
  Calls Tryz.prog 63 #[.int .u8 c] w fun e w'=>e=.returned (.int .i64 (cls c))∧w'=w:=by
 have tDg:bDg c=true:=decide_eq_true (by omega);have tLe:bLe c=false:=decide_eq_false (by omega);have tHx:bHx c=true:=decide_eq_true (by omega);have tTk:bTk c=true:=decide_eq_true (by omega);have tPl:bPl c=true:=decide_eq_true (by omega);have tHo:bHo c=true:=decide_eq_true (by omega);have hv:Hid (cls c=93):=by show _=_; unfold cls low sgn; (repeat' split) <;> omega
 have e32:(c==32)=false:=by simp; omega
 have e9:(c==9)=false:=by simp; omega
 clear h
 go_enter Tryz.func63,Tryz.ntmps63
 go_wp2_with fail
 refine (hasDg _ _ h0 h1).mono ?_
 rintro e w' ⟨rfl,rfl⟩;go_wp2_with fail
 refine (hasLe _ _ h0 h1).mono ?_
 rintro e w' ⟨rfl,rfl⟩;go_wp2_with fail
 refine (hasHx _ _ h0 h1).mono ?_
 rintro e w' ⟨rfl,rfl⟩;go_wp2_with fail
 refine (hasTk _ _ h0 h1).mono ?_
 rintro e w' ⟨rfl,rfl⟩;go_wp2_with fail
 refine (hasPl _ _ h0 h1).mono ?_
 rintro e w' ⟨rfl,rfl⟩;go_wp2_with fail
 refine (hasHo _ _ h0 h1).mono ?_
 rintro e w' ⟨rfl,rfl⟩;go_wp2;go_ret;exact ⟨ret_int hv.out.symm,rfl⟩
set_option maxHeartbeats 400000 in
theorem refclass1 (c:Int) (w:World) (h0:0≤c) (h1:c≤255) (h:97≤c∧c≤102∨65≤c∧c≤70) :
  Calls Tryz.prog 63 #[.int .u8 c] w fun e w'=>e=.returned (.int .i64 (cls c))∧w'=w:=by
 have tDg:bDg c=false:=decide_eq_false (by omega);have tLe:bLe c=true:=decide_eq_true (by omega);have tHx:bHx c=true:=decide_eq_true (by omega);have tTk:bTk c=true:=decide_eq_true (by omega);have tPl:bPl c=true:=decide_eq_true (by omega);have tHo:bHo c=true:=decide_eq_true (by omega);have hv:Hid (cls c=94):=by show _=_; unfold cls low sgn; (repeat' split) <;> omega
 have e32:(c==32)=false:=by simp; omega
 have e9:(c==9)=false:=by simp; omega
 clear h
 go_enter Tryz.func63,Tryz.ntmps63
 go_wp2_with fail
 refine (hasDg _ _ h0 h1).mono ?_
 rintro e w' ⟨rfl,rfl⟩;go_wp2_with fail
 refine (hasLe _ _ h0 h1).mono ?_
 rintro e w' ⟨rfl,rfl⟩;go_wp2_with fail
 refine (hasHx _ _ h0 h1).mono ?_
 rintro e w' ⟨rfl,rfl⟩;go_wp2_with fail
 refine (hasTk _ _ h0 h1).mono ?_
 rintro e w' ⟨rfl,rfl⟩;go_wp2_with fail
 refine (hasPl _ _ h0 h1).mono ?_
 rintro e w' ⟨rfl,rfl⟩;go_wp2_with fail
 refine (hasHo _ _ h0 h1).mono ?_
 rintro e w' ⟨rfl,rfl⟩;go_wp2;go_ret;exact ⟨ret_int hv.out.symm,rfl⟩
set_option maxHeartbeats 400000 in
theorem refclass2 (c:Int) (w:World) (h0:0≤c) (h1:c≤255) (h:103≤c∧c≤122∨71≤c∧c≤90) :
  Calls Tryz.prog 63 #[.int .u8 c] w fun e w'=>e=.returned (.int .i64 (cls c))∧w'=w:=by
 have tDg:bDg c=false:=decide_eq_false (by omega);have tLe:bLe c=true:=decide_eq_true (by omega);have tHx:bHx c=false:=decide_eq_false (by omega);have tTk:bTk c=true:=decide_eq_true (by omega);have tPl:bPl c=true:=decide_eq_true (by omega);have tHo:bHo c=true:=decide_eq_true (by omega);have hv:Hid (cls c=90):=by show _=_; unfold cls low sgn; (repeat' split) <;> omega
 have e32:(c==32)=false:=by simp; omega
 have e9:(c==9)=false:=by simp; omega
 clear h
 go_enter Tryz.func63,Tryz.ntmps63
 go_wp2_with fail
 refine (hasDg _ _ h0 h1).mono ?_
 rintro e w' ⟨rfl,rfl⟩;go_wp2_with fail
 refine (hasLe _ _ h0 h1).mono ?_
 rintro e w' ⟨rfl,rfl⟩;go_wp2_with fail
 refine (hasHx _ _ h0 h1).mono ?_
 rintro e w' ⟨rfl,rfl⟩;go_wp2_with fail
 refine (hasTk _ _ h0 h1).mono ?_
 rintro e w' ⟨rfl,rfl⟩;go_wp2_with fail
 refine (hasPl _ _ h0 h1).mono ?_
 rintro e w' ⟨rfl,rfl⟩;go_wp2_with fail
 refine (hasHo _ _ h0 h1).mono ?_
 rintro e w' ⟨rfl,rfl⟩;go_wp2;go_ret;exact ⟨ret_int hv.out.symm,rfl⟩
set_option maxHeartbeats 400000 in
theorem refclass3 (c:Int) (w:World) (h0:0≤c) (h1:c≤255) (h:c=45∨c=46) :
  Calls Tryz.prog 63 #[.int .u8 c] w fun e w'=>e=.returned (.int .i64 (cls c))∧w'=w:=by
 have tDg:bDg c=false:=decide_eq_false (by omega);have tLe:bLe c=false:=decide_eq_false (by omega);have tHx:bHx c=false:=decide_eq_false (by omega);have tTk:bTk c=true:=decide_eq_true (by omega);have tPl:bPl c=true:=decide_eq_true (by omega);have tHo:bHo c=true:=decide_eq_true (by omega);have hv:Hid (cls c=88):=by show _=_; unfold cls low sgn; (repeat' split) <;> omega
 have e32:(c==32)=false:=by simp; omega
 have e9:(c==9)=false:=by simp; omega
 clear h
 go_enter Tryz.func63,Tryz.ntmps63
 go_wp2_with fail
 refine (hasDg _ _ h0 h1).mono ?_
 rintro e w' ⟨rfl,rfl⟩;go_wp2_with fail
 refine (hasLe _ _ h0 h1).mono ?_
 rintro e w' ⟨rfl,rfl⟩;go_wp2_with fail
 refine (hasHx _ _ h0 h1).mono ?_
 rintro e w' ⟨rfl,rfl⟩;go_wp2_with fail
 refine (hasTk _ _ h0 h1).mono ?_
 rintro e w' ⟨rfl,rfl⟩;go_wp2_with fail
 refine (hasPl _ _ h0 h1).mono ?_
 rintro e w' ⟨rfl,rfl⟩;go_wp2_with fail
 refine (hasHo _ _ h0 h1).mono ?_
 rintro e w' ⟨rfl,rfl⟩;go_wp2;go_ret;exact ⟨ret_int hv.out.symm,rfl⟩
set_option maxHeartbeats 400000 in
theorem refclass4 (c:Int) (w:World) (h0:0≤c) (h1:c≤255) (h:c=33∨c=126∨c=42∨c=95∨c=39) :
  Calls Tryz.prog 63 #[.int .u8 c] w fun e w'=>e=.returned (.int .i64 (cls c))∧w'=w:=by
 have tDg:bDg c=false:=decide_eq_false (by omega);have tLe:bLe c=false:=decide_eq_false (by omega);have tHx:bHx c=false:=decide_eq_false (by omega);have tTk:bTk c=true:=decide_eq_true (by omega);have tPl:bPl c=true:=decide_eq_true (by omega);have tHo:bHo c=false:=decide_eq_false (by omega);have hv:Hid (cls c=24):=by show _=_; unfold cls low sgn; (repeat' split) <;> omega
 have e32:(c==32)=false:=by simp; omega
 have e9:(c==9)=false:=by simp; omega
 clear h
 go_enter Tryz.func63,Tryz.ntmps63
 go_wp2_with fail
 refine (hasDg _ _ h0 h1).mono ?_
 rintro e w' ⟨rfl,rfl⟩;go_wp2_with fail
 refine (hasLe _ _ h0 h1).mono ?_
 rintro e w' ⟨rfl,rfl⟩;go_wp2_with fail
 refine (hasHx _ _ h0 h1).mono ?_
 rintro e w' ⟨rfl,rfl⟩;go_wp2_with fail
 refine (hasTk _ _ h0 h1).mono ?_
 rintro e w' ⟨rfl,rfl⟩;go_wp2_with fail
 refine (hasPl _ _ h0 h1).mono ?_
 rintro e w' ⟨rfl,rfl⟩;go_wp2_with fail
 refine (hasHo _ _ h0 h1).mono ?_
 rintro e w' ⟨rfl,rfl⟩;go_wp2;go_ret;exact ⟨ret_int hv.out.symm,rfl⟩
set_option maxHeartbeats 400000 in
theorem refclass5 (c:Int) (w:World) (h0:0≤c) (h1:c≤255) (h:c=37∨c=43∨c=96) :
  Calls Tryz.prog 63 #[.int .u8 c] w fun e w'=>e=.returned (.int .i64 (cls c))∧w'=w:=by
 have tDg:bDg c=false:=decide_eq_false (by omega);have tLe:bLe c=false:=decide_eq_false (by omega);have tHx:bHx c=false:=decide_eq_false (by omega);have tTk:bTk c=true:=decide_eq_true (by omega);have tPl:bPl c=false:=decide_eq_false (by omega);have tHo:bHo c=false:=decide_eq_false (by omega);have hv:Hid (cls c=8):=by show _=_; unfold cls low sgn; (repeat' split) <;> omega
 have e32:(c==32)=false:=by simp; omega
 have e9:(c==9)=false:=by simp; omega
 clear h
 go_enter Tryz.func63,Tryz.ntmps63
 go_wp2_with fail
 refine (hasDg _ _ h0 h1).mono ?_
 rintro e w' ⟨rfl,rfl⟩;go_wp2_with fail
 refine (hasLe _ _ h0 h1).mono ?_
 rintro e w' ⟨rfl,rfl⟩;go_wp2_with fail
 refine (hasHx _ _ h0 h1).mono ?_
 rintro e w' ⟨rfl,rfl⟩;go_wp2_with fail
 refine (hasTk _ _ h0 h1).mono ?_
 rintro e w' ⟨rfl,rfl⟩;go_wp2_with fail
 refine (hasPl _ _ h0 h1).mono ?_
 rintro e w' ⟨rfl,rfl⟩;go_wp2_with fail
 refine (hasHo _ _ h0 h1).mono ?_
 rintro e w' ⟨rfl,rfl⟩;go_wp2;go_ret;exact ⟨ret_int hv.out.symm,rfl⟩
end Go.Proofs.YtbmjodlbkgblpaaGreatDoor
