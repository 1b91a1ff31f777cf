/-
  Unesc, WrittenL, Params, PListL, Digits, PrintL, CheckL, WhereL, ParseL, UBackL, SameL, XmlL, XmlBackL, XmlDocL, PidfL, PubL, OpenUri, OpenNode, RefCut.
-/
import Derived.Test.YtbmjodlbkgblpaaGreatDoorPO02
import Derived.Laws.StructEq
import Derived.ChangeKeysEq
import Derived.Deep.Slices
import Derived.ChangeArms
import Derived.OpenShut
set_option linter.unusedVariables false
set_option linter.unusedSimpArgs false
set_option maxRecDepth 20000
namespace Go.Proofs.YtbmjodlbkgblpaaGreatDoor
open Go.RowKit Sc
set_option maxHeartbeats 2000000 in
theorem unescape_any (s:ByteArray) (w:World) (hs:s.size≤140737488355328) :
  Calls Tryz.prog 139 #[.string s] w fun e w'=>e=.returned (.tuple #[.string ⟨(unescV s.data.toList).1.toArray⟩,.int .i64 (unescV s.data.toList).2])∧Below w.heap.size w w':=by
 obtain ⟨i0,hi,hz0,hz1,hz2⟩:=info_parts info5
 go_enter Tryz.func139,Tryz.ntmps139
 go_wp2_with (at_make; refine wp_make _ rfl _ _ 124 rfl w.heap.size 5 i0 (.int .u8 0) Tryz.underlying124 hi hz0 hz1 .i64 .i64 _ s.size rfl rfl rfl (by rw [hz2]; omega) (by unfold maxLen; omega) w (Below.refl _ _) (Nat.le_refl _) ?_; intro v0 w1 hown1 hb1 hB1)
 go_loopw [4,5] (fun v i wr=>∃ (k:Nat) (acc:List UInt8),k≤s.size∧i=.int .i64 k∧acc.length≤k∧Own wr w.heap.size 5 v (Lib.byteCells acc)∧Below w.heap.size w wr∧w.heap.size≤wr.heap.size ∧
   Hid (UneAt s.data.toList acc (s.data.toList.drop k))) (fun _ i _=>s.size - (intOf i).toNat)
 case atStart=>exact ⟨0,[],Nat.zero_le _,rfl,Nat.le_refl _,hown1,hb1,hB1,show UneAt _ _ _ by rw [List.drop_zero]; exact uneAt0 _⟩
 case round =>
  clear hown1 hb1 hB1;obtain ⟨k,acc,hk,rfl,hac,hown,hb,hB,hu⟩:=hrel;by_cases hlt:k < s.size
  ·have hu':=hu.out;rw [drop_cons s k hlt] at hu';by_cases h37:(s[k].toNat:Int)=37
   ·have c1:((s[k].toNat:Int)==37)=true:=by simpa using h37
    by_cases hsh:k+2 < s.size
    ·rw [drop_cons s (k+1) (by omega),drop_cons s (k+1+1) (by omega)] at hu';by_cases hx:(isB s[k+1].toNat 4 && isB s[k+2].toNat 4)=true
     ·have hx1:isB s[k+1].toNat 4=true:=by simp at hx; exact hx.1
      have hx2:isB s[k+2].toNat 4=true:=by simp at hx; exact hx.2
      have hn:Hid (UneAt s.data.toList (acc++[hxb s[k+1] s[k+2]]) (s.data.toList.drop (k+1+1+1))):=uneAt_hex hu' h37 hx1 hx2;have HX:Hid ((isB s[k+1].toNat 4 && isB s[k+2].toNat 4)=true):=hx;clear hu hu' h37 hx;go_wp2_with (go_at_call 73; refine (all_hex2 s k hsh (by unfold maxLen; omega) _ true HX.out).mono ?_; rintro e w' ⟨rfl,rfl⟩)
      have q1:IntKind.i64.wrap ((k:Int)+1)=(k:Int)+1:=by simp [IntKind.wrap,IntKind.signed,IntKind.bits]; omega
      have q2:IntKind.i64.wrap ((k:Int)+2)=(k:Int)+2:=by simp [IntKind.wrap,IntKind.signed,IntKind.bits]; omega
      have q3:((k:Int)+1).toNat=k+1:=by omega
      have q4:((k:Int)+2).toNat=k+2:=by omega
      have q5:(0:Int)≤(k:Int)+1:=by omega
      have q6:(k:Int)+1 < (s.size:Int):=by omega
      have q7:(0:Int)≤(k:Int)+2:=by omega
      have q8:(k:Int)+2 < (s.size:Int):=by omega
      go_quiet ((go_at_call 159; exact Calls.quiet_of_same (hexvalue_any _ _ (by assumption))))
      have qv:=or_hex hx1 hx2;have hown':=hown.drewN nq;have hb':Below w.heap.size w (w'.drewN nq):=Below.drewN hb nq;have hB':w.heap.size≤(w'.drewN nq).heap.size:=hB;generalize w'.drewN nq=wq at hown' hb' hB' ⊢;rw [qv];clear hown hb hB qv;go_wp2_with (at_builtin; refine wp_app _ rfl (.tmp 50) (.tmp 52) 124 rfl w.heap.size 5 i0 (.int .u8 0) 1 Tryz.underlying124 hi hz0 hz1 hz2 rfl _ _ rfl (by exact hown'.alloc _) ⟨_,0,none⟩ 1 1 (Lib.byteCells [hxb s[k+1] s[k+2]]) rfl rfl (by exact one_new _ _ _) (byteCells_one _) (by rw [Lib.byteCells_length]; unfold maxLen; omega) (by rw [Lib.byteCells_length]; omega) w (by exact hb'.alloc hB' _) (by simp; omega) ?_; intro v3 w3 hown3 hb3 hB3)
      rw [byteCells_snoc] at hown3;go_wp2;go_roundw
      case rel=>exact ⟨k+1+1+1,_,by omega,by go_num,by simp; omega,hown3,hb3,hB3,hn⟩
      case measure=>simp [intOf]; omega
     ·have hx':(isB s[k+1].toNat 4 && isB s[k+2].toNat 4)=false:=by simpa using hx
      have hv:Hid (unescV s.data.toList=([],12)):=unescV_none (uneAt_bad hu' h37 hx');have HX:Hid ((isB s[k+1].toNat 4 && isB s[k+2].toNat 4)=false):=hx';clear hu hu' h37 hx hx';go_wp2_with (go_at_call 73; refine (all_hex2 s k hsh (by unfold maxLen; omega) _ false HX.out).mono ?_; rintro e w' ⟨rfl,rfl⟩)
      go_ret2;exact ⟨ret_str [] 12 hv.out,hb⟩
    ·have hv:Hid (unescV s.data.toList=([],12)):=unescV_none (uneAt_short hu' h37 (by rw [List.length_drop,len_data]; omega));clear hu hu' h37;go_wp2;go_ret2;exact ⟨ret_str [] 12 hv.out,hb⟩
   ·have c1:((s[k].toNat:Int)==37)=false:=by simpa using h37
    have hn:Hid (UneAt s.data.toList (acc++[s[k]]) (s.data.toList.drop (k+1))):=uneAt_plain hu' h37;clear hu hu' h37;go_wp2_with (at_builtin; refine wp_app _ rfl (.tmp 50) (.tmp 52) 124 rfl w.heap.size 5 i0 (.int .u8 0) 1 Tryz.underlying124 hi hz0 hz1 hz2 rfl _ _ rfl (hown.alloc _) ⟨_,0,none⟩ 1 1 (Lib.byteCells [s[k]]) rfl rfl (by exact one_new _ _ _) (byteCells_one _) (by rw [Lib.byteCells_length]; unfold maxLen; omega) (by rw [Lib.byteCells_length]; omega) w (hb.alloc hB _) (by simp; omega) ?_; intro v3 w3 hown3 hb3 hB3)
    rw [byteCells_snoc] at hown3;go_wp2;go_roundw
    case rel=>exact ⟨k+1,_,by omega,by go_num,by simp; omega,hown3,hb3,hB3,hn⟩
    case measure=>simp [intOf]; omega
  ·have hu':=hu.out;rw [drop_all s k (by omega)] at hu';have hv:Hid (unescV s.data.toList=(acc,0)):=unescV_some (uneAt_end hu');have hcv:=conv_own (P:=Tryz.prog) _ Tryz.underlying124 Tryz.underlying5 Tryz.underlying9 hown;clear hu hu';go_wp2;go_ret2;exact ⟨ret_str acc 0 hv.out,hb⟩
def okw (keep:List UInt8) (b:UInt8):Bool:=b==37 || (isB b.toNat 16 || hasL b keep)
def writtenV (keep l:List UInt8):List UInt8 × Bool:=if l.all (okw keep)=true then ((unescV l).1,(unescV l).2==0) else ([],false)
structure Par where
 name:List UInt8
 value:List UInt8
 has:Bool
deriving DecidableEq
def parCells (p:Par):List Value:=[.string ⟨p.name.toArray⟩,.string ⟨p.value.toArray⟩,.bool p.has]
def parOf (keep l:List UInt8):Option Par :=
 if (writtenV keep (cutL 61 l).1).2=true∧(writtenV keep (cutL 61 l).2.1).2=true then some ⟨(writtenV keep (cutL 61 l).1).1,(writtenV keep (cutL 61 l).2.1).1,(cutL 61 l).2.2⟩ else none
def parsOf (keep:List UInt8):List (List UInt8) → Option (List Par)
 | []=>some []
 | l :: ls=>match parOf keep l,parsOf keep ls with
  | some p,some ps=>some (p :: ps)
  | _,_=>none
theorem okw_snoc {keep:List UInt8} {s:ByteArray} {k:Nat} (hk:k < s.size) (h:(s.data.toList.take k).all (okw keep)=true) (hb:okw keep s[k]=true):(s.data.toList.take (k+1)).all (okw keep)=true:=by
 rw [take_snoc s k hk,List.all_append,h]; simp [hb]
theorem written_bad {keep:List UInt8} {s:ByteArray} {k:Nat} (hk:k < s.size) (hb:okw keep s[k]=false):writtenV keep s.data.toList=([],false):=by
 have:s.data.toList.all (okw keep)=false:=by
  rw [List.all_eq_false];refine ⟨s[k],?_,by simp [hb]⟩
  have:=getL s k hk
  exact List.mem_of_getElem? this
 rw [writtenV,this]; rfl
theorem written_all {keep l:List UInt8} (h:l.all (okw keep)=true):writtenV keep l=((unescV l).1,(unescV l).2==0):=by rw [writtenV,if_pos h]
def ParAt (w:World) (a:Addr) (k:Nat) (p:Par):Prop :=
 w.cell? (a.add (k * 3))=some (.string ⟨p.name.toArray⟩)∧w.cell? ⟨(a.add (k * 3)).block,(a.add (k * 3)).off+1,none⟩=some (.string ⟨p.value.toArray⟩)∧w.cell? ⟨(a.add (k * 3)).block,(a.add (k * 3)).off+2,none⟩=some (.bool p.has)
def ParsAt (w:World) (v:Value) (ps:List Par):Prop :=
 (v=.slice none 0 0∧ps=[])∨∃ (a:Addr) (cap:Nat),v=.slice (some a) ps.length cap∧∀ k (hk:k < ps.length),a.block < w.heap.size∧ParAt w a k ps[k]
theorem cell_below {B:Nat} {w w':World} (h:Below B w w') {a:Addr} (ha:a.block < B) {v:Value} (hc:w.cell? a=some v):w'.cell? a=some v:=by
 rw [← hc];simp only [World.cell?];rw [h.block a.block ha]
theorem add_block (a:Addr) (i:Nat):(a.add i).block=a.block:=by unfold Addr.add; split <;> rfl
theorem ParAt.below {B:Nat} {w w':World} {a:Addr} {k:Nat} {p:Par} (h:ParAt w a k p) (hb:Below B w w') (ha:a.block < B):ParAt w' a k p :=
 ⟨cell_below hb (by rw [add_block]; exact ha) h.1,cell_below hb (by simp only [add_block]; exact ha) h.2.1,cell_below hb (by simp only [add_block]; exact ha) h.2.2⟩
theorem ParsAt.below {w w':World} {v:Value} {ps:List Par} (h:ParsAt w v ps) (hb:Below w.heap.size w w'):ParsAt w' v ps:=by
 rcases h with h | ⟨a,cap,hv,hc⟩
 ·exact Or.inl h
 ·exact Or.inr ⟨a,cap,hv,fun k hk=>⟨Nat.lt_of_lt_of_le (hc k hk).1 hb.size,(hc k hk).2.below hb (hc k hk).1⟩⟩
theorem ParsAt.form {w:World} {v:Value} {ps:List Par} (h:ParsAt w v ps):∃ a cap,v=.slice a ps.length cap:=by
 rcases h with ⟨rfl,rfl⟩ | ⟨a,cap,rfl,_⟩
 ·exact ⟨none,0,rfl⟩
 ·exact ⟨_,cap,rfl⟩
structure Uri where
 scheme:List UInt8
 user:List UInt8
 host:List UInt8
 port:Int
 params:List Par
 headers:List Par
deriving DecidableEq
def uriV (u:Uri) (p h:Value):Value:=.agg #[.string ⟨u.scheme.toArray⟩,.string ⟨u.user.toArray⟩,.string ⟨u.host.toArray⟩,.int .i64 u.port,p,h]
theorem ParsAt.alloc {w:World} {v:Value} {ps:List Par} (h:ParsAt w v ps) (o:Obj):ParsAt (w.alloc o) v ps:=h.below ((Below.refl _ w).alloc (Nat.le_refl _) o)
def parB (p:Par):Bool:=decide (1≤p.name.length) && (decide (p.name.length≤64) && (decide (p.value.length≤64) && (p.has || p.value.isEmpty)))
def apartB (ps:List Par) (nm:List UInt8):Bool:=ps.all fun q=>!sameB q.name nm
def listGo:List Par → List Par → Bool
 | _,[]=>true
 | before,p :: ps=>parB p && (apartB before p.name && listGo (before++[p]) ps)
def listB (ps:List Par):Bool:=decide (ps.length≤16) && listGo [] ps
def checkV (u:Uri):Int :=
 if schemeB u.scheme=false then 30 else if 64 < u.user.length then 31 else if hostB u.host=false then 32 else if u.port < 0∨65535 < u.port then 33
 else if listB u.params=false then 34 else if listB u.headers=false then 34 else if u.headers.all (·.has)=false then 34 else 0
theorem listGo_at (ps:List Par) (k:Nat) (hk:k < ps.length):listGo (ps.take k) (ps.drop k)=(parB ps[k] && (apartB (ps.take k) ps[k].name && listGo (ps.take (k+1)) (ps.drop (k+1)))):=by
 rw [List.drop_eq_getElem_cons hk,listGo,List.take_succ_eq_append_getElem hk]
def digb (n:Nat):UInt8:=UInt8.ofNat (48+n % 10)
def digL (n:Nat):List UInt8:=if n < 10 then [digb n] else digL (n / 10)++[digb n]
termination_by n
decreasing_by omega
theorem digL_small {n:Nat} (h:n < 10):digL n=[digb n]:=by rw [digL,if_pos h]
theorem digL_big {n:Nat} (h:¬ n < 10):digL n=digL (n / 10)++[digb n]:=by rw [digL,if_neg h]
theorem digb_toNat (n:Nat):((digb n).toNat:Int)=48+(n:Int) % 10:=by
 have h:n % 10 < 10:=Nat.mod_lt _ (by decide);rw [digb,UInt8.toNat_ofNat'];omega
theorem digL_len (a:Nat):∀ n:Nat,n < 10 ^ (a+1) → (digL n).length≤a+1:=by
 induction a with
 | zero=>intro n h; rw [digL_small (by simpa using h)]; simp
 | succ a ih =>
  intro n h;by_cases hn:n < 10
  ·rw [digL_small hn]; simp
  ·rw [digL_big hn,List.length_append]
   have:=ih (n / 10) (by rw [Nat.pow_succ] at h; omega)
   simp; omega
theorem digL_len19 {n:Nat} (h:n≤9223372036854775807):(digL n).length≤19:=digL_len 18 n (by omega)
def room0:Array Value:=(List.replicate 19 (.int .u8 0)).toArray
theorem zero49 (u:World):Sem.run Tryz.prog (zeroValue 195) u=.ok (.agg room0) u:=by kernel_rfl
def tailed (a:Nat) (l:List UInt8):List Value:=List.replicate a (.int .u8 0)++Lib.byteCells l
theorem tailed_len (a:Nat) (l:List UInt8):(tailed a l).length=a+l.length:=by simp [tailed,Lib.byteCells]
theorem tailed_set (a:Nat) (l:List UInt8) (b:UInt8) (ha:1≤a):(tailed a l).set (a - 1) (.int .u8 b.toNat)=tailed (a - 1) (b :: l):=by
 obtain ⟨c,rfl⟩:∃ c,a=c+1:=⟨a - 1,by omega⟩
 have e:c+1 - 1=c:=by omega
 rw [e,tailed,tailed,List.replicate_succ',List.append_assoc,List.set_append_right _ _ (by simp)]
 simp [Lib.byteCells]
theorem room_row (w:World):RowIs (w.alloc (.cells room0 195)) w.heap.size 195 (tailed 19 []):=by
 unfold RowIs;rw [heap_alloc_new]
 rfl
theorem conv_row {P:Program} {w:World} {g e e' src dst a cap:Nat} {l:List UInt8} (hs:P.underlying src=some (.slice e)) (he:P.underlying e=some (.int .u8)) (hd:P.underlying dst=some .string)
  (h:RowIs w g e' (tailed a l)):(convert src dst (.slice (some ⟨g,a,none⟩) l.length cap)).run P w=.ok (.string ⟨l.toArray⟩) w:=by
 refine run_convert_bytes_back w src dst e _ cap l hs he hd fun j hj=>?_
 have hc:=h.cell (a+j) (by rw [tailed_len]; omega)
 have e1:(⟨g,a,none⟩:Addr).add j=⟨g,a+j,none⟩:=by
  unfold Addr.add;by_cases h0:j=0
  ·subst h0; simp
  ·simp [h0]
 rw [e1,hc]
 simp [tailed,List.getElem_append_right,Lib.byteCells]
theorem pow_div {m a:Nat} (h:m < 10 ^ a) (ha:1≤a):m / 10 < 10 ^ (a - 1):=by
 obtain ⟨c,rfl⟩:∃ c,a=c+1:=⟨a - 1,by omega⟩
 rw [Nat.pow_succ] at h;have e:c+1 - 1=c:=by omega
 rw [e]; omega
theorem und49:Tryz.prog.underlying 195=some (.array (Tryz.prog.arrayLen 195) (Tryz.prog.elem 195)):=by kernel_rfl
theorem len49:Tryz.prog.arrayLen 195=19:=by kernel_rfl
theorem elem49:Tryz.prog.elem 195=5:=by kernel_rfl
theorem slice19 (u:World) (B a:Nat) (h1:1≤a) (h2:a≤19) :
  (Instr.sliceAt 195 (.pointer (some ⟨B,0,none⟩)) (some (.int .i64 ((a:Int) - 1))) none none).run Tryz.prog u=.ok (.slice (some ⟨B,a - 1,none⟩) (19 - (a - 1)) (19 - (a - 1))) u:=by
 obtain ⟨i0,hi,hz0,hz1,hz2⟩:=info_parts info5;have h:=run_sliceAt_array_l (P:=Tryz.prog) u 195 ⟨B,0,none⟩ und49 .i64 ((a:Int) - 1) (by omega) (by rw [len49]; omega);have e:((a:Int) - 1).toNat=a - 1:=by omega
 rw [h,elem49,len49,e];have hne:¬ (19=a - 1):=by omega
 simp [sizeOf,typeInfo,hi,hz1,slicedAt,hne,Addr.add]
 omega
set_option maxHeartbeats 600000 in
theorem digits_any (n:Nat) (w:World) (hn:n≤9223372036854775807) :
  Calls Tryz.prog 124 #[.int .i64 n] w fun e w'=>e=.returned (.string ⟨(digL n).toArray⟩)∧Below w.heap.size w w':=by
 have hz49:=zero49;have hr0:Hid (RowIs (w.alloc (.cells room0 195)) w.heap.size 195 (tailed 19 [])):=room_row w;have hp0:Hid (n < 10 ^ 19):=by show _ < _; omega
 go_enter Tryz.func124,Tryz.ntmps124
 go_wp2;clear hz49
 go_loopw [0,4] (fun nn at_ wr=>∃ (a m:Nat) (l:List UInt8),1≤a∧a≤19∧m≤9223372036854775807∧at_=.int .i64 a∧nn=.int .i64 m∧Hid (m < 10 ^ a)∧Hid (a+l.length=19) ∧
   Hid (RowIs wr w.heap.size 195 (tailed a l))∧Below w.heap.size w wr∧Hid (digL n=digL m++l)) (fun _ i _=>(intOf i).toNat)
 case atStart=>exact ⟨19,n,[],by omega,by omega,hn,rfl,rfl,hp0,rfl,hr0,(Below.refl _ _).alloc (Nat.le_refl _) _,show _=_ by simp⟩
 case round =>
  clear hr0 hp0;obtain ⟨a,m,l,ha1,ha2,hm,rfl,rfl,hp,hal,hr,hb,hd⟩:=hrel;have ht1:((a:Int) - 1).toNat=a - 1:=by omega
  obtain ⟨x,hc⟩:∃ x,wr.cell? ⟨w.heap.size,a - 1,none⟩=some x:=⟨_,hr.out.cell (a - 1) (by rw [tailed_len]; omega)⟩
  have hf:=hr.out.frozen (a - 1)
  have hr':Hid (RowIs (wr.setCell ⟨w.heap.size,a - 1,none⟩ (.int .u8 (48+(m:Int) % 10))) w.heap.size 195 (tailed (a - 1) (digb m :: l))):=by
   have h:=hr.out.set (a - 1) (.int .u8 (digb m).toNat);rw [tailed_set a l (digb m) ha1,digb_toNat] at h;exact h
  by_cases hlast:m < 10
  ·have hv:Hid (digL n=digb m :: l):=by show _=_; rw [hd.out,digL_small hlast]; rfl
   have hcv:=conv_row (P:=Tryz.prog) (cap:=(digb m :: l).length) Tryz.underlying124 Tryz.underlying5 Tryz.underlying9 hr'.out;have hll:(digb m :: l).length=19 - (a - 1):=by have:=hal.out; simp; omega
   rw [hll] at hcv;have hq:(m:Int) / 10=0:=by omega
   have hsl:=fun u=>slice19 u w.heap.size a ha1 ha2;clear hll hr hd hp hal;go_wp2;go_ret;exact ⟨by rw [hv.out]; rfl,hb.setCell (Nat.le_refl _) _⟩
  ·have hq:(((m:Int) / 10)==0)=false:=by simp; omega
   have hd':Hid (digL n=digL (m / 10)++(digb m :: l)):=by show _=_; rw [hd.out,digL_big hlast,List.append_assoc]; rfl
   have hp':Hid (m / 10 < 10 ^ (a - 1)):=pow_div hp.out ha1
   have ha':1≤a - 1:=by
    by_cases h1:a=1
    ·have:=hp.out; rw [h1] at this; omega
    ·omega
   have hal':Hid ((a - 1)+(digb m :: l).length=19):=by show _=_; have:=hal.out; simp; omega
   clear hr hd hp hal;go_wp2;go_roundw
   case rel=>exact ⟨a - 1,m / 10,digb m :: l,ha',by omega,by omega,by go_num,by go_num,hp',hal',hr',hb.setCell (Nat.le_refl _) _,hd'⟩
   case measure=>simp [intOf]; omega
def usersK:List UInt8:=[38,61,43,36,44,59,63,47]
def paramsK:List UInt8:=[91,93,47,58,38,43,36]
def headersK:List UInt8:=[91,93,47,63,58,43,36]
def escL (keep l:List UInt8):List UInt8:=esc (kpF keep) l
def pairV (keep:List UInt8) (p:Par):List UInt8:=if p.has=true then escL keep p.name++[61]++escL keep p.value else escL keep p.name
def parsT (ps:List Par):List UInt8:=ps.flatMap fun p=>[59]++pairV paramsK p
def hdrT (ps:List Par):List UInt8:=(ps.zipIdx).flatMap fun (p,i)=>(if i=0 then [63] else [38])++pairV headersK p
def frontT (u:Uri):List UInt8:=u.scheme++[58]++(if u.user=[] then [] else escL usersK u.user++[64])++u.host++(if u.port=0 then [] else [58]++digL u.port.toNat)
def textT (u:Uri):List UInt8:=frontT u++parsT u.params++hdrT u.headers
def printV (u:Uri):List UInt8 × Int:=if checkV u=0 then (textT u,0) else ([],checkV u)
theorem listGo_par (b ps:List Par) (h:listGo b ps=true):∀ p ∈ ps,parB p=true:=by
 induction ps generalizing b with
 | nil=>simp
 | cons q ps ih =>
  rw [listGo,Bool.and_eq_true,Bool.and_eq_true] at h;intro p hp
  rcases List.mem_cons.1 hp with rfl | hp
  ·exact h.1
  ·exact ih _ h.2.2 p hp
theorem listB_ok {ps:List Par} (h:listB ps=true):ps.length≤16∧∀ p ∈ ps,parB p=true:=by
 rw [listB,Bool.and_eq_true] at h;exact ⟨by simpa using h.1,listGo_par [] ps h.2⟩
theorem parB_ok {p:Par} (h:parB p=true):1≤p.name.length∧p.name.length≤64∧p.value.length≤64∧(p.has=true∨p.value=[]):=by
 simp only [parB,Bool.and_eq_true,decide_eq_true_eq,Bool.or_eq_true,List.isEmpty_iff] at h;exact h
theorem hostB_ok {l:List UInt8} (h:hostB l=true):1≤l.length∧l.length≤64:=by
 simp only [hostB,Bool.and_eq_true,decide_eq_true_eq] at h;exact ⟨h.1,h.2.1⟩
theorem schemeB_ok {l:List UInt8} (h:schemeB l=true):l.length≤4:=by
 simp only [schemeB,Bool.or_eq_true,beq_iff_eq] at h
 rcases h with rfl | rfl | rfl <;> decide
theorem check_ok {u:Uri} (h:checkV u=0):schemeB u.scheme=true∧u.user.length≤64∧hostB u.host=true∧0≤u.port∧u.port≤65535∧listB u.params=true∧listB u.headers=true∧u.headers.all (·.has)=true:=by
 unfold checkV at h
 cases e1:schemeB u.scheme
 ·simp [e1] at h
 rw [e1,if_neg (by simp)] at h;by_cases e2:64 < u.user.length
 ·simp [e2] at h
 rw [if_neg e2] at h
 cases e3:hostB u.host
 ·simp [e3] at h
 rw [e3,if_neg (by simp)] at h;by_cases e4:u.port < 0∨65535 < u.port
 ·simp [e4] at h
 rw [if_neg e4] at h
 cases e5:listB u.params
 ·simp [e5] at h
 rw [e5,if_neg (by simp)] at h
 cases e6:listB u.headers
 ·simp [e6] at h
 rw [e6,if_neg (by simp)] at h
 cases e7:u.headers.all (·.has)
 ·simp [e7] at h
 exact ⟨rfl,by omega,rfl,by omega,by omega,rfl,rfl,rfl⟩
def insN (ins:Bool) (x:UInt8):Bool:=if x=93 then false else if x=91 then true else ins
def whereGo:Bool → List UInt8 → Nat
 | _,[]=>0
 | ins,x :: l=>if ins=false∧x=58 then 0 else 1+whereGo (insN ins x) l
def portV (host l:List UInt8) (k:Nat):List UInt8 × Int × Int :=
 if k=l.length then (host,0,0)
 else if (numV 65535 (l.drop (k+1))).2 ≠ 0∨(numV 65535 (l.drop (k+1))).1=0 then ([],0,33) else (host,(numV 65535 (l.drop (k+1))).1,0)
def whereV (l:List UInt8):List UInt8 × Int × Int :=
 if hostB (lowL (l.take (whereGo false l)))=true then portV (lowL (l.take (whereGo false l))) l (whereGo false l) else ([],0,32)
theorem whereGo_le (b:Bool) (l:List UInt8):whereGo b l≤l.length:=by
 induction l generalizing b with
 | nil=>simp [whereGo]
 | cons x l ih =>
  rw [whereGo]
  split
  ·simp
  ·have:=ih (insN b x); simp; omega
def noU:Uri:=⟨[],[],[],0,[],[]⟩
def userV (s:List UInt8):List UInt8 × List UInt8 × Int :=
 if (cutL 64 s).2.2=true then
  (if (writtenV usersK (cutL 64 s).1).2=false∨(writtenV usersK (cutL 64 s).1).1=[]∨64 < (writtenV usersK (cutL 64 s).1).1.length then ([],[],31)
   else ((writtenV usersK (cutL 64 s).1).1,(cutL 64 s).2.1,0))
 else ([],s,0)
def headsV (asked:Bool) (back:List UInt8):Option (List Par):=if asked=true then parsOf headersK (splitL 38 back) else some []
def fillV (w:List UInt8 × Int × Int):Option (List Par) → Option (List Par) → Uri × Int
 | some ps,some hs=>(⟨[],[],w.1,w.2.1,ps,hs⟩,0)
 | _,_=>(noU,34)
def restV (s:List UInt8):Uri × Int :=
 if (whereV ((splitL 59 (cutL 63 s).1).headD [])).2.2 ≠ 0 then (noU,(whereV ((splitL 59 (cutL 63 s).1).headD [])).2.2)
 else fillV (whereV ((splitL 59 (cutL 63 s).1).headD [])) (parsOf paramsK (splitL 59 (cutL 63 s).1).tail) (headsV (cutL 63 s).2.2 (cutL 63 s).2.1)
def endV (u:Uri):Uri × Int:=if checkV u ≠ 0 then (noU,checkV u) else (u,0)
def bothV (sch us:List UInt8) (r:Uri × Int):Uri × Int:=if r.2 ≠ 0 then (noU,r.2) else endV { r.1 with scheme:=sch,user:=us }
def parseV (s:List UInt8):Uri × Int :=
 if (cutL 58 s).2.2=false∨schemeB (lowL (cutL 58 s).1)=false then (noU,30)
 else if (userV (cutL 58 s).2.1).2.2 ≠ 0 then (noU,(userV (cutL 58 s).2.1).2.2)
 else bothV (lowL (cutL 58 s).1) (userV (cutL 58 s).2.1).1 (restV (userV (cutL 58 s).2.1).2.1)
theorem byte_all {P:UInt8 → Prop} (h:∀ n:Fin 256,P (UInt8.ofNat n.val)) (b:UInt8):P b:=by
 have:=h ⟨b.toNat,b.toNat_lt⟩
 simpa using this
theorem parse_checked {s:List UInt8} {u:Uri} (h:parseV s=(u,0)):checkV u=0:=by
 unfold parseV at h
 split at h
 ·have:=congrArg Prod.snd h; simp at this
 split at h
 ·rename_i h2; exact absurd (congrArg Prod.snd h) h2
 unfold bothV at h
 split at h
 ·rename_i h2; exact absurd (congrArg Prod.snd h) h2
 unfold endV at h
 split at h
 ·rename_i h2; exact absurd (congrArg Prod.snd h) h2
 ·rename_i h2
  have:=congrArg Prod.fst h
  simp only at this;rw [← this];exact Classical.not_not.1 h2
def sipK:List UInt8:=[115,105,112]
def whoT (u:Uri):List UInt8:=escL usersK u.user++[64]++u.host
def whoV (u:Uri):List UInt8 × Int:=if checkV u ≠ 0 then ([],checkV u) else if u.user=[] then ([],31) else (whoT u,0)
def nameU (sch:List UInt8) (u:Uri):Uri:=⟨sch,u.user,u.host,0,[],[]⟩
theorem check_name {sch:List UInt8} {u:Uri} (hs:schemeB sch=true) (h:checkV u=0):checkV (nameU sch u)=0:=by
 obtain ⟨_,h2,h3,_⟩:=check_ok h;have h2':¬ 64 < u.user.length:=by omega
 simp [checkV,nameU,hs,h2',h3,listB,listGo]
theorem text_name {u:Uri} (hu:u.user ≠ []):textT (nameU sipK u)=[115,105,112,58]++whoT u:=by
 simp [textT,frontT,nameU,hu,parsT,hdrT,whoT,sipK]
theorem print_name {u:Uri} (h:checkV u=0) (hu:u.user ≠ []):printV (nameU sipK u)=([115,105,112,58]++whoT u,0):=by
 rw [printV,if_pos (check_name (by decide +kernel) h),text_name hu]
def hostV (s:List UInt8):List UInt8 × Int :=
 if (parseV ([115,105,112,58]++s)).2 ≠ 0 then ([],(parseV ([115,105,112,58]++s)).2)
 else if whoV (parseV ([115,105,112,58]++s)).1=(s,0) then ((parseV ([115,105,112,58]++s)).1.host,0) else ([],31)
theorem escL_len (keep l:List UInt8):(escL keep l).length≤3 * l.length:=by
 unfold escL
 induction l with
 | nil=>simp [esc]
 | cons b l ih =>
  rw [esc]
  split <;> simp <;> omega
structure Nd where
 deep:Int
 name:List UInt8
 attrs:List Par
 text:List UInt8
deriving DecidableEq
def xblk (b:UInt8):Bool:=b==32 || (b==9 || (b==13 || b==10))
def xtrim (l:List UInt8):List UInt8:=((l.dropWhile xblk).reverse.dropWhile xblk).reverse
def letX (b:UInt8):Bool:=isB b.toNat 2 || b==95
def namc (b:UInt8):Bool:=letX b || (isB b.toNat 1 || (b==45 || (b==46 || b==58)))
def nameX (l:List UInt8):Bool:=l.all namc && (l.head?.any letX && decide (l.length≤64))
def signX (b:UInt8):Bool:=xblk b || !(decide (b.toNat < 32) || b==127)
def signsX (l:List UInt8):Bool:=l.all signX
def xbehind (l:List UInt8):List UInt8:=(l.reverse.dropWhile xblk).reverse
theorem takeW_app {p:UInt8 → Bool} {a:List UInt8} {c:UInt8} {r:List UInt8} (h:∀ b ∈ a,p b=true) (hc:p c=false):(a++c :: r).takeWhile p=a∧(a++c :: r).dropWhile p=c :: r:=by
 induction a with
 | nil=>simp [List.takeWhile_cons,List.dropWhile_cons,hc]
 | cons x a ih =>
  have hx:=h x (by simp);obtain ⟨i1,i2⟩:=ih (fun b hb=>h b (by simp [hb]));rw [List.cons_append,List.takeWhile_cons,List.dropWhile_cons,hx]
  simp [i1,i2]
def distinctX:List Par → Bool
 | []=>true
 | p :: ps=>ps.all (fun q=>!(q.name==p.name)) && distinctX ps
def attrsOk (l:List Par):Bool:=decide (l.length≤16) && (l.all (fun p=>nameX p.name && (p.has && signsX p.value)) && distinctX l)
def nodeOk (x:Nd):Bool:=decide (x.deep < 8) && (nameX x.name && (attrsOk x.attrs && (signsX x.text && xtrim x.text==x.text)))
def nextOk (x y:Nd):Bool:=decide (1≤y.deep∧y.deep≤x.deep+1) && (!decide (x.deep < y.deep) || x.text.isEmpty)
def stepsX:List Nd → Bool
 | []=>true
 | [x]=>nodeOk x
 | x :: y :: r=>nodeOk x && (nextOk x y && stepsX (y :: r))
def checkX (l:List Nd):Int:=if l.length < 1∨200 < l.length∨(l.head?.map (·.deep)) ≠ some 0∨stepsX l=false then 130 else 0
theorem node_facts {x:Nd} (h:nodeOk x=true):x.deep < 8∧nameX x.name=true∧(x.attrs.all fun p=>nameX p.name && p.has)=true∧xtrim x.text=x.text:=by
 simp only [nodeOk,attrsOk,Bool.and_eq_true,decide_eq_true_eq,beq_iff_eq] at h;obtain ⟨h1,h2,⟨_,h3,_⟩,_,h5⟩:=h;refine ⟨h1,h2,?_,h5⟩
 rw [List.all_eq_true] at h3 ⊢;intro p hp
 have:=h3 p hp
 simp only [Bool.and_eq_true] at this ⊢;exact ⟨this.1,this.2.1⟩
structure Tu where
 id:List UInt8
 opn:Bool
 contact:List UInt8
 prio:Int
 note:List UInt8
deriving DecidableEq
structure Dc where
 entity:List UInt8
 tuples:List Tu
 notes:List (List UInt8)
deriving DecidableEq
def textP (s:List UInt8):Bool:=decide (s.length≤128) && (signsX s && xtrim s==s)
def idc (b:UInt8):Bool:=decide (33≤b.toNat) && decide (b.toNat≤126)
def identP (s:List UInt8):Bool:=s.all idc && (decide (1≤s.length) && decide (s.length≤64))
def prioP (t:Tu):Bool:=decide (-1≤t.prio) && (decide (t.prio≤1000) && (!t.contact.isEmpty || t.prio==-1))
def tupP (t:Tu):Bool:=identP t.id && (textP t.contact && (textP t.note && prioP t))
def distinctT:List Tu → Bool
 | []=>true
 | t :: r=>r.all (fun q=>!(q.id==t.id)) && distinctT r
def noteP (s:List UInt8):Bool:=!s.isEmpty && textP s
def checkD (d:Dc):Int:=if (hostV d.entity).2 ≠ 0∨16 < d.tuples.length∨16 < d.notes.length then 140 else if (d.tuples.all tupP && (distinctT d.tuples && d.notes.all noteP))=true then 0 else 140
def d3 (n:Nat):List UInt8:=[UInt8.ofNat (48+n / 100 % 10),UInt8.ofNat (48+n / 10 % 10),UInt8.ofNat (48+n % 10)]
def noteK:List UInt8:=[110,111,116,101]
structure Pb where
 num:Int
 who:List UInt8
 tag:List UInt8
 til:Int
 doc:Dc
structure Cf where
 host:List UInt8
 calls:Int
 pubs:Int
 subs:Int
 least:Int
 most:Int
 usual:Int
structure Sto where
 c:Cf
 last:Int
 l:List Pb
structure Pa where
 who:List UInt8
 mt:List UInt8
 exp:Int
 has:Bool
 doc:Dc
 tag:List UInt8
structure Td where
 status:Int
 expires:Int
 tag:List UInt8
 changed:Bool
deriving DecidableEq
def noTd:Td:=⟨0,0,[],false⟩
def rightC (c:Cf):Bool:=decide (1≤c.calls∧c.calls≤200∧1≤c.pubs∧c.pubs≤200∧1≤c.subs∧c.subs≤200∧1≤c.least∧c.least≤c.usual∧c.usual≤c.most∧c.most≤2147483647)
def secC (c:Cf) (a:Int):Int × Bool:=if a < 0 then (c.usual,true) else if c.most < a then (c.most,true) else (a,decide (a=0) || decide (c.least≤a))
def isP (tag:List UInt8) (p:Pb):Bool:=p.tag==tag
def pidxP (l:List Pb) (tag:List UInt8):Nat:=l.findIdx (isP tag)
def placeP (l:List Pb) (tag:List UInt8):Int:=if pidxP l tag < l.length then (pidxP l tag:Int) else -1
def badA (s:Sto) (now:Int) (a:Pa):Bool:=decide (now < 0) || (decide (549755813888 < now) || (!tokenB a.tag || (decide (0≤placeP s.l a.tag) || (a.has && !decide (checkD a.doc=0)))))
def newP (s:Sto) (now n:Int) (a:Pa):Pb:=⟨s.last+1,a.who,a.tag,now+10 * n,a.doc⟩
def goP (p:Pb) (now n:Int) (a:Pa):Pb:=⟨p.num,p.who,a.tag,now+10 * n,if a.has=true then a.doc else p.doc⟩
def noneP (s:Sto) (a:Pa):Bool:=!a.mt.isEmpty && (decide (placeP s.l a.mt < 0) || !decide ((s.l[pidxP s.l a.mt]?).map Pb.who=some a.who))
def doS (s:Sto) (now:Int) (a:Pa):Sto × Td × Int :=
 if badA s now a=true then (s,noTd,1)
 else if noneP s a=true then (s,⟨412,0,[],false⟩,0)
 else if (secC s.c a.exp).2=false then (s,⟨423,s.c.least,[],false⟩,0)
 else if a.mt=[] then
  if a.has=false∨(secC s.c a.exp).1=0 then (s,⟨400,0,[],false⟩,0)
  else if s.c.pubs≤s.l.length then (s,⟨503,0,[],false⟩,0)
  else (⟨s.c,s.last+1,s.l++[newP s now (secC s.c a.exp).1 a]⟩,⟨200,(secC s.c a.exp).1,a.tag,true⟩,0)
 else if a.has=true∧(secC s.c a.exp).1=0 then (s,⟨400,0,[],false⟩,0)
 else if (secC s.c a.exp).1=0 then (⟨s.c,s.last,s.l.eraseIdx (pidxP s.l a.mt)⟩,⟨200,0,a.tag,true⟩,0)
 else (⟨s.c,s.last,s.l.modify (pidxP s.l a.mt) (fun p=>goP p now (secC s.c a.exp).1 a)⟩,⟨200,(secC s.c a.exp).1,a.tag,a.has⟩,0)
def liveS (l:List Pb) (who:List UInt8):List Pb:=l.filter fun p=>p.who==who
theorem idx_two (l:List Pb) (tag:List UInt8):(pidxP l tag=l.length∧placeP l tag=-1∧∀ p ∈ l,p.tag ≠ tag)∨∃ (k:Nat) (hk:k < l.length),pidxP l tag=k∧placeP l tag=k∧l[k].tag=tag∧∀ j (hj:j < k),l[j].tag ≠ tag:=by
 unfold placeP pidxP;by_cases h:l.findIdx (isP tag) < l.length
 ·refine .inr ⟨_,h,rfl,by rw [if_pos h],?_,fun j hj=>?_⟩
  ·have:=List.findIdx_getElem (w:=h)
   simpa [isP] using this
  ·have:=List.not_of_lt_findIdx (p:=isP tag) (xs:=l) hj
   simpa [isP] using this
 ·have he:l.findIdx (isP tag)=l.length:=by
   have:=List.findIdx_le_length (xs:=l) (p:=isP tag)
   omega
  refine .inl ⟨he,by rw [if_neg h],fun p hp=>?_⟩
  have:=List.findIdx_eq_length.1 he p hp
  simpa [isP] using this
structure StOK (s:Sto):Prop where
 len:(s.l.length:Int)≤s.c.pubs
 tags:∀ i j (hi:i < s.l.length) (hj:j < s.l.length),s.l[i].tag=s.l[j].tag → i=j
 tok:∀ p ∈ s.l,tokenB p.tag=true
 nums:s.l.Pairwise (fun p q=>p.num < q.num)
 num1:∀ p ∈ s.l,1≤p.num∧p.num≤s.last
 doc:∀ p ∈ s.l,checkD p.doc=0
 til:∀ p ∈ s.l,0≤p.til∧p.til≤571230650358
 last:0≤s.last
theorem StOK.nil {c:Cf} (h:rightC c=true):StOK ⟨c,0,[]⟩:=by
 simp only [rightC,decide_eq_true_eq] at h;exact ⟨by simp only [List.length_nil]; omega,fun i j hi=>by simp at hi,fun p hp=>by simp at hp,List.Pairwise.nil,fun p hp=>by simp at hp,fun p hp=>by simp at hp,fun p hp=>by simp at hp,Int.le_refl _⟩
theorem secC_rng {c:Cf} (h:rightC c=true) (a:Int):0≤(secC c a).1∧(secC c a).1≤2147483647:=by
 simp only [rightC,decide_eq_true_eq] at h;unfold secC
 split
 ·simp only; omega
 ·split
  ·simp only; omega
  ·simp only; omega
theorem badA_no {s:Sto} {now:Int} {a:Pa} (h:badA s now a=false):0≤now∧now≤549755813888∧tokenB a.tag=true∧placeP s.l a.tag < 0∧(a.has=true → checkD a.doc=0):=by
 unfold badA at h;simp only [Bool.or_eq_false_iff,decide_eq_false_iff_not,Bool.not_eq_false',Bool.and_eq_false_iff,Bool.not_eq_eq_eq_not,Bool.not_false,Bool.not_true] at h;obtain ⟨h1,h2,h3,h4,h5⟩:=h;refine ⟨by omega,by omega,h3,by omega,fun hh=>?_⟩
 rcases h5 with h5 | h5
 ·rw [hh] at h5; cases h5
 ·simpa using h5
theorem place_no {l:List Pb} {tag:List UInt8} (h:placeP l tag < 0):∀ p ∈ l,p.tag ≠ tag:=by
 rcases idx_two l tag with ⟨_,_,h2⟩ | ⟨k,hk,_,h1,_⟩
 ·exact h2
 ·omega
theorem StOK.add {s:Sto} (h:StOK s) {p:Pb} (hl:(s.l.length:Int) < s.c.pubs) (hn:p.num=s.last+1) (ht:tokenB p.tag=true) (hf:∀ q ∈ s.l,q.tag ≠ p.tag) (hd:checkD p.doc=0) (hu:0≤p.til∧p.til≤571230650358):StOK ⟨s.c,s.last+1,s.l++[p]⟩:=by
 refine ⟨by simp only [List.length_append,List.length_singleton]; omega,fun i j hi hj e=>?_,fun q hq=>?_,?_,fun q hq=>?_,fun q hq=>?_,fun q hq=>?_,by simp only; have:=h.last; omega⟩
 ·simp only [List.length_append,List.length_singleton] at hi hj;simp only [List.getElem_append] at e
  split at e
  ·split at e
   ·exact h.tags i j _ _ e
   ·simp at e
    exact absurd e (hf _ (List.getElem_mem _))
  ·split at e
   ·simp at e
    exact absurd e.symm (hf _ (List.getElem_mem _))
   ·omega
 ·rcases List.mem_append.1 hq with hq | hq
  ·exact h.tok q hq
  ·simp at hq; subst hq; exact ht
 ·rw [List.pairwise_append];refine ⟨h.nums,List.pairwise_singleton _ _,fun q hq r hr=>?_⟩
  simp at hr; subst hr
  have:=(h.num1 q hq).2
  omega
 ·rcases List.mem_append.1 hq with hq | hq
  ·have:=h.num1 q hq; simp only; omega
  ·simp at hq; subst hq; have:=h.last; simp only; omega
 ·rcases List.mem_append.1 hq with hq | hq
  ·exact h.doc q hq
  ·simp at hq; subst hq; exact hd
 ·rcases List.mem_append.1 hq with hq | hq
  ·exact h.til q hq
  ·simp at hq; subst hq; exact hu
theorem StOK.sub {s:Sto} (h:StOK s) {l:List Pb} (hs:l.Sublist s.l):StOK ⟨s.c,s.last,l⟩:=by
 have hp:s.l.Pairwise (fun p q=>p.tag ≠ q.tag):=by
  rw [List.pairwise_iff_getElem];intro i j hi hj hij e
  have:=h.tags i j hi hj e
  omega
 have hp2:=hp.sublist hs;have hm:∀ q ∈ l,q ∈ s.l:=fun q hq=>hs.subset hq;refine ⟨by have:=hs.length_le; have:=h.len; simp only; omega,fun i j hi hj e=>?_,fun q hq=>h.tok q (hm q hq),h.nums.sublist hs,fun q hq=>h.num1 q (hm q hq),fun q hq=>h.doc q (hm q hq),fun q hq=>h.til q (hm q hq),h.last⟩
 rw [List.pairwise_iff_getElem] at hp2
 rcases Nat.lt_trichotomy i j with hij | hij | hij
 ·exact absurd e (hp2 i j hi hj hij)
 ·exact hij
 ·exact absurd e.symm (hp2 j i hj hi hij)
end Go.Proofs.YtbmjodlbkgblpaaGreatDoor
namespace Go.Proofs.YtbmjodlbkgblpaaGreatDoor
open Go.RowKit Go.ChangeShapes Go.WideShapes Go.Deep
theorem cellsStr:Tryz.prog.cellsOf 9=1:=by kernel_rfl
theorem cellsInt:Tryz.prog.cellsOf 3=1:=by kernel_rfl
theorem back (s:ByteArray):(⟨s.data.toList.toArray⟩:ByteArray)=s:=by apply ByteArray.ext; simp
section
variable {H : Type} {enc : TypeId × Value → H} {W : World} {sp : Nat → Bool}
def SmallP (B:Nat) (ps:List Par):Prop:=ps.length≤B∧∀ p ∈ ps,p.name.length≤B∧p.value.length≤B
def SmallU (B:Nat) (u:Uri):Prop:=u.scheme.length≤B∧u.user.length≤B∧u.host.length≤B∧SmallP B u.params∧SmallP B u.headers
end
structure NdC where
 nd:Nd
 a:Value
def ndCells (c:NdC):List Value:=[.int .i64 c.nd.deep,.string ⟨c.nd.name.toArray⟩,c.a,.string ⟨c.nd.text.toArray⟩]
structure NdAt (w:World) (ad:Addr) (k:Nat) (c:NdC):Prop where
 c0:w.cell? (ad.add (k * 4))=some (.int .i64 c.nd.deep)
 c1:w.cell? ⟨(ad.add (k * 4)).block,(ad.add (k * 4)).off+1,none⟩=some (.string ⟨c.nd.name.toArray⟩)
 c2:w.cell? ⟨(ad.add (k * 4)).block,(ad.add (k * 4)).off+2,none⟩=some c.a
 c3:w.cell? ⟨(ad.add (k * 4)).block,(ad.add (k * 4)).off+3,none⟩=some (.string ⟨c.nd.text.toArray⟩)
theorem NdAt.below {B:Nat} {w w':World} {ad:Addr} {k:Nat} {c:NdC} (h:NdAt w ad k c) (hb:Below B w w') (ha:ad.block < B):NdAt w' ad k c :=
 ⟨cell_below hb (by rw [add_block]; exact ha) h.c0,cell_below hb (by simp only [add_block]; exact ha) h.c1,cell_below hb (by simp only [add_block]; exact ha) h.c2,cell_below hb (by simp only [add_block]; exact ha) h.c3⟩
def NdsAt (w:World) (v:Value) (cs:List NdC):Prop :=
 ∃ (ao:Option Addr) (cap:Nat),v=.slice ao cs.length cap∧∀ k (hk:k < cs.length),∃ ad,ao=some ad∧ad.block < w.heap.size∧NdAt w ad k cs[k]∧ParsAt w cs[k].a cs[k].nd.attrs
def ndsL (cs:List NdC):List Nd:=cs.map NdC.nd
theorem ndsL_len (cs:List NdC):(ndsL cs).length=cs.length:=by simp [ndsL]
def SmallN (B:Nat) (x:Nd):Prop:=x.name.length≤B∧x.text.length≤B∧SmallP B x.attrs∧(Lit.int .i64 x.deep).wf=true
end Go.Proofs.YtbmjodlbkgblpaaGreatDoor
namespace Go.Proofs.YtbmjodlbkgblpaaGreatDoor
open Go.RowKit Sc
theorem u8_eq {a b:UInt8} (h:a=b):((a.toNat:Int)==(b.toNat:Int))=true:=by simp [h]
theorem u8_ne {a b:UInt8} (h:¬ a=b):((a.toNat:Int)==(b.toNat:Int))=false:=by
 simp only [beq_eq_false_iff_ne,ne_eq];intro e; exact h (UInt8.toNat_inj.1 (by omega))
theorem notMem_snoc {c:UInt8} {s:ByteArray} {k:Nat} (hk:k < s.size) (h:c ∉ s.data.toList.take k) (hc:¬ s[k]=c):c ∉ s.data.toList.take (k+1):=by
 rw [take_snoc s k hk];simp only [List.mem_append,List.mem_singleton,not_or];exact ⟨h,fun e=>hc e.symm⟩
theorem split_at (s:ByteArray) (k:Nat) (hk:k < s.size):s.data.toList=s.data.toList.take k++s[k] :: s.data.toList.drop (k+1):=by
 rw [← drop_cons s k hk,List.take_append_drop]
set_option maxHeartbeats 400000 in
theorem has3_any (s:ByteArray) (c:UInt8) (w:World) (hs:s.size≤maxLen) :
  Calls Tryz.prog 85 #[.string s,.int .u8 c.toNat] w fun e w'=>e=.returned (.bool (hasL c s.data.toList))∧w'=w:=by
 unfold maxLen at hs
 go_enter Tryz.func85,Tryz.ntmps85
 go_wp2
 go_loop [5] (fun i=>∃ k:Nat,k≤s.size∧i=.int .i64 k∧Hid (c ∉ s.data.toList.take k)) (fun i=>s.size - (intOf i).toNat)
 case atStart=>exact ⟨0,Nat.zero_le _,rfl,show _ ∉ _ by simp⟩
 case round =>
  obtain ⟨k,hk,rfl,hno⟩:=hrel;by_cases hlt:k < s.size
  ·by_cases hc:s[k]=c
   ·have he:=u8_eq hc;have hv:Hid (hasL c s.data.toList=true):=show _=_ by rw [hasL,split_at s k hlt,hc]; simp
    clear hc hno;go_wp2;go_ret;exact ⟨ret_bool hv.out.symm,rfl⟩
   ·have he:=u8_ne hc;have hno2:Hid (c ∉ s.data.toList.take (k+1)):=notMem_snoc hlt hno.out hc;clear hc hno;go_wp2
    go_round
    case rel=>exact ⟨k+1,by omega,by go_num,hno2⟩
    case measure=>simp [intOf]; omega
  ·have hv:Hid (hasL c s.data.toList=false):=show _=_ by
    rw [hasL]
    have:=hno.out
    rw [take_all s k (by omega)] at this
    simpa using this
   clear hno;go_wp2;go_ret;exact ⟨ret_bool hv.out.symm,rfl⟩
theorem ret_cut {p:List UInt8 × List UInt8 × Bool} {x y:ByteArray} {b:Bool} (h:p=(x.data.toList,y.data.toList,b)):Ending.returned (.tuple #[.string x,.string y,.bool b])=.returned (.tuple #[.string ⟨p.1.toArray⟩,.string ⟨p.2.1.toArray⟩,.bool p.2.2]):=by
 have hx:(⟨x.data.toList.toArray⟩:ByteArray)=x:=by apply ByteArray.ext; simp
 have hy:(⟨y.data.toList.toArray⟩:ByteArray)=y:=by apply ByteArray.ext; simp
 rw [h,hx,hy]
set_option maxHeartbeats 400000 in
theorem cut3_any (s:ByteArray) (c:UInt8) (w:World) (hs:s.size≤maxLen) :
  Calls Tryz.prog 82 #[.string s,.int .u8 c.toNat] w fun e w'=>e=.returned (.tuple #[.string ⟨(cutL c s.data.toList).1.toArray⟩,.string ⟨(cutL c s.data.toList).2.1.toArray⟩,.bool (cutL c s.data.toList).2.2])∧∃ q,w'=w.drewN q:=by
 unfold maxLen at hs
 go_enter Tryz.func82,Tryz.ntmps82
 go_wp2
 go_loop [7] (fun i=>∃ k:Nat,k≤s.size∧i=.int .i64 k∧Hid (c ∉ s.data.toList.take k)) (fun i=>s.size - (intOf i).toNat)
 case atStart=>exact ⟨0,Nat.zero_le _,rfl,show _ ∉ _ by simp⟩
 case round =>
  obtain ⟨k,hk,rfl,hno⟩:=hrel;by_cases hlt:k < s.size
  ·by_cases hc:s[k]=c
   ·have he:=u8_eq hc
    have hv:Hid (cutL c s.data.toList=(s.data.toList.take k,s.data.toList.drop (k+1),true)):=show _=_ by
     conv=>lhs; rw [split_at s k hlt,hc]
     exact cutL_hit hno.out
    have e1:Hid ((s.extract 0 k).data.toList=s.data.toList.take k):=show _=_ by rw [ext_list]; simp
    have e2:Hid ((s.extract (k+1) s.size).data.toList=s.data.toList.drop (k+1)):=show _=_ by
     rw [ext_list,List.take_of_length_le (by rw [List.length_drop,len_data]; omega)]
    clear hc hno
    have hwr:IntKind.i64.wrap ((k:Int)+1)=((k+1:Nat):Int):=by
     simp [IntKind.wrap,IntKind.bits,IntKind.signed]; omega
    go_wp2
    go_quiet (fail)
    go_wp2;go_ret3
    exact ⟨ret_cut (by rw [hv.out,e1.out,e2.out]),nq,rfl⟩
   ·have he:=u8_ne hc;have hno2:Hid (c ∉ s.data.toList.take (k+1)):=notMem_snoc hlt hno.out hc;clear hc hno;go_wp2
    go_round
    case rel=>exact ⟨k+1,by omega,by go_num,hno2⟩
    case measure=>simp [intOf]; omega
  ·have hv:Hid (cutL c s.data.toList=(s.data.toList,[],false)):=show _=_ by
    have:=hno.out
    rw [take_all s k (by omega)] at this;exact cutL_miss this
   clear hno;go_wp2;go_ret3
   exact ⟨ret_cut hv.out,0,rfl⟩
theorem cut3_list (r:List UInt8) (c:UInt8) (w:World) (hs:r.length≤9223372036854775807) :
  Calls Tryz.prog 82 #[.string ⟨r.toArray⟩,.int .u8 c.toNat] w fun e w'=>e=.returned (.tuple #[.string ⟨(cutL c r).1.toArray⟩,.string ⟨(cutL c r).2.1.toArray⟩,.bool (cutL c r).2.2])∧∃ q,w'=w.drewN q :=
 cut3_any ⟨r.toArray⟩ c w (by unfold maxLen; simp [ByteArray.size]; omega)
def lenOf:Value → Nat
 | .string s=>s.size
 | _=>0
def boolOf:Value → Nat
 | .bool true=>1
 | _=>0
theorem size_list (l:List UInt8):(⟨l.toArray⟩:ByteArray).size=l.length:=by simp [ByteArray.size]
theorem splitL_next {c:UInt8} {l0 r:List UInt8} {ps:List (List UInt8)} (h:splitL c l0=ps++splitL c r) (hb:(cutL c r).2.2=true):splitL c l0=(ps++[(cutL c r).1])++splitL c (cutL c r).2.1:=by
 rw [h,splitL_cut c r,if_pos hb]; simp
theorem splitL_last {c:UInt8} {l0 r:List UInt8} {ps:List (List UInt8)} (h:splitL c l0=ps++splitL c r) (hb:(cutL c r).2.2=false):splitL c l0=ps++[(cutL c r).1]:=by
 rw [h,splitL_cut c r,if_neg (by simp [hb])]
end Go.Proofs.YtbmjodlbkgblpaaGreatDoor
