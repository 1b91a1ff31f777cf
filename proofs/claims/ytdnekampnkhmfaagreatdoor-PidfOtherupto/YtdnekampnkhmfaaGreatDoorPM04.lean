/-
  Lower, HostL, Trim, PListL, Digits, PrintL, CheckL, WhereL, BackL, ParseL, UBackL.
-/
import Derived.Test.YtdnekampnkhmfaaGreatDoorPM03
set_option linter.unusedVariables false
set_option linter.unusedSimpArgs false
set_option maxRecDepth 20000
namespace Go.Proofs.YtdnekampnkhmfaaGreatDoor
open Go.RowKit Sc
set_option maxHeartbeats 400000 in
theorem reflower_txt (s:ByteArray) (w:World) (hs:s.size≤140737488355328) :
  Calls Tryz.prog 79 #[.string s] w fun e w'=>e=.returned (.string ⟨(lowL s.data.toList).toArray⟩)∧Below w.heap.size w w':=by
 obtain ⟨i0,hi,hz0,hz1,hz2⟩:=info_parts info5
 go_enter Tryz.func79,Tryz.ntmps79
 go_wp2
 go_loopw [3,4] (fun v i wr=>∃ k:Nat,k≤s.size∧i=.int .i64 k∧Own wr w.heap.size 5 v (Lib.byteCells (lowL (s.data.toList.take k)))∧Below w.heap.size w wr∧w.heap.size≤wr.heap.size) (fun _ i _=>s.size - (intOf i).toNat)
 case atStart=>exact ⟨0,Nat.zero_le _,rfl,Own.nil _ _ _,Below.refl _ _,Nat.le_refl _⟩
 case round =>
  obtain ⟨k,hk,rfl,hown,hb,hB⟩:=hrel;have hlen:(Lib.byteCells (lowL (s.data.toList.take k))).length≤k:=by rw [Lib.byteCells_length,lowL_len]; exact List.length_take_le _ _
  by_cases hlt:k < s.size
  ·have hbd:=u8_bd s[k];have hcs:=low_cells1 (s.data.toList.take k) s[k];rw [← take_snoc s k hlt] at hcs;by_cases hup:65≤(s[k].toNat:Int)∧(s[k].toNat:Int)≤90
   ·have e:low s[k].toNat=(s[k].toNat:Int) - 65+97:=by rw [low,if_pos hup]; omega
    rw [e] at hcs;have HC:Hid (Lib.byteCells (lowL (List.take k s.data.toList))++[Value.int IntKind.u8 ((s[k].toNat:Int) - 65+97)]=Lib.byteCells (lowL (List.take (k+1) s.data.toList))):=hcs;obtain ⟨hu1,hu2⟩:=hup;clear hcs e;go_wp2_with (at_builtin; refine wp_app _ rfl (.tmp 21) (.tmp 27) 100 rfl w.heap.size 5 i0 (.int .u8 0) 1 Tryz.underlying100 hi hz0 hz1 hz2 rfl _ _ rfl (hown.alloc _) ⟨_,0,none⟩ 1 1 [.int .u8 ((s[k].toNat:Int) - 65+97)] rfl rfl (by exact one_new _ _ _) (by intro u hu; simp at hu; subst hu; rfl) (by unfold maxLen; omega) (by omega) w (hb.alloc hB _) (by simp; omega) ?_; intro v3 w3 hown3 hb3 hB3)
    rw [HC.out] at hown3;go_wp2;go_roundw
    case rel=>exact ⟨k+1,by omega,by go_num,hown3,hb3,hB3⟩
    case measure=>simp [intOf]; omega
   ·have e:low s[k].toNat=(s[k].toNat:Int):=by rw [low,if_neg hup]
    rw [e] at hcs;have HC:Hid (Lib.byteCells (lowL (List.take k s.data.toList))++[Value.int IntKind.u8 (s[k].toNat:Int)]=Lib.byteCells (lowL (List.take (k+1) s.data.toList))):=hcs;clear hcs e;by_cases hu1:65≤(s[k].toNat:Int)
    all_goals
     go_wp2_with (at_builtin; refine wp_app _ rfl (.tmp 29) (.tmp 33) 100 rfl w.heap.size 5 i0 (.int .u8 0) 1 Tryz.underlying100 hi hz0 hz1 hz2 rfl _ _ rfl (hown.alloc _) ⟨_,0,none⟩ 1 1 [.int .u8 (s[k].toNat:Int)] rfl rfl (by exact one_new _ _ _) (by intro u hu; simp at hu; subst hu; rfl) (by unfold maxLen; omega) (by omega) w (hb.alloc hB _) (by simp; omega) ?_; intro v3 w3 hown3 hb3 hB3)
     rw [HC.out] at hown3;go_wp2;go_roundw
     case rel=>exact ⟨k+1,by omega,by go_num,hown3,hb3,hB3⟩
     case measure=>simp [intOf]; omega
  ·have hta:=take_all s k (by omega);rw [hta] at hown;have hcv:=conv_own (P:=Tryz.prog) _ Tryz.underlying100 Tryz.underlying5 Tryz.underlying9 hown;clear hta hlen;go_wp2;go_ret;exact ⟨rfl,hb⟩
def okc (b:UInt8):Bool:=b==58 || (b==46 || isB b.toNat 4)
def brkB (l:List UInt8):Bool:=decide (4≤l.length) && ((l.getD (l.length - 1) 0==93) && ((mid l 1 (l.length - 1)).all okc && decide (2≤(mid l 1 (l.length - 1)).count 58)))
def labB (p:List UInt8):Bool:=decide (1≤p.length) && (allB 64 p && (!(p.getD 0 0==45) && !(p.getD (p.length - 1) 0==45)))
def hostB (l:List UInt8):Bool:=decide (1≤l.length) && (decide (l.length≤64) && ((lowL l==l) && (if l.getD 0 0=91 then brkB l else (splitL 46 l).all labB)))
def schemeB (l:List UInt8):Bool:=l==[115,105,112] || (l==[115,105,112,115] || l==[112,114,101,115])
theorem host_short {l:List UInt8} (h:l.length=0):hostB l=false:=by
 unfold hostB; simp [h]
theorem host_long {l:List UInt8} (h:64 < l.length):hostB l=false:=by
 have:decide (l.length≤64)=false:=by simp; omega
 unfold hostB; simp [this]
theorem host_caps {l:List UInt8} (h:(lowL l==l)=false):hostB l=false:=by
 unfold hostB; simp only [h,Bool.false_and,Bool.and_false]
theorem host_brk {l:List UInt8} (h1:1≤l.length) (h2:l.length≤64) (h:(lowL l==l)=true) (hb:l.getD 0 0=91):hostB l=brkB l:=by
 unfold hostB; simp only [h,if_pos hb,decide_eq_true h1,decide_eq_true h2,Bool.true_and]
theorem host_lab {l:List UInt8} (h1:1≤l.length) (h2:l.length≤64) (h:(lowL l==l)=true) (hb:¬ l.getD 0 0=91):hostB l=(splitL 46 l).all labB:=by
 unfold hostB; simp only [h,if_neg hb,decide_eq_true h1,decide_eq_true h2,Bool.true_and]
theorem getD_s (s:ByteArray) (k:Nat) (h:k < s.size):s.data.toList.getD k 0=s[k]:=by
 rw [List.getD_eq_getElem?_getD,getL s k h]; rfl
theorem mid_prefix (l:List UInt8) (a k m:Nat) (h:k≤m):∃ r,mid l a m=mid l a k++r:=by
 refine ⟨((l.drop a).take (m - a)).drop (k - a),?_⟩
 unfold mid
 conv=>lhs; rw [← List.take_append_drop (k - a) ((l.drop a).take (m - a))]
 rw [List.take_take,Nat.min_eq_left (by omega)]
theorem brk_bad {s:ByteArray} {k:Nat} (h1:1≤k) (h:k+1 < s.size) (hb:okc s[k]=false):brkB s.data.toList=false:=by
 obtain ⟨r,hr⟩:=mid_prefix s.data.toList 1 (k+1) (s.size - 1) (by omega);unfold brkB;rw [len_data,hr,mid_snoc s 1 k h1 (by omega)]
 simp [hb]
theorem brk_end {s:ByteArray} {k n:Nat} (h4:4≤s.size) (hk:k=s.size - 1) (ha:(mid s.data.toList 1 k).all okc=true) (hn:(mid s.data.toList 1 k).count 58=n) (hl:s.data.toList.getD k 0=93):brkB s.data.toList=decide (2≤n):=by
 subst hk;unfold brkB;rw [len_data,ha,hn,hl]
 simp [h4]
theorem brk_short {s:ByteArray} (h4:¬ 4≤s.size):brkB s.data.toList=false:=by
 unfold brkB; rw [len_data]; simp [h4]
theorem brk_last {s:ByteArray} {k:Nat} (hk:k=s.size - 1) (hl:¬ s.data.toList.getD k 0=93):brkB s.data.toList=false:=by
 subst hk
 have:(s.data.toList.getD (s.size - 1) 0==93)=false:=by simpa using hl
 unfold brkB; rw [len_data,this]; simp
theorem splitL_mem_len (c:UInt8) (l:List UInt8):∀ p ∈ splitL c l,p.length≤l.length:=by
 induction l with
 | nil=>simp [splitL]
 | cons x l ih =>
  obtain ⟨p,ps,hp⟩:=splitL_cons c l;rw [splitL];rw [hp] at ih ⊢
  split
  ·intro q hq;simp only [List.mem_cons] at hq
   rcases hq with rfl | hq
   ·simp
   ·have:=ih q (by simpa using hq); simp; omega
  ·intro q hq;simp only [List.headD_cons,List.tail_cons,List.mem_cons] at hq
   rcases hq with rfl | hq
   ·have:=ih p (by simp); simp; omega
   ·have:=ih q (by simp [hq]); simp; omega
def sameB (a b:List UInt8):Bool:=lowL a==lowL b
set_option maxHeartbeats 400000 in
theorem refsame_any (a b:ByteArray) (w:World) (ha:a.size≤140737488355328) (hb:b.size≤140737488355328) :
  Calls Tryz.prog 170 #[.string a,.string b] w fun e w'=>e=.returned (.bool (sameB a.data.toList b.data.toList))∧Below w.heap.size w w':=by
 go_enter Tryz.func170,Tryz.ntmps170
 go_wp2_with fail
 refine (reflower_txt _ _ ha).mono ?_
 rintro e w1 ⟨rfl,h1⟩;go_wp2_with fail
 refine (reflower_txt _ _ hb).mono ?_
 rintro e w2 ⟨rfl,h2⟩;go_wp2;go_ret;exact ⟨ret_bool (by rw [sameB]),h1.trans (h2.mono h1.size)⟩
def parB (p:Par):Bool:=decide (1≤p.name.length) && (decide (p.name.length≤64) && (decide (p.value.length≤64) && (p.has || p.value.isEmpty)))
def apartB (ps:List Par) (nm:List UInt8):Bool:=ps.all fun q=>!sameB q.name nm
def listGo:List Par → List Par → Bool
 | _,[]=>true
 | before,p :: ps=>parB p && (apartB before p.name && listGo (before++[p]) ps)
def listB (ps:List Par):Bool:=decide (ps.length≤16) && listGo [] ps
def checkV (u:Uri):Int :=
 if schemeB u.scheme=false then 30 else if 64 < u.user.length then 31 else if hostB u.host=false then 32 else if u.port < 0∨65535 < u.port then 33
 else if listB u.params=false then 34 else if listB u.headers=false then 34 else if u.headers.all (·.has)=false then 34 else 0
theorem listGo_at (ps:List Par) (k:Nat) (hk:k < ps.length):listGo (ps.take k) (ps.drop k)=(parB ps[k] && (apartB (ps.take k) ps[k].name && listGo (ps.take (k+1)) (ps.drop (k+1)))):=by
 rw [List.drop_eq_getElem_cons hk,listGo,List.take_succ_eq_append_getElem hk]
def digb (n:Nat):UInt8:=UInt8.ofNat (48+n % 10)
def digL (n:Nat):List UInt8:=if n < 10 then [digb n] else digL (n / 10)++[digb n]
termination_by n
decreasing_by omega
theorem digL_small {n:Nat} (h:n < 10):digL n=[digb n]:=by rw [digL,if_pos h]
theorem digL_big {n:Nat} (h:¬ n < 10):digL n=digL (n / 10)++[digb n]:=by rw [digL,if_neg h]
theorem digb_toNat (n:Nat):((digb n).toNat:Int)=48+(n:Int) % 10:=by
 have h:n % 10 < 10:=Nat.mod_lt _ (by decide);rw [digb,UInt8.toNat_ofNat'];omega
theorem digL_len (a:Nat):∀ n:Nat,n < 10 ^ (a+1) → (digL n).length≤a+1:=by
 induction a with
 | zero=>intro n h; rw [digL_small (by simpa using h)]; simp
 | succ a ih =>
  intro n h;by_cases hn:n < 10
  ·rw [digL_small hn]; simp
  ·rw [digL_big hn,List.length_append]
   have:=ih (n / 10) (by rw [Nat.pow_succ] at h; omega)
   simp; omega
theorem digL_len19 {n:Nat} (h:n≤9223372036854775807):(digL n).length≤19:=digL_len 18 n (by omega)
def room0:Array Value:=(List.replicate 19 (.int .u8 0)).toArray
theorem zero49 (u:World):Sem.run Tryz.prog (zeroValue 136) u=.ok (.agg room0) u:=by kernel_rfl
def tailed (a:Nat) (l:List UInt8):List Value:=List.replicate a (.int .u8 0)++Lib.byteCells l
theorem tailed_len (a:Nat) (l:List UInt8):(tailed a l).length=a+l.length:=by simp [tailed,Lib.byteCells]
theorem tailed_set (a:Nat) (l:List UInt8) (b:UInt8) (ha:1≤a):(tailed a l).set (a - 1) (.int .u8 b.toNat)=tailed (a - 1) (b :: l):=by
 obtain ⟨c,rfl⟩:∃ c,a=c+1:=⟨a - 1,by omega⟩
 have e:c+1 - 1=c:=by omega
 rw [e,tailed,tailed,List.replicate_succ',List.append_assoc,List.set_append_right _ _ (by simp)]
 simp [Lib.byteCells]
theorem room_row (w:World):RowIs (w.alloc (.cells room0 136)) w.heap.size 136 (tailed 19 []):=by
 unfold RowIs;rw [heap_alloc_new]
 rfl
theorem conv_row {P:Program} {w:World} {g e e' src dst a cap:Nat} {l:List UInt8} (hs:P.underlying src=some (.slice e)) (he:P.underlying e=some (.int .u8)) (hd:P.underlying dst=some .string)
  (h:RowIs w g e' (tailed a l)):(convert src dst (.slice (some ⟨g,a,none⟩) l.length cap)).run P w=.ok (.string ⟨l.toArray⟩) w:=by
 refine run_convert_bytes_back w src dst e _ cap l hs he hd fun j hj=>?_
 have hc:=h.cell (a+j) (by rw [tailed_len]; omega);have e1:(⟨g,a,none⟩:Addr).add j=⟨g,a+j,none⟩:=by
  unfold Addr.add;by_cases h0:j=0
  ·subst h0; simp
  ·simp [h0]
 rw [e1,hc]
 simp [tailed,List.getElem_append_right,Lib.byteCells]
theorem pow_div {m a:Nat} (h:m < 10 ^ a) (ha:1≤a):m / 10 < 10 ^ (a - 1):=by
 obtain ⟨c,rfl⟩:∃ c,a=c+1:=⟨a - 1,by omega⟩
 rw [Nat.pow_succ] at h;have e:c+1 - 1=c:=by omega
 rw [e]; omega
theorem und49:Tryz.prog.underlying 136=some (.array (Tryz.prog.arrayLen 136) (Tryz.prog.elem 136)):=by kernel_rfl
theorem len49:Tryz.prog.arrayLen 136=19:=by kernel_rfl
theorem elem49:Tryz.prog.elem 136=5:=by kernel_rfl
theorem slice19 (u:World) (B a:Nat) (h1:1≤a) (h2:a≤19) :
  (Instr.sliceAt 136 (.pointer (some ⟨B,0,none⟩)) (some (.int .i64 ((a:Int) - 1))) none none).run Tryz.prog u=.ok (.slice (some ⟨B,a - 1,none⟩) (19 - (a - 1)) (19 - (a - 1))) u:=by
 obtain ⟨i0,hi,hz0,hz1,hz2⟩:=info_parts info5;have h:=run_sliceAt_array_l (P:=Tryz.prog) u 136 ⟨B,0,none⟩ und49 .i64 ((a:Int) - 1) (by omega) (by rw [len49]; omega);have e:((a:Int) - 1).toNat=a - 1:=by omega
 rw [h,elem49,len49,e];have hne:¬ (19=a - 1):=by omega
 simp [sizeOf,typeInfo,hi,hz1,slicedAt,hne,Addr.add]
 omega
set_option maxHeartbeats 600000 in
theorem digits_any (n:Nat) (w:World) (hn:n≤9223372036854775807) :
  Calls Tryz.prog 49 #[.int .i64 n] w fun e w'=>e=.returned (.string ⟨(digL n).toArray⟩)∧Below w.heap.size w w':=by
 have hz49:=zero49;have hr0:Hid (RowIs (w.alloc (.cells room0 136)) w.heap.size 136 (tailed 19 [])):=room_row w;have hp0:Hid (n < 10 ^ 19):=by show _ < _; omega
 go_enter Tryz.func49,Tryz.ntmps49
 go_wp2;clear hz49
 go_loopw [0,4] (fun nn at_ wr=>∃ (a m:Nat) (l:List UInt8),1≤a∧a≤19∧m≤9223372036854775807∧at_=.int .i64 a∧nn=.int .i64 m∧Hid (m < 10 ^ a)∧Hid (a+l.length=19) ∧
   Hid (RowIs wr w.heap.size 136 (tailed a l))∧Below w.heap.size w wr∧Hid (digL n=digL m++l)) (fun _ i _=>(intOf i).toNat)
 case atStart=>exact ⟨19,n,[],by omega,by omega,hn,rfl,rfl,hp0,rfl,hr0,(Below.refl _ _).alloc (Nat.le_refl _) _,show _=_ by simp⟩
 case round =>
  clear hr0 hp0;obtain ⟨a,m,l,ha1,ha2,hm,rfl,rfl,hp,hal,hr,hb,hd⟩:=hrel;have ht1:((a:Int) - 1).toNat=a - 1:=by omega
  obtain ⟨x,hc⟩:∃ x,wr.cell? ⟨w.heap.size,a - 1,none⟩=some x:=⟨_,hr.out.cell (a - 1) (by rw [tailed_len]; omega)⟩
  have hf:=hr.out.frozen (a - 1);have hr':Hid (RowIs (wr.setCell ⟨w.heap.size,a - 1,none⟩ (.int .u8 (48+(m:Int) % 10))) w.heap.size 136 (tailed (a - 1) (digb m :: l))):=by
   have h:=hr.out.set (a - 1) (.int .u8 (digb m).toNat);rw [tailed_set a l (digb m) ha1,digb_toNat] at h;exact h
  by_cases hlast:m < 10
  ·have hv:Hid (digL n=digb m :: l):=by show _=_; rw [hd.out,digL_small hlast]; rfl
   have hcv:=conv_row (P:=Tryz.prog) (cap:=(digb m :: l).length) Tryz.underlying100 Tryz.underlying5 Tryz.underlying9 hr'.out;have hll:(digb m :: l).length=19 - (a - 1):=by have:=hal.out; simp; omega
   rw [hll] at hcv;have hq:(m:Int) / 10=0:=by omega
   have hsl:=fun u=>slice19 u w.heap.size a ha1 ha2;clear hll hr hd hp hal;go_wp2;go_ret;exact ⟨by rw [hv.out]; rfl,hb.setCell (Nat.le_refl _) _⟩
  ·have hq:(((m:Int) / 10)==0)=false:=by simp; omega
   have hd':Hid (digL n=digL (m / 10)++(digb m :: l)):=by show _=_; rw [hd.out,digL_big hlast,List.append_assoc]; rfl
   have hp':Hid (m / 10 < 10 ^ (a - 1)):=pow_div hp.out ha1;have ha':1≤a - 1:=by
    by_cases h1:a=1
    ·have:=hp.out; rw [h1] at this; omega
    ·omega
   have hal':Hid ((a - 1)+(digb m :: l).length=19):=by show _=_; have:=hal.out; simp; omega
   clear hr hd hp hal;go_wp2;go_roundw
   case rel=>exact ⟨a - 1,m / 10,digb m :: l,ha',by omega,by omega,by go_num,by go_num,hp',hal',hr',hb.setCell (Nat.le_refl _) _,hd'⟩
   case measure=>simp [intOf]; omega
def usersK:List UInt8:=[38,61,43,36,44,59,63,47]
def paramsK:List UInt8:=[91,93,47,58,38,43,36]
def headersK:List UInt8:=[91,93,47,63,58,43,36]
def escL (keep l:List UInt8):List UInt8:=esc (kpF keep) l
def pairV (keep:List UInt8) (p:Par):List UInt8:=if p.has=true then escL keep p.name++[61]++escL keep p.value else escL keep p.name
def parsT (ps:List Par):List UInt8:=ps.flatMap fun p=>[59]++pairV paramsK p
def hdrT (ps:List Par):List UInt8:=(ps.zipIdx).flatMap fun (p,i)=>(if i=0 then [63] else [38])++pairV headersK p
def frontT (u:Uri):List UInt8:=u.scheme++[58]++(if u.user=[] then [] else escL usersK u.user++[64])++u.host++(if u.port=0 then [] else [58]++digL u.port.toNat)
def textT (u:Uri):List UInt8:=frontT u++parsT u.params++hdrT u.headers
def printV (u:Uri):List UInt8 × Int:=if checkV u=0 then (textT u,0) else ([],checkV u)
theorem listGo_par (b ps:List Par) (h:listGo b ps=true):∀ p ∈ ps,parB p=true:=by
 induction ps generalizing b with
 | nil=>simp
 | cons q ps ih =>
  rw [listGo,Bool.and_eq_true,Bool.and_eq_true] at h;intro p hp
  rcases List.mem_cons.1 hp with rfl | hp
  ·exact h.1
  ·exact ih _ h.2.2 p hp
theorem listB_ok {ps:List Par} (h:listB ps=true):ps.length≤16∧∀ p ∈ ps,parB p=true:=by
 rw [listB,Bool.and_eq_true] at h;exact ⟨by simpa using h.1,listGo_par [] ps h.2⟩
theorem parB_ok {p:Par} (h:parB p=true):1≤p.name.length∧p.name.length≤64∧p.value.length≤64∧(p.has=true∨p.value=[]):=by
 simp only [parB,Bool.and_eq_true,decide_eq_true_eq,Bool.or_eq_true,List.isEmpty_iff] at h;exact h
theorem hostB_ok {l:List UInt8} (h:hostB l=true):1≤l.length∧l.length≤64:=by
 simp only [hostB,Bool.and_eq_true,decide_eq_true_eq] at h;exact ⟨h.1,h.2.1⟩
theorem schemeB_ok {l:List UInt8} (h:schemeB l=true):l.length≤4:=by
 simp only [schemeB,Bool.or_eq_true,beq_iff_eq] at h
 rcases h with rfl | rfl | rfl <;> decide
theorem check_ok {u:Uri} (h:checkV u=0):schemeB u.scheme=true∧u.user.length≤64∧hostB u.host=true∧0≤u.port∧u.port≤65535∧listB u.params=true∧listB u.headers=true∧u.headers.all (·.has)=true:=by
 unfold checkV at h
 cases e1:schemeB u.scheme
 ·simp [e1] at h
 rw [e1,if_neg (by simp)] at h;by_cases e2:64 < u.user.length
 ·simp [e2] at h
 rw [if_neg e2] at h
 cases e3:hostB u.host
 ·simp [e3] at h
 rw [e3,if_neg (by simp)] at h;by_cases e4:u.port < 0∨65535 < u.port
 ·simp [e4] at h
 rw [if_neg e4] at h
 cases e5:listB u.params
 ·simp [e5] at h
 rw [e5,if_neg (by simp)] at h
 cases e6:listB u.headers
 ·simp [e6] at h
 rw [e6,if_neg (by simp)] at h
 cases e7:u.headers.all (·.has)
 ·simp [e7] at h
 exact ⟨rfl,by omega,rfl,by omega,by omega,rfl,rfl,rfl⟩
def insN (ins:Bool) (x:UInt8):Bool:=if x=93 then false else if x=91 then true else ins
def whereGo:Bool → List UInt8 → Nat
 | _,[]=>0
 | ins,x :: l=>if ins=false∧x=58 then 0 else 1+whereGo (insN ins x) l
def portV (host l:List UInt8) (k:Nat):List UInt8 × Int × Int :=
 if k=l.length then (host,0,0)
 else if (numV 65535 (l.drop (k+1))).2 ≠ 0∨(numV 65535 (l.drop (k+1))).1=0 then ([],0,33) else (host,(numV 65535 (l.drop (k+1))).1,0)
def whereV (l:List UInt8):List UInt8 × Int × Int :=
 if hostB (lowL (l.take (whereGo false l)))=true then portV (lowL (l.take (whereGo false l))) l (whereGo false l) else ([],0,32)
theorem whereGo_le (b:Bool) (l:List UInt8):whereGo b l≤l.length:=by
 induction l generalizing b with
 | nil=>simp [whereGo]
 | cons x l ih =>
  rw [whereGo]
  split
  ·simp
  ·have:=ih (insN b x); simp; omega
theorem hexd_hex (n:Nat) (h:n < 16):isB (hexd n).toNat 4=true:=by
 have hh:∀ n:Fin 16,isB ((hexd n.val).toNat:Int) 4=true:=by decide +kernel
 exact hh ⟨n,h⟩
theorem hexd_back (b:UInt8):hxb (hexd (b.toNat / 16)) (hexd (b.toNat % 16))=b:=by
 have hh:∀ n:Fin 256,hxb (hexd (n.val / 16)) (hexd (n.val % 16))=UInt8.ofNat n.val:=by decide +kernel
 have:=hh ⟨b.toNat,b.toNat_lt⟩
 simpa using this
theorem une_esc (keep:List UInt8):∀ l:List UInt8,une (esc (kpF keep) l)=some l
 | []=>rfl
 | b :: r=>by
  have ih:=une_esc keep r;by_cases hf:free (kpF keep) b=true
  ·have h37:(b.toNat:Int) ≠ 37:=by
    intro e;have e':b.toNat=37:=by omega
    rw [free,kpF,if_pos e',e'] at hf;exact absurd hf (by decide +kernel)
   rw [esc,if_pos hf]
   show une (b :: esc (kpF keep) r)=_
   rw [une_plain h37,ih]; rfl
  ·rw [esc,if_neg hf]
   show une (37 :: hexd (b.toNat / 16) :: hexd (b.toNat % 16) :: esc (kpF keep) r)=_
   have:=b.toNat_lt
   rw [une_hex (by decide) (hexd_hex _ (by omega)) (hexd_hex _ (Nat.mod_lt _ (by decide))),ih,hexd_back]; rfl
theorem numL_append (most:Int):∀ (a b:List UInt8) (n:Int),numL most n (a++b)=(numL most n a).bind fun x=>numL most x b
 | [],b,n=>rfl
 | c :: a,b,n=>by
  simp only [List.cons_append,numL]
  split
  ·rfl
  ·exact numL_append most a b _
theorem numL_digits (k:Nat):∀ (m most:Nat),m≤k → m≤most → numL most 0 (digL m)=some (m:Int):=by
 induction k with
 | zero =>
  intro m most hk hm;have h0:m=0:=by omega
  subst h0;rw [digL_small (by omega),numL,if_neg (by rw [digb_toNat]; omega),numL,digb_toNat]
  congr 1
 | succ k ih =>
  intro m most hk hm;by_cases h:m < 10
  ·rw [digL_small h,numL,if_neg (by rw [digb_toNat]; omega),numL,digb_toNat]
   congr 1
   omega
  ·rw [digL_big h,numL_append,ih (m / 10) most (by omega) (by omega)]
   show numL (most:Int) ((m / 10:Nat):Int) [digb m]=_
   rw [numL,if_neg (by rw [digb_toNat]; omega),numL,digb_toNat]
   congr 1
   omega
theorem digits_all (k:Nat):∀ m:Nat,m≤k → allB 1 (digL m)=true:=by
 have hd:∀ m,isB (digb m).toNat 1=true:=by
  intro m;have hb:=u8_bd (digb m);rw [isB_digit _ hb.1 hb.2,digb_toNat]
  simp
  omega
 induction k with
 | zero=>intro m hm; rw [digL_small (by omega)]; simp [allB,hd]
 | succ k ih =>
  intro m hm;by_cases h:m < 10
  ·rw [digL_small h]; simp [allB,hd]
  ·rw [digL_big h,allB_snoc,ih (m / 10) (by omega),hd]; rfl
theorem digits_ne (m:Nat):digL m ≠ []:=by
 by_cases h:m < 10
 ·rw [digL_small h]; simp
 ·rw [digL_big h]; simp
def noU:Uri:=⟨[],[],[],0,[],[]⟩
def userV (s:List UInt8):List UInt8 × List UInt8 × Int :=
 if (cutL 64 s).2.2=true then
  (if (writtenV usersK (cutL 64 s).1).2=false∨(writtenV usersK (cutL 64 s).1).1=[]∨64 < (writtenV usersK (cutL 64 s).1).1.length then ([],[],31)
   else ((writtenV usersK (cutL 64 s).1).1,(cutL 64 s).2.1,0))
 else ([],s,0)
def headsV (asked:Bool) (back:List UInt8):Option (List Par):=if asked=true then parsOf headersK (splitL 38 back) else some []
def fillV (w:List UInt8 × Int × Int):Option (List Par) → Option (List Par) → Uri × Int
 | some ps,some hs=>(⟨[],[],w.1,w.2.1,ps,hs⟩,0)
 | _,_=>(noU,34)
def restV (s:List UInt8):Uri × Int :=
 if (whereV ((splitL 59 (cutL 63 s).1).headD [])).2.2 ≠ 0 then (noU,(whereV ((splitL 59 (cutL 63 s).1).headD [])).2.2)
 else fillV (whereV ((splitL 59 (cutL 63 s).1).headD [])) (parsOf paramsK (splitL 59 (cutL 63 s).1).tail) (headsV (cutL 63 s).2.2 (cutL 63 s).2.1)
def endV (u:Uri):Uri × Int:=if checkV u ≠ 0 then (noU,checkV u) else (u,0)
def bothV (sch us:List UInt8) (r:Uri × Int):Uri × Int:=if r.2 ≠ 0 then (noU,r.2) else endV { r.1 with scheme:=sch,user:=us }
def parseV (s:List UInt8):Uri × Int :=
 if (cutL 58 s).2.2=false∨schemeB (lowL (cutL 58 s).1)=false then (noU,30)
 else if (userV (cutL 58 s).2.1).2.2 ≠ 0 then (noU,(userV (cutL 58 s).2.1).2.2)
 else bothV (lowL (cutL 58 s).1) (userV (cutL 58 s).2.1).1 (restV (userV (cutL 58 s).2.1).2.1)
theorem esc_free (kp:Nat → Bool):∀ (l:List UInt8),∀ b ∈ esc kp l,b=37∨isB b.toNat 16=true∨kp b.toNat=true
 | [],b,h=>by simp [esc] at h
 | x :: r,b,h=>by
  have ih:=esc_free kp r b;rw [esc] at h;by_cases hf:free kp x=true
  ·rw [if_pos hf] at h
   rcases List.mem_append.1 h with h | h
   ·have:b=x:=by simpa using h
    subst this
    right; simpa [free] using hf
   ·exact ih h
  ·rw [if_neg hf] at h;have hx:∀ n:Fin 16,isB ((hexd n.val).toNat:Int) 16=true:=by decide +kernel
   rcases List.mem_append.1 h with h | h
   ·simp only [List.mem_cons,List.not_mem_nil,or_false] at h
    have:=x.toNat_lt
    rcases h with rfl | rfl | rfl
    ·exact .inl rfl
    ·exact .inr (.inl (hx ⟨x.toNat / 16,by omega⟩))
    ·exact .inr (.inl (hx ⟨x.toNat % 16,Nat.mod_lt _ (by decide)⟩))
   ·exact ih h
theorem inK_mem (keep:List UInt8) (b:UInt8):inK keep b.toNat=hasL b keep:=by
 unfold inK hasL
 induction keep with
 | nil=>rfl
 | cons x l ih =>
  simp only [List.any_cons,List.contains_cons,ih]
  congr 1
  rw [Bool.eq_iff_iff];simp only [beq_iff_eq]
  constructor
  ·intro h; exact (UInt8.toNat_inj.1 h).symm
  ·intro h; rw [h]
theorem escL_ok (keep l:List UInt8):∀ b ∈ escL keep l,okw keep b=true:=by
 intro b hb
 rcases esc_free _ l b hb with h | h | h
 ·simp [okw,h]
 ·simp [okw,h]
 ·unfold kpF at h;by_cases e:b.toNat=37
  ·rw [if_pos e] at h; simp at h
  ·rw [if_neg e,inK_mem] at h
   simp [okw,h]
theorem written_esc (keep l:List UInt8):writtenV keep (escL keep l)=(l,true):=by
 rw [written_all (by rw [List.all_eq_true]; exact escL_ok keep l),escL,unescV_some (une_esc keep l)]; rfl
theorem escL_not {keep l:List UInt8} {c:UInt8} (h:okw keep c=false):c ∉ escL keep l:=by
 intro hc; rw [escL_ok keep l c hc] at h; cases h
theorem par_back {keep:List UInt8} {p:Par} (h61:okw keep 61=false) (hp:parB p=true):parOf keep (pairV keep p)=some p:=by
 obtain ⟨h1,h2,h3,h4⟩:=parB_ok hp;unfold parOf pairV
 cases hh:p.has
 ·have hv:p.value=[]:=by rcases h4 with h | h; · rw [hh] at h; cases h
                         ·exact h
  simp only [Bool.false_eq_true,if_false];rw [cutL_miss (escL_not h61)];have e0:writtenV keep []=([],true):=by rfl
  simp only [written_esc,e0,and_self,if_true]
  cases p; simp_all
 ·simp only [if_true];rw [List.append_assoc,List.singleton_append,cutL_hit (escL_not h61)];simp only [written_esc,and_self,if_true]
  cases p; simp_all
theorem splitL_miss {c:UInt8} {a:List UInt8} (h:c ∉ a):splitL c a=[a]:=by
 rw [splitL_cut,cutL_miss h]; simp
theorem splitL_hit {c:UInt8} {a b:List UInt8} (h:c ∉ a):splitL c (a++c :: b)=a :: splitL c b:=by
 rw [splitL_cut,cutL_hit h]; simp
theorem splitL_many {c:UInt8} {a:List UInt8} (h:c ∉ a) (ls:List (List UInt8)) (hl:∀ l ∈ ls,c ∉ l):splitL c (a++ls.flatMap fun l=>[c]++l)=a :: ls:=by
 induction ls generalizing a with
 | nil=>simp [splitL_miss h]
 | cons l ls ih =>
  rw [List.flatMap_cons,List.append_assoc,List.singleton_append,splitL_hit h,ih (hl l (by simp)) (fun x hx=>hl x (by simp [hx]))]
theorem parsT_eq (ps:List Par):parsT ps=(ps.map (pairV paramsK)).flatMap fun l=>[59]++l:=by
 rw [parsT,List.flatMap_map]
theorem pars_back {keep:List UInt8} (h61:okw keep 61=false) (ps:List Par) (hp:∀ p ∈ ps,parB p=true):parsOf keep (ps.map (pairV keep))=some ps:=by
 induction ps with
 | nil=>rfl
 | cons p ps ih =>
  rw [List.map_cons,parsOf,par_back h61 (hp p (by simp)),ih (fun q hq=>hp q (by simp [hq]))]
theorem hdrT_cons (p:Par) (ps:List Par):hdrT (p :: ps)=63 :: (pairV headersK p++(ps.map (pairV headersK)).flatMap fun l=>[38]++l):=by
 have key:∀ (n:Nat) (qs:List Par),((qs.zipIdx (n+1)).flatMap fun (p,i)=>(if i=0 then ([63]:List UInt8) else [38])++pairV headersK p)=(qs.map (pairV headersK)).flatMap fun l=>[38]++l:=by
  intro n qs
  induction qs generalizing n with
  | nil=>rfl
  | cons q qs ih =>
   rw [List.zipIdx_cons,List.flatMap_cons,ih (n+1),List.map_cons,List.flatMap_cons]
   simp
 rw [hdrT,List.zipIdx_cons,List.flatMap_cons,key 0]
 simp
theorem pairV_mem {keep:List UInt8} {p:Par} {b:UInt8} (h:b ∈ pairV keep p):b=61∨okw keep b=true:=by
 unfold pairV at h
 split at h
 ·simp only [List.mem_append,List.mem_singleton] at h
  rcases h with (h | h) | h
  ·exact .inr (escL_ok _ _ _ h)
  ·exact .inl h
  ·exact .inr (escL_ok _ _ _ h)
 ·exact .inr (escL_ok _ _ _ h)
theorem pairV_not {keep:List UInt8} {p:Par} {c:UInt8} (h1:c ≠ 61) (h2:okw keep c=false):c ∉ pairV keep p:=by
 intro h
 rcases pairV_mem h with h | h
 ·exact h1 h
 ·rw [h2] at h; cases h
theorem parsT_mem {ps:List Par} {b:UInt8} (h:b ∈ parsT ps):b=59∨b=61∨okw paramsK b=true:=by
 unfold parsT at h;rw [List.mem_flatMap] at h;obtain ⟨p,_,hb⟩:=h;simp only [List.mem_append,List.mem_singleton] at hb
 rcases hb with h | h
 ·exact .inl h
 ·exact .inr (pairV_mem h)
theorem hdrT_mem {ps:List Par} {b:UInt8} (h:b ∈ hdrT ps):b=63∨b=38∨b=61∨okw headersK b=true:=by
 unfold hdrT at h;rw [List.mem_flatMap] at h;obtain ⟨⟨p,i⟩,_,hb⟩:=h;simp only [List.mem_append] at hb
 rcases hb with h | h
 ·split at h
  ·exact .inl (by simpa using h)
  ·exact .inr (.inl (by simpa using h))
 ·exact .inr (.inr (pairV_mem h))
def passB:Bool → List UInt8 → Bool
 | _,[]=>true
 | ins,x :: l=>!(!ins && x==58) && passB (insN ins x) l
theorem whereGo_pass (ins:Bool) (a r:List UInt8) (h:passB ins a=true):whereGo ins (a++r)=a.length+whereGo (a.foldl insN ins) r:=by
 induction a generalizing ins with
 | nil=>simp
 | cons x a ih =>
  rw [passB,Bool.and_eq_true] at h;rw [List.cons_append,whereGo,if_neg (by rintro ⟨e1,e2⟩; simp [e1,e2] at h),ih _ h.2,List.foldl_cons,List.length_cons]; omega
theorem lowb_at {c:UInt8} (x:UInt8) (hc:¬ (97≤c.toNat∧c.toNat≤122)) (hc2:¬ (65≤c.toNat∧c.toNat≤90)):lowb x=c ↔ x=c:=by
 unfold lowb;have hx:=x.toNat_lt
 split
 ·rename_i h
  have e:(x+32).toNat=x.toNat+32:=by rw [UInt8.toNat_add]; show (x.toNat+32) % 256=_; omega
  constructor
  ·intro h2; rw [← h2,e] at hc; omega
  ·intro h2; rw [← h2] at hc2; omega
 ·rfl
theorem insN_low (ins:Bool) (x:UInt8):insN ins (lowb x)=insN ins x:=by
 unfold insN;simp only [lowb_at x (c:=93) (by decide) (by decide),lowb_at x (c:=91) (by decide) (by decide)]
theorem passB_low (ins:Bool) (l:List UInt8):passB ins (lowL l)=passB ins l:=by
 induction l generalizing ins with
 | nil=>rfl
 | cons x l ih =>
  have e:(lowb x==58)=(x==58):=by
   rw [Bool.eq_iff_iff]; simp only [beq_iff_eq]; exact lowb_at x (by decide) (by decide)
  show passB ins (lowb x :: lowL l)=_
  rw [passB,passB,insN_low,ih,e]
theorem fold_low (ins:Bool) (l:List UInt8):(lowL l).foldl insN ins=l.foldl insN ins:=by
 induction l generalizing ins with
 | nil=>rfl
 | cons x l ih =>
  show (lowb x :: lowL l).foldl insN ins=_
  rw [List.foldl_cons,List.foldl_cons,insN_low,ih]
theorem lowL_mem {c:UInt8} {l:List UInt8} (hc:¬ (97≤c.toNat∧c.toNat≤122)) (hc2:¬ (65≤c.toNat∧c.toNat≤90)):c ∈ lowL l ↔ c ∈ l:=by
 unfold lowL;rw [List.mem_map]
 constructor
 ·rintro ⟨x,hx,e⟩; rw [lowb_at x hc hc2] at e; exact e ▸ hx
 ·intro h; exact ⟨c,h,(lowb_at c hc hc2).2 rfl⟩
theorem splitL_mem {c b:UInt8} {l:List UInt8} (h:b ∈ l):b=c∨∃ p ∈ splitL c l,b ∈ p:=by
 induction l with
 | nil=>simp at h
 | cons x l ih =>
  obtain ⟨p,ps,hp⟩:=splitL_cons c l;rw [splitL];by_cases hx:x=c
  ·rw [if_pos hx]
   rcases List.mem_cons.1 h with h | h
   ·exact .inl (h.trans hx)
   ·rcases ih h with h | ⟨q,hq,hb⟩
    ·exact .inl h
    ·exact .inr ⟨q,by simp [hq],hb⟩
  ·rw [if_neg hx];rw [hp] at ih ⊢;simp only [List.headD_cons,List.tail_cons]
   rcases List.mem_cons.1 h with h | h
   ·exact .inr ⟨x :: p,by simp,by simp [h]⟩
   ·rcases ih h with h | ⟨q,hq,hb⟩
    ·exact .inl h
    ·rcases List.mem_cons.1 hq with h | h
     ·exact .inr ⟨x :: p,by simp,by simp [← h,hb]⟩
     ·exact .inr ⟨q,by simp [h],hb⟩
theorem byte_all {P:UInt8 → Prop} (h:∀ n:Fin 256,P (UInt8.ofNat n.val)) (b:UInt8):P b:=by
 have:=h ⟨b.toNat,b.toNat_lt⟩
 simpa using this
def hob (b:UInt8):Bool:=b==91 || (b==93 || (okc b || isB b.toNat 64))
theorem pass_plain (ins:Bool) (l:List UInt8) (h:∀ b ∈ l,b ≠ 58∧b ≠ 91∧b ≠ 93):passB ins l=true∧l.foldl insN ins=ins:=by
 induction l generalizing ins with
 | nil=>exact ⟨rfl,rfl⟩
 | cons x l ih =>
  obtain ⟨h1,h2,h3⟩:=h x (by simp);have e:insN ins x=ins:=by unfold insN; rw [if_neg h3,if_neg h2]
  have:=ih ins (fun b hb=>h b (by simp [hb]))
  refine ⟨?_,?_⟩
  ·rw [passB,e,this.1]; simp [h1]
  ·rw [List.foldl_cons,e,this.2]
theorem pass_in (l:List UInt8) (h:∀ b ∈ l,b ≠ 91∧b ≠ 93):passB true l=true∧l.foldl insN true=true:=by
 induction l with
 | nil=>exact ⟨rfl,rfl⟩
 | cons x l ih =>
  obtain ⟨h2,h3⟩:=h x (by simp);have e:insN true x=true:=by unfold insN; rw [if_neg h3,if_neg h2]
  have:=ih (fun b hb=>h b (by simp [hb]))
  refine ⟨?_,?_⟩
  ·rw [passB,e,this.1]; simp
  ·rw [List.foldl_cons,e,this.2]
theorem passB_append (ins:Bool) (a b:List UInt8):passB ins (a++b)=(passB ins a && passB (a.foldl insN ins) b):=by
 induction a generalizing ins with
 | nil=>simp [passB]
 | cons x a ih=>rw [List.cons_append,passB,passB,ih,List.foldl_cons,Bool.and_assoc]
theorem ends_of {l:List UInt8} (h:2≤l.length):l=l.getD 0 0 :: (mid l 1 (l.length - 1)++[l.getD (l.length - 1) 0]):=by
 cases l with
 | nil=>simp at h
 | cons x l =>
  have hne:l ≠ []:=by intro e; subst e; simp at h
  have e1:mid (x :: l) 1 ((x :: l).length - 1)=l.dropLast:=by
   unfold mid; rw [List.dropLast_eq_take]; simp
  rw [e1];have e2:(x :: l).getD ((x :: l).length - 1) 0=l.getLast hne:=by
   rw [List.getLast_eq_getElem,List.getD_eq_getElem?_getD];have hl:0 < l.length:=List.length_pos_iff.2 hne
   have:(x :: l).length - 1=(l.length - 1)+1:=by simp; omega
   rw [this,List.getElem?_cons_succ,List.getElem?_eq_getElem (by omega)]; rfl
  rw [e2,List.dropLast_concat_getLast hne]; rfl
theorem host_facts {l:List UInt8} (h:hostB l=true):(∀ b ∈ l,hob b=true)∧passB false l=true∧l.foldl insN false=false∧lowL l=l:=by
 have hok:=hostB_ok h;simp only [hostB,Bool.and_eq_true,decide_eq_true_eq,beq_iff_eq] at h;obtain ⟨h1,h2,h3,h4⟩:=h;by_cases hb:l.getD 0 0=91
 ·rw [if_pos hb] at h4;simp only [brkB,Bool.and_eq_true,decide_eq_true_eq,beq_iff_eq] at h4;obtain ⟨h5,h6,h7,h8⟩:=h4;have e:=ends_of (l:=l) (by omega);rw [hb,h6] at e;generalize mid l 1 (l.length - 1)=m at e h7;have hm:∀ b ∈ m,okc b=true:=by rwa [List.all_eq_true] at h7
  have hno:∀ b:UInt8,okc b=true → b ≠ 91∧b ≠ 93:=by
   apply byte_all; decide +kernel
  have hp:=pass_in m (fun b hbm=>hno b (hm b hbm));refine ⟨?_,?_,?_,h3⟩
  ·rw [e];intro b hbm;simp only [List.mem_cons,List.mem_append,List.not_mem_nil,or_false] at hbm
   rcases hbm with rfl | hbm | rfl
   ·rfl
   ·simp [hob,hm b hbm]
   ·rfl
  ·rw [e,passB,passB_append]
   show (_ && (passB true m && passB (m.foldl insN true) [93]))=true
   rw [hp.1,hp.2]; rfl
  ·rw [e,List.foldl_cons,List.foldl_append]
   show ([93]:List UInt8).foldl insN (m.foldl insN true)=false
   rw [hp.2]; rfl
 ·rw [if_neg hb] at h4;rw [List.all_eq_true] at h4;have hall:∀ b ∈ l,b=46∨isB b.toNat 64=true:=by
   intro b hbm
   rcases splitL_mem (c:=46) hbm with h | ⟨p,hp,hbp⟩
   ·exact .inl h
   ·right
    have:=h4 p hp
    simp only [labB,Bool.and_eq_true,allB,List.all_eq_true] at this;exact this.2.1 b hbp
  have hno:∀ b:UInt8,(b=46∨isB b.toNat 64=true) → b ≠ 58∧b ≠ 91∧b ≠ 93:=by
   apply byte_all; decide +kernel
  have hp:=pass_plain false l (fun b hbm=>hno b (hall b hbm));refine ⟨?_,hp.1,hp.2,h3⟩
  intro b hbm
  rcases hall b hbm with rfl | h
  ·rfl
  ·simp [hob,h]
def portT (n:Int):List UInt8:=if n=0 then [] else [58]++digL n.toNat
theorem digL_mem {n:Nat} {b:UInt8} (h:b ∈ digL n):isB b.toNat 1=true:=by
 have:=digits_all n n (Nat.le_refl _)
 rw [allB,List.all_eq_true] at this;exact this b h
theorem where_back {h:List UInt8} {n:Int} (hh:hostB (lowL h)=true) (h0:0≤n) (h1:n≤65535):whereV (h++portT n)=(lowL h,n,0):=by
 obtain ⟨_,hp,hf,_⟩:=host_facts hh;rw [passB_low] at hp;rw [fold_low] at hf;unfold portT;by_cases hn:n=0
 ·subst hn;have e:whereGo false h=h.length:=by
   have:=whereGo_pass false h [] hp
   rw [List.append_nil] at this;rw [this]; simp [whereGo]
  rw [if_pos rfl,List.append_nil,whereV,e,List.take_length,if_pos hh,portV,if_pos rfl]
 ·rw [if_neg hn];have e:whereGo false (h++([58]++digL n.toNat))=h.length:=by
   rw [whereGo_pass false h _ hp,hf]; simp [whereGo]
  have hnum:numV 65535 (digL n.toNat)=(n,0):=by
   have:=numL_digits n.toNat n.toNat 65535 (Nat.le_refl _) (by omega)
   rw [numV,if_neg (by simp [digits_ne,digits_all n.toNat n.toNat (Nat.le_refl _)])];have e2:((65535:Nat):Int)=65535:=rfl;rw [← e2,this]
   have:((n.toNat:Nat):Int)=n:=by omega
   simp [this]
  have ed:(h++([58]++digL n.toNat)).drop (h.length+1)=digL n.toNat:=by
   rw [List.drop_append,List.drop_eq_nil_of_le (by omega)]; simp
  rw [whereV,e,List.take_left,if_pos hh,portV,ed,hnum,if_neg (by simp),if_neg (by simp [hn])]
theorem not_of_low {c:UInt8} {l m:List UInt8} (e:lowL l=m) (hc:¬ (97≤c.toNat∧c.toNat≤122)) (hc2:¬ (65≤c.toNat∧c.toNat≤90)) (h:c ∉ m):c ∉ l:=by
 rw [← lowL_mem hc hc2,e]; exact h
theorem host_not {c:UInt8} {l:List UInt8} (h:hostB l=true) (hc:hob c=false):c ∉ l:=by
 intro hm; rw [(host_facts h).1 c hm] at hc; cases hc
theorem scheme_not {l:List UInt8} (h:schemeB l=true):(58:UInt8) ∉ l∧lowL l=l:=by
 simp only [schemeB,Bool.or_eq_true,beq_iff_eq] at h
 rcases h with rfl | rfl | rfl <;> exact ⟨by decide,by decide⟩
theorem portT_not {n:Int} {c:UInt8} (h58:c ≠ 58) (hd:isB c.toNat 1=false):c ∉ portT n:=by
 unfold portT
 split
 ·simp
 ·intro h;rw [List.singleton_append,List.mem_cons] at h
  rcases h with h | h
  ·exact h58 h
  ·rw [digL_mem h] at hd; cases hd
theorem parsT_not {ps:List Par} {c:UInt8} (h1:c ≠ 59) (h2:c ≠ 61) (h:okw paramsK c=false):c ∉ parsT ps:=by
 intro hm
 rcases parsT_mem hm with e | e | e
 ·exact h1 e
 ·exact h2 e
 ·rw [h] at e; cases e
theorem hdrT_not {ps:List Par} {c:UInt8} (h0:c ≠ 63) (h1:c ≠ 38) (h2:c ≠ 61) (h:okw headersK c=false):c ∉ hdrT ps:=by
 intro hm
 rcases hdrT_mem hm with e | e | e | e
 ·exact h0 e
 ·exact h1 e
 ·exact h2 e
 ·rw [h] at e; cases e
theorem rest_back {h:List UInt8} {n:Int} {ps hs:List Par} (hh:hostB (lowL h)=true) (h0:0≤n) (h1:n≤65535) (hp:listB ps=true) (hq:listB hs=true) :
  restV (h++portT n++parsT ps++hdrT hs)=(⟨[],[],lowL h,n,ps,hs⟩,0):=by
 have hps:=(listB_ok hp).2;have hqs:=(listB_ok hq).2;have a59:(59:UInt8) ∉ h++portT n:=by
  rw [List.mem_append,not_or];exact ⟨not_of_low rfl (by decide) (by decide) (host_not hh (by decide +kernel)),portT_not (by decide) (by decide +kernel)⟩
 have a63:(63:UInt8) ∉ h++portT n++parsT ps:=by
  rw [List.mem_append,List.mem_append,not_or,not_or];exact ⟨⟨not_of_low rfl (by decide) (by decide) (host_not hh (by decide +kernel)),portT_not (by decide) (by decide +kernel)⟩,parsT_not (by decide) (by decide) (by decide +kernel)⟩
 have hsp:splitL 59 (h++portT n++parsT ps)=(h++portT n) :: ps.map (pairV paramsK):=by
  rw [parsT_eq]
  apply splitL_many a59
  intro l hl;obtain ⟨p,_,rfl⟩:=List.mem_map.1 hl;exact pairV_not (by decide) (by decide +kernel)
 have hw:=where_back hh h0 h1;have hpp:=pars_back (keep:=paramsK) (by decide +kernel) ps hps
 cases hs with
 | nil =>
  have e:hdrT []=[]:=rfl;rw [e,List.append_nil,restV,cutL_miss a63];simp only [hsp,List.headD_cons,List.tail_cons,hw,hpp]
  rfl
 | cons q qs =>
  have hcut:cutL 63 (h++portT n++parsT ps++hdrT (q :: qs))=(h++portT n++parsT ps,pairV headersK q++(qs.map (pairV headersK)).flatMap fun l=>[38]++l,true):=by
   rw [hdrT_cons,cutL_hit a63]
  have hsq:splitL 38 (pairV headersK q++(qs.map (pairV headersK)).flatMap fun l=>[38]++l)=(q :: qs).map (pairV headersK):=by
   rw [splitL_many]
   ·rfl
   ·exact pairV_not (by decide) (by decide +kernel)
   ·intro l hl;obtain ⟨p,_,rfl⟩:=List.mem_map.1 hl;exact pairV_not (by decide) (by decide +kernel)
  have hqq:=pars_back (keep:=headersK) (by decide +kernel) (q :: qs) hqs;rw [restV,hcut];simp only [hsp,List.headD_cons,List.tail_cons,hw,hpp,headsV,if_true,hsq,hqq]
  rfl
def userT (l:List UInt8):List UInt8:=if l=[] then [] else escL usersK l++[64]
theorem parse_of {u:Uri} {sch h:List UInt8} (hc:checkV u=0) (e1:lowL sch=u.scheme) (e2:lowL h=u.host) :
  parseV (sch++[58]++userT u.user++h++portT u.port++parsT u.params++hdrT u.headers)=(u,0):=by
 obtain ⟨c1,c2,c3,c4,c5,c6,c7,c8⟩:=check_ok hc;have hh:hostB (lowL h)=true:=by rw [e2]; exact c3
 have hrest:=rest_back (h:=h) hh c4 c5 c6 c7;have a58:(58:UInt8) ∉ sch:=not_of_low e1 (by decide) (by decide) (scheme_not c1).1;have hcut:cutL 58 (sch++[58]++userT u.user++h++portT u.port++parsT u.params++hdrT u.headers)=(sch,userT u.user++(h++portT u.port++parsT u.params++hdrT u.headers),true):=by
  have:sch++[58]++userT u.user++h++portT u.port++parsT u.params++hdrT u.headers=sch++58 :: (userT u.user++(h++portT u.port++parsT u.params++hdrT u.headers)):=by simp
  rw [this,cutL_hit a58]
 have huser:userV (userT u.user++(h++portT u.port++parsT u.params++hdrT u.headers))=(u.user,h++portT u.port++parsT u.params++hdrT u.headers,0):=by
  by_cases hu:u.user=[]
  ·have a64:(64:UInt8) ∉ h++portT u.port++parsT u.params++hdrT u.headers:=by
    simp only [List.mem_append,not_or];exact ⟨⟨⟨not_of_low rfl (by decide) (by decide) (host_not hh (by decide +kernel)),portT_not (by decide) (by decide +kernel)⟩,parsT_not (by decide) (by decide) (by decide +kernel)⟩,hdrT_not (by decide) (by decide) (by decide) (by decide +kernel)⟩
   rw [userT,if_pos hu,List.nil_append,userV,cutL_miss a64,if_neg (by simp),hu]
  ·rw [userT,if_neg hu,List.append_assoc,List.singleton_append,userV,cutL_hit (escL_not (by decide +kernel))];simp only [if_true,written_esc];rw [if_neg (by simp [hu]; omega)]
 rw [parseV,hcut];simp only [e1,c1,huser,hrest];rw [if_neg (by simp),if_neg (by simp),bothV,if_neg (by simp),endV]
 have:({ (⟨[],[],lowL h,u.port,u.params,u.headers⟩:Uri) with scheme:=u.scheme,user:=u.user }:Uri)=u:=by
  cases u; simp only at e2 ⊢; rw [e2]
 rw [this,if_neg (by simp [hc])]
theorem parse_text {u:Uri} (hc:checkV u=0):parseV (textT u)=(u,0):=by
 obtain ⟨c1,c2,c3,c4,c5,c6,c7,c8⟩:=check_ok hc
 have:=parse_of hc (scheme_not c1).2 (host_facts c3).2.2.2
 have e:textT u=u.scheme++[58]++userT u.user++u.host++portT u.port++parsT u.params++hdrT u.headers:=rfl;rw [e,this]
end Go.Proofs.YtdnekampnkhmfaaGreatDoor
