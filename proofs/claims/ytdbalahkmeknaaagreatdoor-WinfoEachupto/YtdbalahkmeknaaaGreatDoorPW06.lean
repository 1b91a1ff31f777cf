/-
  PListL, Digits, PrintL, CheckL, WhereL, BackL, ParseL, UBackL, SameL, AddrBackL, XmlL, XmlBackL, XmlTreeL.
-/
import Derived.Test.YtdbalahkmeknaaaGreatDoorPW04
set_option linter.unusedVariables false
set_option linter.unusedSimpArgs false
set_option maxRecDepth 20000
namespace Go.Proofs.YtdbalahkmeknaaaGreatDoor
open Go.RowKit Sc
def parB (p:Par):Bool:=decide (1≤p.name.length) && (decide (p.name.length≤64) && (decide (p.value.length≤64) && (p.has || p.value.isEmpty)))
def apartB (ps:List Par) (nm:List UInt8):Bool:=ps.all fun q=>!sameB q.name nm
def listGo:List Par → List Par → Bool
 | _,[]=>true
 | before,p :: ps=>parB p && (apartB before p.name && listGo (before++[p]) ps)
def listB (ps:List Par):Bool:=decide (ps.length≤16) && listGo [] ps
def checkV (u:Uri):Int :=
 if schemeB u.scheme=false then 30 else if 64 < u.user.length then 31 else if hostB u.host=false then 32 else if u.port < 0∨65535 < u.port then 33
 else if listB u.params=false then 34 else if listB u.headers=false then 34 else if u.headers.all (·.has)=false then 34 else 0
theorem listGo_at (ps:List Par) (k:Nat) (hk:k < ps.length):listGo (ps.take k) (ps.drop k)=(parB ps[k] && (apartB (ps.take k) ps[k].name && listGo (ps.take (k+1)) (ps.drop (k+1)))):=by
 rw [List.drop_eq_getElem_cons hk,listGo,List.take_succ_eq_append_getElem hk]
def digb (n:Nat):UInt8:=UInt8.ofNat (48+n % 10)
def digL (n:Nat):List UInt8:=if n < 10 then [digb n] else digL (n / 10)++[digb n]
termination_by n
decreasing_by omega
theorem digL_small {n:Nat} (h:n < 10):digL n=[digb n]:=by rw [digL,if_pos h]
theorem digL_big {n:Nat} (h:¬ n < 10):digL n=digL (n / 10)++[digb n]:=by rw [digL,if_neg h]
theorem digb_toNat (n:Nat):((digb n).toNat:Int)=48+(n:Int) % 10:=by
 have h:n % 10 < 10:=Nat.mod_lt _ (by decide);rw [digb,UInt8.toNat_ofNat'];omega
theorem digL_len (a:Nat):∀ n:Nat,n < 10 ^ (a+1) → (digL n).length≤a+1:=by
 induction a with
 | zero=>intro n h; rw [digL_small (by simpa using h)]; simp
 | succ a ih =>
  intro n h;by_cases hn:n < 10
  ·rw [digL_small hn]; simp
  ·rw [digL_big hn,List.length_append]
   have:=ih (n / 10) (by rw [Nat.pow_succ] at h; omega)
   simp; omega
theorem digL_len19 {n:Nat} (h:n≤9223372036854775807):(digL n).length≤19:=digL_len 18 n (by omega)
def room0:Array Value:=(List.replicate 19 (.int .u8 0)).toArray
theorem zero49 (u:World):Sem.run Tryz.prog (zeroValue 117) u=.ok (.agg room0) u:=by kernel_rfl
def tailed (a:Nat) (l:List UInt8):List Value:=List.replicate a (.int .u8 0)++Lib.byteCells l
theorem tailed_len (a:Nat) (l:List UInt8):(tailed a l).length=a+l.length:=by simp [tailed,Lib.byteCells]
theorem tailed_set (a:Nat) (l:List UInt8) (b:UInt8) (ha:1≤a):(tailed a l).set (a - 1) (.int .u8 b.toNat)=tailed (a - 1) (b :: l):=by
 obtain ⟨c,rfl⟩:∃ c,a=c+1:=⟨a - 1,by omega⟩
 have e:c+1 - 1=c:=by omega
 rw [e,tailed,tailed,List.replicate_succ',List.append_assoc,List.set_append_right _ _ (by simp)]
 simp [Lib.byteCells]
theorem room_row (w:World):RowIs (w.alloc (.cells room0 117)) w.heap.size 117 (tailed 19 []):=by
 unfold RowIs;rw [heap_alloc_new]
 rfl
theorem conv_row {P:Program} {w:World} {g e e' src dst a cap:Nat} {l:List UInt8} (hs:P.underlying src=some (.slice e)) (he:P.underlying e=some (.int .u8)) (hd:P.underlying dst=some .string)
  (h:RowIs w g e' (tailed a l)):(convert src dst (.slice (some ⟨g,a,none⟩) l.length cap)).run P w=.ok (.string ⟨l.toArray⟩) w:=by
 refine run_convert_bytes_back w src dst e _ cap l hs he hd fun j hj=>?_
 have hc:=h.cell (a+j) (by rw [tailed_len]; omega)
 have e1:(⟨g,a,none⟩:Addr).add j=⟨g,a+j,none⟩:=by
  unfold Addr.add;by_cases h0:j=0
  ·subst h0; simp
  ·simp [h0]
 rw [e1,hc]
 simp [tailed,List.getElem_append_right,Lib.byteCells]
theorem pow_div {m a:Nat} (h:m < 10 ^ a) (ha:1≤a):m / 10 < 10 ^ (a - 1):=by
 obtain ⟨c,rfl⟩:∃ c,a=c+1:=⟨a - 1,by omega⟩
 rw [Nat.pow_succ] at h;have e:c+1 - 1=c:=by omega
 rw [e]; omega
theorem und49:Tryz.prog.underlying 117=some (.array (Tryz.prog.arrayLen 117) (Tryz.prog.elem 117)):=by kernel_rfl
theorem len49:Tryz.prog.arrayLen 117=19:=by kernel_rfl
theorem elem49:Tryz.prog.elem 117=5:=by kernel_rfl
theorem slice19 (u:World) (B a:Nat) (h1:1≤a) (h2:a≤19) :
  (Instr.sliceAt 117 (.pointer (some ⟨B,0,none⟩)) (some (.int .i64 ((a:Int) - 1))) none none).run Tryz.prog u=.ok (.slice (some ⟨B,a - 1,none⟩) (19 - (a - 1)) (19 - (a - 1))) u:=by
 obtain ⟨i0,hi,hz0,hz1,hz2⟩:=info_parts info5;have h:=run_sliceAt_array_l (P:=Tryz.prog) u 117 ⟨B,0,none⟩ und49 .i64 ((a:Int) - 1) (by omega) (by rw [len49]; omega);have e:((a:Int) - 1).toNat=a - 1:=by omega
 rw [h,elem49,len49,e];have hne:¬ (19=a - 1):=by omega
 simp [sizeOf,typeInfo,hi,hz1,slicedAt,hne,Addr.add]
 omega
set_option maxHeartbeats 600000 in
theorem digits_any (n:Nat) (w:World) (hn:n≤9223372036854775807) :
  Calls Tryz.prog 43 #[.int .i64 n] w fun e w'=>e=.returned (.string ⟨(digL n).toArray⟩)∧Below w.heap.size w w':=by
 have hz49:=zero49;have hr0:Hid (RowIs (w.alloc (.cells room0 117)) w.heap.size 117 (tailed 19 [])):=room_row w;have hp0:Hid (n < 10 ^ 19):=by show _ < _; omega
 go_enter Tryz.func43,Tryz.ntmps43
 go_wp2;clear hz49
 go_loopw [0,4] (fun nn at_ wr=>∃ (a m:Nat) (l:List UInt8),1≤a∧a≤19∧m≤9223372036854775807∧at_=.int .i64 a∧nn=.int .i64 m∧Hid (m < 10 ^ a)∧Hid (a+l.length=19) ∧
   Hid (RowIs wr w.heap.size 117 (tailed a l))∧Below w.heap.size w wr∧Hid (digL n=digL m++l)) (fun _ i _=>(intOf i).toNat)
 case atStart=>exact ⟨19,n,[],by omega,by omega,hn,rfl,rfl,hp0,rfl,hr0,(Below.refl _ _).alloc (Nat.le_refl _) _,show _=_ by simp⟩
 case round =>
  clear hr0 hp0;obtain ⟨a,m,l,ha1,ha2,hm,rfl,rfl,hp,hal,hr,hb,hd⟩:=hrel;have ht1:((a:Int) - 1).toNat=a - 1:=by omega
  obtain ⟨x,hc⟩:∃ x,wr.cell? ⟨w.heap.size,a - 1,none⟩=some x:=⟨_,hr.out.cell (a - 1) (by rw [tailed_len]; omega)⟩
  have hf:=hr.out.frozen (a - 1)
  have hr':Hid (RowIs (wr.setCell ⟨w.heap.size,a - 1,none⟩ (.int .u8 (48+(m:Int) % 10))) w.heap.size 117 (tailed (a - 1) (digb m :: l))):=by
   have h:=hr.out.set (a - 1) (.int .u8 (digb m).toNat);rw [tailed_set a l (digb m) ha1,digb_toNat] at h;exact h
  by_cases hlast:m < 10
  ·have hv:Hid (digL n=digb m :: l):=by show _=_; rw [hd.out,digL_small hlast]; rfl
   have hcv:=conv_row (P:=Tryz.prog) (cap:=(digb m :: l).length) Tryz.underlying73 Tryz.underlying5 Tryz.underlying9 hr'.out;have hll:(digb m :: l).length=19 - (a - 1):=by have:=hal.out; simp; omega
   rw [hll] at hcv;have hq:(m:Int) / 10=0:=by omega
   have hsl:=fun u=>slice19 u w.heap.size a ha1 ha2;clear hll hr hd hp hal;go_wp2;go_ret;exact ⟨by rw [hv.out]; rfl,hb.setCell (Nat.le_refl _) _⟩
  ·have hq:(((m:Int) / 10)==0)=false:=by simp; omega
   have hd':Hid (digL n=digL (m / 10)++(digb m :: l)):=by show _=_; rw [hd.out,digL_big hlast,List.append_assoc]; rfl
   have hp':Hid (m / 10 < 10 ^ (a - 1)):=pow_div hp.out ha1
   have ha':1≤a - 1:=by
    by_cases h1:a=1
    ·have:=hp.out; rw [h1] at this; omega
    ·omega
   have hal':Hid ((a - 1)+(digb m :: l).length=19):=by show _=_; have:=hal.out; simp; omega
   clear hr hd hp hal;go_wp2;go_roundw
   case rel=>exact ⟨a - 1,m / 10,digb m :: l,ha',by omega,by omega,by go_num,by go_num,hp',hal',hr',hb.setCell (Nat.le_refl _) _,hd'⟩
   case measure=>simp [intOf]; omega
def usersK:List UInt8:=[38,61,43,36,44,59,63,47]
def paramsK:List UInt8:=[91,93,47,58,38,43,36]
def headersK:List UInt8:=[91,93,47,63,58,43,36]
def escL (keep l:List UInt8):List UInt8:=esc (kpF keep) l
def pairV (keep:List UInt8) (p:Par):List UInt8:=if p.has=true then escL keep p.name++[61]++escL keep p.value else escL keep p.name
def parsT (ps:List Par):List UInt8:=ps.flatMap fun p=>[59]++pairV paramsK p
def hdrT (ps:List Par):List UInt8:=(ps.zipIdx).flatMap fun (p,i)=>(if i=0 then [63] else [38])++pairV headersK p
def frontT (u:Uri):List UInt8:=u.scheme++[58]++(if u.user=[] then [] else escL usersK u.user++[64])++u.host++(if u.port=0 then [] else [58]++digL u.port.toNat)
def textT (u:Uri):List UInt8:=frontT u++parsT u.params++hdrT u.headers
def printV (u:Uri):List UInt8 × Int:=if checkV u=0 then (textT u,0) else ([],checkV u)
theorem listGo_par (b ps:List Par) (h:listGo b ps=true):∀ p ∈ ps,parB p=true:=by
 induction ps generalizing b with
 | nil=>simp
 | cons q ps ih =>
  rw [listGo,Bool.and_eq_true,Bool.and_eq_true] at h;intro p hp
  rcases List.mem_cons.1 hp with rfl | hp
  ·exact h.1
  ·exact ih _ h.2.2 p hp
theorem listB_ok {ps:List Par} (h:listB ps=true):ps.length≤16∧∀ p ∈ ps,parB p=true:=by
 rw [listB,Bool.and_eq_true] at h;exact ⟨by simpa using h.1,listGo_par [] ps h.2⟩
theorem parB_ok {p:Par} (h:parB p=true):1≤p.name.length∧p.name.length≤64∧p.value.length≤64∧(p.has=true∨p.value=[]):=by
 simp only [parB,Bool.and_eq_true,decide_eq_true_eq,Bool.or_eq_true,List.isEmpty_iff] at h;exact h
theorem hostB_ok {l:List UInt8} (h:hostB l=true):1≤l.length∧l.length≤64:=by
 simp only [hostB,Bool.and_eq_true,decide_eq_true_eq] at h;exact ⟨h.1,h.2.1⟩
theorem schemeB_ok {l:List UInt8} (h:schemeB l=true):l.length≤4:=by
 simp only [schemeB,Bool.or_eq_true,beq_iff_eq] at h
 rcases h with rfl | rfl | rfl <;> decide
theorem check_ok {u:Uri} (h:checkV u=0):schemeB u.scheme=true∧u.user.length≤64∧hostB u.host=true∧0≤u.port∧u.port≤65535∧listB u.params=true∧listB u.headers=true∧u.headers.all (·.has)=true:=by
 unfold checkV at h
 cases e1:schemeB u.scheme
 ·simp [e1] at h
 rw [e1,if_neg (by simp)] at h;by_cases e2:64 < u.user.length
 ·simp [e2] at h
 rw [if_neg e2] at h
 cases e3:hostB u.host
 ·simp [e3] at h
 rw [e3,if_neg (by simp)] at h;by_cases e4:u.port < 0∨65535 < u.port
 ·simp [e4] at h
 rw [if_neg e4] at h
 cases e5:listB u.params
 ·simp [e5] at h
 rw [e5,if_neg (by simp)] at h
 cases e6:listB u.headers
 ·simp [e6] at h
 rw [e6,if_neg (by simp)] at h
 cases e7:u.headers.all (·.has)
 ·simp [e7] at h
 exact ⟨rfl,by omega,rfl,by omega,by omega,rfl,rfl,rfl⟩
def insN (ins:Bool) (x:UInt8):Bool:=if x=93 then false else if x=91 then true else ins
def whereGo:Bool → List UInt8 → Nat
 | _,[]=>0
 | ins,x :: l=>if ins=false∧x=58 then 0 else 1+whereGo (insN ins x) l
def portV (host l:List UInt8) (k:Nat):List UInt8 × Int × Int :=
 if k=l.length then (host,0,0)
 else if (numV 65535 (l.drop (k+1))).2 ≠ 0∨(numV 65535 (l.drop (k+1))).1=0 then ([],0,33) else (host,(numV 65535 (l.drop (k+1))).1,0)
def whereV (l:List UInt8):List UInt8 × Int × Int :=
 if hostB (lowL (l.take (whereGo false l)))=true then portV (lowL (l.take (whereGo false l))) l (whereGo false l) else ([],0,32)
theorem whereGo_le (b:Bool) (l:List UInt8):whereGo b l≤l.length:=by
 induction l generalizing b with
 | nil=>simp [whereGo]
 | cons x l ih =>
  rw [whereGo]
  split
  ·simp
  ·have:=ih (insN b x); simp; omega
theorem numL_append (most:Int):∀ (a b:List UInt8) (n:Int),numL most n (a++b)=(numL most n a).bind fun x=>numL most x b
 | [],b,n=>rfl
 | c :: a,b,n=>by
  simp only [List.cons_append,numL]
  split
  ·rfl
  ·exact numL_append most a b _
theorem numL_digits (k:Nat):∀ (m most:Nat),m≤k → m≤most → numL most 0 (digL m)=some (m:Int):=by
 induction k with
 | zero =>
  intro m most hk hm;have h0:m=0:=by omega
  subst h0;rw [digL_small (by omega),numL,if_neg (by rw [digb_toNat]; omega),numL,digb_toNat]
  congr 1
 | succ k ih =>
  intro m most hk hm;by_cases h:m < 10
  ·rw [digL_small h,numL,if_neg (by rw [digb_toNat]; omega),numL,digb_toNat]
   congr 1
   omega
  ·rw [digL_big h,numL_append,ih (m / 10) most (by omega) (by omega)]
   show numL (most:Int) ((m / 10:Nat):Int) [digb m]=_
   rw [numL,if_neg (by rw [digb_toNat]; omega),numL,digb_toNat]
   congr 1
   omega
theorem digits_all (k:Nat):∀ m:Nat,m≤k → allB 1 (digL m)=true:=by
 have hd:∀ m,isB (digb m).toNat 1=true:=by
  intro m;have hb:=u8_bd (digb m);rw [isB_digit _ hb.1 hb.2,digb_toNat]
  simp
  omega
 induction k with
 | zero=>intro m hm; rw [digL_small (by omega)]; simp [allB,hd]
 | succ k ih =>
  intro m hm;by_cases h:m < 10
  ·rw [digL_small h]; simp [allB,hd]
  ·rw [digL_big h,allB_snoc,ih (m / 10) (by omega),hd]; rfl
theorem digits_ne (m:Nat):digL m ≠ []:=by
 by_cases h:m < 10
 ·rw [digL_small h]; simp
 ·rw [digL_big h]; simp
def noU:Uri:=⟨[],[],[],0,[],[]⟩
def userV (s:List UInt8):List UInt8 × List UInt8 × Int :=
 if (cutL 64 s).2.2=true then
  (if (writtenV usersK (cutL 64 s).1).2=false∨(writtenV usersK (cutL 64 s).1).1=[]∨64 < (writtenV usersK (cutL 64 s).1).1.length then ([],[],31)
   else ((writtenV usersK (cutL 64 s).1).1,(cutL 64 s).2.1,0))
 else ([],s,0)
def headsV (asked:Bool) (back:List UInt8):Option (List Par):=if asked=true then parsOf headersK (splitL 38 back) else some []
def fillV (w:List UInt8 × Int × Int):Option (List Par) → Option (List Par) → Uri × Int
 | some ps,some hs=>(⟨[],[],w.1,w.2.1,ps,hs⟩,0)
 | _,_=>(noU,34)
def restV (s:List UInt8):Uri × Int :=
 if (whereV ((splitL 59 (cutL 63 s).1).headD [])).2.2 ≠ 0 then (noU,(whereV ((splitL 59 (cutL 63 s).1).headD [])).2.2)
 else fillV (whereV ((splitL 59 (cutL 63 s).1).headD [])) (parsOf paramsK (splitL 59 (cutL 63 s).1).tail) (headsV (cutL 63 s).2.2 (cutL 63 s).2.1)
def endV (u:Uri):Uri × Int:=if checkV u ≠ 0 then (noU,checkV u) else (u,0)
def bothV (sch us:List UInt8) (r:Uri × Int):Uri × Int:=if r.2 ≠ 0 then (noU,r.2) else endV { r.1 with scheme:=sch,user:=us }
def parseV (s:List UInt8):Uri × Int :=
 if (cutL 58 s).2.2=false∨schemeB (lowL (cutL 58 s).1)=false then (noU,30)
 else if (userV (cutL 58 s).2.1).2.2 ≠ 0 then (noU,(userV (cutL 58 s).2.1).2.2)
 else bothV (lowL (cutL 58 s).1) (userV (cutL 58 s).2.1).1 (restV (userV (cutL 58 s).2.1).2.1)
theorem esc_free (kp:Nat → Bool):∀ (l:List UInt8),∀ b ∈ esc kp l,b=37∨isB b.toNat 16=true∨kp b.toNat=true
 | [],b,h=>by simp [esc] at h
 | x :: r,b,h=>by
  have ih:=esc_free kp r b;rw [esc] at h;by_cases hf:free kp x=true
  ·rw [if_pos hf] at h
   rcases List.mem_append.1 h with h | h
   ·have:b=x:=by simpa using h
    subst this
    right; simpa [free] using hf
   ·exact ih h
  ·rw [if_neg hf] at h;have hx:∀ n:Fin 16,isB ((hexd n.val).toNat:Int) 16=true:=by decide +kernel
   rcases List.mem_append.1 h with h | h
   ·simp only [List.mem_cons,List.not_mem_nil,or_false] at h
    have:=x.toNat_lt
    rcases h with rfl | rfl | rfl
    ·exact .inl rfl
    ·exact .inr (.inl (hx ⟨x.toNat / 16,by omega⟩))
    ·exact .inr (.inl (hx ⟨x.toNat % 16,Nat.mod_lt _ (by decide)⟩))
   ·exact ih h
theorem inK_mem (keep:List UInt8) (b:UInt8):inK keep b.toNat=hasL b keep:=by
 unfold inK hasL
 induction keep with
 | nil=>rfl
 | cons x l ih =>
  simp only [List.any_cons,List.contains_cons,ih]
  congr 1
  rw [Bool.eq_iff_iff];simp only [beq_iff_eq]
  constructor
  ·intro h; exact (UInt8.toNat_inj.1 h).symm
  ·intro h; rw [h]
theorem escL_ok (keep l:List UInt8):∀ b ∈ escL keep l,okw keep b=true:=by
 intro b hb
 rcases esc_free _ l b hb with h | h | h
 ·simp [okw,h]
 ·simp [okw,h]
 ·unfold kpF at h;by_cases e:b.toNat=37
  ·rw [if_pos e] at h; simp at h
  ·rw [if_neg e,inK_mem] at h
   simp [okw,h]
def passB:Bool → List UInt8 → Bool
 | _,[]=>true
 | ins,x :: l=>!(!ins && x==58) && passB (insN ins x) l
theorem splitL_mem {c b:UInt8} {l:List UInt8} (h:b ∈ l):b=c∨∃ p ∈ splitL c l,b ∈ p:=by
 induction l with
 | nil=>simp at h
 | cons x l ih =>
  obtain ⟨p,ps,hp⟩:=splitL_cons c l;rw [splitL];by_cases hx:x=c
  ·rw [if_pos hx]
   rcases List.mem_cons.1 h with h | h
   ·exact .inl (h.trans hx)
   ·rcases ih h with h | ⟨q,hq,hb⟩
    ·exact .inl h
    ·exact .inr ⟨q,by simp [hq],hb⟩
  ·rw [if_neg hx];rw [hp] at ih ⊢;simp only [List.headD_cons,List.tail_cons]
   rcases List.mem_cons.1 h with h | h
   ·exact .inr ⟨x :: p,by simp,by simp [h]⟩
   ·rcases ih h with h | ⟨q,hq,hb⟩
    ·exact .inl h
    ·rcases List.mem_cons.1 hq with h | h
     ·exact .inr ⟨x :: p,by simp,by simp [← h,hb]⟩
     ·exact .inr ⟨q,by simp [h],hb⟩
theorem byte_all {P:UInt8 → Prop} (h:∀ n:Fin 256,P (UInt8.ofNat n.val)) (b:UInt8):P b:=by
 have:=h ⟨b.toNat,b.toNat_lt⟩
 simpa using this
def hob (b:UInt8):Bool:=b==91 || (b==93 || (okc b || isB b.toNat 64))
theorem pass_plain (ins:Bool) (l:List UInt8) (h:∀ b ∈ l,b ≠ 58∧b ≠ 91∧b ≠ 93):passB ins l=true∧l.foldl insN ins=ins:=by
 induction l generalizing ins with
 | nil=>exact ⟨rfl,rfl⟩
 | cons x l ih =>
  obtain ⟨h1,h2,h3⟩:=h x (by simp);have e:insN ins x=ins:=by unfold insN; rw [if_neg h3,if_neg h2]
  have:=ih ins (fun b hb=>h b (by simp [hb]))
  refine ⟨?_,?_⟩
  ·rw [passB,e,this.1]; simp [h1]
  ·rw [List.foldl_cons,e,this.2]
theorem pass_in (l:List UInt8) (h:∀ b ∈ l,b ≠ 91∧b ≠ 93):passB true l=true∧l.foldl insN true=true:=by
 induction l with
 | nil=>exact ⟨rfl,rfl⟩
 | cons x l ih =>
  obtain ⟨h2,h3⟩:=h x (by simp);have e:insN true x=true:=by unfold insN; rw [if_neg h3,if_neg h2]
  have:=ih (fun b hb=>h b (by simp [hb]))
  refine ⟨?_,?_⟩
  ·rw [passB,e,this.1]; simp
  ·rw [List.foldl_cons,e,this.2]
theorem passB_append (ins:Bool) (a b:List UInt8):passB ins (a++b)=(passB ins a && passB (a.foldl insN ins) b):=by
 induction a generalizing ins with
 | nil=>simp [passB]
 | cons x a ih=>rw [List.cons_append,passB,passB,ih,List.foldl_cons,Bool.and_assoc]
theorem ends_of {l:List UInt8} (h:2≤l.length):l=l.getD 0 0 :: (mid l 1 (l.length - 1)++[l.getD (l.length - 1) 0]):=by
 cases l with
 | nil=>simp at h
 | cons x l =>
  have hne:l ≠ []:=by intro e; subst e; simp at h
  have e1:mid (x :: l) 1 ((x :: l).length - 1)=l.dropLast:=by
   unfold mid; rw [List.dropLast_eq_take]; simp
  rw [e1]
  have e2:(x :: l).getD ((x :: l).length - 1) 0=l.getLast hne:=by
   rw [List.getLast_eq_getElem,List.getD_eq_getElem?_getD];have hl:0 < l.length:=List.length_pos_iff.2 hne
   have:(x :: l).length - 1=(l.length - 1)+1:=by simp; omega
   rw [this,List.getElem?_cons_succ,List.getElem?_eq_getElem (by omega)]; rfl
  rw [e2,List.dropLast_concat_getLast hne]; rfl
theorem host_facts {l:List UInt8} (h:hostB l=true):(∀ b ∈ l,hob b=true)∧passB false l=true∧l.foldl insN false=false∧lowL l=l:=by
 have hok:=hostB_ok h;simp only [hostB,Bool.and_eq_true,decide_eq_true_eq,beq_iff_eq] at h;obtain ⟨h1,h2,h3,h4⟩:=h;by_cases hb:l.getD 0 0=91
 ·rw [if_pos hb] at h4;simp only [brkB,Bool.and_eq_true,decide_eq_true_eq,beq_iff_eq] at h4;obtain ⟨h5,h6,h7,h8⟩:=h4;have e:=ends_of (l:=l) (by omega);rw [hb,h6] at e;generalize mid l 1 (l.length - 1)=m at e h7;have hm:∀ b ∈ m,okc b=true:=by rwa [List.all_eq_true] at h7
  have hno:∀ b:UInt8,okc b=true → b ≠ 91∧b ≠ 93:=by
   apply byte_all; decide +kernel
  have hp:=pass_in m (fun b hbm=>hno b (hm b hbm));refine ⟨?_,?_,?_,h3⟩
  ·rw [e];intro b hbm;simp only [List.mem_cons,List.mem_append,List.not_mem_nil,or_false] at hbm
   rcases hbm with rfl | hbm | rfl
   ·rfl
   ·simp [hob,hm b hbm]
   ·rfl
  ·rw [e,passB,passB_append]
   show (_ && (passB true m && passB (m.foldl insN true) [93]))=true
   rw [hp.1,hp.2]; rfl
  ·rw [e,List.foldl_cons,List.foldl_append]
   show ([93]:List UInt8).foldl insN (m.foldl insN true)=false
   rw [hp.2]; rfl
 ·rw [if_neg hb] at h4;rw [List.all_eq_true] at h4
  have hall:∀ b ∈ l,b=46∨isB b.toNat 64=true:=by
   intro b hbm
   rcases splitL_mem (c:=46) hbm with h | ⟨p,hp,hbp⟩
   ·exact .inl h
   ·right
    have:=h4 p hp
    simp only [labB,Bool.and_eq_true,allB,List.all_eq_true] at this;exact this.2.1 b hbp
  have hno:∀ b:UInt8,(b=46∨isB b.toNat 64=true) → b ≠ 58∧b ≠ 91∧b ≠ 93:=by
   apply byte_all; decide +kernel
  have hp:=pass_plain false l (fun b hbm=>hno b (hall b hbm));refine ⟨?_,hp.1,hp.2,h3⟩
  intro b hbm
  rcases hall b hbm with rfl | h
  ·rfl
  ·simp [hob,h]
theorem parse_checked {s:List UInt8} {u:Uri} (h:parseV s=(u,0)):checkV u=0:=by
 unfold parseV at h
 split at h
 ·have:=congrArg Prod.snd h; simp at this
 split at h
 ·rename_i h2; exact absurd (congrArg Prod.snd h) h2
 unfold bothV at h
 split at h
 ·rename_i h2; exact absurd (congrArg Prod.snd h) h2
 unfold endV at h
 split at h
 ·rename_i h2; exact absurd (congrArg Prod.snd h) h2
 ·rename_i h2
  have:=congrArg Prod.fst h
  simp only at this;rw [← this];exact Classical.not_not.1 h2
def sipK:List UInt8:=[115,105,112]
def whoT (u:Uri):List UInt8:=escL usersK u.user++[64]++u.host
def whoV (u:Uri):List UInt8 × Int:=if checkV u ≠ 0 then ([],checkV u) else if u.user=[] then ([],31) else (whoT u,0)
def nameU (sch:List UInt8) (u:Uri):Uri:=⟨sch,u.user,u.host,0,[],[]⟩
theorem check_name {sch:List UInt8} {u:Uri} (hs:schemeB sch=true) (h:checkV u=0):checkV (nameU sch u)=0:=by
 obtain ⟨_,h2,h3,_⟩:=check_ok h;have h2':¬ 64 < u.user.length:=by omega
 simp [checkV,nameU,hs,h2',h3,listB,listGo]
theorem text_name {u:Uri} (hu:u.user ≠ []):textT (nameU sipK u)=[115,105,112,58]++whoT u:=by
 simp [textT,frontT,nameU,hu,parsT,hdrT,whoT,sipK]
theorem print_name {u:Uri} (h:checkV u=0) (hu:u.user ≠ []):printV (nameU sipK u)=([115,105,112,58]++whoT u,0):=by
 rw [printV,if_pos (check_name (by decide +kernel) h),text_name hu]
def hostV (s:List UInt8):List UInt8 × Int :=
 if (parseV ([115,105,112,58]++s)).2 ≠ 0 then ([],(parseV ([115,105,112,58]++s)).2)
 else if whoV (parseV ([115,105,112,58]++s)).1=(s,0) then ((parseV ([115,105,112,58]++s)).1.host,0) else ([],31)
theorem escL_len (keep l:List UInt8):(escL keep l).length≤3 * l.length:=by
 unfold escL
 induction l with
 | nil=>simp [esc]
 | cons b l ih =>
  rw [esc]
  split <;> simp <;> omega
theorem whoT_len {u:Uri} (h:checkV u=0):(whoT u).length≤257:=by
 obtain ⟨_,h2,h3,_⟩:=check_ok h
 have:=hostB_ok h3
 have:=escL_len usersK u.user
 simp [whoT]; omega
theorem last_app {a b:List UInt8} (hb:b ≠ []) {x:UInt8} (h:(a++b).getLast? = some x):b.getLast? = some x:=by
 rw [List.getLast?_append] at h
 cases hl:b.getLast? with
 | none=>exact absurd (List.getLast?_eq_none_iff.1 hl) hb
 | some y=>rw [hl] at h; simpa using h
structure Nd where
 deep:Int
 name:List UInt8
 attrs:List Par
 text:List UInt8
deriving DecidableEq
def xblk (b:UInt8):Bool:=b==32 || (b==9 || (b==13 || b==10))
def xtrim (l:List UInt8):List UInt8:=((l.dropWhile xblk).reverse.dropWhile xblk).reverse
def letX (b:UInt8):Bool:=isB b.toNat 2 || b==95
def namc (b:UInt8):Bool:=letX b || (isB b.toNat 1 || (b==45 || (b==46 || b==58)))
def nameX (l:List UInt8):Bool:=l.all namc && (l.head?.any letX && decide (l.length≤64))
def signX (b:UInt8):Bool:=xblk b || !(decide (b.toNat < 32) || b==127)
def signsX (l:List UInt8):Bool:=l.all signX
def escS (b:UInt8):List UInt8:=if b=38 then [38,97,109,112,59] else if b=60 then [38,108,116,59] else if b=62 then [38,103,116,59] else if b=34 then [38,113,117,111,116,59] else [b]
def escX (l:List UInt8):List UInt8:=l.flatMap escS
def entX (r:List UInt8):Option (UInt8 × Nat) :=
 if r.take 4=[97,109,112,59] then some (38,4) else if r.take 3=[108,116,59] then some (60,3) else if r.take 3=[103,116,59] then some (62,3)
 else if r.take 5=[113,117,111,116,59] then some (34,5) else if r.take 5=[97,112,111,115,59] then some (39,5) else none
def readG:Nat → List UInt8 → Option (List UInt8)
 | _,[]=>some []
 | 0,_ :: _=>none
 | n+1,b :: r=>if b=38 then (match entX r with | none=>none | some (c,k)=>(readG n (r.drop k)).map (c :: ·)) else (readG n r).map (b :: ·)
def readX (l:List UInt8):Option (List UInt8):=readG l.length l
theorem readG_fuel:∀ (n:Nat) (l:List UInt8),l.length≤n → readG n l=readX l:=by
 have key:∀ (n m:Nat) (l:List UInt8),l.length≤n → l.length≤m → readG n l=readG m l:=by
  intro n
  induction n with
  | zero=>intro m l h1 h2; obtain rfl:=List.eq_nil_of_length_eq_zero (Nat.le_zero.1 h1); cases m <;> rfl
  | succ n ih =>
   intro m l h1 h2
   cases l with
   | nil=>cases m <;> rfl
   | cons b r =>
    cases m with
    | zero=>simp at h2
    | succ m =>
     simp only [List.length_cons] at h1 h2;rw [readG,readG]
     split
     ·cases he:entX r with
      | none=>rfl
      | some x=>simp only; rw [ih m (r.drop x.2) (by simp; omega) (by simp; omega)]
     ·rw [ih m r (by omega) (by omega)]
 intro n l h;exact key n l.length l h (Nat.le_refl _)
theorem read_cons {b:UInt8} {r:List UInt8} (h:b ≠ 38):readX (b :: r)=(readX r).map (b :: ·):=by
 unfold readX; rw [List.length_cons,readG,if_neg h]
theorem read_ent {c:UInt8} {r q:List UInt8} {k:Nat} (h:entX r=some (c,k)) (hk:r.drop k=q):readX (38 :: r)=(readX q).map (c :: ·):=by
 unfold readX;rw [List.length_cons,readG,if_pos rfl,h]
 simp only
 rw [hk,readG_fuel _ _ (by rw [← hk]; simp)]; rfl
theorem read_escS (b:UInt8) (r:List UInt8):readX (escS b++r)=(readX r).map (b :: ·):=by
 unfold escS
 split
 ·rename_i h; subst h; exact read_ent (k:=4) (by simp [entX]) (by simp)
 ·split
  ·rename_i h; subst h; exact read_ent (k:=3) (by simp [entX]) (by simp)
  ·split
   ·rename_i h; subst h; exact read_ent (k:=3) (by simp [entX]) (by simp)
   ·split
    ·rename_i h; subst h; exact read_ent (k:=5) (by simp [entX]) (by simp)
    ·rename_i h _ _ _; exact read_cons h
theorem read_esc:∀ l:List UInt8,readX (escX l)=some l
 | []=>rfl
 | b :: l=>by
  have e:escX (b :: l)=escS b++escX l:=by simp [escX]
  rw [e,read_escS,read_esc l]; rfl
theorem escS_free:∀ b:UInt8,(60:UInt8) ∉ escS b∧(62:UInt8) ∉ escS b∧(34:UInt8) ∉ escS b:=by apply byte_all; decide +kernel
theorem escX_free (l:List UInt8):(60:UInt8) ∉ escX l∧(62:UInt8) ∉ escX l∧(34:UInt8) ∉ escX l:=by
 unfold escX;refine ⟨?_,?_,?_⟩ <;> (rw [List.mem_flatMap]; rintro ⟨b,_,hb⟩)
 ·exact (escS_free b).1 hb
 ·exact (escS_free b).2.1 hb
 ·exact (escS_free b).2.2 hb
theorem escX_app (a b:List UInt8):escX (a++b)=escX a++escX b:=by simp [escX]
theorem escX_nil {l:List UInt8}:escX l=[] ↔ l=[]:=by
 constructor
 ·intro h
  cases l with
  | nil=>rfl
  | cons b l =>
   have hb:∀ b:UInt8,escS b ≠ []:=by apply byte_all; decide +kernel
   have e:escX (b :: l)=escS b++escX l:=by simp [escX]
   rw [e] at h; simp at h; exact absurd h.1 (hb b)
 ·rintro rfl; rfl
theorem xdrop_id {l:List UInt8} (h:∀ b,l.head? = some b → xblk b=false):l.dropWhile xblk=l:=by
 cases l with
 | nil=>rfl
 | cons x l=>rw [List.dropWhile_cons,h x rfl]; rfl
theorem xtrim_id {l:List UInt8} (h1:∀ b,l.head? = some b → xblk b=false) (h2:∀ b,l.getLast? = some b → xblk b=false):xtrim l=l:=by
 unfold xtrim;rw [xdrop_id h1,xdrop_id (by intro b hb; rw [List.head?_reverse] at hb; exact h2 b hb),List.reverse_reverse]
theorem xtrim_ends {l:List UInt8} (h:xtrim l=l):(∀ b,l.head? = some b → xblk b=false)∧∀ b,l.getLast? = some b → xblk b=false:=by
 refine ⟨fun b hb=>?_,fun b hb=>?_⟩
 ·rw [← h] at hb;unfold xtrim at hb;rw [List.head?_reverse] at hb;have hs:(l.dropWhile xblk).reverse.dropWhile xblk <:+ (l.dropWhile xblk).reverse:=List.dropWhile_suffix _;obtain ⟨p,hp⟩:=hs
  have hl:(l.dropWhile xblk).reverse.getLast? = some b:=by
   rw [← hp,List.getLast?_append,hb]; rfl
  rw [List.getLast?_reverse] at hl
  cases hd:l.dropWhile xblk with
  | nil=>rw [hd] at hl; simp at hl
  | cons x r =>
   rw [hd] at hl; simp at hl; subst hl
   have:=List.head?_dropWhile_not xblk l
   rw [hd] at this; simpa using this
 ·rw [← h] at hb;unfold xtrim at hb;rw [List.getLast?_reverse] at hb
  have:=List.head?_dropWhile_not xblk (l.dropWhile xblk).reverse
  rw [hb] at this; simpa using this
theorem escS_ends:∀ b:UInt8,(∀ x,(escS b).head? = some x → xblk x=true → xblk b=true)∧(∀ x,(escS b).getLast? = some x → xblk x=true → xblk b=true):=by
 have h:∀ b:UInt8,((escS b).head?.all fun x=>!xblk x || xblk b)=true∧((escS b).getLast?.all fun x=>!xblk x || xblk b)=true:=by apply byte_all; decide +kernel
 intro b;refine ⟨fun x hx hb=>?_,fun x hx hb=>?_⟩
 ·have:=(h b).1; rw [hx] at this; simpa [hb] using this
 ·have:=(h b).2; rw [hx] at this; simpa [hb] using this
theorem escS_ne:∀ b:UInt8,escS b ≠ []:=by apply byte_all; decide +kernel
theorem xtrim_esc {l:List UInt8} (h:xtrim l=l):xtrim (escX l)=escX l:=by
 obtain ⟨h1,h2⟩:=xtrim_ends h
 apply xtrim_id
 ·intro x hx
  cases l with
  | nil=>simp [escX] at hx
  | cons b r =>
   have e:escX (b :: r)=escS b++escX r:=by simp [escX]
   rw [e] at hx
   have hx2:(escS b).head? = some x:=by
    cases hq:escS b with
    | nil=>exact absurd hq (escS_ne b)
    | cons y q=>rw [hq] at hx; simpa using hx
   cases hb:xblk x with
   | false=>rfl
   | true=>have:=h1 b rfl; rw [(escS_ends b).1 x hx2 hb] at this; simp at this
 ·intro x hx
  rcases List.eq_nil_or_concat l with rfl | ⟨r,b,rfl⟩
  ·simp [escX] at hx
  ·have e:escX (r++[b])=escX r++escS b:=by simp [escX]
   simp only [List.concat_eq_append] at hx h2;rw [e] at hx;have hx2:=last_app (escS_ne b) hx
   cases hb:xblk x with
   | false=>rfl
   | true=>have:=h2 b (by simp); rw [(escS_ends b).2 x hx2 hb] at this; simp at this
theorem namc_facts:∀ b:UInt8,namc b=true → xblk b=false∧b ≠ 47∧b ≠ 62∧b ≠ 61∧b ≠ 60∧b ≠ 34:=by apply byte_all; decide +kernel
theorem name_factsX {l:List UInt8} (h:nameX l=true):l ≠ []∧(∀ b ∈ l,namc b=true):=by
 simp only [nameX,Bool.and_eq_true] at h;refine ⟨?_,fun b hb=>List.all_eq_true.1 h.1 b hb⟩
 intro e; subst e; simp at h
def xbehind (l:List UInt8):List UInt8:=(l.reverse.dropWhile xblk).reverse
def attrX (s:List UInt8):Option (Par × List UInt8) :=
 match (s.dropWhile (· != 61)) with
 | []=>none
 | _ :: r=>match r.dropWhile xblk with
  | []=>none
  | q :: r2=>if q ≠ 34∧q ≠ 39 then none
   else match r2.dropWhile (fun b=>b != q && b != 60) with
    | []=>none
    | e :: r3=>if e ≠ q then none else (readX (r2.takeWhile (fun b=>b != q && b != 60))).map fun v=>(⟨xbehind (s.takeWhile (· != 61)),v,true⟩,r3)
def attrsX:Nat → List Par → List UInt8 → Option (List Par × List UInt8)
 | 0,_,_=>none
 | n+1,acc,s=>match s.dropWhile xblk with
  | []=>some (acc,[])
  | b :: r=>if b=47∨b=62 then some (acc,b :: r) else if s.head?.any xblk=false then none else match attrX (b :: r) with
   | none=>none
   | some (p,r2)=>attrsX n (acc++[p]) r2
def endc (b:UInt8):Bool:=b==47 || (b==62 || xblk b)
mutual
def elemX:Nat → Nat → Nat → List UInt8 → Option (List Nd × List UInt8)
 | 0,_,_,_=>none
 | n+1,d,c,s=>match s with
  | []=>none
  | b :: r=>if 8≤d∨200≤c∨b ≠ 60 then none
   else if r.dropWhile (fun b=>!endc b)=[] then none
   else match attrsX r.length [] (r.dropWhile (fun b=>!endc b)) with
    | none=>none
    | some (at',r2)=>match r2 with
     | 47 :: 62 :: r3=>some ([⟨d,r.takeWhile (fun b=>!endc b),at',[]⟩],r3)
     | 62 :: r3=>contX n ⟨d,r.takeWhile (fun b=>!endc b),at',[]⟩ d c [] [] r3
     | _=>none
def contX:Nat → Nd → Nat → Nat → List UInt8 → List Nd → List UInt8 → Option (List Nd × List UInt8)
 | 0,_,_,_,_,_,_=>none
 | n+1,x,d,c,txt,kids,s=>match s.dropWhile (· != 60) with
  | []=>none
  | b :: r =>
   if r.head? = some 47 then
    (if r.tail.take x.name.length ≠ x.name then none else match (r.tail.drop x.name.length).dropWhile xblk with
     | 62 :: r3=>(readX (xtrim (txt++s.takeWhile (· != 60)))).map fun t=>({ x with text:=xtrim t } :: kids,r3)
     | _=>none)
   else match elemX n (d+1) (c+1+kids.length) (b :: r) with
    | none=>none
    | some (ks,r3)=>contX n x d c (txt++s.takeWhile (· != 60)) (kids++ks) r3
end
inductive XT where
 | mk (name:List UInt8) (attrs:List Par) (text:List UInt8) (kids:List XT)
def attrT (p:Par):List UInt8:=[32]++p.name++[61,34]++escX p.value++[34]
def attrsT (l:List Par):List UInt8:=l.flatMap attrT
mutual
def printX:XT → List UInt8
 | .mk n a t k=>[60]++n++attrsT a++(if escX t++printXs k=[] then [47,62] else [62]++(escX t++printXs k)++([60,47]++n++[62]))
def printXs:List XT → List UInt8
 | []=>[]
 | k :: ks=>printX k++printXs ks
end
mutual
def flatX:Nat → XT → List Nd
 | d,.mk n a t k=>⟨d,n,a,t⟩ :: flatXs (d+1) k
def flatXs:Nat → List XT → List Nd
 | _,[]=>[]
 | d,k :: ks=>flatX d k++flatXs d ks
end
mutual
def szX:XT → Nat
 | .mk _ _ _ k=>szXs k+2
def szXs:List XT → Nat
 | []=>1
 | k :: ks=>szX k+szXs ks+1
end
mutual
def okX:Nat → XT → Bool
 | d,.mk n a t k=>decide (d < 8) && (nameX n && (a.all (fun p=>nameX p.name && p.has) && (xtrim t==t && ((k.isEmpty || t.isEmpty) && okXs (d+1) k))))
def okXs:Nat → List XT → Bool
 | _,[]=>true
 | d,k :: ks=>okX d k && okXs d ks
end
theorem takeW_app {p:UInt8 → Bool} {a:List UInt8} {c:UInt8} {r:List UInt8} (h:∀ b ∈ a,p b=true) (hc:p c=false):(a++c :: r).takeWhile p=a∧(a++c :: r).dropWhile p=c :: r:=by
 induction a with
 | nil=>simp [List.takeWhile_cons,List.dropWhile_cons,hc]
 | cons x a ih =>
  have hx:=h x (by simp);obtain ⟨i1,i2⟩:=ih (fun b hb=>h b (by simp [hb]));rw [List.cons_append,List.takeWhile_cons,List.dropWhile_cons,hx]
  simp [i1,i2]
theorem xbehind_id {l:List UInt8} (h:∀ b ∈ l,xblk b=false):xbehind l=l:=by
 unfold xbehind;rw [xdrop_id (fun b hb=>h b (by have:=List.mem_of_mem_head? hb; simpa using this)),List.reverse_reverse]
theorem attr_back {p:Par} (h:nameX p.name=true) (hh:p.has=true) (r:List UInt8):attrX (p.name++[61,34]++escX p.value++[34]++r)=some (p,r):=by
 obtain ⟨_,hn⟩:=name_factsX h;have e:p.name++[61,34]++escX p.value++[34]++r=p.name++61 :: (34 :: (escX p.value++34 :: r)):=by simp
 have t1:=takeW_app (p:=fun b=>b != 61) (a:=p.name) (c:=61) (r:=34 :: (escX p.value++34 :: r)) (fun b hb=>by have:=(namc_facts b (hn b hb)).2.2.2.1; simpa using this) (by simp);have hf:=escX_free p.value
 have t2:=takeW_app (p:=fun b=>b != 34 && b != 60) (a:=escX p.value) (c:=34) (r:=r) (fun b hb=>by
  have h1:b ≠ 34:=fun e=>hf.2.2 (e ▸ hb);have h2:b ≠ 60:=fun e=>hf.1 (e ▸ hb)
  simp [h1,h2]) (by simp)
 unfold attrX;rw [e,t1.1,t1.2]
 simp only
 have e34:(34 :: (escX p.value++34 :: r)).dropWhile xblk=34 :: (escX p.value++34 :: r):=xdrop_id (by intro b hb; simp at hb; subst hb; decide +kernel);rw [e34]
 simp only
 rw [if_neg (by simp),t2.2]
 simp only
 rw [if_neg (by simp),t2.1,read_esc,xbehind_id fun b hb=>(namc_facts b (hn b hb)).1];obtain ⟨nm,vl,hs⟩:=p;simp only at hh; subst hh; rfl
theorem attrs_back:∀ (l acc:List Par) (n:Nat) (c:UInt8) (r:List UInt8),l.length < n → (∀ p ∈ l,nameX p.name=true∧p.has=true) → (c=47∨c=62) → attrsX n acc (attrsT l++c :: r)=some (acc++l,c :: r)
 | [],acc,0,c,r,h,_,_=>by simp at h
 | [],acc,n+1,c,r,h,_,hc=>by
  have hx:xblk c=false:=by rcases hc with rfl | rfl <;> decide +kernel
  rw [attrsT,List.flatMap_nil,List.nil_append,attrsX];have e:(c :: r).dropWhile xblk=c :: r:=xdrop_id (by intro b hb; simp at hb; subst hb; exact hx);rw [e]
  simp only
  rw [if_pos hc]; simp
 | p :: l,acc,0,c,r,h,_,_=>by simp at h
 | p :: l,acc,n+1,c,r,h,ha,hc=>by
  obtain ⟨h1,h2⟩:=ha p (by simp);obtain ⟨hne,hn⟩:=name_factsX h1;have e:attrsT (p :: l)++c :: r=32 :: (p.name++[61,34]++escX p.value++[34]++(attrsT l++c :: r)):=by simp [attrsT,attrT]
  rw [e,attrsX];have x32:xblk 32=true:=by decide +kernel
  cases hq:p.name with
  | nil=>exact absurd hq hne
  | cons y q =>
   have hy:=namc_facts y (hn y (by rw [hq]; simp))
   have e2:(32 :: (y :: q++[61,34]++escX p.value++[34]++(attrsT l++c :: r))).dropWhile xblk=y :: (q++[61,34]++escX p.value++[34]++(attrsT l++c :: r)):=by
    rw [List.dropWhile_cons,x32];simp only [if_true];rw [show y :: q++[61,34]++escX p.value++[34]++(attrsT l++c :: r)=y :: (q++[61,34]++escX p.value++[34]++(attrsT l++c :: r)) by simp,List.dropWhile_cons,hy.1]; rfl
   rw [e2]
   simp only
   rw [if_neg (by rintro (e | e); exact hy.2.1 e; exact hy.2.2.1 e),if_neg (by simp [x32])];have e3:y :: (q++[61,34]++escX p.value++[34]++(attrsT l++c :: r))=p.name++[61,34]++escX p.value++[34]++(attrsT l++c :: r):=by rw [hq]; simp
   rw [e3,attr_back h1 h2]
   simp only
   rw [attrs_back l (acc++[p]) n c r (by simp at h; omega) (fun x hx=>ha x (by simp [hx])) hc]; simp
theorem okX_facts {d:Nat} {n:List UInt8} {a:List Par} {t:List UInt8} {k:List XT} (h:okX d (.mk n a t k)=true):d < 8∧nameX n=true∧(∀ p ∈ a,nameX p.name=true∧p.has=true)∧xtrim t=t∧(k=[]∨t=[])∧okXs (d+1) k=true:=by
 rw [okX] at h;simp only [Bool.and_eq_true,decide_eq_true_eq,beq_iff_eq,Bool.or_eq_true,List.isEmpty_iff] at h;obtain ⟨h1,h2,h3,h4,h5,h6⟩:=h;exact ⟨h1,h2,fun p hp=>by have:=List.all_eq_true.1 h3 p hp; simpa using this,h4,h5,h6⟩
theorem print_head (t:XT) (d:Nat) (h:okX d t=true):∃ y q,printX t=60 :: y :: q∧y ≠ 47:=by
 obtain ⟨n,a,tx,k⟩:=t;obtain ⟨_,h2,_⟩:=okX_facts h;obtain ⟨hne,hn⟩:=name_factsX h2
 cases hq:n with
 | nil=>exact absurd hq hne
 | cons y q =>
  rw [printX];exact ⟨y,_,rfl,(namc_facts y (hn y (by rw [hq]; simp))).2.1⟩
theorem attrs_len (a:List Par):a.length≤(attrsT a).length:=by
 induction a with
 | nil=>simp
 | cons p a ih =>
  have e:attrsT (p :: a)=attrT p++attrsT a:=by simp [attrsT]
  rw [e,List.length_append,List.length_cons]
  have:1≤(attrT p).length:=by simp [attrT]
  omega
theorem tail_end (a:List Par) (c:UInt8) (r:List UInt8) (hc:c=47∨c=62):∃ e q,attrsT a++c :: r=e :: q∧endc e=true:=by
 cases a with
 | nil=>exact ⟨c,r,by simp [attrsT],by rcases hc with rfl | rfl <;> decide +kernel⟩
 | cons p a=>exact ⟨32,_,by simp [attrsT,attrT]; rfl,by decide +kernel⟩
theorem front_back {n:List UInt8} {a:List Par} {c:UInt8} {r:List UInt8} (hn:nameX n=true) (ha:∀ p ∈ a,nameX p.name=true∧p.has=true) (hc:c=47∨c=62) :
  (n++(attrsT a++c :: r)).takeWhile (fun b=>!endc b)=n∧(n++(attrsT a++c :: r)).dropWhile (fun b=>!endc b)=attrsT a++c :: r∧attrsT a++c :: r ≠ []∧attrsX (n++(attrsT a++c :: r)).length [] (attrsT a++c :: r)=some (a,c :: r):=by
 obtain ⟨hne,hb⟩:=name_factsX hn;obtain ⟨e,q,he,hee⟩:=tail_end a c r hc
 have hnn:∀ b ∈ n,(!endc b)=true:=fun b hx=>by
  obtain ⟨f1,f2,f3,_⟩:=namc_facts b (hb b hx)
  simp [endc,f1,f2,f3]
 have tw:=takeW_app (p:=fun b=>!endc b) (a:=n) (c:=e) (r:=q) hnn (by simp [hee]);rw [← he] at tw;refine ⟨tw.1,tw.2,by rw [he]; simp,?_⟩
 have hl:a.length < (n++(attrsT a++c :: r)).length:=by
  have:=attrs_len a
  have:1≤n.length:=by cases n with | nil=>exact absurd rfl hne | cons x y=>simp
  simp; omega
 have:=attrs_back a [] _ c r hl ha hc
 simpa using this
theorem close_back {m:Nat} {x:Nd} {d c:Nat} {txt:List UInt8} {acc:List Nd} {rest t:List UInt8} (ht:readX (xtrim txt)=some t):contX (m+1) x d c txt acc ([60,47]++x.name++[62]++rest)=some ({ x with text:=xtrim t } :: acc,rest):=by
 have e:[60,47]++x.name++[62]++rest=60 :: (47 :: (x.name++62 :: rest)):=by simp
 have ed:(60 :: (47 :: (x.name++62 :: rest))).dropWhile (fun b=>b != 60)=60 :: (47 :: (x.name++62 :: rest)):=by simp [List.dropWhile_cons]
 have et:(60 :: (47 :: (x.name++62 :: rest))).takeWhile (fun b=>b != 60)=[]:=by simp [List.takeWhile_cons]
 have ex:(62 :: rest).dropWhile xblk=62 :: rest:=xdrop_id (by intro b hb; simp at hb; subst hb; decide +kernel);rw [e,contX,ed,et];simp only [List.head?_cons,if_true,List.tail_cons];have e1:(x.name++62 :: rest).take x.name.length=x.name:=by simp
 have e2:(x.name++62 :: rest).drop x.name.length=62 :: rest:=by simp
 simp [ex,ht]
theorem text_back {m:Nat} {x:Nd} {d c:Nat} {t rest:List UInt8} (ht:xtrim t=t):contX (m+1) x d c [] [] (escX t++([60,47]++x.name++[62]++rest))=some ([{ x with text:=t }],rest):=by
 have hf:=(escX_free t).1;have tw:=takeW_app (p:=fun b=>b != 60) (a:=escX t) (c:=60) (r:=47 :: (x.name++62 :: rest)) (fun b hb=>by have:b ≠ 60:=fun e=>hf (e ▸ hb); simpa using this) (by simp);have e:escX t++([60,47]++x.name++[62]++rest)=escX t++60 :: (47 :: (x.name++62 :: rest)):=by simp
 have ex:(62 :: rest).dropWhile xblk=62 :: rest:=xdrop_id (by intro b hb; simp at hb; subst hb; decide +kernel);rw [e,contX,tw.2,tw.1];simp only [List.head?_cons,if_true,List.tail_cons,List.nil_append];have e1:(x.name++62 :: rest).take x.name.length=x.name:=by simp
 have e2:(x.name++62 :: rest).drop x.name.length=62 :: rest:=by simp
 simp [ex,xtrim_esc ht,read_esc,ht]
theorem printXs_nil {k:List XT} {d:Nat} (h:okXs d k=true) (e:printXs k=[]):k=[]:=by
 cases k with
 | nil=>rfl
 | cons t k =>
  rw [okXs,Bool.and_eq_true] at h;obtain ⟨y,q,hp,_⟩:=print_head t d h.1;rw [printXs,hp] at e; simp at e
end Go.Proofs.YtdbalahkmeknaaaGreatDoor
