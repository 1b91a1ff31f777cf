/-
  PListL, Digits, PrintL, CheckL, WhereL, ParseL, UBackL, SameL, AddrL, AddrBackL, AddrManyL, ViaL, FrameL, FrameBackL, HeadL.
-/
import Derived.Test.YtiogedceommcoaaGreatDoorK05
set_option linter.unusedVariables false
set_option linter.unusedSimpArgs false
set_option maxRecDepth 20000
namespace Go.Proofs.YtiogedceommcoaaGreatDoor
open Go.RowKit Sc
def parB (p:Par):Bool:=decide (1≤p.name.length) && (decide (p.name.length≤64) && (decide (p.value.length≤64) && (p.has || p.value.isEmpty)))
def apartB (ps:List Par) (nm:List UInt8):Bool:=ps.all fun q=>!sameB q.name nm
def listGo:List Par → List Par → Bool
 | _,[]=>true
 | before,p :: ps=>parB p && (apartB before p.name && listGo (before++[p]) ps)
def listB (ps:List Par):Bool:=decide (ps.length≤16) && listGo [] ps
def checkV (u:Uri):Int :=
 if schemeB u.scheme=false then 30 else if 64 < u.user.length then 31 else if hostB u.host=false then 32 else if u.port < 0∨65535 < u.port then 33
 else if listB u.params=false then 34 else if listB u.headers=false then 34 else if u.headers.all (·.has)=false then 34 else 0
theorem listGo_at (ps:List Par) (k:Nat) (hk:k < ps.length):listGo (ps.take k) (ps.drop k)=(parB ps[k] && (apartB (ps.take k) ps[k].name && listGo (ps.take (k+1)) (ps.drop (k+1)))):=by
 rw [List.drop_eq_getElem_cons hk,listGo,List.take_succ_eq_append_getElem hk]
def digb (n:Nat):UInt8:=UInt8.ofNat (48+n % 10)
def digL (n:Nat):List UInt8:=if n < 10 then [digb n] else digL (n / 10)++[digb n]
termination_by n
decreasing_by omega
theorem digL_small {n:Nat} (h:n < 10):digL n=[digb n]:=by rw [digL,if_pos h]
theorem digL_big {n:Nat} (h:¬ n < 10):digL n=digL (n / 10)++[digb n]:=by rw [digL,if_neg h]
theorem digb_toNat (n:Nat):((digb n).toNat:Int)=48+(n:Int) % 10:=by
 have h:n % 10 < 10:=Nat.mod_lt _ (by decide);rw [digb,UInt8.toNat_ofNat'];omega
theorem digL_len (a:Nat):∀ n:Nat,n < 10 ^ (a+1) → (digL n).length≤a+1:=by
 induction a with
 | zero=>intro n h; rw [digL_small (by simpa using h)]; simp
 | succ a ih =>
  intro n h;by_cases hn:n < 10
  ·rw [digL_small hn]; simp
  ·rw [digL_big hn,List.length_append]
   have:=ih (n / 10) (by rw [Nat.pow_succ] at h; omega)
   simp; omega
theorem digL_len19 {n:Nat} (h:n≤9223372036854775807):(digL n).length≤19:=digL_len 18 n (by omega)
def room0:Array Value:=(List.replicate 19 (.int .u8 0)).toArray
theorem zero49 (u:World):Sem.run Tryz.prog (zeroValue 142) u=.ok (.agg room0) u:=by kernel_rfl
def tailed (a:Nat) (l:List UInt8):List Value:=List.replicate a (.int .u8 0)++Lib.byteCells l
theorem tailed_len (a:Nat) (l:List UInt8):(tailed a l).length=a+l.length:=by simp [tailed,Lib.byteCells]
theorem tailed_set (a:Nat) (l:List UInt8) (b:UInt8) (ha:1≤a):(tailed a l).set (a - 1) (.int .u8 b.toNat)=tailed (a - 1) (b :: l):=by
 obtain ⟨c,rfl⟩:∃ c,a=c+1:=⟨a - 1,by omega⟩
 have e:c+1 - 1=c:=by omega
 rw [e,tailed,tailed,List.replicate_succ',List.append_assoc,List.set_append_right _ _ (by simp)]
 simp [Lib.byteCells]
theorem room_row (w:World):RowIs (w.alloc (.cells room0 142)) w.heap.size 142 (tailed 19 []):=by
 unfold RowIs;rw [heap_alloc_new]
 rfl
theorem conv_row {P:Program} {w:World} {g e e' src dst a cap:Nat} {l:List UInt8} (hs:P.underlying src=some (.slice e)) (he:P.underlying e=some (.int .u8)) (hd:P.underlying dst=some .string)
  (h:RowIs w g e' (tailed a l)):(convert src dst (.slice (some ⟨g,a,none⟩) l.length cap)).run P w=.ok (.string ⟨l.toArray⟩) w:=by
 refine run_convert_bytes_back w src dst e _ cap l hs he hd fun j hj=>?_
 have hc:=h.cell (a+j) (by rw [tailed_len]; omega);have e1:(⟨g,a,none⟩:Addr).add j=⟨g,a+j,none⟩:=by
  unfold Addr.add;by_cases h0:j=0
  ·subst h0; simp
  ·simp [h0]
 rw [e1,hc]
 simp [tailed,List.getElem_append_right,Lib.byteCells]
theorem pow_div {m a:Nat} (h:m < 10 ^ a) (ha:1≤a):m / 10 < 10 ^ (a - 1):=by
 obtain ⟨c,rfl⟩:∃ c,a=c+1:=⟨a - 1,by omega⟩
 rw [Nat.pow_succ] at h;have e:c+1 - 1=c:=by omega
 rw [e]; omega
theorem und49:Tryz.prog.underlying 142=some (.array (Tryz.prog.arrayLen 142) (Tryz.prog.elem 142)):=by kernel_rfl
theorem len49:Tryz.prog.arrayLen 142=19:=by kernel_rfl
theorem elem49:Tryz.prog.elem 142=5:=by kernel_rfl
theorem slice19 (u:World) (B a:Nat) (h1:1≤a) (h2:a≤19) :
  (Instr.sliceAt 142 (.pointer (some ⟨B,0,none⟩)) (some (.int .i64 ((a:Int) - 1))) none none).run Tryz.prog u=.ok (.slice (some ⟨B,a - 1,none⟩) (19 - (a - 1)) (19 - (a - 1))) u:=by
 obtain ⟨i0,hi,hz0,hz1,hz2⟩:=info_parts info5;have h:=run_sliceAt_array_l (P:=Tryz.prog) u 142 ⟨B,0,none⟩ und49 .i64 ((a:Int) - 1) (by omega) (by rw [len49]; omega);have e:((a:Int) - 1).toNat=a - 1:=by omega
 rw [h,elem49,len49,e];have hne:¬ (19=a - 1):=by omega
 simp [sizeOf,typeInfo,hi,hz1,slicedAt,hne,Addr.add]
 omega
set_option maxHeartbeats 600000 in
theorem digits_any (n:Nat) (w:World) (hn:n≤9223372036854775807) :
  Calls Tryz.prog 50 #[.int .i64 n] w fun e w'=>e=.returned (.string ⟨(digL n).toArray⟩)∧Below w.heap.size w w':=by
 have hz49:=zero49;have hr0:Hid (RowIs (w.alloc (.cells room0 142)) w.heap.size 142 (tailed 19 [])):=room_row w;have hp0:Hid (n < 10 ^ 19):=by show _ < _; omega
 go_enter Tryz.func50,Tryz.ntmps50
 go_wp2;clear hz49
 go_loopw [0,4] (fun nn at_ wr=>∃ (a m:Nat) (l:List UInt8),1≤a∧a≤19∧m≤9223372036854775807∧at_=.int .i64 a∧nn=.int .i64 m∧Hid (m < 10 ^ a)∧Hid (a+l.length=19) ∧
   Hid (RowIs wr w.heap.size 142 (tailed a l))∧Below w.heap.size w wr∧Hid (digL n=digL m++l)) (fun _ i _=>(intOf i).toNat)
 case atStart=>exact ⟨19,n,[],by omega,by omega,hn,rfl,rfl,hp0,rfl,hr0,(Below.refl _ _).alloc (Nat.le_refl _) _,show _=_ by simp⟩
 case round =>
  clear hr0 hp0;obtain ⟨a,m,l,ha1,ha2,hm,rfl,rfl,hp,hal,hr,hb,hd⟩:=hrel;have ht1:((a:Int) - 1).toNat=a - 1:=by omega
  obtain ⟨x,hc⟩:∃ x,wr.cell? ⟨w.heap.size,a - 1,none⟩=some x:=⟨_,hr.out.cell (a - 1) (by rw [tailed_len]; omega)⟩
  have hf:=hr.out.frozen (a - 1);have hr':Hid (RowIs (wr.setCell ⟨w.heap.size,a - 1,none⟩ (.int .u8 (48+(m:Int) % 10))) w.heap.size 142 (tailed (a - 1) (digb m :: l))):=by
   have h:=hr.out.set (a - 1) (.int .u8 (digb m).toNat);rw [tailed_set a l (digb m) ha1,digb_toNat] at h;exact h
  by_cases hlast:m < 10
  ·have hv:Hid (digL n=digb m :: l):=by show _=_; rw [hd.out,digL_small hlast]; rfl
   have hcv:=conv_row (P:=Tryz.prog) (cap:=(digb m :: l).length) Tryz.underlying143 Tryz.underlying5 Tryz.underlying9 hr'.out;have hll:(digb m :: l).length=19 - (a - 1):=by have:=hal.out; simp; omega
   rw [hll] at hcv;have hq:(m:Int) / 10=0:=by omega
   have hsl:=fun u=>slice19 u w.heap.size a ha1 ha2;clear hll hr hd hp hal;go_wp2;go_ret;exact ⟨by rw [hv.out]; rfl,hb.setCell (Nat.le_refl _) _⟩
  ·have hq:(((m:Int) / 10)==0)=false:=by simp; omega
   have hd':Hid (digL n=digL (m / 10)++(digb m :: l)):=by show _=_; rw [hd.out,digL_big hlast,List.append_assoc]; rfl
   have hp':Hid (m / 10 < 10 ^ (a - 1)):=pow_div hp.out ha1;have ha':1≤a - 1:=by
    by_cases h1:a=1
    ·have:=hp.out; rw [h1] at this; omega
    ·omega
   have hal':Hid ((a - 1)+(digb m :: l).length=19):=by show _=_; have:=hal.out; simp; omega
   clear hr hd hp hal;go_wp2;go_roundw
   case rel=>exact ⟨a - 1,m / 10,digb m :: l,ha',by omega,by omega,by go_num,by go_num,hp',hal',hr',hb.setCell (Nat.le_refl _) _,hd'⟩
   case measure=>simp [intOf]; omega
set_option maxHeartbeats 400000 in
theorem digits_neg (n:Int) (w:World) (hn:n < 0) :
  Calls Tryz.prog 50 #[.int .i64 n] w fun e w'=>e=.returned (.string ⟨#[]⟩)∧w'=w:=by
 go_enter Tryz.func50,Tryz.ntmps50
 go_wp2;go_ret;exact ⟨rfl,rfl⟩
def usersK:List UInt8:=[38,61,43,36,44,59,63,47]
def paramsK:List UInt8:=[91,93,47,58,38,43,36]
def headersK:List UInt8:=[91,93,47,63,58,43,36]
theorem listGo_par (b ps:List Par) (h:listGo b ps=true):∀ p ∈ ps,parB p=true:=by
 induction ps generalizing b with
 | nil=>simp
 | cons q ps ih =>
  rw [listGo,Bool.and_eq_true,Bool.and_eq_true] at h;intro p hp
  rcases List.mem_cons.1 hp with rfl | hp
  ·exact h.1
  ·exact ih _ h.2.2 p hp
theorem listB_ok {ps:List Par} (h:listB ps=true):ps.length≤16∧∀ p ∈ ps,parB p=true:=by
 rw [listB,Bool.and_eq_true] at h;exact ⟨by simpa using h.1,listGo_par [] ps h.2⟩
theorem parB_ok {p:Par} (h:parB p=true):1≤p.name.length∧p.name.length≤64∧p.value.length≤64∧(p.has=true∨p.value=[]):=by
 simp only [parB,Bool.and_eq_true,decide_eq_true_eq,Bool.or_eq_true,List.isEmpty_iff] at h;exact h
theorem hostB_ok {l:List UInt8} (h:hostB l=true):1≤l.length∧l.length≤64:=by
 simp only [hostB,Bool.and_eq_true,decide_eq_true_eq] at h;exact ⟨h.1,h.2.1⟩
theorem schemeB_ok {l:List UInt8} (h:schemeB l=true):l.length≤4:=by
 simp only [schemeB,Bool.or_eq_true,beq_iff_eq] at h
 rcases h with rfl | rfl | rfl <;> decide
theorem check_ok {u:Uri} (h:checkV u=0):schemeB u.scheme=true∧u.user.length≤64∧hostB u.host=true∧0≤u.port∧u.port≤65535∧listB u.params=true∧listB u.headers=true∧u.headers.all (·.has)=true:=by
 unfold checkV at h
 cases e1:schemeB u.scheme
 ·simp [e1] at h
 rw [e1,if_neg (by simp)] at h;by_cases e2:64 < u.user.length
 ·simp [e2] at h
 rw [if_neg e2] at h
 cases e3:hostB u.host
 ·simp [e3] at h
 rw [e3,if_neg (by simp)] at h;by_cases e4:u.port < 0∨65535 < u.port
 ·simp [e4] at h
 rw [if_neg e4] at h
 cases e5:listB u.params
 ·simp [e5] at h
 rw [e5,if_neg (by simp)] at h
 cases e6:listB u.headers
 ·simp [e6] at h
 rw [e6,if_neg (by simp)] at h
 cases e7:u.headers.all (·.has)
 ·simp [e7] at h
 exact ⟨rfl,by omega,rfl,by omega,by omega,rfl,rfl,rfl⟩
def insN (ins:Bool) (x:UInt8):Bool:=if x=93 then false else if x=91 then true else ins
def whereGo:Bool → List UInt8 → Nat
 | _,[]=>0
 | ins,x :: l=>if ins=false∧x=58 then 0 else 1+whereGo (insN ins x) l
def portV (host l:List UInt8) (k:Nat):List UInt8 × Int × Int :=
 if k=l.length then (host,0,0)
 else if (numV 65535 (l.drop (k+1))).2 ≠ 0∨(numV 65535 (l.drop (k+1))).1=0 then ([],0,33) else (host,(numV 65535 (l.drop (k+1))).1,0)
def whereV (l:List UInt8):List UInt8 × Int × Int :=
 if hostB (lowL (l.take (whereGo false l)))=true then portV (lowL (l.take (whereGo false l))) l (whereGo false l) else ([],0,32)
theorem whereGo_le (b:Bool) (l:List UInt8):whereGo b l≤l.length:=by
 induction l generalizing b with
 | nil=>simp [whereGo]
 | cons x l ih =>
  rw [whereGo]
  split
  ·simp
  ·have:=ih (insN b x); simp; omega
def noU:Uri:=⟨[],[],[],0,[],[]⟩
def userV (s:List UInt8):List UInt8 × List UInt8 × Int :=
 if (cutL 64 s).2.2=true then
  (if (writtenV usersK (cutL 64 s).1).2=false∨(writtenV usersK (cutL 64 s).1).1=[]∨64 < (writtenV usersK (cutL 64 s).1).1.length then ([],[],31)
   else ((writtenV usersK (cutL 64 s).1).1,(cutL 64 s).2.1,0))
 else ([],s,0)
def headsV (asked:Bool) (back:List UInt8):Option (List Par):=if asked=true then parsOf headersK (splitL 38 back) else some []
def fillV (w:List UInt8 × Int × Int):Option (List Par) → Option (List Par) → Uri × Int
 | some ps,some hs=>(⟨[],[],w.1,w.2.1,ps,hs⟩,0)
 | _,_=>(noU,34)
def restV (s:List UInt8):Uri × Int :=
 if (whereV ((splitL 59 (cutL 63 s).1).headD [])).2.2 ≠ 0 then (noU,(whereV ((splitL 59 (cutL 63 s).1).headD [])).2.2)
 else fillV (whereV ((splitL 59 (cutL 63 s).1).headD [])) (parsOf paramsK (splitL 59 (cutL 63 s).1).tail) (headsV (cutL 63 s).2.2 (cutL 63 s).2.1)
def endV (u:Uri):Uri × Int:=if checkV u ≠ 0 then (noU,checkV u) else (u,0)
def bothV (sch us:List UInt8) (r:Uri × Int):Uri × Int:=if r.2 ≠ 0 then (noU,r.2) else endV { r.1 with scheme:=sch,user:=us }
def parseV (s:List UInt8):Uri × Int :=
 if (cutL 58 s).2.2=false∨schemeB (lowL (cutL 58 s).1)=false then (noU,30)
 else if (userV (cutL 58 s).2.1).2.2 ≠ 0 then (noU,(userV (cutL 58 s).2.1).2.2)
 else bothV (lowL (cutL 58 s).1) (userV (cutL 58 s).2.1).1 (restV (userV (cutL 58 s).2.1).2.1)
theorem byte_all {P:UInt8 → Prop} (h:∀ n:Fin 256,P (UInt8.ofNat n.val)) (b:UInt8):P b:=by
 have:=h ⟨b.toNat,b.toNat_lt⟩
 simpa using this
def hob (b:UInt8):Bool:=b==91 || (b==93 || (okc b || isB b.toNat 64))
theorem parse_checked {s:List UInt8} {u:Uri} (h:parseV s=(u,0)):checkV u=0:=by
 unfold parseV at h
 split at h
 ·have:=congrArg Prod.snd h; simp at this
 split at h
 ·rename_i h2; exact absurd (congrArg Prod.snd h) h2
 unfold bothV at h
 split at h
 ·rename_i h2; exact absurd (congrArg Prod.snd h) h2
 unfold endV at h
 split at h
 ·rename_i h2; exact absurd (congrArg Prod.snd h) h2
 ·rename_i h2
  have:=congrArg Prod.fst h
  simp only at this;rw [← this];exact Classical.not_not.1 h2
def findV (ps:List Par) (nm:List UInt8):Option Par:=ps.find? fun p=>sameB p.name nm
def noP:Par:=⟨[],[],false⟩
theorem find_snoc {ps:List Par} {k:Nat} {nm:List UInt8} (hk:k < ps.length) (h:findV (ps.take k) nm=none) (hs:sameB ps[k].name nm=false):findV (ps.take (k+1)) nm=none:=by
 unfold findV at *;rw [List.take_succ_eq_append_getElem hk,List.find?_append,h]
 simp [hs]
theorem find_hit {ps:List Par} {k:Nat} {nm:List UInt8} (hk:k < ps.length) (h:findV (ps.take k) nm=none) (hs:sameB ps[k].name nm=true):findV ps nm=some ps[k]:=by
 unfold findV at *;have e:ps=ps.take k++ps[k] :: ps.drop (k+1):=by rw [← List.drop_eq_getElem_cons hk,List.take_append_drop]
 conv=>lhs; rw [e]
 rw [List.find?_append,h,List.find?_cons,hs]; rfl
structure Adr where
 display:List UInt8
 uri:Uri
 params:List Par
deriving DecidableEq
def noA:Adr:=⟨[],noU,[]⟩
def wordB (l:List UInt8):Bool:=tokenB l || hostB (lowL l)
def mayB (before:List Par) (p:Par):Bool:=tokenB p.name && ((findV before p.name).isNone && (decide (p.value.length≤64) && (!hasBar p.value && (p.has || p.value.isEmpty))))
def quoB (l:List UInt8):Bool:=l.head? == some 34
def valueP (v:List UInt8) (has:Bool):Option (List UInt8) :=
 if quoB v=true then (if (unquoteV v).2=0 then some (unquoteV v).1 else none) else if has=true∧wordB v=false then none else some v
def fieldOf (q:List UInt8):Option Par:=(valueP (trimL (cutL 61 q).2.1) (cutL 61 q).2.2).map fun v=>⟨trimL (cutL 61 q).1,v,(cutL 61 q).2.2⟩
def fieldsG:List Par → List (List UInt8) → Option (List Par)
 | out,[]=>some out
 | out,q :: qs=>match fieldOf q with | none=>none | some p=>if mayB out p=true then fieldsG (out++[p]) qs else none
def fieldsV (qs:List (List UInt8)):List Par × Int:=if 16 < qs.length then ([],4) else match fieldsG [] qs with | some ps=>(ps,0) | none=>([],34)
def valT (v:List UInt8):List UInt8:=if wordB v=true then v else 34 :: quo v++[34]
def parT (p:Par):List UInt8:=if p.has=true then p.name++[61]++valT p.value else p.name
def mayGo:List Par → List Par → Bool
 | _,[]=>true
 | b,p :: ps=>mayB b p && mayGo (b++[p]) ps
def parsA (ps:List Par):List UInt8:=ps.flatMap fun p=>[59]++parT p
def textV (ps:List Par):List UInt8 × Int:=if 16 < ps.length then ([],4) else if mayGo [] ps=true then (parsA ps,0) else ([],34)
def checkA (a:Adr):Int:=if 64 < a.display.length∨hasBar a.display=true then 50 else if checkV a.uri ≠ 0 then checkV a.uri else (textV a.params).2
def wordsG:List UInt8 → List UInt8 → List (List UInt8)
 | cur,[]=>if cur=[] then [] else [cur]
 | cur,b :: r=>if blk b=true then (if cur=[] then wordsG [] r else cur :: wordsG [] r) else wordsG (cur++[b]) r
def tokc (b:UInt8):Bool:=isB b.toNat 8
def joinB:List (List UInt8) → List UInt8
 | []=>[]
 | [w]=>w
 | w :: ws=>w++[32]++joinB ws
def displayV (l:List UInt8):Option (List UInt8) :=
 if quoB (trimL l)=true then (if (unquoteV (trimL l)).2=0 then some (unquoteV (trimL l)).1 else none)
 else if (trimL l).all (fun b=>blk b || tokc b)=true then some (joinB (wordsG [] (trimL l))) else none
def openV:Bool → List UInt8 → Option Nat
 | _,[]=>none
 | true,[b]=>none
 | true,b :: c :: r=>if b=92 then (openV true r).map (·+2) else if b=34 then (openV false (c :: r)).map (·+1) else (openV true (c :: r)).map (·+1)
 | false,b :: r=>if b=60 then some 0 else if b=34 then (openV true r).map (·+1) else (openV false r).map (·+1)
def plainV (s:List UInt8):List UInt8 × List UInt8:=if hasL 59 s=true then ((cutL 59 s).1,59 :: (cutL 59 s).2.1) else (s,[])
def tailV (d whr bhd:List UInt8):Adr × Int :=
 if (parseV whr).2 ≠ 0 then (noA,(parseV whr).2)
 else if trimL ((partsV 59 bhd).headD []) ≠ [] then (noA,50)
 else if (fieldsV (partsV 59 bhd).tail).2 ≠ 0 then (noA,(fieldsV (partsV 59 bhd).tail).2)
 else (⟨d,(parseV whr).1,(fieldsV (partsV 59 bhd).tail).1⟩,0)
def parseT (s:List UInt8):Adr × Int :=
 match openV false s with
 | some k=>(match displayV (s.take k) with
   | none=>(noA,50)
   | some d=>if 64 < d.length∨hasL 62 (s.drop k)=false then (noA,50) else tailV d (cutL 62 (s.drop (k+1))).1 (cutL 62 (s.drop (k+1))).2.1)
 | none=>if hasL 63 (trimL (plainV s).1)=true∨hasL 44 (trimL (plainV s).1)=true∨hasL 34 (trimL (plainV s).1)=true then (noA,50) else tailV [] (trimL (plainV s).1) (plainV s).2
def parseA (s:List UInt8):Adr × Int:=parseT (trimL s)
theorem unq_bar:∀ (n:Nat) (l r:List UInt8),l.length≤n → unq l=some r → hasBar r=false
 | 0,l,r,hl,h=>by
  obtain rfl:=List.eq_nil_of_length_eq_zero (Nat.le_zero.1 hl)
  simp [unq] at h; subst h; rfl
 | n+1,l,r,hl,h=>by
  have hbb:∀ b:UInt8,bareB b.toNat=true → barB b.toNat=false:=by apply byte_all; decide +kernel
  have hbd:∀ b:UInt8,badB b.toNat=false → barB b.toNat=false:=by apply byte_all; decide +kernel
  match l,hl,h with
  | [],_,h=>simp [unq] at h; subst h; rfl
  | [b],_,h =>
   rw [unq] at h
   split at h
   ·rename_i hb; simp at h; subst h; simp [hasBar,hbb b hb]
   ·simp at h
  | b :: c :: r',hl,h =>
   rw [unq] at h
   split at h
   ·split at h
    ·simp at h
    ·rename_i hbad
     simp only [Option.map_eq_some_iff] at h;obtain ⟨x,hx,rfl⟩:=h
     have:=unq_bar n r' x (by simp at hl; omega) hx
     have hc:=hbd c (by simpa using hbad)
     simp [hasBar,hc] at this ⊢; exact this
   ·split at h
    ·rename_i hb
     simp only [Option.map_eq_some_iff] at h;obtain ⟨x,hx,rfl⟩:=h
     have:=unq_bar n (c :: r') x (by simp at hl ⊢; omega) hx
     simp [hasBar,hbb b hb] at this ⊢; exact this
    ·simp at h
theorem unquote_bar {l r:List UInt8} (h:unquoteV l=(r,0)):hasBar r=false:=by
 unfold unquoteV at h
 split at h
 ·simp at h
 ·split at h
  ·rename_i x hx; simp at h; subst h; exact unq_bar _ _ _ (Nat.le_refl _) hx
  ·simp at h
theorem tok_facts {l:List UInt8} (h:tokenB l=true):l ≠ []∧l.length≤64∧∀ b ∈ l,tokc b=true:=by
 unfold tokenB at h;simp only [Bool.and_eq_true,decide_eq_true_eq] at h;refine ⟨by intro e; subst e; simp at h,h.1.2,fun b hb=>?_⟩
 have:=h.2
 unfold allB at this;exact List.all_eq_true.1 this b hb
theorem may_facts {b:List Par} {p:Par} (h:mayB b p=true):tokenB p.name=true∧findV b p.name=none∧p.value.length≤64∧hasBar p.value=false∧(p.has=true∨p.value=[]):=by
 simp only [mayB,Bool.and_eq_true,Bool.or_eq_true,Option.isNone_iff_eq_none,decide_eq_true_eq,Bool.not_eq_true',List.isEmpty_iff] at h;exact ⟨h.1,h.2.1,h.2.2.1,h.2.2.2.1,h.2.2.2.2⟩
theorem checkA_ok {a:Adr} (h:checkA a=0):a.display.length≤64∧hasBar a.display=false∧checkV a.uri=0∧a.params.length≤16∧mayGo [] a.params=true:=by
 unfold checkA at h
 split at h
 ·simp at h
 ·rename_i h1
  split at h
  ·rename_i h2; exact absurd h h2
  ·rename_i h2
   unfold textV at h
   split at h
   ·simp at h
   ·split at h
    ·rename_i h3 h4
     refine ⟨?_,?_,by simpa using h2,by omega,h4⟩
     ·by_cases e:64 < a.display.length
      ·exact absurd (Or.inl e) h1
      ·omega
     ·cases e:hasBar a.display with
      | false=>rfl
      | true=>exact absurd (Or.inr e) h1
    ·simp at h
theorem checkA_of {a:Adr} (h1:a.display.length≤64) (h2:hasBar a.display=false) (h3:checkV a.uri=0) (h4:a.params.length≤16) (h5:mayGo [] a.params=true):checkA a=0:=by
 unfold checkA textV;rw [if_neg (by rw [h2]; simp; omega),if_neg (by simp [h3]),if_neg (by omega),if_pos h5]
theorem openV_cons {b:UInt8} {t:List UInt8} (ht:t ≠ []):openV true (b :: t)=if b=92 then (openV true t.tail).map (·+2) else if b=34 then (openV false t).map (·+1) else (openV true t).map (·+1):=by
 cases t with
 | nil=>exact absurd rfl ht
 | cons c r=>rw [openV]; rfl
theorem mayGo_snoc (b:List Par) (p:Par):∀ (l:List Par) ,mayGo b (l++[p])=(mayGo b l && mayB (b++l) p):=by
 intro l
 induction l generalizing b with
 | nil=>simp [mayGo]
 | cons q l ih=>rw [List.cons_append,mayGo,mayGo,ih]; simp [Bool.and_assoc]
theorem fields_may:∀ (qs:List (List UInt8)) (out ps:List Par),mayGo [] out=true → fieldsG out qs=some ps → mayGo [] ps=true∧ps.length=out.length+qs.length
 | [],out,ps,h,e=>by rw [fieldsG] at e; simp at e; subst e; exact ⟨h,by simp⟩
 | q :: qs,out,ps,h,e=>by
  rw [fieldsG] at e
  split at e
  ·simp at e
  ·rename_i p hp
   split at e
   ·rename_i hm
    have:=fields_may qs (out++[p]) ps (by rw [mayGo_snoc,h]; simpa using hm) e
    exact ⟨this.1,by rw [this.2]; simp; omega⟩
   ·simp at e
theorem join_mem:∀ (ws:List (List UInt8)) (b:UInt8),b ∈ joinB ws → b=32∨∃ w ∈ ws,b ∈ w
 | [],b,h=>by simp [joinB] at h
 | [w],b,h=>Or.inr ⟨w,by simp,by simpa [joinB] using h⟩
 | w :: x :: ws,b,h=>by
  rw [joinB] at h
  ·simp only [List.mem_append,List.mem_singleton] at h
   rcases h with (h | h) | h
   ·exact Or.inr ⟨w,by simp,h⟩
   ·exact Or.inl h
   ·rcases join_mem (x :: ws) b h with h | ⟨y,hy,hb⟩
    ·exact Or.inl h
    ·exact Or.inr ⟨y,by simp at hy ⊢; exact Or.inr hy,hb⟩
  ·simp
theorem words_mem:∀ (t cur w:List UInt8),w ∈ wordsG cur t → ∀ b ∈ w,b ∈ cur∨b ∈ t
 | [],cur,w,h,b,hb=>by
  rw [wordsG] at h
  split at h
  ·simp at h
  ·simp at h; subst h; exact Or.inl hb
 | x :: t,cur,w,h,b,hb=>by
  rw [wordsG] at h
  split at h
  ·split at h
   ·rcases words_mem t [] w h b hb with h | h
    ·simp at h
    ·exact Or.inr (by simp [h])
   ·rcases List.mem_cons.1 h with h | h
    ·subst h; exact Or.inl hb
    ·rcases words_mem t [] w h b hb with h | h
     ·simp at h
     ·exact Or.inr (by simp [h])
  ·rcases words_mem t (cur++[x]) w h b hb with h | h
   ·simp at h
    rcases h with h | h
    ·exact Or.inl h
    ·exact Or.inr (by simp [h])
   ·exact Or.inr (by simp [h])
theorem disp_bar {l d:List UInt8} (h:displayV l=some d):hasBar d=false:=by
 unfold displayV at h
 split at h
 ·split at h
  ·rename_i e
   simp at h; subst h
   exact unquote_bar (l:=trimL l) (by rw [← e])
  ·simp at h
 ·split at h
  ·rename_i ha
   simp at h; subst h
   rw [List.all_eq_true] at ha;have hc:∀ b:UInt8,(b=32∨(blk b || tokc b)=true) → barB b.toNat=false:=by apply byte_all; decide +kernel
   unfold hasBar;rw [List.any_eq_false];intro b hb;simp only [Bool.not_eq_true]
   rcases join_mem _ b hb with e | ⟨w,hw,hbw⟩
   ·exact hc b (Or.inl e)
   ·rcases words_mem _ _ w hw b hbw with e | e
    ·simp at e
    ·exact hc b (Or.inr (ha b e))
  ·simp at h
theorem tail_checked {d whr bhd:List UInt8} {a:Adr} (h:tailV d whr bhd=(a,0)) (hd:d.length≤64) (hb:hasBar d=false):checkA a=0:=by
 unfold tailV at h
 split at h
 ·rename_i e; simp at h; exact absurd h.2 e
 ·rename_i e1
  split at h
  ·simp at h
  ·split at h
   ·rename_i e; simp at h; exact absurd h.2 e
   ·rename_i e3
    simp only [Prod.mk.injEq,and_true] at h;subst h;have hp:parseV whr=((parseV whr).1,0):=by
     have:(parseV whr).2=0:=by simpa using e1
     rw [← this]
    have hf:(fieldsV (partsV 59 bhd).tail).2=0:=by simpa using e3
    have hfm:(fieldsV (partsV 59 bhd).tail).1.length≤16∧mayGo [] (fieldsV (partsV 59 bhd).tail).1=true:=by
     unfold fieldsV at hf ⊢
     split
     ·rename_i hl; rw [if_pos hl] at hf; simp at hf
     ·rename_i hl
      rw [if_neg hl] at hf
      cases hg:fieldsG [] (partsV 59 bhd).tail with
      | none=>rw [hg] at hf; simp at hf
      | some ps =>
       obtain ⟨m1,m2⟩:=fields_may _ [] ps rfl hg
       simp only
       exact ⟨by rw [m2]; simp at hl ⊢; omega,m1⟩
    exact checkA_of hd hb (parse_checked hp) hfm.1 hfm.2
theorem parseA_checked {s:List UInt8} {a:Adr} (h:parseA s=(a,0)):checkA a=0:=by
 unfold parseA parseT at h
 split at h
 ·split at h
  ·simp at h
  ·rename_i d hd
   split at h
   ·simp at h
   ·rename_i hl
    refine tail_checked h ?_ (disp_bar hd)
    by_cases e:64 < d.length
    ·exact absurd (Or.inl e) hl
    ·omega
 ·split at h
  ·simp at h
  ·exact tail_checked h (by simp) rfl
def listG:List Adr → List (List UInt8) → List Adr × Int
 | out,[]=>(out,0)
 | out,q :: qs=>if (parseA q).2 ≠ 0 then ([],(parseA q).2) else listG (out++[(parseA q).1]) qs
def listA (s:List UInt8):List Adr × Int:=if 16 < (partsV 44 s).length then ([],4) else listG [] (partsV 44 s)
structure Hop where
 host:List UInt8
 port:Int
 params:List Par
deriving DecidableEq
def noH:Hop:=⟨[],0,[]⟩
def protoK:List UInt8:=[83,73,80,47,50,46,48,47,85,68,80]
def cookieK:List UInt8:=[122,57,104,71,52,98,75]
def checkH (v:Hop):Int:=if hostB v.host=false then 32 else if v.port < 0∨65535 < v.port then 33 else (textV v.params).2
def wordN (l:List UInt8):Nat:=(l.takeWhile fun b=>!blk b).length
def restH (q:List UInt8):Hop × Int :=
 if (whereV (trimL ((partsV 59 q).headD []))).2.2 ≠ 0 then (noH,(whereV (trimL ((partsV 59 q).headD []))).2.2)
 else if (fieldsV (partsV 59 q).tail).2 ≠ 0 then (noH,(fieldsV (partsV 59 q).tail).2)
 else (⟨(whereV (trimL ((partsV 59 q).headD []))).1,(whereV (trimL ((partsV 59 q).headD []))).2.1,(fieldsV (partsV 59 q).tail).1⟩,0)
def parseH (s:List UInt8):Hop × Int :=
 if wordN (trimL s)=(trimL s).length∨sameB ((trimL s).take (wordN (trimL s))) protoK=false then (noH,70) else restH ((trimL s).drop (wordN (trimL s)))
def hopsG:List Hop → List (List UInt8) → List Hop × Int
 | out,[]=>(out,0)
 | out,q :: qs=>if (parseH q).2 ≠ 0 then ([],(parseH q).2) else if 16≤out.length then ([],4) else hopsG (out++[(parseH q).1]) qs
def hopsV (vs:List (List UInt8)):List Hop × Int :=
 if (hopsG [] (vs.flatMap (partsV 44))).2 ≠ 0 then ([],(hopsG [] (vs.flatMap (partsV 44))).2) else if (hopsG [] (vs.flatMap (partsV 44))).1=[] then ([],100) else ((hopsG [] (vs.flatMap (partsV 44))).1,0)
theorem numL_bd (most:Int):∀ (l:List UInt8) (n m:Int),0≤n → allB 1 l=true → (l=[] → n≤most) → numL most n l=some m → 0≤m∧m≤most
 | [],n,m,h0,_,hl,h=>by rw [numL] at h; simp at h; subst h; exact ⟨h0,hl rfl⟩
 | b :: r,n,m,h0,ha,_,h=>by
  have hb:isB b.toNat 1=true∧allB 1 r=true:=by simpa [allB] using ha
  have hd:48≤(b.toNat:Int)∧(b.toNat:Int)≤57:=by
   have:=hb.1
   rw [isB_digit _ (by omega) (by have:=b.toNat_lt; omega)] at this
   simpa using this
  rw [numL] at h
  split at h
  ·simp at h
  ·rename_i hc
   refine numL_bd most r _ m (by omega) hb.2 (fun _=>?_) h
   by_cases e:n > (most - ((b.toNat:Int) - 48)) / 10
   ·exact absurd (Or.inr e) hc
   ·omega
theorem numV_bd {most:Nat} {l:List UInt8} (h:(numV most l).2=0):0≤(numV most l).1∧(numV most l).1≤most:=by
 unfold numV at h ⊢
 split
 ·rename_i hc; rw [if_pos hc] at h; simp at h
 ·rename_i hc
  rw [if_neg hc] at h
  cases hn:numL most 0 l with
  | none=>rw [hn] at h; simp at h
  | some m =>
   simp only
   simp only [not_or,Bool.not_eq_false] at hc;exact numL_bd most l 0 m (by omega) hc.2 (fun e=>absurd e hc.1) hn
theorem fieldsV_may {qs:List (List UInt8)} (hf:(fieldsV qs).2=0):(fieldsV qs).1.length≤16∧mayGo [] (fieldsV qs).1=true:=by
 unfold fieldsV at hf ⊢
 split
 ·rename_i hl; rw [if_pos hl] at hf; simp at hf
 ·rename_i hl
  rw [if_neg hl] at hf
  cases hg:fieldsG [] qs with
  | none=>rw [hg] at hf; simp at hf
  | some ps =>
   obtain ⟨m1,m2⟩:=fields_may _ [] ps rfl hg
   simp only
   exact ⟨by rw [m2]; simp; omega,m1⟩
theorem checkH_ok {v:Hop} (h:checkH v=0):hostB v.host=true∧0≤v.port∧v.port≤65535∧v.params.length≤16∧mayGo [] v.params=true:=by
 unfold checkH at h
 split at h
 ·simp at h
 ·rename_i h1
  split at h
  ·simp at h
  ·rename_i h2
   unfold textV at h
   split at h
   ·simp at h
   ·split at h
    ·rename_i h3 h4; exact ⟨by simpa using h1,by omega,by omega,by omega,h4⟩
    ·simp at h
theorem checkH_of {v:Hop} (h1:hostB v.host=true) (h2:0≤v.port) (h3:v.port≤65535) (h4:v.params.length≤16) (h5:mayGo [] v.params=true):checkH v=0:=by
 unfold checkH textV;rw [if_neg (by rw [h1]; simp),if_neg (by omega),if_neg (by omega),if_pos h5]
theorem where_ok {l h:List UInt8} {n:Int} (hw:whereV l=(h,n,0)):hostB h=true∧0≤n∧n≤65535:=by
 unfold whereV at hw
 split at hw
 ·rename_i hh
  unfold portV at hw
  split at hw
  ·simp at hw; obtain ⟨rfl,rfl⟩:=hw; exact ⟨hh,by omega,by omega⟩
  ·split at hw
   ·simp at hw
   ·rename_i h1 h2
    simp at hw
    obtain ⟨rfl,rfl⟩:=hw;refine ⟨hh,?_⟩
    have hz:(numV 65535 (l.drop (whereGo false l+1))).2=0:=by
     by_cases e:(numV 65535 (l.drop (whereGo false l+1))).2=0
     ·exact e
     ·exact absurd (Or.inl e) h2
    exact numV_bd hz
 ·simp at hw
theorem parseH_checked {s:List UInt8} {v:Hop} (h:parseH s=(v,0)):checkH v=0:=by
 unfold parseH at h
 split at h
 ·simp at h
 ·unfold restH at h;generalize (trimL s).drop (wordN (trimL s))=q at h
  split at h
  ·rename_i e; simp only [Prod.mk.injEq] at h; exact absurd h.2 e
  ·rename_i e1
   split at h
   ·rename_i e; simp only [Prod.mk.injEq] at h; exact absurd h.2 e
   ·rename_i e3
    simp only [Prod.mk.injEq,and_true] at h;subst h;have hw:whereV (trimL ((partsV 59 q).headD []))=((whereV (trimL ((partsV 59 q).headD []))).1,(whereV (trimL ((partsV 59 q).headD []))).2.1,0):=by
     have:(whereV (trimL ((partsV 59 q).headD []))).2.2=0:=by simpa using e1
     rw [← this]
    obtain ⟨w1,w2,w3⟩:=where_ok hw;have hf:(fieldsV (partsV 59 q).tail).2=0:=by simpa using e3
    have hfm:(fieldsV (partsV 59 q).tail).1.length≤16∧mayGo [] (fieldsV (partsV 59 q).tail).1=true:=fieldsV_may hf;exact checkH_of w1 w2 w3 hfm.1 hfm.2
structure Hdr where
 name:List UInt8
 value:List UInt8
deriving DecidableEq
structure Ms where
 method:List UInt8
 target:List UInt8
 status:Int
 reason:List UInt8
 headers:List Hdr
 body:List UInt8
deriving DecidableEq
def noM:Ms:=⟨[],[],0,[],[],[]⟩
def longT:List (UInt8 × List UInt8) :=
 [(118,[86,105,97]),
  (102,[70,114,111,109]),
  (116,[84,111]),
  (105,[67,97,108,108,45,73,68]),
  (109,[67,111,110,116,97,99,116]),
  (101,[67,111,110,116,101,110,116,45,69,110,99,111,100,105,110,103]),
  (108,[67,111,110,116,101,110,116,45,76,101,110,103,116,104]),
  (99,[67,111,110,116,101,110,116,45,84,121,112,101]),
  (115,[83,117,98,106,101,99,116]),
  (107,[83,117,112,112,111,114,116,101,100]),
  (111,[69,118,101,110,116]),
  (117,[65,108,108,111,119,45,69,118,101,110,116,115])]
def longV (nm:List UInt8):List UInt8:=match longT.find? (fun x=>lowL nm==[x.1]) with | some x=>x.2 | none=>nm
def visc (b:UInt8):Bool:=!((decide (b.toNat < 32) && b != 9) || b==127)
def visB (l:List UInt8):Bool:=l.all visc
def valB (l:List UInt8):Bool:=visB l && trimL l==l
def lengthK:List UInt8:=[67,111,110,116,101,110,116,45,76,101,110,103,116,104]
def versionK:List UInt8:=[83,73,80,47,50,46,48]
def lengthB (nm:List UInt8):Bool:=sameB nm lengthK
def firstB (m:Ms):Bool :=
 if m.method=[] then m.target.isEmpty && (decide (100≤m.status∧m.status≤699) && valB m.reason)
 else m.target.all (fun b=>!blk b) && (tokenB m.method && (!m.target.isEmpty && (visB m.target && (decide (m.status=0) && m.reason.isEmpty))))
def hdrB (h:Hdr):Bool:=tokenB h.name && (longV h.name==h.name && (!lengthB h.name && valB h.value))
def checkM (m:Ms):Int:=if firstB m=false then 60 else if 64 < m.headers.length then 4 else if m.headers.all hdrB=false then 61 else 0
def crlf:List UInt8:=[13,10]
def lineT (m:Ms):List UInt8:=if m.method=[] then versionK++[32]++digL m.status.toNat++[32]++m.reason else m.method++[32]++m.target++[32]++versionK
def hdrLine (h:Hdr):List UInt8:=h.name++[58,32]++h.value
def lenLine (n:Nat):List UInt8:=lengthK++[58,32]++digL n
def linesT (m:Ms):List (List UInt8):=lineT m :: (m.headers.map hdrLine++[lenLine m.body.length])
def textM (m:Ms):List UInt8:=((linesT m).flatMap fun l=>l++crlf)++crlf++m.body
def printM (m:Ms):List UInt8 × Int:=if checkM m ≠ 0 then ([],checkM m) else if 4096 < (textM m).length then ([],2) else (textM m,0)
def lineV:List UInt8 → Option (List UInt8 × List UInt8)
 | []=>none
 | b :: r=>if b=13∧r.head? = some 10 then some ([],r.tail) else (lineV r).map fun x=>(b :: x.1,x.2)
def pushL (l:List (List UInt8)) (t:List UInt8):List (List UInt8) :=
 if 2≤l.length∧t.head?.any blk=true then l.dropLast++[l.getLastD []++[32]++trimL t] else l++[t]
def headG:Nat → List (List UInt8) → List UInt8 → Option (List (List UInt8) × List UInt8)
 | 0,_,_=>none
 | n+1,l,s=>match lineV s with
  | none=>none
  | some (t,r)=>if t=[] then some (l,r) else headG n (pushL l t) r
def headV (s:List UInt8):Option (List (List UInt8) × List UInt8):=headG (s.length+1) [] s
def behindL (l:List UInt8):List UInt8:=(l.reverse.dropWhile blk).reverse
def startV (s:List UInt8):Option Ms :=
 if (cutL 32 s).2.2=false∨(cutL 32 (cutL 32 s).2.1).2.2=false then none
 else if sameB (cutL 32 s).1 versionK=true then
  (if (numV 999 (cutL 32 (cutL 32 s).2.1).1).2=0∧(cutL 32 (cutL 32 s).2.1).1.length=3∧firstB ⟨[],[],(numV 999 (cutL 32 (cutL 32 s).2.1).1).1,(cutL 32 (cutL 32 s).2.1).2.1,[],[]⟩=true
   then some ⟨[],[],(numV 999 (cutL 32 (cutL 32 s).2.1).1).1,(cutL 32 (cutL 32 s).2.1).2.1,[],[]⟩ else none)
 else if (cutL 32 s).1 ≠ []∧firstB ⟨(cutL 32 s).1,(cutL 32 (cutL 32 s).2.1).1,0,[],[],[]⟩=true∧sameB (cutL 32 (cutL 32 s).2.1).2.1 versionK=true
  then some ⟨(cutL 32 s).1,(cutL 32 (cutL 32 s).2.1).1,0,[],[],[]⟩ else none
def hdrG (rest:List UInt8):Ms → Nat → Bool → List (List UInt8) → Ms × Int
 | m,size,told,[]=>if rest.length < size then (noM,62) else ({ m with body:=rest.take size },0)
 | m,size,told,t :: ts =>
  if (cutL 58 t).2.2=false∨tokenB (longV (behindL (cutL 58 t).1))=false∨visB (trimL (cutL 58 t).2.1)=false then (noM,61)
  else if lengthB (longV (behindL (cutL 58 t).1))=false then
   (if 64≤m.headers.length then (noM,4) else hdrG rest { m with headers:=m.headers++[⟨longV (behindL (cutL 58 t).1),trimL (cutL 58 t).2.1⟩] } size told ts)
  else if (numV 4096 (trimL (cutL 58 t).2.1)).2 ≠ 0∨told=true then (noM,62)
  else hdrG rest m (numV 4096 (trimL (cutL 58 t).2.1)).1.toNat true ts
def parseM (s:List UInt8):Ms × Int :=
 if 4096 < s.length then (noM,2)
 else match headV s with
  | none=>(noM,63)
  | some (l,rest)=>if l=[] then (noM,63) else match startV (l.headD []) with
   | none=>(noM,60)
   | some m=>hdrG rest m rest.length false l.tail
theorem checkM_ok {m:Ms} (h:checkM m=0):firstB m=true∧m.headers.length≤64∧∀ x ∈ m.headers,hdrB x=true:=by
 unfold checkM at h
 split at h
 ·simp at h
 ·rename_i h1
  split at h
  ·simp at h
  ·rename_i h2
   split at h
   ·simp at h
   ·rename_i h3
    exact ⟨by simpa using h1,by omega,fun x hx=>List.all_eq_true.1 (by simpa using h3) x hx⟩
def maxS:Nat:=2147483647
def seqV (s:List UInt8):Int × List UInt8 × Int :=
 if (numV maxS ((trimL s).take (wordN (trimL s)))).2 ≠ 0∨tokenB (trimL ((trimL s).drop (wordN (trimL s))))=false then (0,[],80)
 else ((numV maxS ((trimL s).take (wordN (trimL s)))).1,trimL ((trimL s).drop (wordN (trimL s))),0)
def callB (s:List UInt8):Bool:=s.all (fun b=>decide (33≤b.toNat∧b.toNat≤126)) && decide (1≤s.length∧s.length≤128)
def timeV (s:List UInt8):Int × Int:=if (numV maxS (trimL s)).2=9 then (maxS,0) else numV maxS (trimL s)
structure Ev where
 name:List UInt8
 params:List Par
deriving DecidableEq
def noE:Ev:=⟨[],[]⟩
def eventV (s:List UInt8):Ev × Int :=
 if tokenB (trimL ((partsV 59 s).headD []))=false∨(fieldsV (partsV 59 s).tail).2 ≠ 0 then (noE,81) else (⟨trimL ((partsV 59 s).headD []),(fieldsV (partsV 59 s).tail).1⟩,0)
end Go.Proofs.YtiogedceommcoaaGreatDoor
