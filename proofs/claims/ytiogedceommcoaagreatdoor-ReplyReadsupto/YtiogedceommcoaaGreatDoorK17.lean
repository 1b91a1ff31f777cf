/-
  HeadStepL, FrameStepL, FrameLawL, OpenHop, AnySet, BAny, ViaStepL.
-/
import Derived.Test.YtiogedceommcoaaGreatDoorK11
import Derived.Lib.QuietBelow
import Derived.Lib.AsciiSet
import Derived.Laws.RangeAny
import Derived.Laws.Runes
import Derived.Laws.ResultCell
import Derived.Deep.WholeRow
import Derived.Deep.LoopGhost
import Derived.WalkMore
import Derived.Lib.OthersKept
set_option linter.unusedVariables false
set_option linter.unusedSimpArgs false
set_option maxRecDepth 20000
namespace Go.Proofs.YtiogedceommcoaaGreatDoor
open Go.RowKit Sc
theorem htake_ext (l:List UInt8) (k:Nat):(⟨l.toArray⟩:ByteArray).extract 0 k=⟨(l.take k).toArray⟩:=by
 apply ByteArray.ext
 simp
theorem hdrop_ext (l:List UInt8) (k:Nat):(⟨l.toArray⟩:ByteArray).extract k (⟨l.toArray⟩:ByteArray).size=⟨(l.drop k).toArray⟩:=by
 apply ByteArray.ext
 rw [size_list]
 simp [List.take_of_length_le]
theorem seqV_is (s:List UInt8):seqV s=if (numV maxS ((trimL s).take (wordN (trimL s)))).2 ≠ 0∨tokenB (trimL ((trimL s).drop (wordN (trimL s))))=false then (0,[],80)
 else ((numV maxS ((trimL s).take (wordN (trimL s)))).1,trimL ((trimL s).drop (wordN (trimL s))),0):=rfl
theorem eventV_of {s p0:List UInt8} {ps:List (List UInt8)} (h:partsV 59 s=p0 :: ps):eventV s=if tokenB (trimL p0)=false∨(fieldsV ps).2 ≠ 0 then (noE,81) else (⟨trimL p0,(fieldsV ps).1⟩,0):=by
 unfold eventV;rw [h]; rfl
theorem line_hit (r:List UInt8):lineV (13 :: 10 :: r)=some ([],r):=by rw [lineV,if_pos ⟨rfl,rfl⟩]; rfl
theorem line_skip {b:UInt8} {r:List UInt8} (h:¬ (b=13∧r.head? = some 10)):lineV (b :: r)=(lineV r).map fun x=>(b :: x.1,x.2):=by rw [lineV,if_neg h]
theorem line_short:∀ (l:List UInt8),l.length≤1 → lineV l=none
 | [],_=>rfl
 | [b],_=>by rw [line_skip (by simp)]; rfl
 | _ :: _ :: _,h=>by simp at h
theorem line_parts:∀ (l t r:List UInt8),lineV l=some (t,r) → l=t++13 :: 10 :: r
 | [],t,r,h=>by simp [lineV] at h
 | b :: l,t,r,h=>by
  rw [lineV] at h
  split at h
  ·rename_i hb
   obtain ⟨rfl,h2⟩:=hb;simp only [Option.some.injEq,Prod.mk.injEq] at h;obtain ⟨rfl,rfl⟩:=h
   cases l with
   | nil=>simp at h2
   | cons c l=>simp at h2; subst h2; rfl
  ·simp only [Option.map_eq_some_iff] at h;obtain ⟨x,hx,he⟩:=h;obtain ⟨t',r'⟩:=x;simp only [Prod.mk.injEq] at he;obtain ⟨rfl,rfl⟩:=he;rw [line_parts l t' r' hx]; rfl
def lineI (L:List UInt8) (k:Nat):List UInt8 × Int:=match lineV (L.drop k) with | some x=>(x.1,((k+x.1.length+2:Nat):Int)) | none=>([],-1)
theorem lineI_none {L:List UInt8} {k:Nat} (h:lineV (L.drop k)=none):lineI L k=([],-1):=by rw [lineI,h]
theorem lineI_some {L t r:List UInt8} {k:Nat} (h:lineV (L.drop k)=some (t,r)):lineI L k=(t,((k+t.length+2:Nat):Int)):=by rw [lineI,h]
theorem line_rest {L t r:List UInt8} {k:Nat} (h:lineV (L.drop k)=some (t,r)):r=L.drop (k+t.length+2)∧k+t.length+2≤L.length∧t=(L.drop k).take t.length:=by
 have e:=line_parts _ _ _ h;have e2:L.drop (k+t.length+2)=r:=by
  rw [show k+t.length+2=k+(t.length+2) by omega,← List.drop_drop,e]
  simp
 refine ⟨e2.symm,?_,?_⟩
 ·have:=congrArg List.length e
  rw [List.length_drop] at this
  simp at this; omega
 ·rw [e]; simp
def LineAt (L:List UInt8) (k j:Nat):Prop:=lineV (L.drop k)=(lineV (L.drop j)).map fun x=>((L.drop k).take (j - k)++x.1,x.2)
theorem LineAt.start (L:List UInt8) (k:Nat):LineAt L k k:=by
 unfold LineAt
 cases lineV (L.drop k) <;> simp
theorem LineAt.hit {L:List UInt8} {k j:Nat} {r:List UInt8} (hkj:k≤j) (h:LineAt L k j) (hd:L.drop j=13 :: 10 :: r):lineI L k=((L.drop k).take (j - k),((j+2:Nat):Int)):=by
 unfold LineAt at h;rw [hd,line_hit] at h;have hl:((L.drop k).take (j - k)).length=j - k:=by
  have:=congrArg List.length hd
  rw [List.length_drop] at this;rw [List.length_take,List.length_drop]; simp at this; omega
 simp only [Option.map_some,List.append_nil] at h;rw [lineI_some h,hl,show k+(j - k)+2=j+2 by omega]
theorem LineAt.skip {L:List UInt8} {k j:Nat} {b:UInt8} (hkj:k≤j) (h:LineAt L k j) (hd:L.drop j=b :: L.drop (j+1)) (hn:¬ (b=13∧(L.drop (j+1)).head? = some 10)):LineAt L k (j+1):=by
 unfold LineAt at h ⊢;rw [hd,line_skip hn] at h;have ht:(L.drop k).take (j+1 - k)=(L.drop k).take (j - k)++[b]:=by
  have hlt:j - k < (L.drop k).length:=by
   have:=congrArg List.length hd
   rw [List.length_drop] at this;rw [List.length_drop]; simp at this; omega
  rw [show j+1 - k=(j - k)+1 by omega,List.take_succ_eq_append_getElem hlt]
  congr 2
  have h1:(L.drop j)[0]? = some b:=by rw [hd]; rfl
  rw [List.getElem?_drop] at h1;rw [List.getElem_drop];have h2:k+(j - k)=j+0:=by omega
  have h3:k+(j - k) < L.length:=by rw [List.length_drop] at hlt; omega
  have h4:L[k+(j - k)]? = some b:=by rw [h2]; exact h1
  rw [List.getElem?_eq_getElem h3] at h4;exact Option.some.inj h4
 rw [h,ht]
 cases lineV (L.drop (j+1)) <;> simp
theorem LineAt.end {L:List UInt8} {k j:Nat} (h:LineAt L k j) (hj:L.length≤j+1):lineI L k=([],-1):=by
 unfold LineAt at h;rw [line_short (L.drop j) (by rw [List.length_drop]; omega)] at h;exact lineI_none h
theorem headG_more:∀ (n m:Nat) (l:List (List UInt8)) (s:List UInt8),s.length < n → s.length < m → headG n l s=headG m l s
 | 0,m,l,s,hn,hm=>by omega
 | n+1,0,l,s,hn,hm=>by omega
 | n+1,m+1,l,s,hn,hm=>by
  rw [headG,headG]
  cases h:lineV s with
  | none=>rfl
  | some x =>
   obtain ⟨t,r⟩:=x;have e:=congrArg List.length (line_parts _ _ _ h)
   simp at e
   simp only
   split
   ·rfl
   ·exact headG_more n m _ r (by omega) (by omega)
def headF (l:List (List UInt8)) (s:List UInt8):Option (List (List UInt8) × List UInt8):=headG (s.length+1) l s
theorem headF_is (s:List UInt8):headV s=headF [] s:=rfl
theorem headF_none {l:List (List UInt8)} {s:List UInt8} (h:lineV s=none):headF l s=none:=by rw [headF,headG,h]
theorem headF_end {l:List (List UInt8)} {s r:List UInt8} (h:lineV s=some ([],r)):headF l s=some (l,r):=by rw [headF,headG,h]; simp
theorem headF_on {l:List (List UInt8)} {s t r:List UInt8} (h:lineV s=some (t,r)) (ht:t ≠ []):headF l s=headF (pushL l t) r:=by
 have e:=congrArg List.length (line_parts _ _ _ h)
 simp at e
 rw [headF,headG,h];simp only [ht,if_false];exact headG_more _ _ _ r (by omega) (by omega)
theorem push_fold {l:List (List UInt8)} {t:List UInt8} (hl:2≤l.length) (hb:t.head?.any blk=true):pushL l t=l.dropLast++[l.getLastD []++[32]++trimL t]:=by rw [pushL,if_pos ⟨hl,hb⟩]
theorem push_new {l:List (List UInt8)} {t:List UInt8} (h:¬ (2≤l.length∧t.head?.any blk=true)):pushL l t=l++[t]:=by rw [pushL,if_neg h]
def allV (m:Ms) (nm:List UInt8):List (List UInt8):=(m.headers.filter fun x=>sameB x.name nm).map Hdr.value
theorem all_step {hs:List Hdr} {nm:List UInt8} {k:Nat} (hk:k < hs.length):((hs.take (k+1)).filter fun x=>sameB x.name nm).map Hdr.value=((hs.take k).filter fun x=>sameB x.name nm).map Hdr.value++(if sameB hs[k].name nm=true then [hs[k].value] else []):=by
 rw [List.take_succ_eq_append_getElem hk,List.filter_append,List.map_append]
 congr 1
 by_cases h:sameB hs[k].name nm=true
 ·rw [if_pos h]; simp [h]
 ·rw [if_neg h]; simp [h]
def oneV (m:Ms) (nm:List UInt8):List UInt8 × Bool:=match allV m nm with | [x]=>(x,true) | _=>([],false)
def sumH (hs:List Hdr):Nat:=(hs.map fun x=>10+x.name.length+x.value.length).sum
theorem sumH_step {hs:List Hdr} {k:Nat} (hk:k < hs.length):sumH (hs.take (k+1))=sumH (hs.take k)+(10+hs[k].name.length+hs[k].value.length):=by
 unfold sumH;rw [List.take_succ_eq_append_getElem hk,List.map_append,List.sum_append];simp only [List.map_cons,List.map_nil,List.sum_cons,List.sum_nil,Nat.add_zero]
end Go.Proofs.YtiogedceommcoaaGreatDoor
namespace Go.Proofs.YtiogedceommcoaaGreatDoor
open Go.RowKit Go.ChangeShapes Go.WideShapes Go.Deep
structure HopC where
 h:Hop
 q:Value
def hpCells (c:HopC):List Value:=[.string ⟨c.h.host.toArray⟩,.int .i64 c.h.port,c.q]
def hpV (h:Hop) (q:Value):Value:=.agg #[.string ⟨h.host.toArray⟩,.int .i64 h.port,q]
def HopC.At (w:World) (c:HopC):Prop:=ParsAt w c.q c.h.params∧CapOk c.q
theorem HopC.At.below {w w':World} {c:HopC} (h:c.At w) (hb:Below w.heap.size w w'):c.At w':=⟨h.1.below hb,h.2⟩
end Go.Proofs.YtiogedceommcoaaGreatDoor
namespace Go.Proofs.YtiogedceommcoaaGreatDoor
open Go.RowKit Go.ChangeShapes Go.WideShapes Go.Deep
variable {H : Type} {enc : TypeId × Value → H} {W : World} {sp : Nat → Bool}
def SmallV (B:Nat) (h:Hop):Prop:=h.host.length≤B∧SmallP B h.params∧(Lit.int .i64 h.port).wf=true
theorem SmallV.port {B:Nat} {a:Hop} (h:SmallV B a):-9223372036854775808≤a.port∧a.port≤9223372036854775807:=i64_of h.2.2
end Go.Proofs.YtiogedceommcoaaGreatDoor
namespace Go.Proofs.YtiogedceommcoaaGreatDoor
open Go.RowKit Sc
theorem infoSet:(Tryz.prog.info? 204).map (fun i=>(i.zero,i.size))=some (some (.agg (Array.replicate 256 (.bool false))),256):=by kernel_rfl
theorem underSet:Tryz.prog.underlying 204=some (.array 256 4):=by kernel_rfl
theorem decode_wide (s:ByteArray) (pos:Nat) (h:pos < s.size):1≤(Utf8.decode s pos).2∧pos+(Utf8.decode s pos).2≤s.size∧∀ k,1≤k → k < (Utf8.decode s pos).2 → ∃ hk:pos+k < s.size,128≤(s[pos+k]'hk).toNat:=by
 have hg:∀ k (hk:pos+k < s.size),s.get! (pos+k)=s[pos+k]'hk:=fun k hk=>by simp [ByteArray.get!,getElem!_pos,hk]; rfl
 have hc:∀ k,(decide (pos+k < s.size) && ((s.get! (pos+k)).toNat / 64==2))=true → ∃ hk:pos+k < s.size,128≤(s[pos+k]'hk).toNat:=fun k hk=>by
  simp only [Bool.and_eq_true,decide_eq_true_eq,beq_iff_eq] at hk;refine ⟨hk.1,?_⟩
  have:=hk.2
  rw [hg k hk.1] at this;omega
 have hlt:∀ k,(decide (pos+k < s.size) && ((s.get! (pos+k)).toNat / 64==2))=true → pos+k < s.size:=fun k hk=>(hc k hk).1;have fin:∀ (m:Nat),1≤m → (∀ k,1≤k → k < m → (decide (pos+k < s.size) && ((s.get! (pos+k)).toNat / 64==2))=true) → 1≤m∧pos+m≤s.size∧∀ k,1≤k → k < m → ∃ hk:pos+k < s.size,128≤(s[pos+k]'hk).toNat:=by
  intro m hm hall;refine ⟨hm,?_,fun k h1 h2=>hc k (hall k h1 h2)⟩
  by_cases h1:m=1
  ·omega
  ·have:=hlt (m - 1) (hall (m - 1) (by omega) (by omega)); omega
 have two:∀ {a:Bool},(a && (decide (pos+1 < s.size) && ((s.get! (pos+1)).toNat / 64==2)))=true → ∀ k,1≤k → k < 2 → (decide (pos+k < s.size) && ((s.get! (pos+k)).toNat / 64==2))=true:=by
  intro a ha k h1 h2;rw [Bool.and_eq_true] at ha;obtain rfl:k=1:=by omega
  exact ha.2
 simp only [Utf8.decode]
 split
 ·exact fin 1 (Nat.le_refl _) (fun k h1 h2=>by omega)
 split
 ·rename_i h2
  split
  ·exact fin 2 (by omega) (two h2)
  ·exact fin 1 (Nat.le_refl _) (fun k h1 h2=>by omega)
 split
 ·rename_i h3
  split
  ·refine fin 3 (by omega) (fun k h1 h2=>?_)
   rw [Bool.and_eq_true,Bool.and_eq_true] at h3;obtain ⟨⟨_,a1⟩,a2⟩:=h3
   rcases (show k=1∨k=2 by omega) with rfl | rfl
   ·exact a1
   ·exact a2
  ·exact fin 1 (Nat.le_refl _) (fun k h1 h2=>by omega)
 split
 ·rename_i h3
  split
  ·refine fin 4 (by omega) (fun k h1 h2=>?_)
   rw [Bool.and_eq_true,Bool.and_eq_true,Bool.and_eq_true] at h3;obtain ⟨⟨⟨_,a1⟩,a2⟩,a3⟩:=h3
   rcases (show k=1∨k=2∨k=3 by omega) with rfl | rfl | rfl
   ·exact a1
   ·exact a2
   ·exact a3
  ·exact fin 1 (Nat.le_refl _) (fun k h1 h2=>by omega)
 ·exact fin 1 (Nat.le_refl _) (fun k h1 h2=>by omega)
theorem encode_high {c:Nat} (h:128≤c):∃ (r:List UInt8) (b:UInt8),Utf8.encode (c:Int)=⟨(r++[b]).toArray⟩∧1≤r.length∧r.length≤3∧128≤b.toNat:=by
 have hb:∀ n:Nat,n < 64 → 128≤(UInt8.ofNat (128+n)).toNat:=fun n hn=>by simp [UInt8.toNat_ofNat']; omega
 unfold Utf8.encode;generalize hd:(if Utf8.valid (c:Int)=true then (c:Int).toNat else Utf8.runeError)=d;have hd2:128≤d:=by
  rw [← hd]
  split
  ·simpa using h
  ·decide
 have h3:=hb (d % 64) (by omega)
 simp only
 rw [if_neg (by omega)]
 split
 ·exact ⟨[UInt8.ofNat (192+d / 64)],UInt8.ofNat (128+d % 64),rfl,by simp,by simp,h3⟩
 split
 ·exact ⟨[UInt8.ofNat (224+d / 4096),UInt8.ofNat (128+d / 64 % 64)],UInt8.ofNat (128+d % 64),rfl,by simp,by simp,h3⟩
 ·exact ⟨[UInt8.ofNat (240+d / 262144),UInt8.ofNat (128+d / 4096 % 64),UInt8.ofNat (128+d / 64 % 64)],UInt8.ofNat (128+d % 64),rfl,by simp,by simp,h3⟩
theorem wp_load_new {P:Program} {w:World} {ops:Array Oper} {rest:List Oper} {o:Oper} {a:Act} {Q:Exit → Act → World → Prop} (hgd:o.guard=none) (p:Operand) (t:TypeId) (ho:o.op=Op.load t p)
  (c:Array Value) (n:Nat) (e:TypeId) (hu:P.underlying t=some (.array n e)) (hi:(P.info? t).map (·.size)=some c.size) (hp:a.eval p=.pointer (some ⟨w.heap.size,0,none⟩))
  (h:wpList P ops Q rest (a.put o.dst (.agg c)) (w.alloc (.cells c t))):wpList P ops Q (o :: rest) a (w.alloc (.cells c t)):=by
 refine wpList_plain hgd fun K hK=>?_
 have hr:=run_loadAt_new (P:=P) w t c n e hu hi;unfold Oper.wp execOp;simp only [ho,hp,Sem.run_bind,Sem.run_pure,Result.andThen_ok,hr];exact hK _ _ h
theorem wp_store_new {P:Program} {w:World} {ops:Array Oper} {rest:List Oper} {o:Oper} {a:Act} {Q:Exit → Act → World → Prop} (hgd:o.guard=none) (p x:Operand) (t:TypeId) (ho:o.op=Op.store t p x) (hd:o.dst=none)
  (c c':Array Value) (hi:(P.info? t).map (·.size)=some c'.size) (hcc:c.size=c'.size) (h1:c'.all (·.oneCell')=true) (g:Nat) (hg:w.heap.size=g) (hp:a.eval p=.pointer (some ⟨g,0,none⟩)) (hx:a.eval x=.agg c')
  (h:wpList P ops Q rest a (w.alloc (.cells c' t))):wpList P ops Q (o :: rest) a (w.alloc (.cells c t)):=by
 refine wpList_plain hgd fun K hK=>?_
 have hr:=run_storeAt_new (P:=P) w t c c' hi hcc h1;rw [hg] at hr;unfold Oper.wp execOp;simp only [ho,hp,hx,Sem.run_bind,Sem.run_pure,Result.andThen_ok,hr];exact hK _ _ (by rw [hd]; exact h)
set_option maxHeartbeats 1000000 in
set_option maxRecDepth 100000 in
theorem makeSet_any (chars:ByteArray) (w:World) (hs:chars.size < 4294967281) (hascii:∀ (j:Nat) b,chars.data.toList[j]? = some b → b.toNat < 128) :
  Calls Tryz.prog 189 #[.string chars] w fun e w'=>e=.returned (.tuple #[.agg (Lib.setCells chars.data.toList),.bool true])∧w'=w.alloc (.cells (Lib.setCells chars.data.toList) 204):=by
 have HA:=hid hascii;clear hascii;have hzv:=(zero_of_info infoSet).1
 go_enter Tryz.func189,Tryz.ntmps189
 go_wp2;rw [← Lib.setCells_nil]
 go_loopg [4] chars.size (fun g s4 wx=>∃ i:Nat,i+g=chars.size∧s4=.int .i64 i∧wx=w.alloc (.cells (Lib.setCells (chars.data.toList.take i)) 204))
 case atStart=>exact ⟨0,by omega,rfl,rfl⟩
 case round =>
  obtain ⟨i,hig,rfl,rfl⟩:=hrel
  cases gk with
  | zero =>
   obtain rfl:i=chars.size:=by omega
   have hiz:¬ ((chars.size:Int) < (chars.size:Int)):=by omega
   rw [show chars.data.toList.take chars.size=chars.data.toList from take_all chars chars.size (Nat.le_refl _)];have hi138:=(zero_of_info infoSet).2;have hsz:=Lib.setCells_size chars.data.toList;have hi2:=hid (show (Tryz.prog.info? 204).map (·.size)=some (Lib.setCells chars.data.toList).size by rw [hsz]; exact hi138);have hld:=run_loadVar_new (P:=Tryz.prog) w 204 (Lib.setCells chars.data.toList) 256 4 underSet (by rw [hsz]; exact hi138);clear hig;have HLD:=hid hld;clear hld hi138;go_wp2_with (first | (refine wp_load_new rfl (.tmp 2) 204 rfl (Lib.setCells chars.data.toList) 256 4 underSet hi2.out rfl ?_) | (refine wp_store_new rfl (.tmp 2) (.tmp 20) 204 rfl rfl (Lib.setCells chars.data.toList) (Lib.setCells chars.data.toList) hi2.out rfl (Lib.setCells_one _) _ rfl rfl rfl ?_))
   (try simp only [Exit.inBlock,Exit.then])
   refine bodyPost_ret (v:=.tuple #[.agg (Lib.setCells chars.data.toList),.bool true]) ?_ rfl ⟨rfl,rfl⟩
   rw [results_cell_tmp rfl]
   simp [asAddr,Result.andThen,HLD.out]
  | succ g =>
   have hi:i < chars.size:=by omega
   have hiz:(i:Int) < (chars.size:Int):=by omega
   obtain ⟨x,hx⟩:∃ x:UInt8,chars[i]'hi=x:=⟨_,rfl⟩
   have hxl:chars.data.toList[i]? = some x:=by rw [← hx]; exact getL chars i hi
   have hx128:¬ ((128:Int)≤(x.toNat:Int)):=by have:=HA.out i x hxl; omega
   have hx256:(x.toNat:Int) < 256:=by have:=HA.out i x hxl; omega
   have hcell:=Lib.setCells_at (chars.data.toList.take i) x;have Hx:=hid hxl;clear hxl;go_wp2
   go_roundg g
   case measure=>omega
   case rel=>exact ⟨i+1,by omega,by first | rfl | simp,by rw [List.take_add_one,Hx.out]; simp only [Option.toList]; rw [Lib.setCells_snoc]⟩
set_option maxHeartbeats 400000 in
theorem setHas_any (b:Nat) (x:UInt8) (v:Bool) (w:World) (hc:w.cell? ⟨b,x.toNat,none⟩=some (.bool v)) :
  Calls Tryz.prog 190 #[.pointer (some ⟨b,0,none⟩),.int .u8 x.toNat] w fun e w'=>e=.returned (.bool v)∧w'=w:=by
 have hx256:(x.toNat:Int) < 256:=by have:=UInt8.toNat_lt x; omega
 go_enter Tryz.func190,Tryz.ntmps190
 go_wp2;go_ret;exact ⟨rfl,rfl⟩
set_option maxHeartbeats 400000 in
theorem useSet_any (n:Int) (w:World):Calls Tryz.prog 188 #[.int .i64 n] w fun e w'=>e=.returned (.bool (decide (8 < n)))∧w'=w:=by
 go_enter Tryz.func188,Tryz.ntmps188
 go_wp2;go_ret;exact ⟨rfl,rfl⟩
set_option maxHeartbeats 400000 in
theorem validRune_any (c:Nat) (w:World):Calls Tryz.prog 206 #[.int .i32 c] w fun e w'=>(∃ b,e=.returned (.bool b))∧w'=w:=by
 have h0:(0:Int)≤(c:Int):=by omega
 by_cases h1:(c:Int) < 55296
 ·go_enter Tryz.func206,Tryz.ntmps206
  go_wp2;go_ret;exact ⟨by first | exact Or.inl rfl | exact Or.inr rfl | exact ⟨_,rfl⟩,rfl⟩
 ·by_cases h2:(57343:Int) < (c:Int)
  ·by_cases h3:(c:Int)≤1114111
   ·go_enter Tryz.func206,Tryz.ntmps206
    go_wp2;go_ret;exact ⟨by first | exact Or.inl rfl | exact Or.inr rfl | exact ⟨_,rfl⟩,rfl⟩
   ·go_enter Tryz.func206,Tryz.ntmps206
    go_wp2;go_ret;exact ⟨by first | exact Or.inl rfl | exact Or.inr rfl | exact ⟨_,rfl⟩,rfl⟩
  ·go_enter Tryz.func206,Tryz.ntmps206
   go_wp2;go_ret;exact ⟨by first | exact Or.inl rfl | exact Or.inr rfl | exact ⟨_,rfl⟩,rfl⟩
def blkL:List UInt8:=[32,9]
theorem bany_high {b:UInt8} (h:128≤b.toNat):blkL.contains b=false:=by
 have:∀ b:UInt8,128≤b.toNat → blkL.contains b=false:=by apply byte_all; decide +kernel
 exact this b h
theorem bnoAny_rune {s:ByteArray} {pos:Nat} (h:pos < s.size) (ha:128≤(s[pos]'h).toNat) (hno:Lib.NoAny s.data.toList blkL pos):Lib.NoAny s.data.toList blkL (pos+(Utf8.decode s pos).2):=by
 obtain ⟨h1,h2,h3⟩:=decode_wide s pos h;intro j b hj hb;by_cases hlt:j < pos
 ·exact hno j b hlt hb
 ·by_cases he:j=pos
  ·subst he
   have:=getL s j h
   rw [this] at hb
   cases hb
   exact bany_high ha
  ·obtain ⟨hk,hk2⟩:=h3 (j - pos) (by omega) (by omega);have e:pos+(j - pos)=j:=by omega
   have:=getL s j (by omega)
   rw [this] at hb
   cases hb
   simp only [e] at hk2;exact bany_high hk2
set_option maxHeartbeats 1000000 in
theorem bindexRune_low (x:UInt8) (w:World) (h:x.toNat < 128) :
  Calls Tryz.prog 187 #[.string ⟨#[32,9]⟩,.int .i32 x.toNat] w fun e w'=>e=.returned (.int .i64 (Lib.indexByte [32,9] x))∧w'=w:=by
 have h0:(0:Int)≤(x.toNat:Int):=by omega
 have h1:(x.toNat:Int) < 128:=by omega
 have hc:IntKind.u8.wrap (x.toNat:Int)=(x.toNat:Int):=by
  simp [IntKind.wrap,IntKind.signed,IntKind.bits]; omega
 have K:=hid (fun w'=>strIndexByte_any ⟨#[32,9]⟩ x w')
 go_enter Tryz.func187,Tryz.ntmps187
 go_wp2_with fail
 refine (K.out _).mono ?_
 rintro e w1 ⟨rfl,rfl⟩;go_wp2;go_ret;exact ⟨rfl,rfl⟩
theorem bany_ascii:∀ (j:Nat) (b:UInt8),(⟨#[32,9]⟩:ByteArray).data.toList[j]? = some b → b.toNat < 128:=by
 intro j b h
 have:b ∈ [32,9]:=List.mem_of_getElem? h
 simp at this
 rcases this with rfl | rfl <;> decide
set_option maxHeartbeats 1000000 in
set_option maxRecDepth 100000 in
theorem bindexAny_long (s:ByteArray) (w:World) (h8:8 < s.size) (hs:s.size≤9223372036854775807) :
  Calls Tryz.prog 160 #[.string s,.string ⟨#[32,9]⟩] w fun e w'=>e=.returned (.int .i64 (Lib.indexAny s.data.toList blkL))∧Below w.heap.size w w':=by
 have KM:=hid (makeSet_any ⟨#[32,9]⟩ w (by decide) bany_ascii);have h8z:decide ((8:Int) < (s.size:Int))=true:=decide_eq_true (by omega);have hsz:=Lib.setCells_size [32,9];have hi2:=hid (show (Tryz.prog.info? 204).map (·.size)=some (Lib.setCells [32,9]).size by rw [hsz]; exact (zero_of_info infoSet).2);have hzv:=(zero_of_info infoSet).1;have hcellAt:∀ x:UInt8,((w.alloc (.cells (Lib.setCells [32,9]) 204)).alloc (.cells (Lib.setCells [32,9]) 204)).cell? ⟨w.heap.size+1,x.toNat,none⟩=some (.bool (blkL.contains x)):=fun x=>by
  rw [World.cell?_alloc_at _ _ _ _ (by simp),Lib.setCells_at]; rfl
 have HC:=hid hcellAt;have hb2:Below w.heap.size w ((w.alloc (.cells (Lib.setCells [32,9]) 204)).alloc (.cells (Lib.setCells [32,9]) 204)):=((Below.refl _ _).alloc (Nat.le_refl _) _).alloc (by simp) _;have hrep:Hid ((Array.replicate 256 (Value.bool false)).size=(Lib.setCells [32,9]).size):=show _=_ by rw [hsz,Array.size_replicate]
 have HA1:Hid ((w.alloc (.cells (Lib.setCells [32,9]) 204)).heap.size=w.heap.size+1):=show _=_ by simp
 clear hcellAt hsz;have K8:=hid (useSet_any (s.size:Int));rw [h8z] at K8
 go_enter Tryz.func160,Tryz.ntmps160
 go_wp2_with (first
  | (go_at_call 188; refine (K8.out _).mono ?_; rintro e w' ⟨rfl,hw⟩; rw [hw])
  | (go_at_call 189; refine KM.out.mono ?_; rintro e w' ⟨rfl,hw⟩; rw [hw])
  | (refine wp_store_new rfl (.tmp 6) (.tmp 30) 204 rfl rfl (Array.replicate 256 (.bool false)) (Lib.setCells [32,9]) hi2.out hrep.out (Lib.setCells_one _) (w.heap.size+1) HA1.out rfl rfl ?_))
 go_loopg [8] s.size (fun g s8 wx=>∃ i:Nat,i+g=s.size∧s8=.int .i64 i∧wx=((w.alloc (.cells (Lib.setCells [32,9]) 204)).alloc (.cells (Lib.setCells [32,9]) 204))∧Hid (Lib.NoAny s.data.toList blkL i))
 case atStart=>exact ⟨0,by omega,rfl,rfl,Lib.NoAny.zero _ _⟩
 case round =>
  obtain ⟨i,hig,rfl,rfl,HN⟩:=hrel
  cases gk with
  | zero =>
   obtain rfl:i=s.size:=by omega
   have hiz:¬ ((s.size:Int) < (s.size:Int)):=by omega
   have hv:Hid (Lib.indexAny s.data.toList blkL=-1):=Lib.indexAny_none (by rw [len_data]; exact HN.out);clear HN;go_wp2;go_ret;exact ⟨by rw [hv.out]; rfl,hb2⟩
  | succ g =>
   have hi':i < s.size:=by omega
   have hiz:(i:Int) < (s.size:Int):=by omega
   have Hx:=hid (getL s i hi');have hcx:=HC.out s[i]
   cases hin:blkL.contains s[i] with
   | false =>
    rw [hin] at hcx;have hn2:=hid (HN.out.succ Hx.out hin);have KH:=hid (setHas_any _ _ _ _ hcx);clear HN hin hcx;go_wp2_with (go_at_call 190; refine KH.out.mono ?_; rintro e w' ⟨rfl,hw⟩; rw [hw])
    go_roundg g
    case measure=>omega
    case rel=>exact ⟨i+1,by omega,by first | rfl | simp,rfl,hn2⟩
   | true =>
    rw [hin] at hcx;have hv:Hid (Lib.indexAny s.data.toList blkL=i):=Lib.indexAny_hit HN.out Hx.out hin;have KH:=hid (setHas_any _ _ _ _ hcx);clear HN hin hcx;go_wp2_with (go_at_call 190; refine KH.out.mono ?_; rintro e w' ⟨rfl,hw⟩; rw [hw])
    go_ret;exact ⟨by rw [hv.out]; rfl,hb2⟩
set_option maxHeartbeats 1000000 in
set_option maxRecDepth 100000 in
theorem bindexRune_err (w:World) :
  Calls Tryz.prog 187 #[.string ⟨#[32,9]⟩,.int .i32 65533] w fun e w'=>e=.returned (.int .i64 (-1))∧Below w.heap.size w w':=by
 have hb:∀ p,Below w.heap.size w (w.iter ⟨#[32,9]⟩ p):=fun p=>(Below.refl _ _).alloc (Nat.le_refl _) _;have HB:=hid hb;clear hb
 go_enter Tryz.func187,Tryz.ntmps187
 go_wp2
 go_loopg [5,6] 2 (fun g _ _ wx=>∃ i:Nat,i+g=2∧wx=w.iter ⟨#[32,9]⟩ i)
 case atStart=>exact ⟨0,rfl,rfl⟩
 case round =>
  obtain ⟨i,hig,rfl⟩:=hrel
  cases gk with
  | zero =>
   obtain rfl:i=2:=by omega
   have hnx:=fun ty=>run_next_end (P:=Tryz.prog) w ⟨#[32,9]⟩ 2 ty (by decide);go_wp2;go_ret;exact ⟨rfl,HB.out _⟩
  | succ g =>
   have hi3:i < 2:=by omega
   rcases (show i=0∨i=1 by omega) with rfl | rfl
   ·have hnx:=fun ty=>run_next_ascii (P:=Tryz.prog) w ⟨#[32,9]⟩ 0 ty (by decide) (by decide);have hnx2:∀ ty,(Instr.next (.pointer (some ⟨w.heap.size,0,none⟩)) true ty).run Tryz.prog (w.iter ⟨#[32,9]⟩ 0)=.ok (.tuple #[.bool true,.int .i64 0,.int .i32 32]) (w.iter ⟨#[32,9]⟩ 1):=hnx;clear hnx;go_wp2
    go_roundg g
    case measure=>omega
    case rel=>exact ⟨1,by omega,rfl⟩
   ·have hnx:=fun ty=>run_next_ascii (P:=Tryz.prog) w ⟨#[32,9]⟩ 1 ty (by decide) (by decide);have hnx2:∀ ty,(Instr.next (.pointer (some ⟨w.heap.size,0,none⟩)) true ty).run Tryz.prog (w.iter ⟨#[32,9]⟩ 1)=.ok (.tuple #[.bool true,.int .i64 1,.int .i32 9]) (w.iter ⟨#[32,9]⟩ 2):=hnx;clear hnx;go_wp2
    go_roundg g
    case measure=>omega
    case rel=>exact ⟨2,by omega,rfl⟩
theorem three_casesT:∀ (r:List UInt8),1≤r.length → r.length≤3 → (∃ x,r=[x])∨(∃ x y,r=[x,y])∨(∃ x y z,r=[x,y,z])
 | [],h,_=>by simp at h
 | [x],_,_=>Or.inl ⟨x,rfl⟩
 | [x,y],_,_=>Or.inr (Or.inl ⟨x,y,rfl⟩)
 | [x,y,z],_,_=>Or.inr (Or.inr ⟨x,y,z,rfl⟩)
 | _ :: _ :: _ :: _ :: _,_,h=>by simp at h
set_option maxHeartbeats 1000000 in
set_option maxRecDepth 1000000 in
theorem bindexRune_high (c:Nat) (w:World) (h:128≤c) (hc:c≤2147483647) :
  Calls Tryz.prog 187 #[.string ⟨#[32,9]⟩,.int .i32 c] w fun e w'=>e=.returned (.int .i64 (-1))∧Below w.heap.size w w':=by
 by_cases he:c=65533
 ·subst he; exact bindexRune_err w
 have e1:((c:Int)==65533)=false:=by simp; omega
 have h0:(0:Int)≤(c:Int):=by omega
 have h1:¬ ((c:Int) < 128):=by omega
 have KV:=hid (validRune_any c w);obtain ⟨r,b,hen,hr1,hr2,hbb⟩:=encode_high h;have HE:=hid hen;clear hen he;have hw1:IntKind.i64.wrap ((1:Int)+1)=2:=by decide
 have hw2:IntKind.i64.wrap ((2:Int)+1)=3:=by decide
 have hw3:IntKind.i64.wrap (2:Int)=2:=by decide
 have hw4:IntKind.i64.wrap (3:Int)=3:=by decide
 have hb44:((9:Int) != (b.toNat:Int))=true:=by simp; omega
 have k1:Lib.indexByte [] b=-1:=rfl
 go_enter Tryz.func187,Tryz.ntmps187
 go_wp2_with fail
 refine KV.out.mono ?_
 rintro e w1 ⟨⟨vb,rfl⟩,rfl⟩
 cases vb with
 | false =>
  go_wp2;go_ret;exact ⟨rfl,Below.refl _ _⟩
 | true =>
  have hcase:=three_casesT r hr1 hr2
  rcases hcase with ⟨x,rfl⟩ | ⟨x,y,rfl⟩ | ⟨x,y,z,rfl⟩
  ·have hen:Utf8.encode (c:Int)=⟨#[x,b]⟩:=HE.out;have hq1:((((⟨#[32,9]⟩:ByteArray)[1]'(by decide)).toNat:Int) != (((⟨#[x,b]⟩:ByteArray)[1]'(show (1:Nat) < 2 by decide)).toNat:Int))=true:=hb44;have hq2:Lib.indexByte ByteArray.empty.data.toList ((⟨#[x,b]⟩:ByteArray)[1]'(show (1:Nat) < 2 by decide))=-1:=k1;go_wp2
   go_step3
   go_wp2
   go_loopg [9,10] 0 (fun g p q wx=>p=.int .i64 1∧wx=w1)
   case atStart=>exact ⟨rfl,rfl⟩
   case round =>
    obtain ⟨rfl,rfl⟩:=hrel;go_wp2
    go_step3
    go_wp2
    go_quiet (fail)
    have hbq:=below_drewN wr nq;generalize wr.drewN nq=wq at hbq ⊢;go_wp2
    go_quiet (first | (go_at_call 192; exact Calls.quiet_of_same (strIndexByte_any _ _ _)))
    have hbq2:=hbq.trans ((below_drewN wq nq).mono hbq.size);generalize wq.drewN nq=wq2 at hbq2 ⊢;rw [hq2];go_wp2;rw [Exit.noGoto_ret]
    try simp only [Exit.inBlock,Exit.then]
    rw [Exit.noGoto_ret]
    try simp only [Exit.inBlock]
    go_ret;exact ⟨rfl,hbq2⟩
  ·have hen:Utf8.encode (c:Int)=⟨#[x,y,b]⟩:=HE.out;go_wp2
   go_step3
   go_wp2
   go_loopg [9,10] 0 (fun g p q wx=>p=.int .i64 2∧wx=w1)
   case atStart=>exact ⟨rfl,rfl⟩
   case round =>
    obtain ⟨rfl,rfl⟩:=hrel;go_wp2;rw [Exit.noGoto_ret]
    try simp only [Exit.inBlock]
    go_ret;exact ⟨rfl,Below.refl _ _⟩
  ·have hen:Utf8.encode (c:Int)=⟨#[x,y,z,b]⟩:=HE.out;go_wp2
   go_step3
   go_wp2
   go_loopg [9,10] 0 (fun g p q wx=>p=.int .i64 3∧wx=w1)
   case atStart=>exact ⟨rfl,rfl⟩
   case round =>
    obtain ⟨rfl,rfl⟩:=hrel;go_wp2;rw [Exit.noGoto_ret]
    try simp only [Exit.inBlock]
    go_ret;exact ⟨rfl,Below.refl _ _⟩
def blkB (l:List UInt8):Bool:=l.any blk
theorem blkL_is (b:UInt8):blkL.contains b=blk b:=by
 have:∀ b:UInt8,blkL.contains b=blk b:=by apply byte_all; decide +kernel
 exact this b
theorem blkB_index:∀ l:List UInt8,decide (0≤Lib.indexAny l blkL)=blkB l
 | []=>rfl
 | b :: l=>by
  have ih:=blkB_index l;have hge:=Lib.indexAny_ge blkL l;have hb:=blkL_is b;unfold Lib.indexAny;rw [hb];have e:blkB (b :: l)=(blk b || blkB l):=by simp [blkB]
  rw [e,← ih]
  split
  ·rename_i h; rw [h]; rfl
  ·rename_i h
   rw [show blk b=false by simpa using h]
   split
   ·rename_i h2
    have:Lib.indexAny l blkL=-1:=by simpa using h2
    rw [this]; decide
   ·rename_i h2
    have:¬ Lib.indexAny l blkL=-1:=by simpa using h2
    rw [Bool.false_or]
    congr 1
    apply propext
    omega
set_option maxHeartbeats 1000000 in
set_option maxRecDepth 1000000 in
theorem bindexAny_short (s:ByteArray) (w:World) (h8:s.size≤8) :
  Calls Tryz.prog 160 #[.string s,.string ⟨#[32,9]⟩] w fun e w'=>e=.returned (.int .i64 (Lib.indexAny s.data.toList blkL))∧Below w.heap.size w w':=by
 have h8z:decide ((8:Int) < (s.size:Int))=false:=decide_eq_false (by omega);have K8:=hid (useSet_any (s.size:Int));rw [h8z] at K8;have hit0:(w.iter s 0).heap[w.heap.size]? = some (.stringIter s 0):=World.iter_heap w s 0;have hbi:Below w.heap.size w (w.iter s 0):=(Below.refl _ _).alloc (Nat.le_refl _) _;have HI:=hid hit0;clear hit0
 go_enter Tryz.func160,Tryz.ntmps160
 go_wp2_with (go_at_call 188; refine (K8.out _).mono ?_; rintro e w' ⟨rfl,hw⟩; rw [hw])
 generalize w.iter s 0=W at HI hbi ⊢
 go_loopg [9,10] s.size (fun g _ _ wx=>∃ i:Nat,Hid (i+g=s.size)∧i≤s.size∧Hid (wx.heap[w.heap.size]? = some (.stringIter s i))∧Hid (Lib.NoAny s.data.toList blkL i)∧Below w.heap.size w wx)
 case atStart=>exact ⟨0,hid (by omega),by omega,HI,Lib.NoAny.zero _ _,hbi⟩
 case round =>
  clear HI hbi;obtain ⟨i,hig,his,HI,HN,hb⟩:=hrel;by_cases hlt:i < s.size
  ·have hnx:=fun ty=>Lib.run_next_any_at (P:=Tryz.prog) wr w.heap.size s i ty HI.out hlt;obtain ⟨dw1,dw2,_⟩:=decode_wide s i hlt;have HI2:=hid (Lib.iterAt_heap wr w.heap.size s i (i+(Utf8.decode s i).2) HI.out);have hb2:=Lib.below_iterAt hb (Nat.le_refl _) s (i+(Utf8.decode s i).2);have hgk:Hid (s.size - (i+(Utf8.decode s i).2) < gk):=show _ < _ by have:=hig.out; omega
   have hltw:w.heap.size < (wr.iterAt w.heap.size s (i+(Utf8.decode s i).2)).heap.size:=by rw [Lib.iterAt_size]; exact (Array.getElem?_eq_some_iff.1 HI.out).1
   by_cases hx:(s[i]'hlt).toNat < 128
   ·have hda:=decode_ascii s i hlt hx;have KL:=hid (fun w'=>bindexRune_low s[i] w' hx);have hcon:=Lib.contains_iff_indexByte blkL s[i]
    cases hin:blkL.contains s[i] with
    | true =>
     have hv:Hid (Lib.indexAny s.data.toList blkL=i):=Lib.indexAny_hit HN.out (getL s i hlt) hin;have hge:(0:Int)≤Lib.indexByte [32,9] s[i]:=of_decide_eq_true (by rw [← hin]; exact hcon.symm);rw [hda] at hnx hb2;simp only at hnx hb2;generalize wr.iterAt w.heap.size s (i+1)=wi at hnx hb2;clear HN hin hcon HI HI2 hda hltw;go_wp2_with (go_at_call 187; refine (KL.out _).mono ?_; rintro e w' ⟨rfl,hw⟩; rw [hw])
     go_ret;exact ⟨by rw [hv.out]; rfl,hb2⟩
    | false =>
     have hn2:=hid (HN.out.succ (getL s i hlt) hin);have hge:¬ ((0:Int)≤Lib.indexByte [32,9] s[i]):=of_decide_eq_false (by rw [← hin]; exact hcon.symm);rw [hda] at hnx hb2 HI2 hgk;simp only at hnx hb2 HI2 hgk;generalize wr.iterAt w.heap.size s (i+1)=wi at hnx hb2 HI2;clear HN hin hcon HI hda hltw;go_wp2_with (go_at_call 187; refine (KL.out _).mono ?_; rintro e w' ⟨rfl,hw⟩; rw [hw])
     go_roundg (s.size - (i+1))
     case measure=>exact hgk.out
     case rel=>exact ⟨i+1,hid (by omega),by omega,HI2,hn2,hb2⟩
   ·have hhi:=decode_high s i hlt (by omega);have hle:=decode_le s i;have KH:=hid (fun w'=>bindexRune_high (Utf8.decode s i).1 w' hhi.1 hle);have hn2:=hid (bnoAny_rune hlt (by omega) HN.out);generalize Utf8.decode s i=dd at hnx hb2 HI2 hgk KH hn2 dw1 dw2 hltw;obtain ⟨dc,dn⟩:=dd;simp only at hnx hb2 HI2 hgk KH hn2 dw1 dw2 hltw;generalize wr.iterAt w.heap.size s (i+dn)=wi at hnx hb2 HI2 hltw;clear HN HI hhi hle;go_wp2_with fail
    refine (KH.out _).mono ?_
    rintro e w2 ⟨rfl,hw2⟩;have HI3:Hid (w2.heap[w.heap.size]? = some (.stringIter s (i+dn))):=show _=_ by rw [hw2.block _ hltw]; exact HI2.out
    have hb3:=hb2.trans (hw2.mono hb2.size);clear HI2 hb2 hw2;go_wp2
    go_roundg (s.size - (i+dn))
    case measure=>exact hgk.out
    case rel=>exact ⟨i+dn,hid (by omega),by omega,HI3,hn2,hb3⟩
  ·have hnx:=fun ty=>Lib.run_next_end_at (P:=Tryz.prog) wr w.heap.size s i ty HI.out hlt;have hv:Hid (Lib.indexAny s.data.toList blkL=-1):=Lib.indexAny_none (fun j b hj hb=>HN.out j b (by rw [len_data] at hj; omega) hb);clear HN HI;go_wp2;go_ret;exact ⟨by rw [hv.out]; rfl,hb⟩
set_option maxHeartbeats 400000 in
theorem bcontainsAny_any (l:List UInt8) (w:World) (hl:l.length≤140737488355328) :
  Calls Tryz.prog 183 #[.string ⟨l.toArray⟩,.string ⟨#[32,9]⟩] w fun e w'=>e=.returned (.bool (blkB l))∧Below w.heap.size w w':=by
 have z:=size_list l;have K:Calls Tryz.prog 160 #[.string ⟨l.toArray⟩,.string ⟨#[32,9]⟩] w fun e w'=>e=.returned (.int .i64 (Lib.indexAny l blkL))∧Below w.heap.size w w':=by
  by_cases h8:(⟨l.toArray⟩:ByteArray).size≤8
  ·exact bindexAny_short ⟨l.toArray⟩ w h8
  ·exact bindexAny_long ⟨l.toArray⟩ w (by omega) (by omega)
 have hv:=blkB_index l;have KK:=hid K;clear K;generalize Lib.indexAny l blkL=n at KK hv;have HV:=hid hv;clear hv z
 go_enter Tryz.func183,Tryz.ntmps183
 go_wp2_with fail
 refine KK.out.mono ?_
 rintro e w1 ⟨rfl,hw1⟩;go_wp2;go_ret;exact ⟨by rw [← HV.out]; rfl,hw1⟩
theorem wordN_cons (b:UInt8) (l:List UInt8):wordN (b :: l)=if blk b=true then 0 else wordN l+1:=by
 unfold wordN;rw [List.takeWhile_cons]
 cases blk b <;> simp
theorem wordN_le (l:List UInt8):wordN l≤l.length:=by
 unfold wordN;exact (List.takeWhile_sublist _).length_le
theorem wordN_at:∀ (l:List UInt8),wordN l < l.length → ∃ b r,l.drop (wordN l)=b :: r∧blk b=true∧l.drop (wordN l+1)=r
 | [],h=>by simp at h
 | b :: l,h=>by
  rw [wordN_cons] at h ⊢
  split
  ·rename_i hb
   exact ⟨b,l,rfl,hb,rfl⟩
  ·rename_i hb
   rw [if_neg hb] at h;obtain ⟨c,r,h1,h2,h3⟩:=wordN_at l (by simpa using h);exact ⟨c,r,by simpa using h1,h2,by simpa using h3⟩
theorem index_word:∀ l:List UInt8,Lib.indexAny l blkL=if wordN l=l.length then -1 else (wordN l:Int)
 | []=>rfl
 | b :: l=>by
  have ih:=index_word l;have hle:=wordN_le l;have hb:=blkL_is b;rw [Lib.indexAny,hb,wordN_cons,ih]
  cases hk:blk b with
  | true=>simp
  | false =>
   simp only [Bool.false_eq_true,if_false,List.length_cons];by_cases he:wordN l=l.length
   ·have he2:wordN l+1=l.length+1:=by omega
    simp [he,he2]
   ·have he2:¬ wordN l+1=l.length+1:=by omega
    have h3:((wordN l:Int)==-1)=false:=by simp
    simp only [he,he2,if_false,h3]
    simp
end Go.Proofs.YtiogedceommcoaaGreatDoor
