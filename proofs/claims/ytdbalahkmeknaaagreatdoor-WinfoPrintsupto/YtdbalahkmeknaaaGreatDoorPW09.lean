/-
  RXL, XTrim, XAnyA, XAnyB, XAny, RowN.
-/
import Derived.Test.YtdbalahkmeknaaaGreatDoorPW08
set_option linter.unusedVariables false
set_option linter.unusedSimpArgs false
set_option maxRecDepth 20000
namespace Go.Proofs.YtdbalahkmeknaaaGreatDoor
open Go.RowKit Sc
theorem readX_none {l:List UInt8} {k:Nat} (hk:k < l.length) (h:l[k]=38) (he:entX (l.drop (k+1))=none):readX (l.drop k)=none:=by
 rw [List.drop_eq_getElem_cons hk,h];unfold readX;rw [List.length_cons,readG,if_pos rfl,he]
def xbL:List UInt8:=[32,9,13,10]
theorem xbL_is (b:UInt8):xbL.contains b=xblk b:=by
 have:∀ b:UInt8,xbL.contains b=xblk b:=by apply byte_all; decide +kernel
 exact this b
theorem xb_ascii:∀ (j:Nat) (b:UInt8),(⟨#[32,9,13,10]⟩:ByteArray).data.toList[j]? = some b → b.toNat < 128:=by
 intro j b h
 have:b ∈ [32,9,13,10]:=List.mem_of_getElem? h
 simp at this
 rcases this with rfl | rfl | rfl | rfl <;> decide
theorem xbehind_drop {l:List UInt8} {b:UInt8} (h:xblk b=true):xbehind (l++[b])=xbehind l:=by
 unfold xbehind; simp [h]
theorem xbehind_stop {l:List UInt8} {b:UInt8} (h:xblk b=false):xbehind (l++[b])=l++[b]:=by
 unfold xbehind; simp [h]
theorem xbehind_len (l:List UInt8):(xbehind l).length≤l.length:=by
 unfold xbehind
 have:=(List.dropWhile_suffix (l:=l.reverse) xblk).length_le
 simpa using this
theorem xlast_split (t:ByteArray) (h:0 < t.size):t.data.toList=(t.extract 0 (t.size - 1)).data.toList++[t[t.size - 1]]:=by
 have:=take_snoc t (t.size - 1) (by omega)
 rw [show t.size - 1+1=t.size by omega,take_all t t.size (Nat.le_refl _)] at this;rw [Lib.extract_from_zero,← this]
theorem xfirst_split (t:ByteArray) (h:0 < t.size):t.data.toList=t[0] :: (t.extract 1 t.size).data.toList:=by
 have e:=ext_list t 1 t.size
 have e2:(t.extract 1 t.size).data.toList=t.data.toList.drop 1:=by
  rw [e]
  show (t.data.toList.drop 1).take (t.size - 1)=_
  rw [List.take_of_length_le];rw [List.length_drop,len_data]; omega
 rw [e2];have hl:=len_data t
 have:=getL t 0 h
 cases hd:t.data.toList with
 | nil=>rw [hd] at hl; simp at hl; omega
 | cons a r=>rw [hd] at this; simp at this; rw [this]; rfl
def xstrSize:Value → Nat | .string t=>t.size | _=>0
theorem xret_data {t:ByteArray} {l:List UInt8} (h:t.data.toList=l):Ending.returned (.string t)=.returned (.string ⟨l.toArray⟩):=by
 rw [← h]
set_option maxHeartbeats 400000 in
theorem xtrimR_any (s:ByteArray) (b:Nat) (w:World) (hs:s.size≤140737488355328) (hc:∀ x:UInt8,w.cell? ⟨b,x.toNat,none⟩=some (.bool (xblk x))) :
  Calls Tryz.prog 143 #[.string s,.pointer (some ⟨b,0,none⟩)] w fun e w'=>e=.returned (.string ⟨(xbehind s.data.toList).toArray⟩)∧w'=w:=by
 have HC:=hid hc;clear hc
 go_enter Tryz.func143,Tryz.ntmps143
 go_wp2
 go_loop [0] (fun x=>∃ t:ByteArray,x=.string t∧t.size≤s.size∧Hid (xbehind s.data.toList=xbehind t.data.toList)) (fun x=>xstrSize x)
 case atStart=>exact ⟨s,rfl,Nat.le_refl _,hid rfl⟩
 case round =>
  obtain ⟨t,rfl,hts,hv⟩:=hrel;by_cases h0:0 < t.size
  ·have hl:=xlast_split t h0;have ht1:((t.size:Int) - 1).toNat=t.size - 1:=by omega
   have HZ:Hid ((t.extract 0 (t.size - 1)).size=t.size - 1):=show _=_ by rw [ByteArray.size_extract]; omega
   have KH:=hid (setHas_any b t[t.size - 1] _ _ (HC.out t[t.size - 1]));by_cases hb:xblk t[t.size - 1]=true
   ·rw [hb] at KH;have hnx:Hid (xbehind s.data.toList=xbehind (t.extract 0 (t.size - 1)).data.toList):=show _=_ by rw [hv.out,hl,xbehind_drop hb]
    clear hl hb hv;go_wp2_with (go_at_call 133; refine KH.out.mono ?_; rintro e w' ⟨rfl,hw⟩; rw [hw])
    go_round
    case rel=>exact ⟨t.extract 0 (t.size - 1),rfl,by rw [HZ.out]; omega,hnx⟩
    case measure=>show (t.extract 0 (t.size - 1)).size < t.size; rw [HZ.out]; omega
   ·have hb2:xblk t[t.size - 1]=false:=by simpa using hb
    rw [hb2] at KH;have hE:Hid (t.data.toList=xbehind s.data.toList):=show _=_ by rw [hv.out,hl,xbehind_stop hb2]
    clear hl hb hb2 hv;go_wp2_with (go_at_call 133; refine KH.out.mono ?_; rintro e w' ⟨rfl,hw⟩; rw [hw])
    go_ret;exact ⟨xret_data hE.out,rfl⟩
  ·have hE:Hid (t.data.toList=xbehind s.data.toList):=show _=_ by
    have:t.data.toList=[]:=List.eq_nil_of_length_eq_zero (by rw [len_data]; omega)
    rw [hv.out,this]; rfl
   clear hv;go_wp2;go_ret;exact ⟨xret_data hE.out,rfl⟩
set_option maxHeartbeats 400000 in
theorem xtrimL_any (s:ByteArray) (b:Nat) (w:World) (hs:s.size≤140737488355328) (hc:∀ x:UInt8,w.cell? ⟨b,x.toNat,none⟩=some (.bool (xblk x))) :
  Calls Tryz.prog 135 #[.string s,.pointer (some ⟨b,0,none⟩)] w fun e w'=>e=.returned (.string ⟨(s.data.toList.dropWhile xblk).toArray⟩)∧w'=w:=by
 have HC:=hid hc;clear hc
 go_enter Tryz.func135,Tryz.ntmps135
 go_wp2
 go_loop [0] (fun x=>∃ t:ByteArray,x=.string t∧t.size≤s.size∧Hid (s.data.toList.dropWhile xblk=t.data.toList.dropWhile xblk)) (fun x=>xstrSize x)
 case atStart=>exact ⟨s,rfl,Nat.le_refl _,hid rfl⟩
 case round =>
  obtain ⟨t,rfl,hts,hv⟩:=hrel;by_cases h0:0 < t.size
  ·have hl:=xfirst_split t h0;have HZ:Hid ((t.extract 1 t.size).size=t.size - 1):=show _=_ by rw [ByteArray.size_extract]; omega
   have KH:=hid (setHas_any b t[0] _ _ (HC.out t[0]));have h1:(1:Int)≤(t.size:Int):=by omega
   by_cases hb:xblk t[0]=true
   ·rw [hb] at KH;have hnx:Hid (s.data.toList.dropWhile xblk=(t.extract 1 t.size).data.toList.dropWhile xblk):=show _=_ by rw [hv.out,hl,List.dropWhile_cons,if_pos hb]
    clear hl hb hv;go_wp2_with (go_at_call 133; refine KH.out.mono ?_; rintro e w' ⟨rfl,hw⟩; rw [hw])
    go_round
    case rel=>exact ⟨t.extract 1 t.size,rfl,by rw [HZ.out]; omega,hnx⟩
    case measure=>show (t.extract 1 t.size).size < t.size; rw [HZ.out]; omega
   ·have hb2:xblk t[0]=false:=by simpa using hb
    rw [hb2] at KH;have hE:Hid (t.data.toList=s.data.toList.dropWhile xblk):=show _=_ by rw [hv.out,hl,List.dropWhile_cons,if_neg hb]
    clear hl hb hb2 hv;go_wp2_with (go_at_call 133; refine KH.out.mono ?_; rintro e w' ⟨rfl,hw⟩; rw [hw])
    go_ret;exact ⟨xret_data hE.out,rfl⟩
  ·have hE:Hid (t.data.toList=s.data.toList.dropWhile xblk):=show _=_ by
    have:t.data.toList=[]:=List.eq_nil_of_length_eq_zero (by rw [len_data]; omega)
    rw [hv.out,this]; rfl
   clear hv;go_wp2;go_ret;exact ⟨xret_data hE.out,rfl⟩
set_option maxHeartbeats 1000000 in
set_option maxRecDepth 100000 in
theorem xtrimRight_list (l:List UInt8) (w:World) (hl:l.length≤140737488355328) :
  Calls Tryz.prog 165 #[.string ⟨l.toArray⟩,.string ⟨#[32,9,13,10]⟩] w fun e w'=>e=.returned (.string ⟨(xbehind l).toArray⟩)∧Below w.heap.size w w':=by
 cases he:l.isEmpty with
 | true =>
  obtain rfl:l=[]:=by simpa using he
  have hE:Hid (xbehind []=[]):=rfl
  go_enter Tryz.func165,Tryz.ntmps165
  go_wp2;go_ret;exact ⟨by rw [hE.out]; rfl,Below.refl _ _⟩
 | false =>
  have KM:=hid (makeSet_any ⟨#[32,9,13,10]⟩ w (by decide) xb_ascii);have hsz:=Lib.setCells_size [32,9,13,10];have hi2:=hid (show (Tryz.prog.info? 152).map (·.size)=some (Lib.setCells [32,9,13,10]).size by rw [hsz]; exact (zero_of_info infoSet).2);have hzv:=(zero_of_info infoSet).1
  have hcellAt:∀ x:UInt8,((w.alloc (.cells (Lib.setCells [32,9,13,10]) 152)).alloc (.cells (Lib.setCells [32,9,13,10]) 152)).cell? ⟨w.heap.size+1,x.toNat,none⟩=some (.bool (xblk x)):=fun x=>by
   rw [World.cell?_alloc_at _ _ _ _ (by simp),Lib.setCells_at,← xbL_is]; rfl
  have KT:=hid (xtrimR_any ⟨l.toArray⟩ (w.heap.size+1) _ (by rw [size_list]; exact hl) hcellAt);have hb2:Below w.heap.size w ((w.alloc (.cells (Lib.setCells [32,9,13,10]) 152)).alloc (.cells (Lib.setCells [32,9,13,10]) 152)):=((Below.refl _ _).alloc (Nat.le_refl _) _).alloc (by simp) _;have hrep:Hid ((Array.replicate 256 (Value.bool false)).size=(Lib.setCells [32,9,13,10]).size):=show _=_ by rw [hsz,Array.size_replicate]
  have HA1:Hid ((w.alloc (.cells (Lib.setCells [32,9,13,10]) 152)).heap.size=w.heap.size+1):=show _=_ by simp
  clear hcellAt hsz
  go_enter Tryz.func165,Tryz.ntmps165
  go_wp2_with (first
   | (go_at_call 132; refine KM.out.mono ?_; rintro e w' ⟨rfl,hw⟩; rw [hw])
   | (go_at_call 143; refine KT.out.mono ?_; rintro e w' ⟨rfl,hw⟩; rw [hw])
   | (refine wp_store_new rfl (.tmp 5) (.tmp 29) 152 rfl rfl (Array.replicate 256 (.bool false)) (Lib.setCells [32,9,13,10]) hi2.out hrep.out (Lib.setCells_one _) (w.heap.size+1) HA1.out rfl rfl ?_))
  go_ret;exact ⟨rfl,hb2⟩
set_option maxHeartbeats 1000000 in
set_option maxRecDepth 100000 in
theorem xtrimLeft_list (l:List UInt8) (w:World) (hl:l.length≤140737488355328) :
  Calls Tryz.prog 106 #[.string ⟨l.toArray⟩,.string ⟨#[32,9,13,10]⟩] w fun e w'=>e=.returned (.string ⟨(l.dropWhile xblk).toArray⟩)∧Below w.heap.size w w':=by
 cases he:l.isEmpty with
 | true =>
  obtain rfl:l=[]:=by simpa using he
  have hE:Hid (List.dropWhile xblk []=[]):=rfl
  go_enter Tryz.func106,Tryz.ntmps106
  go_wp2;go_ret;exact ⟨by rw [hE.out]; rfl,Below.refl _ _⟩
 | false =>
  have KM:=hid (makeSet_any ⟨#[32,9,13,10]⟩ w (by decide) xb_ascii);have hsz:=Lib.setCells_size [32,9,13,10];have hi2:=hid (show (Tryz.prog.info? 152).map (·.size)=some (Lib.setCells [32,9,13,10]).size by rw [hsz]; exact (zero_of_info infoSet).2);have hzv:=(zero_of_info infoSet).1
  have hcellAt:∀ x:UInt8,((w.alloc (.cells (Lib.setCells [32,9,13,10]) 152)).alloc (.cells (Lib.setCells [32,9,13,10]) 152)).cell? ⟨w.heap.size+1,x.toNat,none⟩=some (.bool (xblk x)):=fun x=>by
   rw [World.cell?_alloc_at _ _ _ _ (by simp),Lib.setCells_at,← xbL_is]; rfl
  have KT:=hid (xtrimL_any ⟨l.toArray⟩ (w.heap.size+1) _ (by rw [size_list]; exact hl) hcellAt);have hb2:Below w.heap.size w ((w.alloc (.cells (Lib.setCells [32,9,13,10]) 152)).alloc (.cells (Lib.setCells [32,9,13,10]) 152)):=((Below.refl _ _).alloc (Nat.le_refl _) _).alloc (by simp) _;have hrep:Hid ((Array.replicate 256 (Value.bool false)).size=(Lib.setCells [32,9,13,10]).size):=show _=_ by rw [hsz,Array.size_replicate]
  have HA1:Hid ((w.alloc (.cells (Lib.setCells [32,9,13,10]) 152)).heap.size=w.heap.size+1):=show _=_ by simp
  clear hcellAt hsz
  go_enter Tryz.func106,Tryz.ntmps106
  go_wp2_with (first
   | (go_at_call 132; refine KM.out.mono ?_; rintro e w' ⟨rfl,hw⟩; rw [hw])
   | (go_at_call 135; refine KT.out.mono ?_; rintro e w' ⟨rfl,hw⟩; rw [hw])
   | (refine wp_store_new rfl (.tmp 5) (.tmp 29) 152 rfl rfl (Array.replicate 256 (.bool false)) (Lib.setCells [32,9,13,10]) hi2.out hrep.out (Lib.setCells_one _) (w.heap.size+1) HA1.out rfl rfl ?_))
  go_ret;exact ⟨rfl,hb2⟩
theorem xtrim_two (l:List UInt8):(xbehind l).dropWhile xblk=xtrim l:=by
 unfold xtrim xbehind;by_cases h:∀ b ∈ l,xblk b=true
 ·rw [drop_blanks h];have h2:l.reverse.dropWhile xblk=[]:=drop_blanks (fun b hb=>h b (List.mem_reverse.1 hb));rw [h2]; rfl
 ·have hx:∃ a c r,l=a++c :: r∧(∀ b ∈ a,xblk b=true)∧xblk c=false:=by
   have e:=List.takeWhile_append_dropWhile (p:=xblk) (l:=l)
   cases hd:l.dropWhile xblk with
   | nil =>
    exfalso
    apply h
    intro b hb;rw [hd,List.append_nil] at e;rw [← e] at hb;exact List.all_eq_true.1 (List.all_takeWhile) b hb
   | cons c r =>
    refine ⟨l.takeWhile xblk,c,r,by rw [← hd]; exact e.symm,fun b hb=>List.all_eq_true.1 (List.all_takeWhile) b hb,?_⟩
    have:=List.head?_dropWhile_not xblk l
    rw [hd] at this; simpa using this
  obtain ⟨a,c,r,rfl,ha,hc⟩:=hx;have e1:∀ q:List UInt8,(a++c :: q).dropWhile xblk=c :: q:=fun q=>(takeW_app ha hc).2;rw [e1]
  have e2:∀ q:List UInt8,xblk c=false → ((c :: q).reverse.dropWhile xblk).reverse=c :: (q.reverse.dropWhile xblk).reverse:=fun q _=>by
   rw [List.reverse_cons];by_cases hq:∀ b ∈ q,xblk b=true
   ·have h2:q.reverse.dropWhile xblk=[]:=drop_blanks (fun b hb=>hq b (List.mem_reverse.1 hb));rw [h2,List.dropWhile_append,h2]; simp [hc]
   ·rw [List.dropWhile_append]
    have:(q.reverse.dropWhile xblk).isEmpty=false:=by
     cases hh:q.reverse.dropWhile xblk with
     | nil =>
      exfalso; apply hq
      intro b hb;have e3:=List.takeWhile_append_dropWhile (p:=xblk) (l:=q.reverse);rw [hh,List.append_nil] at e3;have hb2:b ∈ q.reverse.takeWhile xblk:=by rw [e3]; exact List.mem_reverse.2 hb
      exact List.all_eq_true.1 (List.all_takeWhile) b hb2
     | cons x y=>rfl
    rw [if_neg (by simp [this])]
    simp
  have e4:((a++c :: r).reverse.dropWhile xblk).reverse=a++((c :: r).reverse.dropWhile xblk).reverse:=by
   rw [List.reverse_append,List.dropWhile_append]
   have:((c :: r).reverse.dropWhile xblk).isEmpty=false:=by
    cases hh:(c :: r).reverse.dropWhile xblk with
    | nil=>have:=e2 r hc; rw [hh] at this; simp at this
    | cons x y=>rfl
   rw [if_neg (by rw [this]; exact Bool.false_ne_true)]; simp
  rw [e4,e2 r hc,e1]
set_option maxHeartbeats 1000000 in
set_option maxRecDepth 100000 in
theorem xtrimAll_list (l:List UInt8) (w:World) (hl:l.length≤140737488355328) :
  Calls Tryz.prog 112 #[.string ⟨l.toArray⟩,.string ⟨#[32,9,13,10]⟩] w fun e w'=>e=.returned (.string ⟨(xtrim l).toArray⟩)∧Below w.heap.size w w':=by
 cases he:l.isEmpty with
 | true =>
  obtain rfl:l=[]:=by simpa using he
  have hE:Hid (xtrim []=[]):=rfl
  go_enter Tryz.func112,Tryz.ntmps112
  go_wp2;go_ret;exact ⟨by rw [hE.out]; rfl,Below.refl _ _⟩
 | false =>
  have KM:=hid (makeSet_any ⟨#[32,9,13,10]⟩ w (by decide) xb_ascii);have hsz:=Lib.setCells_size [32,9,13,10];have hi2:=hid (show (Tryz.prog.info? 152).map (·.size)=some (Lib.setCells [32,9,13,10]).size by rw [hsz]; exact (zero_of_info infoSet).2);have hzv:=(zero_of_info infoSet).1
  have hcellAt:∀ x:UInt8,((w.alloc (.cells (Lib.setCells [32,9,13,10]) 152)).alloc (.cells (Lib.setCells [32,9,13,10]) 152)).cell? ⟨w.heap.size+1,x.toNat,none⟩=some (.bool (xblk x)):=fun x=>by
   rw [World.cell?_alloc_at _ _ _ _ (by simp),Lib.setCells_at,← xbL_is]; rfl
  have KT:=hid (xtrimR_any ⟨l.toArray⟩ (w.heap.size+1) _ (by rw [size_list]; exact hl) hcellAt);have KL:=hid (xtrimL_any ⟨(xbehind l).toArray⟩ (w.heap.size+1) _ (by rw [size_list]; exact Nat.le_trans (xbehind_len l) hl) hcellAt);rw [show ((⟨(xbehind l).toArray⟩:ByteArray).data.toList.dropWhile xblk)=xtrim l from xtrim_two l] at KL;generalize xtrim l=R at KL;have hb2:Below w.heap.size w ((w.alloc (.cells (Lib.setCells [32,9,13,10]) 152)).alloc (.cells (Lib.setCells [32,9,13,10]) 152)):=((Below.refl _ _).alloc (Nat.le_refl _) _).alloc (by simp) _;have hrep:Hid ((Array.replicate 256 (Value.bool false)).size=(Lib.setCells [32,9,13,10]).size):=show _=_ by rw [hsz,Array.size_replicate]
  have HA1:Hid ((w.alloc (.cells (Lib.setCells [32,9,13,10]) 152)).heap.size=w.heap.size+1):=show _=_ by simp
  clear hcellAt hsz
  go_enter Tryz.func112,Tryz.ntmps112
  go_wp2_with (first
   | (go_at_call 132; refine KM.out.mono ?_; rintro e w' ⟨rfl,hw⟩; rw [hw])
   | (go_at_call 143; refine KT.out.mono ?_; rintro e w' ⟨rfl,hw⟩; rw [hw])
   | (go_at_call 135; refine KL.out.mono ?_; rintro e w' ⟨rfl,hw⟩; rw [hw])
   | (refine wp_store_new rfl (.tmp 5) (.tmp 32) 152 rfl rfl (Array.replicate 256 (.bool false)) (Lib.setCells [32,9,13,10]) hi2.out hrep.out (Lib.setCells_one _) (w.heap.size+1) HA1.out rfl rfl ?_))
  go_ret;exact ⟨rfl,hb2⟩
def endL:List UInt8:=[32,9,13,10,47,62]
theorem xbany_high {b:UInt8} (h:128≤b.toNat):endL.contains b=false:=by
 have:∀ b:UInt8,128≤b.toNat → endL.contains b=false:=by apply byte_all; decide +kernel
 exact this b h
theorem xbnoAny_rune {s:ByteArray} {pos:Nat} (h:pos < s.size) (ha:128≤(s[pos]'h).toNat) (hno:Lib.NoAny s.data.toList endL pos):Lib.NoAny s.data.toList endL (pos+(Utf8.decode s pos).2):=by
 obtain ⟨h1,h2,h3⟩:=decode_wide s pos h;intro j b hj hb;by_cases hlt:j < pos
 ·exact hno j b hlt hb
 ·by_cases he:j=pos
  ·subst he
   have:=getL s j h
   rw [this] at hb
   cases hb
   exact xbany_high ha
  ·obtain ⟨hk,hk2⟩:=h3 (j - pos) (by omega) (by omega);have e:pos+(j - pos)=j:=by omega
   have:=getL s j (by omega)
   rw [this] at hb
   cases hb
   simp only [e] at hk2;exact xbany_high hk2
set_option maxHeartbeats 1000000 in
theorem xbindexRune_low (x:UInt8) (w:World) (h:x.toNat < 128) :
  Calls Tryz.prog 130 #[.string ⟨#[32,9,13,10,47,62]⟩,.int .i32 x.toNat] w fun e w'=>e=.returned (.int .i64 (Lib.indexByte [32,9,13,10,47,62] x))∧w'=w:=by
 have h0:(0:Int)≤(x.toNat:Int):=by omega
 have h1:(x.toNat:Int) < 128:=by omega
 have hc:IntKind.u8.wrap (x.toNat:Int)=(x.toNat:Int):=by
  simp [IntKind.wrap,IntKind.signed,IntKind.bits]; omega
 have K:=hid (fun w'=>strIndexByte_any ⟨#[32,9,13,10,47,62]⟩ x w')
 go_enter Tryz.func130,Tryz.ntmps130
 go_wp2_with fail
 refine (K.out _).mono ?_
 rintro e w1 ⟨rfl,rfl⟩;go_wp2;go_ret;exact ⟨rfl,rfl⟩
theorem xbany_ascii:∀ (j:Nat) (b:UInt8),(⟨#[32,9,13,10,47,62]⟩:ByteArray).data.toList[j]? = some b → b.toNat < 128:=by
 intro j b h
 have:b ∈ [32,9,13,10,47,62]:=List.mem_of_getElem? h
 simp at this
 rcases this with rfl | rfl | rfl | rfl | rfl | rfl <;> decide
set_option maxHeartbeats 1000000 in
set_option maxRecDepth 100000 in
theorem xbindexAny_long (s:ByteArray) (w:World) (h8:8 < s.size) (hs:s.size≤9223372036854775807) :
  Calls Tryz.prog 105 #[.string s,.string ⟨#[32,9,13,10,47,62]⟩] w fun e w'=>e=.returned (.int .i64 (Lib.indexAny s.data.toList endL))∧Below w.heap.size w w':=by
 have KM:=hid (makeSet_any ⟨#[32,9,13,10,47,62]⟩ w (by decide) xbany_ascii);have h8z:decide ((8:Int) < (s.size:Int))=true:=decide_eq_true (by omega);have hsz:=Lib.setCells_size [32,9,13,10,47,62];have hi2:=hid (show (Tryz.prog.info? 152).map (·.size)=some (Lib.setCells [32,9,13,10,47,62]).size by rw [hsz]; exact (zero_of_info infoSet).2);have hzv:=(zero_of_info infoSet).1
 have hcellAt:∀ x:UInt8,((w.alloc (.cells (Lib.setCells [32,9,13,10,47,62]) 152)).alloc (.cells (Lib.setCells [32,9,13,10,47,62]) 152)).cell? ⟨w.heap.size+1,x.toNat,none⟩=some (.bool (endL.contains x)):=fun x=>by
  rw [World.cell?_alloc_at _ _ _ _ (by simp),Lib.setCells_at]; rfl
 have HC:=hid hcellAt;have hb2:Below w.heap.size w ((w.alloc (.cells (Lib.setCells [32,9,13,10,47,62]) 152)).alloc (.cells (Lib.setCells [32,9,13,10,47,62]) 152)):=((Below.refl _ _).alloc (Nat.le_refl _) _).alloc (by simp) _;have hrep:Hid ((Array.replicate 256 (Value.bool false)).size=(Lib.setCells [32,9,13,10,47,62]).size):=show _=_ by rw [hsz,Array.size_replicate]
 have HA1:Hid ((w.alloc (.cells (Lib.setCells [32,9,13,10,47,62]) 152)).heap.size=w.heap.size+1):=show _=_ by simp
 clear hcellAt hsz;have K8:=hid (useSet_any (s.size:Int));rw [h8z] at K8
 go_enter Tryz.func105,Tryz.ntmps105
 go_wp2_with (first
  | (go_at_call 131; refine (K8.out _).mono ?_; rintro e w' ⟨rfl,hw⟩; rw [hw])
  | (go_at_call 132; refine KM.out.mono ?_; rintro e w' ⟨rfl,hw⟩; rw [hw])
  | (refine wp_store_new rfl (.tmp 6) (.tmp 30) 152 rfl rfl (Array.replicate 256 (.bool false)) (Lib.setCells [32,9,13,10,47,62]) hi2.out hrep.out (Lib.setCells_one _) (w.heap.size+1) HA1.out rfl rfl ?_))
 go_loopg [8] s.size (fun g s8 wx=>∃ i:Nat,i+g=s.size∧s8=.int .i64 i∧wx=((w.alloc (.cells (Lib.setCells [32,9,13,10,47,62]) 152)).alloc (.cells (Lib.setCells [32,9,13,10,47,62]) 152))∧Hid (Lib.NoAny s.data.toList endL i))
 case atStart=>exact ⟨0,by omega,rfl,rfl,Lib.NoAny.zero _ _⟩
 case round =>
  obtain ⟨i,hig,rfl,rfl,HN⟩:=hrel
  cases gk with
  | zero =>
   obtain rfl:i=s.size:=by omega
   have hiz:¬ ((s.size:Int) < (s.size:Int)):=by omega
   have hv:Hid (Lib.indexAny s.data.toList endL=-1):=Lib.indexAny_none (by rw [len_data]; exact HN.out);clear HN;go_wp2;go_ret;exact ⟨by rw [hv.out]; rfl,hb2⟩
  | succ g =>
   have hi':i < s.size:=by omega
   have hiz:(i:Int) < (s.size:Int):=by omega
   have Hx:=hid (getL s i hi');have hcx:=HC.out s[i]
   cases hin:endL.contains s[i] with
   | false =>
    rw [hin] at hcx;have hn2:=hid (HN.out.succ Hx.out hin);have KH:=hid (setHas_any _ _ _ _ hcx);clear HN hin hcx;go_wp2_with (go_at_call 133; refine KH.out.mono ?_; rintro e w' ⟨rfl,hw⟩; rw [hw])
    go_roundg g
    case measure=>omega
    case rel=>exact ⟨i+1,by omega,by first | rfl | simp,rfl,hn2⟩
   | true =>
    rw [hin] at hcx;have hv:Hid (Lib.indexAny s.data.toList endL=i):=Lib.indexAny_hit HN.out Hx.out hin;have KH:=hid (setHas_any _ _ _ _ hcx);clear HN hin hcx;go_wp2_with (go_at_call 133; refine KH.out.mono ?_; rintro e w' ⟨rfl,hw⟩; rw [hw])
    go_ret;exact ⟨by rw [hv.out]; rfl,hb2⟩
theorem xrune_fin:∀ i:Fin 6,(((⟨#[32,9,13,10,47,62]⟩:ByteArray)[i.val]'i.isLt).toNat < 128∧((((⟨#[32,9,13,10,47,62]⟩:ByteArray)[i.val]'i.isLt).toNat:Int)==65533)=false):=by decide
theorem xrune_at (i:Nat) (hi:i < 6):∃ hlt:i < (⟨#[32,9,13,10,47,62]⟩:ByteArray).size,(((⟨#[32,9,13,10,47,62]⟩:ByteArray)[i]'hlt).toNat < 128∧((((⟨#[32,9,13,10,47,62]⟩:ByteArray)[i]'hlt).toNat:Int)==65533)=false):=⟨hi,xrune_fin ⟨i,hi⟩⟩
set_option maxHeartbeats 1000000 in
set_option maxRecDepth 100000 in
theorem xbindexRune_err (w:World) :
  Calls Tryz.prog 130 #[.string ⟨#[32,9,13,10,47,62]⟩,.int .i32 65533] w fun e w'=>e=.returned (.int .i64 (-1))∧Below w.heap.size w w':=by
 have hb:∀ p,Below w.heap.size w (w.iter ⟨#[32,9,13,10,47,62]⟩ p):=fun p=>(Below.refl _ _).alloc (Nat.le_refl _) _;have HB:=hid hb;clear hb
 go_enter Tryz.func130,Tryz.ntmps130
 go_wp2
 go_loopg [5,6] 6 (fun g _ _ wx=>∃ i:Nat,i+g=6∧wx=w.iter ⟨#[32,9,13,10,47,62]⟩ i)
 case atStart=>exact ⟨0,rfl,rfl⟩
 case round =>
  obtain ⟨i,hig,rfl⟩:=hrel
  cases gk with
  | zero =>
   obtain rfl:i=6:=by omega
   have hnx:=fun ty=>run_next_end (P:=Tryz.prog) w ⟨#[32,9,13,10,47,62]⟩ 6 ty (by decide);go_wp2;go_ret;exact ⟨rfl,HB.out _⟩
  | succ g =>
   obtain ⟨hlt,hx1,hx2⟩:=xrune_at i (by omega);have hnx:=fun ty=>run_next_ascii (P:=Tryz.prog) w ⟨#[32,9,13,10,47,62]⟩ i ty hlt hx1;generalize ((⟨#[32,9,13,10,47,62]⟩:ByteArray)[i]'hlt).toNat=c at hnx hx2;clear hx1;go_wp2
   go_roundg g
   case measure=>omega
   case rel=>exact ⟨i+1,by omega,rfl⟩
theorem xthree_casesT:∀ (r:List UInt8),1≤r.length → r.length≤3 → (∃ x,r=[x])∨(∃ x y,r=[x,y])∨(∃ x y z,r=[x,y,z])
 | [],h,_=>by simp at h
 | [x],_,_=>Or.inl ⟨x,rfl⟩
 | [x,y],_,_=>Or.inr (Or.inl ⟨x,y,rfl⟩)
 | [x,y,z],_,_=>Or.inr (Or.inr ⟨x,y,z,rfl⟩)
 | _ :: _ :: _ :: _ :: _,_,h=>by simp at h
set_option maxHeartbeats 1000000 in
set_option maxRecDepth 1000000 in
theorem xbindexRune_high (c:Nat) (w:World) (h:128≤c) (hc:c≤2147483647) :
  Calls Tryz.prog 130 #[.string ⟨#[32,9,13,10,47,62]⟩,.int .i32 c] w fun e w'=>e=.returned (.int .i64 (-1))∧Below w.heap.size w w':=by
 by_cases he:c=65533
 ·subst he; exact xbindexRune_err w
 have e1:((c:Int)==65533)=false:=by simp; omega
 have h0:(0:Int)≤(c:Int):=by omega
 have h1:¬ ((c:Int) < 128):=by omega
 have KV:=hid (validRune_any c w);obtain ⟨r,b,hen,hr1,hr2,hbb⟩:=encode_high h;have HE:=hid hen;clear hen he;have hw1:IntKind.i64.wrap ((1:Int)+1)=2:=by decide
 have hw2:IntKind.i64.wrap ((2:Int)+1)=3:=by decide
 have hw5:IntKind.i64.wrap ((3:Int)+1)=4:=by decide
 have hw3:IntKind.i64.wrap (2:Int)=2:=by decide
 have hw4:IntKind.i64.wrap (3:Int)=3:=by decide
 have hb1:((9:Int) != (b.toNat:Int))=true:=by simp; omega
 have hb2:((13:Int) != (b.toNat:Int))=true:=by simp; omega
 have hb3:((10:Int) != (b.toNat:Int))=true:=by simp; omega
 have k1:Lib.indexByte [13,10,47,62] b=-1∧Lib.indexByte [10,47,62] b=-1∧Lib.indexByte [47,62] b=-1:=by
  have:∀ b:UInt8,128≤b.toNat → Lib.indexByte [13,10,47,62] b=-1∧Lib.indexByte [10,47,62] b=-1∧Lib.indexByte [47,62] b=-1:=by apply byte_all; decide +kernel
  exact this b hbb
 go_enter Tryz.func130,Tryz.ntmps130
 go_wp2_with fail
 refine KV.out.mono ?_
 rintro e w1 ⟨⟨vb,rfl⟩,rfl⟩
 cases vb with
 | false =>
  go_wp2;go_ret;exact ⟨rfl,Below.refl _ _⟩
 | true =>
  have hcase:=xthree_casesT r hr1 hr2
  rcases hcase with ⟨x,rfl⟩ | ⟨x,y,rfl⟩ | ⟨x,y,z,rfl⟩
  ·have hen:Utf8.encode (c:Int)=⟨#[x,b]⟩:=HE.out;have hq1:((((⟨#[32,9,13,10,47,62]⟩:ByteArray)[1]'(by decide)).toNat:Int) != (((⟨#[x,b]⟩:ByteArray)[1]'(show (1:Nat) < 2 by decide)).toNat:Int))=true:=hb1;have hq2:Lib.indexByte ((⟨#[32,9,13,10,47,62]⟩:ByteArray).extract 2 6).data.toList ((⟨#[x,b]⟩:ByteArray)[1]'(show (1:Nat) < 2 by decide))=-1:=k1.1;go_wp2
   go_step3
   go_wp2
   go_loopg [9,10] 0 (fun g p q wx=>p=.int .i64 1∧wx=w1)
   case atStart=>exact ⟨rfl,rfl⟩
   case round =>
    obtain ⟨rfl,rfl⟩:=hrel;go_wp2
    go_step3
    go_wp2
    go_quiet (fail)
    have hbq:=below_drewN wr nq;generalize wr.drewN nq=wq at hbq ⊢;go_wp2
    go_quiet (first | (go_at_call 141; exact Calls.quiet_of_same (strIndexByte_any _ _ _)))
    have hbq2:=hbq.trans ((below_drewN wq nq).mono hbq.size);generalize wq.drewN nq=wq2 at hbq2 ⊢;rw [hq2];go_wp2;rw [Exit.noGoto_ret]
    try simp only [Exit.inBlock,Exit.then]
    rw [Exit.noGoto_ret]
    try simp only [Exit.inBlock]
    go_ret;exact ⟨rfl,hbq2⟩
  ·have hen:Utf8.encode (c:Int)=⟨#[x,y,b]⟩:=HE.out;have hq1:((((⟨#[32,9,13,10,47,62]⟩:ByteArray)[2]'(by decide)).toNat:Int) != (((⟨#[x,y,b]⟩:ByteArray)[2]'(show (2:Nat) < 3 by decide)).toNat:Int))=true:=hb2;have hq2:Lib.indexByte ((⟨#[32,9,13,10,47,62]⟩:ByteArray).extract 3 6).data.toList ((⟨#[x,y,b]⟩:ByteArray)[2]'(show (2:Nat) < 3 by decide))=-1:=k1.2.1;go_wp2
   go_step3
   go_wp2
   go_loopg [9,10] 0 (fun g p q wx=>p=.int .i64 2∧wx=w1)
   case atStart=>exact ⟨rfl,rfl⟩
   case round =>
    obtain ⟨rfl,rfl⟩:=hrel;go_wp2
    go_step3
    go_wp2
    go_quiet (fail)
    have hbq:=below_drewN wr nq;generalize wr.drewN nq=wq at hbq ⊢;go_wp2
    go_quiet (first | (go_at_call 141; exact Calls.quiet_of_same (strIndexByte_any _ _ _)))
    have hbq2:=hbq.trans ((below_drewN wq nq).mono hbq.size);generalize wq.drewN nq=wq2 at hbq2 ⊢;rw [hq2];go_wp2;rw [Exit.noGoto_ret]
    try simp only [Exit.inBlock,Exit.then]
    rw [Exit.noGoto_ret]
    try simp only [Exit.inBlock]
    go_ret;exact ⟨rfl,hbq2⟩
  ·have hen:Utf8.encode (c:Int)=⟨#[x,y,z,b]⟩:=HE.out;have hq1:((((⟨#[32,9,13,10,47,62]⟩:ByteArray)[3]'(by decide)).toNat:Int) != (((⟨#[x,y,z,b]⟩:ByteArray)[3]'(show (3:Nat) < 4 by decide)).toNat:Int))=true:=hb3;have hq2:Lib.indexByte ((⟨#[32,9,13,10,47,62]⟩:ByteArray).extract 4 6).data.toList ((⟨#[x,y,z,b]⟩:ByteArray)[3]'(show (3:Nat) < 4 by decide))=-1:=k1.2.2;go_wp2
   go_step3
   go_wp2
   go_loopg [9,10] 0 (fun g p q wx=>p=.int .i64 3∧wx=w1)
   case atStart=>exact ⟨rfl,rfl⟩
   case round =>
    obtain ⟨rfl,rfl⟩:=hrel;go_wp2
    go_step3
    go_wp2
    go_quiet (fail)
    have hbq:=below_drewN wr nq;generalize wr.drewN nq=wq at hbq ⊢;go_wp2
    go_quiet (first | (go_at_call 141; exact Calls.quiet_of_same (strIndexByte_any _ _ _)))
    have hbq2:=hbq.trans ((below_drewN wq nq).mono hbq.size);generalize wq.drewN nq=wq2 at hbq2 ⊢;rw [hq2];go_wp2;rw [Exit.noGoto_ret]
    try simp only [Exit.inBlock,Exit.then]
    rw [Exit.noGoto_ret]
    try simp only [Exit.inBlock]
    go_ret;exact ⟨rfl,hbq2⟩
set_option maxHeartbeats 1000000 in
set_option maxRecDepth 1000000 in
theorem xbindexAny_short (s:ByteArray) (w:World) (h8:s.size≤8) :
  Calls Tryz.prog 105 #[.string s,.string ⟨#[32,9,13,10,47,62]⟩] w fun e w'=>e=.returned (.int .i64 (Lib.indexAny s.data.toList endL))∧Below w.heap.size w w':=by
 have h8z:decide ((8:Int) < (s.size:Int))=false:=decide_eq_false (by omega);have K8:=hid (useSet_any (s.size:Int));rw [h8z] at K8;have hit0:(w.iter s 0).heap[w.heap.size]? = some (.stringIter s 0):=World.iter_heap w s 0;have hbi:Below w.heap.size w (w.iter s 0):=(Below.refl _ _).alloc (Nat.le_refl _) _;have HI:=hid hit0;clear hit0
 go_enter Tryz.func105,Tryz.ntmps105
 go_wp2_with (go_at_call 131; refine (K8.out _).mono ?_; rintro e w' ⟨rfl,hw⟩; rw [hw])
 generalize w.iter s 0=W at HI hbi ⊢
 go_loopg [9,10] s.size (fun g _ _ wx=>∃ i:Nat,Hid (i+g=s.size)∧i≤s.size∧Hid (wx.heap[w.heap.size]? = some (.stringIter s i))∧Hid (Lib.NoAny s.data.toList endL i)∧Below w.heap.size w wx)
 case atStart=>exact ⟨0,hid (by omega),by omega,HI,Lib.NoAny.zero _ _,hbi⟩
 case round =>
  clear HI hbi;obtain ⟨i,hig,his,HI,HN,hb⟩:=hrel;by_cases hlt:i < s.size
  ·have hnx:=fun ty=>Lib.run_next_any_at (P:=Tryz.prog) wr w.heap.size s i ty HI.out hlt;obtain ⟨dw1,dw2,_⟩:=decode_wide s i hlt;have HI2:=hid (Lib.iterAt_heap wr w.heap.size s i (i+(Utf8.decode s i).2) HI.out);have hb2:=Lib.below_iterAt hb (Nat.le_refl _) s (i+(Utf8.decode s i).2);have hgk:Hid (s.size - (i+(Utf8.decode s i).2) < gk):=show _ < _ by have:=hig.out; omega
   have hltw:w.heap.size < (wr.iterAt w.heap.size s (i+(Utf8.decode s i).2)).heap.size:=by rw [Lib.iterAt_size]; exact (Array.getElem?_eq_some_iff.1 HI.out).1
   by_cases hx:(s[i]'hlt).toNat < 128
   ·have hda:=decode_ascii s i hlt hx;have KL:=hid (fun w'=>xbindexRune_low s[i] w' hx);have hcon:=Lib.contains_iff_indexByte endL s[i]
    cases hin:endL.contains s[i] with
    | true =>
     have hv:Hid (Lib.indexAny s.data.toList endL=i):=Lib.indexAny_hit HN.out (getL s i hlt) hin;have hge:(0:Int)≤Lib.indexByte [32,9,13,10,47,62] s[i]:=of_decide_eq_true (by rw [← hin]; exact hcon.symm);rw [hda] at hnx hb2;simp only at hnx hb2;generalize wr.iterAt w.heap.size s (i+1)=wi at hnx hb2;clear HN hin hcon HI HI2 hda hltw;go_wp2_with (go_at_call 130; refine (KL.out _).mono ?_; rintro e w' ⟨rfl,hw⟩; rw [hw])
     go_ret;exact ⟨by rw [hv.out]; rfl,hb2⟩
    | false =>
     have hn2:=hid (HN.out.succ (getL s i hlt) hin);have hge:¬ ((0:Int)≤Lib.indexByte [32,9,13,10,47,62] s[i]):=of_decide_eq_false (by rw [← hin]; exact hcon.symm);rw [hda] at hnx hb2 HI2 hgk;simp only at hnx hb2 HI2 hgk;generalize wr.iterAt w.heap.size s (i+1)=wi at hnx hb2 HI2;clear HN hin hcon HI hda hltw;go_wp2_with (go_at_call 130; refine (KL.out _).mono ?_; rintro e w' ⟨rfl,hw⟩; rw [hw])
     go_roundg (s.size - (i+1))
     case measure=>exact hgk.out
     case rel=>exact ⟨i+1,hid (by omega),by omega,HI2,hn2,hb2⟩
   ·have hhi:=decode_high s i hlt (by omega);have hle:=decode_le s i;have KH:=hid (fun w'=>xbindexRune_high (Utf8.decode s i).1 w' hhi.1 hle);have hn2:=hid (xbnoAny_rune hlt (by omega) HN.out);generalize Utf8.decode s i=dd at hnx hb2 HI2 hgk KH hn2 dw1 dw2 hltw;obtain ⟨dc,dn⟩:=dd;simp only at hnx hb2 HI2 hgk KH hn2 dw1 dw2 hltw;generalize wr.iterAt w.heap.size s (i+dn)=wi at hnx hb2 HI2 hltw;clear HN HI hhi hle;go_wp2_with fail
    refine (KH.out _).mono ?_
    rintro e w2 ⟨rfl,hw2⟩;have HI3:Hid (w2.heap[w.heap.size]? = some (.stringIter s (i+dn))):=show _=_ by rw [hw2.block _ hltw]; exact HI2.out
    have hb3:=hb2.trans (hw2.mono hb2.size);clear HI2 hb2 hw2;go_wp2
    go_roundg (s.size - (i+dn))
    case measure=>exact hgk.out
    case rel=>exact ⟨i+dn,hid (by omega),by omega,HI3,hn2,hb3⟩
  ·have hnx:=fun ty=>Lib.run_next_end_at (P:=Tryz.prog) wr w.heap.size s i ty HI.out hlt;have hv:Hid (Lib.indexAny s.data.toList endL=-1):=Lib.indexAny_none (fun j b hj hb=>HN.out j b (by rw [len_data] at hj; omega) hb);clear HN HI;go_wp2;go_ret;exact ⟨by rw [hv.out]; rfl,hb⟩
theorem endL_is (b:UInt8):endL.contains b=endc b:=by
 have:∀ b:UInt8,endL.contains b=endc b:=by apply byte_all; decide +kernel
 exact this b
def idxP (p:UInt8 → Bool) (l:List UInt8):Int:=if l.all (fun b=>!p b) then -1 else ((l.takeWhile (fun b=>!p b)).length:Int)
theorem idxP_any (p:UInt8 → Bool) (cs:List UInt8) (hp:∀ b,cs.contains b=p b):∀ l:List UInt8,Lib.indexAny l cs=idxP p l
 | []=>rfl
 | b :: l=>by
  have ih:=idxP_any p cs hp l;unfold Lib.indexAny;rw [hp b,ih];unfold idxP
  cases hb:p b with
  | true=>simp [hb]
  | false =>
   simp only [List.all_cons,hb,List.takeWhile_cons]
   cases ha:l.all (fun b=>!p b) with
   | true=>simp
   | false=>simp
theorem xend_of (l:List UInt8) (w:World) (hl:l.length≤140737488355328) :
  Calls Tryz.prog 105 #[.string ⟨l.toArray⟩,.string ⟨#[32,9,13,10,47,62]⟩] w fun e w'=>e=.returned (.int .i64 (idxP endc l))∧Below w.heap.size w w':=by
 have z:=size_list l;have e:Lib.indexAny (⟨l.toArray⟩:ByteArray).data.toList endL=idxP endc l:=idxP_any endc endL endL_is l;by_cases h8:(⟨l.toArray⟩:ByteArray).size≤8
 ·have:=xbindexAny_short ⟨l.toArray⟩ w h8; rw [e] at this; exact this
 ·have:=xbindexAny_long ⟨l.toArray⟩ w (by omega) (by omega); rw [e] at this; exact this
theorem idxP_one (c:UInt8):∀ l:List UInt8,Lib.indexByte l c=idxP (·==c) l
 | []=>rfl
 | b :: l=>by
  have ih:=idxP_one c l;unfold Lib.indexByte;rw [ih];unfold idxP
  cases hb:(b==c) with
  | true=>simp [hb]
  | false =>
   simp only [List.all_cons,hb,List.takeWhile_cons]
   cases ha:l.all (fun b=>!(b==c)) with
   | true=>simp
   | false=>simp
set_option maxHeartbeats 1000000 in
theorem xrune_one (s:ByteArray) (x:UInt8) (c:Int) (hx:c=(x.toNat:Int)) (w:World) (h:x.toNat < 128) :
  Calls Tryz.prog 130 #[.string s,.int .i32 c] w fun e w'=>e=.returned (.int .i64 (Lib.indexByte s.data.toList x))∧w'=w:=by
 subst hx;have h0:(0:Int)≤(x.toNat:Int):=by omega
 have h1:(x.toNat:Int) < 128:=by omega
 have hc:IntKind.u8.wrap (x.toNat:Int)=(x.toNat:Int):=by
  simp [IntKind.wrap,IntKind.signed,IntKind.bits]; omega
 have K:=hid (fun w'=>strIndexByte_any s x w')
 go_enter Tryz.func130,Tryz.ntmps130
 go_wp2_with fail
 refine (K.out _).mono ?_
 rintro e w1 ⟨rfl,rfl⟩;go_wp2;go_ret;exact ⟨rfl,rfl⟩
set_option maxHeartbeats 1000000 in
theorem xany_ask (l:List UInt8) (w:World) :
  Calls Tryz.prog 105 #[.string ⟨l.toArray⟩,.string ⟨#[63]⟩] w fun e w'=>e=.returned (.int .i64 (idxP (·==63) l))∧Below w.heap.size w w':=by
 have K:=hid (fun w'=>xrune_one ⟨l.toArray⟩ 63 63 (by decide) w' (by decide));rw [show Lib.indexByte (⟨l.toArray⟩:ByteArray).data.toList 63=idxP (·==63) l from idxP_one 63 l] at K;generalize idxP (·==63) l=n at K;have hcv:wrap32 (((⟨#[63]⟩:ByteArray)[0]'(by decide)).toNat:Int)=63:=by rw [show (((⟨#[63]⟩:ByteArray)[0]'(by decide)).toNat:Int)=63 from rfl]; unfold wrap32; decide
 go_enter Tryz.func105,Tryz.ntmps105
 go_wp2_with fail
 refine (K.out _).mono ?_
 rintro e w1 ⟨rfl,rfl⟩;go_wp2;go_ret;exact ⟨rfl,Below.refl _ _⟩
set_option maxHeartbeats 1000000 in
theorem xany_eq (l:List UInt8) (w:World) :
  Calls Tryz.prog 105 #[.string ⟨l.toArray⟩,.string ⟨#[61]⟩] w fun e w'=>e=.returned (.int .i64 (idxP (·==61) l))∧Below w.heap.size w w':=by
 have K:=hid (fun w'=>xrune_one ⟨l.toArray⟩ 61 61 (by decide) w' (by decide));rw [show Lib.indexByte (⟨l.toArray⟩:ByteArray).data.toList 61=idxP (·==61) l from idxP_one 61 l] at K;generalize idxP (·==61) l=n at K;have hcv:wrap32 (((⟨#[61]⟩:ByteArray)[0]'(by decide)).toNat:Int)=61:=by rw [show (((⟨#[61]⟩:ByteArray)[0]'(by decide)).toNat:Int)=61 from rfl]; unfold wrap32; decide
 go_enter Tryz.func105,Tryz.ntmps105
 go_wp2_with fail
 refine (K.out _).mono ?_
 rintro e w1 ⟨rfl,rfl⟩;go_wp2;go_ret;exact ⟨rfl,Below.refl _ _⟩
set_option maxHeartbeats 1000000 in
theorem xany_quo (l:List UInt8) (w:World) :
  Calls Tryz.prog 105 #[.string ⟨l.toArray⟩,.string ⟨#[34]⟩] w fun e w'=>e=.returned (.int .i64 (idxP (·==34) l))∧Below w.heap.size w w':=by
 have K:=hid (fun w'=>xrune_one ⟨l.toArray⟩ 34 34 (by decide) w' (by decide));rw [show Lib.indexByte (⟨l.toArray⟩:ByteArray).data.toList 34=idxP (·==34) l from idxP_one 34 l] at K;generalize idxP (·==34) l=n at K;have hcv:wrap32 (((⟨#[34]⟩:ByteArray)[0]'(by decide)).toNat:Int)=34:=by rw [show (((⟨#[34]⟩:ByteArray)[0]'(by decide)).toNat:Int)=34 from rfl]; unfold wrap32; decide
 go_enter Tryz.func105,Tryz.ntmps105
 go_wp2_with fail
 refine (K.out _).mono ?_
 rintro e w1 ⟨rfl,rfl⟩;go_wp2;go_ret;exact ⟨rfl,Below.refl _ _⟩
set_option maxHeartbeats 1000000 in
theorem xany_apo (l:List UInt8) (w:World) :
  Calls Tryz.prog 105 #[.string ⟨l.toArray⟩,.string ⟨#[39]⟩] w fun e w'=>e=.returned (.int .i64 (idxP (·==39) l))∧Below w.heap.size w w':=by
 have K:=hid (fun w'=>xrune_one ⟨l.toArray⟩ 39 39 (by decide) w' (by decide));rw [show Lib.indexByte (⟨l.toArray⟩:ByteArray).data.toList 39=idxP (·==39) l from idxP_one 39 l] at K;generalize idxP (·==39) l=n at K;have hcv:wrap32 (((⟨#[39]⟩:ByteArray)[0]'(by decide)).toNat:Int)=39:=by rw [show (((⟨#[39]⟩:ByteArray)[0]'(by decide)).toNat:Int)=39 from rfl]; unfold wrap32; decide
 go_enter Tryz.func105,Tryz.ntmps105
 go_wp2_with fail
 refine (K.out _).mono ?_
 rintro e w1 ⟨rfl,rfl⟩;go_wp2;go_ret;exact ⟨rfl,Below.refl _ _⟩
set_option maxHeartbeats 1000000 in
theorem xany_lt (l:List UInt8) (w:World) :
  Calls Tryz.prog 105 #[.string ⟨l.toArray⟩,.string ⟨#[60]⟩] w fun e w'=>e=.returned (.int .i64 (idxP (·==60) l))∧Below w.heap.size w w':=by
 have K:=hid (fun w'=>xrune_one ⟨l.toArray⟩ 60 60 (by decide) w' (by decide));rw [show Lib.indexByte (⟨l.toArray⟩:ByteArray).data.toList 60=idxP (·==60) l from idxP_one 60 l] at K;generalize idxP (·==60) l=n at K;have hcv:wrap32 (((⟨#[60]⟩:ByteArray)[0]'(by decide)).toNat:Int)=60:=by rw [show (((⟨#[60]⟩:ByteArray)[0]'(by decide)).toNat:Int)=60 from rfl]; unfold wrap32; decide
 go_enter Tryz.func105,Tryz.ntmps105
 go_wp2_with fail
 refine (K.out _).mono ?_
 rintro e w1 ⟨rfl,rfl⟩;go_wp2;go_ret;exact ⟨rfl,Below.refl _ _⟩
end Go.Proofs.YtdbalahkmeknaaaGreatDoor
namespace Go.Proofs.YtdbalahkmeknaaaGreatDoor
open Go.RowKit
theorem rc_row2 (w:World) (v0 v1:Value) (t:TypeId):RowIs (w.alloc (.cells #[v0,v1] t)) w.heap.size t [v0,v1]:=by
 unfold RowIs; rw [heap_alloc_new]
structure RowC2 (w:World) (b:Nat) (v0 v1:Value):Prop where
 c0:w.cell? ⟨b,0,none⟩=some v0
 c1:w.cell? ⟨b,1,none⟩=some v1
 f0:w.frozen? ⟨b,0,none⟩=false
 f1:w.frozen? ⟨b,1,none⟩=false
theorem RowIs.rc2 {w:World} {b:Nat} {e:TypeId} {v0 v1:Value} (h:RowIs w b e [v0,v1]):RowC2 w b v0 v1:=⟨h.cell 0 (by simp),h.cell 1 (by simp),h.frozen 0,h.frozen 1⟩
theorem rc_row3 (w:World) (v0 v1 v2:Value) (t:TypeId):RowIs (w.alloc (.cells #[v0,v1,v2] t)) w.heap.size t [v0,v1,v2]:=by
 unfold RowIs; rw [heap_alloc_new]
theorem rc_store3 {w:World} {b:Nat} {e:TypeId} {u0 u1 u2:Value} (h:RowIs w b e [u0,u1,u2]) (v0 v1 v2:Value):RowIs (((w.setCell ⟨b,0,none⟩ v0).setCell ⟨b,1,none⟩ v1).setCell ⟨b,2,none⟩ v2) b e [v0,v1,v2]:=by
 have:=(((h.set 0 v0).set 1 v1).set 2 v2)
 simpa using this
theorem rc_below3 {B:Nat} {a w:World} (h:Below B a w) (b:Nat) (hb:B≤b) (v0 v1 v2:Value):Below B a (((w.setCell ⟨b,0,none⟩ v0).setCell ⟨b,1,none⟩ v1).setCell ⟨b,2,none⟩ v2):=(((h.setCell hb _).setCell hb _).setCell hb _)
structure RowC3 (w:World) (b:Nat) (v0 v1 v2:Value):Prop where
 c0:w.cell? ⟨b,0,none⟩=some v0
 c1:w.cell? ⟨b,1,none⟩=some v1
 c2:w.cell? ⟨b,2,none⟩=some v2
 f0:w.frozen? ⟨b,0,none⟩=false
 f1:w.frozen? ⟨b,1,none⟩=false
 f2:w.frozen? ⟨b,2,none⟩=false
theorem RowIs.rc3 {w:World} {b:Nat} {e:TypeId} {v0 v1 v2:Value} (h:RowIs w b e [v0,v1,v2]):RowC3 w b v0 v1 v2:=⟨h.cell 0 (by simp),h.cell 1 (by simp),h.cell 2 (by simp),h.frozen 0,h.frozen 1,h.frozen 2⟩
theorem rc_row4 (w:World) (v0 v1 v2 v3:Value) (t:TypeId):RowIs (w.alloc (.cells #[v0,v1,v2,v3] t)) w.heap.size t [v0,v1,v2,v3]:=by
 unfold RowIs; rw [heap_alloc_new]
theorem rc_store4 {w:World} {b:Nat} {e:TypeId} {u0 u1 u2 u3:Value} (h:RowIs w b e [u0,u1,u2,u3]) (v0 v1 v2 v3:Value):RowIs ((((w.setCell ⟨b,0,none⟩ v0).setCell ⟨b,1,none⟩ v1).setCell ⟨b,2,none⟩ v2).setCell ⟨b,3,none⟩ v3) b e [v0,v1,v2,v3]:=by
 have:=((((h.set 0 v0).set 1 v1).set 2 v2).set 3 v3)
 simpa using this
theorem rc_below4 {B:Nat} {a w:World} (h:Below B a w) (b:Nat) (hb:B≤b) (v0 v1 v2 v3:Value):Below B a ((((w.setCell ⟨b,0,none⟩ v0).setCell ⟨b,1,none⟩ v1).setCell ⟨b,2,none⟩ v2).setCell ⟨b,3,none⟩ v3):=((((h.setCell hb _).setCell hb _).setCell hb _).setCell hb _)
structure RowC4 (w:World) (b:Nat) (v0 v1 v2 v3:Value):Prop where
 c0:w.cell? ⟨b,0,none⟩=some v0
 c1:w.cell? ⟨b,1,none⟩=some v1
 c2:w.cell? ⟨b,2,none⟩=some v2
 c3:w.cell? ⟨b,3,none⟩=some v3
 f0:w.frozen? ⟨b,0,none⟩=false
 f1:w.frozen? ⟨b,1,none⟩=false
 f2:w.frozen? ⟨b,2,none⟩=false
 f3:w.frozen? ⟨b,3,none⟩=false
theorem RowIs.rc4 {w:World} {b:Nat} {e:TypeId} {v0 v1 v2 v3:Value} (h:RowIs w b e [v0,v1,v2,v3]):RowC4 w b v0 v1 v2 v3:=⟨h.cell 0 (by simp),h.cell 1 (by simp),h.cell 2 (by simp),h.cell 3 (by simp),h.frozen 0,h.frozen 1,h.frozen 2,h.frozen 3⟩
end Go.Proofs.YtdbalahkmeknaaaGreatDoor
