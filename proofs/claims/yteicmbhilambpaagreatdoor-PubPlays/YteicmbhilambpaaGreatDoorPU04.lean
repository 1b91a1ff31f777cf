/-
  Quote, Unquote, Escape, Unesc, WrittenL, Params, PListL, Digits, PrintL, CheckL, WhereL, ParseL, UBackL, SameL.
-/
import Derived.Test.YteicmbhilambpaaGreatDoorPU01
import Derived.Deep.QuietTactic
import Derived.BigQuiet
import Derived.Laws.StructEq
import Derived.ChangeKeysEq
set_option linter.unusedVariables false
set_option linter.unusedSimpArgs false
set_option maxRecDepth 20000
namespace Go.Proofs.YteicmbhilambpaaGreatDoor
open Go.RowKit Sc
theorem ret_str {p:List UInt8 × Int} (a:List UInt8) (b:Int) (h:p=(a,b)):Ending.returned (.tuple #[.string ⟨a.toArray⟩,.int .i64 b])=.returned (.tuple #[.string ⟨p.1.toArray⟩,.int .i64 p.2]):=by rw [h]
theorem map_snoc (acc:List UInt8) (b:UInt8) (x:Option (List UInt8)):(x.map (b :: ·)).map (acc++·)=x.map ((acc++[b])++·):=by
 cases x <;> simp
theorem byteCells_snoc (l:List UInt8) (b:UInt8):Lib.byteCells l++Lib.byteCells [b]=Lib.byteCells (l++[b]):=by rw [← Lib.byteCells_append]
def kept0:Array Value:=(List.replicate 256 (.bool false)).toArray
theorem zero52 (u:World):Sem.run Tryz.prog (zeroValue 229) u=.ok (.agg kept0) u:=by kernel_rfl
def Marks (w:World) (B:Nat) (f:Nat → Bool):Prop:=∀ j,j < 256 → w.cell? ⟨B,j,none⟩=some (.bool (f j))∧w.frozen? ⟨B,j,none⟩=false
theorem marks0 (w:World):Marks (w.alloc (.cells kept0 229)) w.heap.size (fun _=>false):=by
 intro j hj
 constructor
 ·rw [World.cell?_alloc_new,kept0,List.getElem?_toArray,List.getElem?_replicate,if_pos hj]
 ·exact World.frozen?_alloc_new w kept0 229 j
theorem marks_set {w:World} {B:Nat} {f:Nat → Bool} (h:Marks w B f) (n:Nat) (hn:n < 256) (b:Bool):Marks (w.setCell ⟨B,n,none⟩ (.bool b)) B (fun j=>if j=n then b else f j):=by
 intro j hj
 constructor
 ·by_cases e:j=n
  ·subst e;rw [World.cell?_setCell_same _ _ _ (h j hj).1]; simp
  ·rw [World.cell?_setCell_other _ _ _ _ (by intro e'; injection e' with _ e2; exact e e2.symm),(h j hj).1]; simp [e]
 ·rw [World.frozen?_setCell]; exact (h j hj).2
theorem marks_congr {w:World} {B:Nat} {f g:Nat → Bool} (h:Marks w B f) (hfg:∀ j,f j=g j):Marks w B g:=by
 intro j hj; rw [← hfg j]; exact h j hj
theorem marks_below {w w':World} {B:Nat} {f:Nat → Bool} (h:Marks w B f) (hb:Below (B+1) w w'):Marks w' B f:=by
 intro j hj;exact ⟨(hb.cell (p:=⟨B,j,none⟩) (Nat.lt_succ_self B)).trans (h j hj).1,(hb.frozen (p:=⟨B,j,none⟩) (Nat.lt_succ_self B)).trans (h j hj).2⟩
def inK (l:List UInt8) (j:Nat):Bool:=l.any fun b=>b.toNat==j
theorem inK_snoc (l:List UInt8) (b:UInt8) (j:Nat):(if j=b.toNat then true else inK l j)=inK (l++[b]) j:=by
 by_cases h:j=b.toNat
 ·simp [inK,h]
 ·have h':(b.toNat==j)=false:=by simp; exact fun e=>h e.symm
  simp [inK,h,h']
def hexd (n:Nat):UInt8:=[48,49,50,51,52,53,54,55,56,57,65,66,67,68,69,70].getD n 0
def free (kp:Nat → Bool) (b:UInt8):Bool:=isB b.toNat 16 || kp b.toNat
def esc (kp:Nat → Bool):List UInt8 → List UInt8
 | []=>[]
 | b :: r=>(if free kp b then [b] else [37,hexd (b.toNat / 16),hexd (b.toNat % 16)])++esc kp r
def kpF (keep:List UInt8) (j:Nat):Bool:=if j=37 then false else inK keep j
theorem esc_append (kp:Nat → Bool) (a b:List UInt8):esc kp (a++b)=esc kp a++esc kp b:=by
 induction a with
 | nil=>rfl
 | cons x r ih=>simp only [List.cons_append,esc,ih,List.append_assoc]
theorem esc_len (kp:Nat → Bool) (l:List UInt8):(esc kp l).length≤3 * l.length:=by
 induction l with
 | nil=>simp [esc]
 | cons x r ih=>simp only [esc,List.length_append,List.length_cons]; split <;> simp <;> omega
theorem esc_cells1 (kp:Nat → Bool) (l:List UInt8) (b:UInt8) (h:free kp b=true):Lib.byteCells (esc kp l)++Lib.byteCells [b]=Lib.byteCells (esc kp (l++[b])):=by
 rw [← Lib.byteCells_append]; simp [esc_append,esc,h]
theorem esc_cells3 (kp:Nat → Bool) (l:List UInt8) (b:UInt8) (h:free kp b=false) :
  Lib.byteCells (esc kp l)++Lib.byteCells [37,hexd (b.toNat / 16),hexd (b.toNat % 16)]=Lib.byteCells (esc kp (l++[b])):=by
 rw [← Lib.byteCells_append]; simp [esc_append,esc,h]
theorem esc_cells_len (kp:Nat → Bool) (l:List UInt8):(Lib.byteCells (esc kp l)).length≤3 * l.length:=by
 rw [Lib.byteCells_length]; exact esc_len kp l
theorem hexi (i:Int) (n:Nat) (hi:i.toNat=n) (h:i.toNat < 16):(((ByteArray.mk #[48,49,50,51,52,53,54,55,56,57,65,66,67,68,69,70])[i.toNat]'h).toNat:Int)=((hexd n).toNat:Int):=by
 subst hi;have hh:∀ n:Fin 16,(((ByteArray.mk #[48,49,50,51,52,53,54,55,56,57,65,66,67,68,69,70])[n.val]'n.isLt).toNat:Int)=((hexd n.val).toNat:Int):=by decide +kernel
 exact hh ⟨i.toNat,h⟩
theorem three_new (w:World) (e:TypeId) (x y z:Value) (l:List Value) (hl:l=[x,y,z]) :
  ∀ (j:Nat) (u:Value),l[j]? = some u → (w.alloc (.cells #[x,y,z] e)).drew.cell? ((⟨w.heap.size,0,none⟩:Addr).add j)=some u:=by
 subst hl;intro j u hj;rw [show (w.alloc (.cells #[x,y,z] e)).drew.cell? = (w.alloc (.cells #[x,y,z] e)).cell? from rfl]
 match j,hj with
 | 0,hj=>simp at hj; subst hj; simp [Addr.add]
 | 1,hj=>simp at hj; subst hj; simp [Addr.add]
 | 2,hj=>simp at hj; subst hj; simp [Addr.add]
theorem and15 (b:UInt8):bits BinOp.and IntKind.u8 (b.toNat:Int) 15=(b.toNat:Int) % 16:=by
 have h:∀ n:Fin 256,bits BinOp.and IntKind.u8 (n.val:Int) 15=(n.val:Int) % 16:=by decide +kernel
 exact h ⟨b.toNat,b.toNat_lt⟩
set_option maxHeartbeats 1000000 in
theorem escape_any (s keep:ByteArray) (w:World) (hs:3 * s.size≤140737488355328) (hk:keep.size≤9223372036854775807) :
  Calls Tryz.prog 161 #[.string s,.string keep] w fun e w'=>e=.returned (.string ⟨(esc (kpF keep.data.toList) s.data.toList).toArray⟩)∧Below w.heap.size w w':=by
 have hz52:=zero52;obtain ⟨i0,hi,hz0,hz1,hz2⟩:=info_parts info5
 go_enter Tryz.func161,Tryz.ntmps161
 go_wp2;clear hz52;have hm0:=marks0 w
 go_loopw [12] (fun i wr=>∃ k:Nat,k≤keep.size∧i=.int .i64 k∧Hid (Marks wr w.heap.size (inK (keep.data.toList.take k)))∧Below w.heap.size w wr∧w.heap.size+1≤wr.heap.size) (fun i _=>keep.size - (intOf i).toNat)
 case atStart=>exact ⟨0,Nat.zero_le _,rfl,hm0,(Below.refl _ _).alloc (Nat.le_refl _) _,by simp⟩
 case round =>
  obtain ⟨k,hk',rfl,hm,hb,hB⟩:=hrel;by_cases hlt:k < keep.size
  ·have hbd:=u8_bd keep[k];have hc:=(hm.out keep[k].toNat keep[k].toNat_lt).1;have hf:=(hm.out keep[k].toNat keep[k].toNat_lt).2
   have hm':Hid (Marks (wr.setCell ⟨w.heap.size,keep[k].toNat,none⟩ (.bool true)) w.heap.size (inK (keep.data.toList.take (k+1)))):=by
    rw [take_snoc keep k hlt];exact marks_congr (marks_set hm.out keep[k].toNat keep[k].toNat_lt true) (inK_snoc _ _)
   go_wp2;go_roundw
   case rel=>exact ⟨k+1,by omega,by go_num,hm',hb.setCell (Nat.le_refl _) _,by simpa using hB⟩
   case measure=>simp [intOf]; omega
  ·rw [take_all keep k (by omega)] at hm;have hc:=(hm.out 37 (by omega)).1;have hf:=(hm.out 37 (by omega)).2;have hm2:Hid (Marks (wr.setCell ⟨w.heap.size,37,none⟩ (.bool false)) w.heap.size (kpF keep.data.toList)):=marks_set hm.out 37 (by omega) false;have hb2:Below w.heap.size w (wr.setCell ⟨w.heap.size,37,none⟩ (.bool false)):=hb.setCell (Nat.le_refl _) _;have hB2:w.heap.size+1≤(wr.setCell ⟨w.heap.size,37,none⟩ (.bool false)).heap.size:=by simpa using hB
   clear hm hb hB hk' hm0;go_wp2_with (at_make; refine wp_make _ rfl _ _ 70 rfl (w.heap.size+1) 5 i0 (.int .u8 0) Tryz.underlying70 hi hz0 hz1 .i64 .i64 _ s.size rfl rfl (by omega) (by rw [hz2]; omega) (by unfold maxLen; omega) _ (Below.refl _ _) hB2 ?_; intro v0 w1 hown1 hb1 hB1)
   have hm1:Hid (Marks w1 w.heap.size (kpF keep.data.toList)):=marks_below hm2.out hb1;have hbw:Below w.heap.size w w1:=hb2.trans (hb1.mono (by omega));clear hm2 hb2 hB2 hb1 hc hf
   go_loopw [7,26] (fun v i wr=>∃ k:Nat,k≤s.size∧i=.int .i64 k∧Own wr (w.heap.size+1) 5 v (Lib.byteCells (esc (kpF keep.data.toList) (s.data.toList.take k)))∧Below (w.heap.size+1) w1 wr∧w.heap.size+1≤wr.heap.size) (fun _ i _=>s.size - (intOf i).toNat)
   case atStart=>exact ⟨0,Nat.zero_le _,rfl,hown1,Below.refl _ _,hB1⟩
   case round =>
    clear hown1 hB1;obtain ⟨k,hk',rfl,hown,hb,hB⟩:=hrel;have hlen:=esc_cells_len (kpF keep.data.toList) (s.data.toList.take k);have hlk:(s.data.toList.take k).length≤k:=List.length_take_le _ _;by_cases hlt:k < s.size
    ·have hbd:=u8_bd s[k];have hcell:=((marks_below hm1.out hb) s[k].toNat s[k].toNat_lt).1;by_cases hfree:free (kpF keep.data.toList) s[k]=true
     ·have hcs:=esc_cells1 (kpF keep.data.toList) (s.data.toList.take k) s[k] hfree;rw [← take_snoc s k hlt] at hcs;have HC:Hid _:=hcs; clear hcs
      have HF:Hid _:=hfree; clear hfree
      by_cases hpl:isB s[k].toNat 16=true
      ·go_wp2_with (first
        | (go_at_call 135; refine (is_any _ _ _ hbd.1 hbd.2).mono ?_; rintro e w' ⟨rfl,rfl⟩)
        | (at_builtin; refine wp_app _ rfl (.tmp 39) (.tmp 41) 70 rfl (w.heap.size+1) 5 i0 (.int .u8 0) 1 Tryz.underlying70 hi hz0 hz1 hz2 rfl _ _ rfl (hown.alloc _) ⟨_,0,none⟩ 1 1 (Lib.byteCells [s[k]]) rfl rfl (by exact one_new _ _ _) (byteCells_one _) (by unfold maxLen; omega) (by omega) w1 (hb.alloc hB _) (by simp; omega) ?_; intro v3 w3 hown3 hb3 hB3))
       rw [HC.out] at hown3;go_roundw
       case rel=>exact ⟨k+1,by omega,by go_num,hown3,hb3,hB3⟩
       case measure=>simp [intOf]; omega
      ·have hpl':isB s[k].toNat 16=false:=by simpa using hpl
       have hkp:kpF keep.data.toList s[k].toNat=true:=by have:=HF.out; rw [free,hpl'] at this; simpa using this
       rw [hkp] at hcell;have HK:Hid _:=hkp; clear hkp hpl
       go_wp2_with (first
        | (go_at_call 135; refine (is_any _ _ _ hbd.1 hbd.2).mono ?_; rintro e w' ⟨rfl,rfl⟩)
        | (at_builtin; refine wp_app _ rfl (.tmp 39) (.tmp 41) 70 rfl (w.heap.size+1) 5 i0 (.int .u8 0) 1 Tryz.underlying70 hi hz0 hz1 hz2 rfl _ _ rfl (hown.alloc _) ⟨_,0,none⟩ 1 1 (Lib.byteCells [s[k]]) rfl rfl (by exact one_new _ _ _) (byteCells_one _) (by unfold maxLen; omega) (by omega) w1 (hb.alloc hB _) (by simp; omega) ?_; intro v3 w3 hown3 hb3 hB3))
       rw [HC.out] at hown3;go_roundw
       case rel=>exact ⟨k+1,by omega,by go_num,hown3,hb3,hB3⟩
       case measure=>simp [intOf]; omega
     ·have hfree':free (kpF keep.data.toList) s[k]=false:=by simpa using hfree
      have hcs:=esc_cells3 (kpF keep.data.toList) (s.data.toList.take k) s[k] hfree';rw [← take_snoc s k hlt] at hcs;have HC:Hid _:=hcs; clear hcs
      have hpl:isB s[k].toNat 16=false:=by rw [free] at hfree'; simp at hfree'; exact hfree'.1
      have hkp:kpF keep.data.toList s[k].toNat=false:=by rw [free] at hfree'; simp at hfree'; exact hfree'.2
      rw [hkp] at hcell;clear hkp hfree hfree'
      go_wp2_with (first
        | (go_at_call 135; refine (is_any _ _ _ hbd.1 hbd.2).mono ?_; rintro e w' ⟨rfl,rfl⟩))
      have hA:(0:Int)≤(s[k].toNat:Int) / 16:=by omega
      have hB':(s[k].toNat:Int) / 16 < 16:=by omega
      have hC:bits BinOp.and IntKind.u8 (s[k].toNat:Int) 15=(s[k].toNat:Int) % 16:=and15 _;have hD:(0:Int)≤(s[k].toNat:Int) % 16:=by omega
      have hE:(s[k].toNat:Int) % 16 < 16:=by omega
      go_region_law (refine step_app rfl (.tmp 43) (.tmp 50) 70 rfl (w.heap.size+1) 5 i0 (.int .u8 0) 1 Tryz.underlying70 hi hz0 hz1 hz2 rfl _ _ rfl (by exact (hown.alloc _).drew) ⟨_,0,none⟩ 3 3 (Lib.byteCells [37,hexd (s[k].toNat / 16),hexd (s[k].toNat % 16)]) rfl rfl (by refine three_new _ _ _ _ _ _ ?_; simp only [Lib.byteCells,List.map_cons,List.map_nil]; rw [hexi _ (s[k].toNat / 16) (by omega),hexi _ (s[k].toNat % 16) (by omega)]; rfl) (byteCells_one _) (by unfold maxLen; omega) (by omega) w1 (by exact (hb.alloc hB _).drew) (by simp; omega) ?_; intro v3 w3 hown3 hb3 hB3)
      all_goals
       rw [HC.out] at hown3;go_wp2;go_roundw
       case rel=>exact ⟨k+1,by omega,by go_num,hown3,hb3,hB3⟩
       case measure=>simp [intOf]; omega
    ·have hta:=take_all s k (by omega);rw [hta] at hown;clear hta hlen hlk;have hcv:=conv_own (P:=Tryz.prog) _ Tryz.underlying70 Tryz.underlying5 Tryz.underlying9 hown;go_wp2;go_ret;exact ⟨rfl,hbw.trans (hb.mono (by omega))⟩
theorem Own.drewN {w:World} {B:Nat} {e:TypeId} {v:Value} {xs:List Value} (h:Own w B e v xs) (q:Nat):Own (w.drewN q) B e v xs:=h
theorem Below.drewN {B:Nat} {a w:World} (h:Below B a w) (q:Nat):Below B a (w.drewN q):=⟨h.os,h.tape,h.output,h.size,h.block⟩
def hexv (c:Int):Int:=if 48≤c∧c≤57 then c - 48 else low c - 87
theorem isB_hex (c:Int) (h0:0≤c) (h1:c≤255):isB c 4=decide (48≤c∧c≤57∨97≤c∧c≤102∨65≤c∧c≤70):=by
 obtain ⟨n,rfl⟩:=Int.eq_ofNat_of_zero_le h0;have h:∀ n:Fin 256,isB (n.val:Int) 4=decide (48≤(n.val:Int)∧(n.val:Int)≤57∨97≤(n.val:Int)∧(n.val:Int)≤102∨65≤(n.val:Int)∧(n.val:Int)≤70):=by decide +kernel
 exact h ⟨n,by omega⟩
theorem hex_of {b:UInt8} (h:isB b.toNat 4=true):48≤(b.toNat:Int)∧(b.toNat:Int)≤57∨97≤(b.toNat:Int)∧(b.toNat:Int)≤102∨65≤(b.toNat:Int)∧(b.toNat:Int)≤70:=by
 have hb:=u8_bd b;rw [isB_hex _ hb.1 hb.2] at h
 simpa using h
theorem hexv_bd {b:UInt8} (h:isB b.toNat 4=true):0≤hexv b.toNat∧hexv b.toNat≤15:=by
 have:=hex_of h
 unfold hexv low
 repeat' split
 all_goals omega
def hxb (x y:UInt8):UInt8:=UInt8.ofNat (16 * hexv x.toNat+hexv y.toNat).toNat
theorem hxb_toNat {x y:UInt8} (hx:isB x.toNat 4=true) (hy:isB y.toNat 4=true):((hxb x y).toNat:Int)=16 * hexv x.toNat+hexv y.toNat:=by
 have h1:=hexv_bd hx;have h2:=hexv_bd hy;rw [hxb,UInt8.toNat_ofNat'];omega
set_option maxHeartbeats 400000 in
theorem hexvalue_any (b:UInt8) (w:World) (h:isB b.toNat 4=true) :
  Calls Tryz.prog 192 #[.int .u8 b.toNat] w fun e w'=>e=.returned (.int .u8 (hexv b.toNat))∧w'=w:=by
 have hbd:=u8_bd b;have hx:=hex_of h;by_cases hd:48≤(b.toNat:Int)∧(b.toNat:Int)≤57
 ·have h1:isB b.toNat 1=true:=by rw [isB_digit _ hbd.1 hbd.2]; simpa using hd
  have hv:Hid (hexv b.toNat=(b.toNat:Int) - 48):=by show _=_; rw [hexv,if_pos hd]
  obtain ⟨hd1,hd2⟩:=hd;clear h hx
  go_enter Tryz.func192,Tryz.ntmps192
  go_wp2_with (go_at_call 135; refine (is_any _ _ _ hbd.1 hbd.2).mono ?_; rintro e w' ⟨rfl,rfl⟩)
  go_ret;exact ⟨ret_int hv.out.symm,rfl⟩
 ·have h1:isB b.toNat 1=false:=by rw [isB_digit _ hbd.1 hbd.2]; simpa using hd
  have hl:97≤low b.toNat∧low b.toNat≤102:=by unfold low; split <;> omega
  have hv:Hid (hexv b.toNat=low b.toNat - 97+10):=by show _=_; rw [hexv,if_neg hd]; omega
  obtain ⟨hl1,hl2⟩:=hl;clear h hx hd
  go_enter Tryz.func192,Tryz.ntmps192
  go_wp2_with (first
   | (go_at_call 135; refine (is_any _ _ _ hbd.1 hbd.2).mono ?_; rintro e w' ⟨rfl,rfl⟩)
   | (go_at_call 153; refine (lower_any _ _ hbd.1 hbd.2).mono ?_; rintro e w' ⟨rfl,rfl⟩))
  go_ret;exact ⟨ret_int hv.out.symm,rfl⟩
def une:List UInt8 → Option (List UInt8)
 | []=>some []
 | [b]=>if (b.toNat:Int)=37 then none else some [b]
 | [b,x]=>if (b.toNat:Int)=37 then none else (une [x]).map (b :: ·)
 | b :: x :: y :: r=>if (b.toNat:Int)=37 then (if isB x.toNat 4 && isB y.toNat 4 then (une r).map (hxb x y :: ·) else none) else (une (x :: y :: r)).map (b :: ·)
theorem une_plain {b:UInt8} {r:List UInt8} (h:(b.toNat:Int) ≠ 37):une (b :: r)=(une r).map (b :: ·):=by
 match r with
 | []=>simp [une,h]
 | [x]=>show (if (b.toNat:Int)=37 then none else (une [x]).map (b :: ·))=_; rw [if_neg h]
 | x :: y :: r=>rw [une,if_neg h]
theorem une_short {b:UInt8} {r:List UInt8} (h:(b.toNat:Int)=37) (hr:r.length < 2):une (b :: r)=none:=by
 match r,hr with
 | [],_=>simp [une,h]
 | [x],_=>rw [une,if_pos h]
 | x :: y :: r,hr=>simp at hr; omega
theorem une_hex {b x y:UInt8} {r:List UInt8} (h:(b.toNat:Int)=37) (hx:isB x.toNat 4=true) (hy:isB y.toNat 4=true):une (b :: x :: y :: r)=(une r).map (hxb x y :: ·):=by
 rw [une,if_pos h,hx,hy]; rfl
theorem une_bad {b x y:UInt8} {r:List UInt8} (h:(b.toNat:Int)=37) (hx:(isB x.toNat 4 && isB y.toNat 4)=false):une (b :: x :: y :: r)=none:=by
 rw [une,if_pos h,hx]; rfl
def unescV (l:List UInt8):List UInt8 × Int:=match une l with | some r=>(r,0) | none=>([],12)
theorem unescV_some {l r:List UInt8} (h:une l=some r):unescV l=(r,0):=by rw [unescV,h]
theorem unescV_none {l:List UInt8} (h:une l=none):unescV l=([],12):=by rw [unescV,h]
def UneAt (l acc rest:List UInt8):Prop:=une l=(une rest).map (acc++·)
theorem uneAt0 (l:List UInt8):UneAt l [] l:=by unfold UneAt; cases une l <;> simp
theorem uneAt_end {l acc:List UInt8} (h:UneAt l acc []):une l=some acc:=by rw [h]; simp [une]
theorem uneAt_plain {l acc:List UInt8} {b:UInt8} {r:List UInt8} (h:UneAt l acc (b :: r)) (hb:(b.toNat:Int) ≠ 37):UneAt l (acc++[b]) r:=by
 unfold UneAt at *;rw [h,une_plain hb]; exact map_snoc acc b (une r)
theorem uneAt_hex {l acc:List UInt8} {b x y:UInt8} {r:List UInt8} (h:UneAt l acc (b :: x :: y :: r)) (hb:(b.toNat:Int)=37) (hx:isB x.toNat 4=true) (hy:isB y.toNat 4=true):UneAt l (acc++[hxb x y]) r:=by
 unfold UneAt at *;rw [h,une_hex hb hx hy]; exact map_snoc acc _ (une r)
theorem uneAt_short {l acc:List UInt8} {b:UInt8} {r:List UInt8} (h:UneAt l acc (b :: r)) (hb:(b.toNat:Int)=37) (hr:r.length < 2):une l=none:=by
 unfold UneAt at h;rw [h,une_short hb hr]; rfl
theorem uneAt_bad {l acc:List UInt8} {b x y:UInt8} {r:List UInt8} (h:UneAt l acc (b :: x :: y :: r)) (hb:(b.toNat:Int)=37) (hx:(isB x.toNat 4 && isB y.toNat 4)=false):une l=none:=by
 unfold UneAt at h;rw [h,une_bad hb hx]; rfl
theorem or_hex {x y:UInt8} (hx:isB x.toNat 4=true) (hy:isB y.toNat 4=true):bits BinOp.or IntKind.u8 (hexv x.toNat * 16 % 256) (hexv y.toNat)=((hxb x y).toNat:Int):=by
 rw [hxb_toNat hx hy];have h1:=hexv_bd hx;have h2:=hexv_bd hy;obtain ⟨m,hm⟩:=Int.eq_ofNat_of_zero_le h1.1;obtain ⟨n,hn⟩:=Int.eq_ofNat_of_zero_le h2.1;rw [hm,hn];have h:∀ m n:Fin 16,bits BinOp.or IntKind.u8 ((m.val:Int) * 16 % 256) (n.val:Int)=16 * (m.val:Int)+(n.val:Int):=by decide +kernel
 exact h ⟨m,by omega⟩ ⟨n,by omega⟩
theorem all2 (s:ByteArray) (k:Nat) (h:k+2 < s.size) (c:Int):allB c (s.extract (k+1) (k+3)).data.toList=(isB s[k+1].toNat c && isB s[k+2].toNat c):=by
 have e:(s.extract (k+1) (k+3)).data.toList=[s[k+1],s[k+2]]:=by
  rw [ext_list,show k+3 - (k+1)=2 by omega,drop_cons s (k+1) (by omega),drop_cons s (k+1+1) (by omega)]
  rfl
 rw [e,allB]; simp
theorem all_hex2 (s:ByteArray) (k:Nat) (h:k+2 < s.size) (hs:s.size≤maxLen) (w:World) (b:Bool) (hb:(isB s[k+1].toNat 4 && isB s[k+2].toNat 4)=b) :
  Calls Tryz.prog 120 #[.string (s.extract (k+1) (k+3)),.int .i64 4] w fun e w'=>e=.returned (.bool b)∧w'=w:=by
 have:=all_any (s.extract (k+1) (k+3)) 4 w (by rw [ByteArray.size_extract]; omega)
 rw [all2 s k h,hb] at this;exact this
set_option maxHeartbeats 2000000 in
theorem unescape_any (s:ByteArray) (w:World) (hs:s.size≤140737488355328) :
  Calls Tryz.prog 174 #[.string s] w fun e w'=>e=.returned (.tuple #[.string ⟨(unescV s.data.toList).1.toArray⟩,.int .i64 (unescV s.data.toList).2])∧Below w.heap.size w w':=by
 obtain ⟨i0,hi,hz0,hz1,hz2⟩:=info_parts info5
 go_enter Tryz.func174,Tryz.ntmps174
 go_wp2_with (at_make; refine wp_make _ rfl _ _ 70 rfl w.heap.size 5 i0 (.int .u8 0) Tryz.underlying70 hi hz0 hz1 .i64 .i64 _ s.size rfl rfl rfl (by rw [hz2]; omega) (by unfold maxLen; omega) w (Below.refl _ _) (Nat.le_refl _) ?_; intro v0 w1 hown1 hb1 hB1)
 go_loopw [4,5] (fun v i wr=>∃ (k:Nat) (acc:List UInt8),k≤s.size∧i=.int .i64 k∧acc.length≤k∧Own wr w.heap.size 5 v (Lib.byteCells acc)∧Below w.heap.size w wr∧w.heap.size≤wr.heap.size ∧
   Hid (UneAt s.data.toList acc (s.data.toList.drop k))) (fun _ i _=>s.size - (intOf i).toNat)
 case atStart=>exact ⟨0,[],Nat.zero_le _,rfl,Nat.le_refl _,hown1,hb1,hB1,show UneAt _ _ _ by rw [List.drop_zero]; exact uneAt0 _⟩
 case round =>
  clear hown1 hb1 hB1;obtain ⟨k,acc,hk,rfl,hac,hown,hb,hB,hu⟩:=hrel;by_cases hlt:k < s.size
  ·have hu':=hu.out;rw [drop_cons s k hlt] at hu';by_cases h37:(s[k].toNat:Int)=37
   ·have c1:((s[k].toNat:Int)==37)=true:=by simpa using h37
    by_cases hsh:k+2 < s.size
    ·rw [drop_cons s (k+1) (by omega),drop_cons s (k+1+1) (by omega)] at hu';by_cases hx:(isB s[k+1].toNat 4 && isB s[k+2].toNat 4)=true
     ·have hx1:isB s[k+1].toNat 4=true:=by simp at hx; exact hx.1
      have hx2:isB s[k+2].toNat 4=true:=by simp at hx; exact hx.2
      have hn:Hid (UneAt s.data.toList (acc++[hxb s[k+1] s[k+2]]) (s.data.toList.drop (k+1+1+1))):=uneAt_hex hu' h37 hx1 hx2;have HX:Hid ((isB s[k+1].toNat 4 && isB s[k+2].toNat 4)=true):=hx;clear hu hu' h37 hx;go_wp2_with (go_at_call 120; refine (all_hex2 s k hsh (by unfold maxLen; omega) _ true HX.out).mono ?_; rintro e w' ⟨rfl,rfl⟩)
      have q1:IntKind.i64.wrap ((k:Int)+1)=(k:Int)+1:=by simp [IntKind.wrap,IntKind.signed,IntKind.bits]; omega
      have q2:IntKind.i64.wrap ((k:Int)+2)=(k:Int)+2:=by simp [IntKind.wrap,IntKind.signed,IntKind.bits]; omega
      have q3:((k:Int)+1).toNat=k+1:=by omega
      have q4:((k:Int)+2).toNat=k+2:=by omega
      have q5:(0:Int)≤(k:Int)+1:=by omega
      have q6:(k:Int)+1 < (s.size:Int):=by omega
      have q7:(0:Int)≤(k:Int)+2:=by omega
      have q8:(k:Int)+2 < (s.size:Int):=by omega
      go_quiet ((go_at_call 192; exact Calls.quiet_of_same (hexvalue_any _ _ (by assumption))))
      have qv:=or_hex hx1 hx2;have hown':=hown.drewN nq;have hb':Below w.heap.size w (w'.drewN nq):=Below.drewN hb nq;have hB':w.heap.size≤(w'.drewN nq).heap.size:=hB;generalize w'.drewN nq=wq at hown' hb' hB' ⊢;rw [qv];clear hown hb hB qv;go_wp2_with (at_builtin; refine wp_app _ rfl (.tmp 50) (.tmp 52) 70 rfl w.heap.size 5 i0 (.int .u8 0) 1 Tryz.underlying70 hi hz0 hz1 hz2 rfl _ _ rfl (by exact hown'.alloc _) ⟨_,0,none⟩ 1 1 (Lib.byteCells [hxb s[k+1] s[k+2]]) rfl rfl (by exact one_new _ _ _) (byteCells_one _) (by rw [Lib.byteCells_length]; unfold maxLen; omega) (by rw [Lib.byteCells_length]; omega) w (by exact hb'.alloc hB' _) (by simp; omega) ?_; intro v3 w3 hown3 hb3 hB3)
      rw [byteCells_snoc] at hown3;go_wp2;go_roundw
      case rel=>exact ⟨k+1+1+1,_,by omega,by go_num,by simp; omega,hown3,hb3,hB3,hn⟩
      case measure=>simp [intOf]; omega
     ·have hx':(isB s[k+1].toNat 4 && isB s[k+2].toNat 4)=false:=by simpa using hx
      have hv:Hid (unescV s.data.toList=([],12)):=unescV_none (uneAt_bad hu' h37 hx');have HX:Hid ((isB s[k+1].toNat 4 && isB s[k+2].toNat 4)=false):=hx';clear hu hu' h37 hx hx';go_wp2_with (go_at_call 120; refine (all_hex2 s k hsh (by unfold maxLen; omega) _ false HX.out).mono ?_; rintro e w' ⟨rfl,rfl⟩)
      go_ret2;exact ⟨ret_str [] 12 hv.out,hb⟩
    ·have hv:Hid (unescV s.data.toList=([],12)):=unescV_none (uneAt_short hu' h37 (by rw [List.length_drop,len_data]; omega));clear hu hu' h37;go_wp2;go_ret2;exact ⟨ret_str [] 12 hv.out,hb⟩
   ·have c1:((s[k].toNat:Int)==37)=false:=by simpa using h37
    have hn:Hid (UneAt s.data.toList (acc++[s[k]]) (s.data.toList.drop (k+1))):=uneAt_plain hu' h37;clear hu hu' h37;go_wp2_with (at_builtin; refine wp_app _ rfl (.tmp 50) (.tmp 52) 70 rfl w.heap.size 5 i0 (.int .u8 0) 1 Tryz.underlying70 hi hz0 hz1 hz2 rfl _ _ rfl (hown.alloc _) ⟨_,0,none⟩ 1 1 (Lib.byteCells [s[k]]) rfl rfl (by exact one_new _ _ _) (byteCells_one _) (by rw [Lib.byteCells_length]; unfold maxLen; omega) (by rw [Lib.byteCells_length]; omega) w (hb.alloc hB _) (by simp; omega) ?_; intro v3 w3 hown3 hb3 hB3)
    rw [byteCells_snoc] at hown3;go_wp2;go_roundw
    case rel=>exact ⟨k+1,_,by omega,by go_num,by simp; omega,hown3,hb3,hB3,hn⟩
    case measure=>simp [intOf]; omega
  ·have hu':=hu.out;rw [drop_all s k (by omega)] at hu';have hv:Hid (unescV s.data.toList=(acc,0)):=unescV_some (uneAt_end hu');have hcv:=conv_own (P:=Tryz.prog) _ Tryz.underlying70 Tryz.underlying5 Tryz.underlying9 hown;clear hu hu';go_wp2;go_ret2;exact ⟨ret_str acc 0 hv.out,hb⟩
def okw (keep:List UInt8) (b:UInt8):Bool:=b==37 || (isB b.toNat 16 || hasL b keep)
def writtenV (keep l:List UInt8):List UInt8 × Bool:=if l.all (okw keep)=true then ((unescV l).1,(unescV l).2==0) else ([],false)
structure Par where
 name:List UInt8
 value:List UInt8
 has:Bool
deriving DecidableEq
def parCells (p:Par):List Value:=[.string ⟨p.name.toArray⟩,.string ⟨p.value.toArray⟩,.bool p.has]
def parOf (keep l:List UInt8):Option Par :=
 if (writtenV keep (cutL 61 l).1).2=true∧(writtenV keep (cutL 61 l).2.1).2=true then some ⟨(writtenV keep (cutL 61 l).1).1,(writtenV keep (cutL 61 l).2.1).1,(cutL 61 l).2.2⟩ else none
def parsOf (keep:List UInt8):List (List UInt8) → Option (List Par)
 | []=>some []
 | l :: ls=>match parOf keep l,parsOf keep ls with
  | some p,some ps=>some (p :: ps)
  | _,_=>none
theorem okw_snoc {keep:List UInt8} {s:ByteArray} {k:Nat} (hk:k < s.size) (h:(s.data.toList.take k).all (okw keep)=true) (hb:okw keep s[k]=true):(s.data.toList.take (k+1)).all (okw keep)=true:=by
 rw [take_snoc s k hk,List.all_append,h]; simp [hb]
theorem written_bad {keep:List UInt8} {s:ByteArray} {k:Nat} (hk:k < s.size) (hb:okw keep s[k]=false):writtenV keep s.data.toList=([],false):=by
 have:s.data.toList.all (okw keep)=false:=by
  rw [List.all_eq_false];refine ⟨s[k],?_,by simp [hb]⟩
  have:=getL s k hk
  exact List.mem_of_getElem? this
 rw [writtenV,this]; rfl
theorem written_all {keep l:List UInt8} (h:l.all (okw keep)=true):writtenV keep l=((unescV l).1,(unescV l).2==0):=by rw [writtenV,if_pos h]
def ParAt (w:World) (a:Addr) (k:Nat) (p:Par):Prop :=
 w.cell? (a.add (k * 3))=some (.string ⟨p.name.toArray⟩)∧w.cell? ⟨(a.add (k * 3)).block,(a.add (k * 3)).off+1,none⟩=some (.string ⟨p.value.toArray⟩)∧w.cell? ⟨(a.add (k * 3)).block,(a.add (k * 3)).off+2,none⟩=some (.bool p.has)
def ParsAt (w:World) (v:Value) (ps:List Par):Prop :=
 (v=.slice none 0 0∧ps=[])∨∃ (a:Addr) (cap:Nat),v=.slice (some a) ps.length cap∧∀ k (hk:k < ps.length),a.block < w.heap.size∧ParAt w a k ps[k]
theorem cell_below {B:Nat} {w w':World} (h:Below B w w') {a:Addr} (ha:a.block < B) {v:Value} (hc:w.cell? a=some v):w'.cell? a=some v:=by
 rw [← hc];simp only [World.cell?];rw [h.block a.block ha]
theorem add_block (a:Addr) (i:Nat):(a.add i).block=a.block:=by unfold Addr.add; split <;> rfl
theorem ParAt.below {B:Nat} {w w':World} {a:Addr} {k:Nat} {p:Par} (h:ParAt w a k p) (hb:Below B w w') (ha:a.block < B):ParAt w' a k p :=
 ⟨cell_below hb (by rw [add_block]; exact ha) h.1,cell_below hb (by simp only [add_block]; exact ha) h.2.1,cell_below hb (by simp only [add_block]; exact ha) h.2.2⟩
theorem ParsAt.below {w w':World} {v:Value} {ps:List Par} (h:ParsAt w v ps) (hb:Below w.heap.size w w'):ParsAt w' v ps:=by
 rcases h with h | ⟨a,cap,hv,hc⟩
 ·exact Or.inl h
 ·exact Or.inr ⟨a,cap,hv,fun k hk=>⟨Nat.lt_of_lt_of_le (hc k hk).1 hb.size,(hc k hk).2.below hb (hc k hk).1⟩⟩
theorem ParsAt.form {w:World} {v:Value} {ps:List Par} (h:ParsAt w v ps):∃ a cap,v=.slice a ps.length cap:=by
 rcases h with ⟨rfl,rfl⟩ | ⟨a,cap,rfl,_⟩
 ·exact ⟨none,0,rfl⟩
 ·exact ⟨_,cap,rfl⟩
structure Uri where
 scheme:List UInt8
 user:List UInt8
 host:List UInt8
 port:Int
 params:List Par
 headers:List Par
deriving DecidableEq
def uriV (u:Uri) (p h:Value):Value:=.agg #[.string ⟨u.scheme.toArray⟩,.string ⟨u.user.toArray⟩,.string ⟨u.host.toArray⟩,.int .i64 u.port,p,h]
theorem ParsAt.alloc {w:World} {v:Value} {ps:List Par} (h:ParsAt w v ps) (o:Obj):ParsAt (w.alloc o) v ps:=h.below ((Below.refl _ w).alloc (Nat.le_refl _) o)
def parB (p:Par):Bool:=decide (1≤p.name.length) && (decide (p.name.length≤64) && (decide (p.value.length≤64) && (p.has || p.value.isEmpty)))
def apartB (ps:List Par) (nm:List UInt8):Bool:=ps.all fun q=>!sameB q.name nm
def listGo:List Par → List Par → Bool
 | _,[]=>true
 | before,p :: ps=>parB p && (apartB before p.name && listGo (before++[p]) ps)
def listB (ps:List Par):Bool:=decide (ps.length≤16) && listGo [] ps
def checkV (u:Uri):Int :=
 if schemeB u.scheme=false then 30 else if 64 < u.user.length then 31 else if hostB u.host=false then 32 else if u.port < 0∨65535 < u.port then 33
 else if listB u.params=false then 34 else if listB u.headers=false then 34 else if u.headers.all (·.has)=false then 34 else 0
theorem listGo_at (ps:List Par) (k:Nat) (hk:k < ps.length):listGo (ps.take k) (ps.drop k)=(parB ps[k] && (apartB (ps.take k) ps[k].name && listGo (ps.take (k+1)) (ps.drop (k+1)))):=by
 rw [List.drop_eq_getElem_cons hk,listGo,List.take_succ_eq_append_getElem hk]
def digb (n:Nat):UInt8:=UInt8.ofNat (48+n % 10)
def digL (n:Nat):List UInt8:=if n < 10 then [digb n] else digL (n / 10)++[digb n]
termination_by n
decreasing_by omega
theorem digL_small {n:Nat} (h:n < 10):digL n=[digb n]:=by rw [digL,if_pos h]
theorem digL_big {n:Nat} (h:¬ n < 10):digL n=digL (n / 10)++[digb n]:=by rw [digL,if_neg h]
theorem digb_toNat (n:Nat):((digb n).toNat:Int)=48+(n:Int) % 10:=by
 have h:n % 10 < 10:=Nat.mod_lt _ (by decide);rw [digb,UInt8.toNat_ofNat'];omega
theorem digL_len (a:Nat):∀ n:Nat,n < 10 ^ (a+1) → (digL n).length≤a+1:=by
 induction a with
 | zero=>intro n h; rw [digL_small (by simpa using h)]; simp
 | succ a ih =>
  intro n h;by_cases hn:n < 10
  ·rw [digL_small hn]; simp
  ·rw [digL_big hn,List.length_append]
   have:=ih (n / 10) (by rw [Nat.pow_succ] at h; omega)
   simp; omega
theorem digL_len19 {n:Nat} (h:n≤9223372036854775807):(digL n).length≤19:=digL_len 18 n (by omega)
def room0:Array Value:=(List.replicate 19 (.int .u8 0)).toArray
theorem zero49 (u:World):Sem.run Tryz.prog (zeroValue 230) u=.ok (.agg room0) u:=by kernel_rfl
def tailed (a:Nat) (l:List UInt8):List Value:=List.replicate a (.int .u8 0)++Lib.byteCells l
theorem tailed_len (a:Nat) (l:List UInt8):(tailed a l).length=a+l.length:=by simp [tailed,Lib.byteCells]
theorem tailed_set (a:Nat) (l:List UInt8) (b:UInt8) (ha:1≤a):(tailed a l).set (a - 1) (.int .u8 b.toNat)=tailed (a - 1) (b :: l):=by
 obtain ⟨c,rfl⟩:∃ c,a=c+1:=⟨a - 1,by omega⟩
 have e:c+1 - 1=c:=by omega
 rw [e,tailed,tailed,List.replicate_succ',List.append_assoc,List.set_append_right _ _ (by simp)]
 simp [Lib.byteCells]
theorem room_row (w:World):RowIs (w.alloc (.cells room0 230)) w.heap.size 230 (tailed 19 []):=by
 unfold RowIs;rw [heap_alloc_new]
 rfl
theorem conv_row {P:Program} {w:World} {g e e' src dst a cap:Nat} {l:List UInt8} (hs:P.underlying src=some (.slice e)) (he:P.underlying e=some (.int .u8)) (hd:P.underlying dst=some .string)
  (h:RowIs w g e' (tailed a l)):(convert src dst (.slice (some ⟨g,a,none⟩) l.length cap)).run P w=.ok (.string ⟨l.toArray⟩) w:=by
 refine run_convert_bytes_back w src dst e _ cap l hs he hd fun j hj=>?_
 have hc:=h.cell (a+j) (by rw [tailed_len]; omega)
 have e1:(⟨g,a,none⟩:Addr).add j=⟨g,a+j,none⟩:=by
  unfold Addr.add;by_cases h0:j=0
  ·subst h0; simp
  ·simp [h0]
 rw [e1,hc]
 simp [tailed,List.getElem_append_right,Lib.byteCells]
theorem pow_div {m a:Nat} (h:m < 10 ^ a) (ha:1≤a):m / 10 < 10 ^ (a - 1):=by
 obtain ⟨c,rfl⟩:∃ c,a=c+1:=⟨a - 1,by omega⟩
 rw [Nat.pow_succ] at h;have e:c+1 - 1=c:=by omega
 rw [e]; omega
theorem und49:Tryz.prog.underlying 230=some (.array (Tryz.prog.arrayLen 230) (Tryz.prog.elem 230)):=by kernel_rfl
theorem len49:Tryz.prog.arrayLen 230=19:=by kernel_rfl
theorem elem49:Tryz.prog.elem 230=5:=by kernel_rfl
theorem slice19 (u:World) (B a:Nat) (h1:1≤a) (h2:a≤19) :
  (Instr.sliceAt 230 (.pointer (some ⟨B,0,none⟩)) (some (.int .i64 ((a:Int) - 1))) none none).run Tryz.prog u=.ok (.slice (some ⟨B,a - 1,none⟩) (19 - (a - 1)) (19 - (a - 1))) u:=by
 obtain ⟨i0,hi,hz0,hz1,hz2⟩:=info_parts info5;have h:=run_sliceAt_array_l (P:=Tryz.prog) u 230 ⟨B,0,none⟩ und49 .i64 ((a:Int) - 1) (by omega) (by rw [len49]; omega);have e:((a:Int) - 1).toNat=a - 1:=by omega
 rw [h,elem49,len49,e];have hne:¬ (19=a - 1):=by omega
 simp [sizeOf,typeInfo,hi,hz1,slicedAt,hne,Addr.add]
 omega
set_option maxHeartbeats 600000 in
theorem digits_any (n:Nat) (w:World) (hn:n≤9223372036854775807) :
  Calls Tryz.prog 162 #[.int .i64 n] w fun e w'=>e=.returned (.string ⟨(digL n).toArray⟩)∧Below w.heap.size w w':=by
 have hz49:=zero49;have hr0:Hid (RowIs (w.alloc (.cells room0 230)) w.heap.size 230 (tailed 19 [])):=room_row w;have hp0:Hid (n < 10 ^ 19):=by show _ < _; omega
 go_enter Tryz.func162,Tryz.ntmps162
 go_wp2;clear hz49
 go_loopw [0,4] (fun nn at_ wr=>∃ (a m:Nat) (l:List UInt8),1≤a∧a≤19∧m≤9223372036854775807∧at_=.int .i64 a∧nn=.int .i64 m∧Hid (m < 10 ^ a)∧Hid (a+l.length=19) ∧
   Hid (RowIs wr w.heap.size 230 (tailed a l))∧Below w.heap.size w wr∧Hid (digL n=digL m++l)) (fun _ i _=>(intOf i).toNat)
 case atStart=>exact ⟨19,n,[],by omega,by omega,hn,rfl,rfl,hp0,rfl,hr0,(Below.refl _ _).alloc (Nat.le_refl _) _,show _=_ by simp⟩
 case round =>
  clear hr0 hp0;obtain ⟨a,m,l,ha1,ha2,hm,rfl,rfl,hp,hal,hr,hb,hd⟩:=hrel;have ht1:((a:Int) - 1).toNat=a - 1:=by omega
  obtain ⟨x,hc⟩:∃ x,wr.cell? ⟨w.heap.size,a - 1,none⟩=some x:=⟨_,hr.out.cell (a - 1) (by rw [tailed_len]; omega)⟩
  have hf:=hr.out.frozen (a - 1)
  have hr':Hid (RowIs (wr.setCell ⟨w.heap.size,a - 1,none⟩ (.int .u8 (48+(m:Int) % 10))) w.heap.size 230 (tailed (a - 1) (digb m :: l))):=by
   have h:=hr.out.set (a - 1) (.int .u8 (digb m).toNat);rw [tailed_set a l (digb m) ha1,digb_toNat] at h;exact h
  by_cases hlast:m < 10
  ·have hv:Hid (digL n=digb m :: l):=by show _=_; rw [hd.out,digL_small hlast]; rfl
   have hcv:=conv_row (P:=Tryz.prog) (cap:=(digb m :: l).length) Tryz.underlying70 Tryz.underlying5 Tryz.underlying9 hr'.out;have hll:(digb m :: l).length=19 - (a - 1):=by have:=hal.out; simp; omega
   rw [hll] at hcv;have hq:(m:Int) / 10=0:=by omega
   have hsl:=fun u=>slice19 u w.heap.size a ha1 ha2;clear hll hr hd hp hal;go_wp2;go_ret;exact ⟨by rw [hv.out]; rfl,hb.setCell (Nat.le_refl _) _⟩
  ·have hq:(((m:Int) / 10)==0)=false:=by simp; omega
   have hd':Hid (digL n=digL (m / 10)++(digb m :: l)):=by show _=_; rw [hd.out,digL_big hlast,List.append_assoc]; rfl
   have hp':Hid (m / 10 < 10 ^ (a - 1)):=pow_div hp.out ha1
   have ha':1≤a - 1:=by
    by_cases h1:a=1
    ·have:=hp.out; rw [h1] at this; omega
    ·omega
   have hal':Hid ((a - 1)+(digb m :: l).length=19):=by show _=_; have:=hal.out; simp; omega
   clear hr hd hp hal;go_wp2;go_roundw
   case rel=>exact ⟨a - 1,m / 10,digb m :: l,ha',by omega,by omega,by go_num,by go_num,hp',hal',hr',hb.setCell (Nat.le_refl _) _,hd'⟩
   case measure=>simp [intOf]; omega
def usersK:List UInt8:=[38,61,43,36,44,59,63,47]
def paramsK:List UInt8:=[91,93,47,58,38,43,36]
def headersK:List UInt8:=[91,93,47,63,58,43,36]
def escL (keep l:List UInt8):List UInt8:=esc (kpF keep) l
def pairV (keep:List UInt8) (p:Par):List UInt8:=if p.has=true then escL keep p.name++[61]++escL keep p.value else escL keep p.name
def parsT (ps:List Par):List UInt8:=ps.flatMap fun p=>[59]++pairV paramsK p
def hdrT (ps:List Par):List UInt8:=(ps.zipIdx).flatMap fun (p,i)=>(if i=0 then [63] else [38])++pairV headersK p
def frontT (u:Uri):List UInt8:=u.scheme++[58]++(if u.user=[] then [] else escL usersK u.user++[64])++u.host++(if u.port=0 then [] else [58]++digL u.port.toNat)
def textT (u:Uri):List UInt8:=frontT u++parsT u.params++hdrT u.headers
def printV (u:Uri):List UInt8 × Int:=if checkV u=0 then (textT u,0) else ([],checkV u)
theorem listGo_par (b ps:List Par) (h:listGo b ps=true):∀ p ∈ ps,parB p=true:=by
 induction ps generalizing b with
 | nil=>simp
 | cons q ps ih =>
  rw [listGo,Bool.and_eq_true,Bool.and_eq_true] at h;intro p hp
  rcases List.mem_cons.1 hp with rfl | hp
  ·exact h.1
  ·exact ih _ h.2.2 p hp
theorem listB_ok {ps:List Par} (h:listB ps=true):ps.length≤16∧∀ p ∈ ps,parB p=true:=by
 rw [listB,Bool.and_eq_true] at h;exact ⟨by simpa using h.1,listGo_par [] ps h.2⟩
theorem parB_ok {p:Par} (h:parB p=true):1≤p.name.length∧p.name.length≤64∧p.value.length≤64∧(p.has=true∨p.value=[]):=by
 simp only [parB,Bool.and_eq_true,decide_eq_true_eq,Bool.or_eq_true,List.isEmpty_iff] at h;exact h
theorem hostB_ok {l:List UInt8} (h:hostB l=true):1≤l.length∧l.length≤64:=by
 simp only [hostB,Bool.and_eq_true,decide_eq_true_eq] at h;exact ⟨h.1,h.2.1⟩
theorem schemeB_ok {l:List UInt8} (h:schemeB l=true):l.length≤4:=by
 simp only [schemeB,Bool.or_eq_true,beq_iff_eq] at h
 rcases h with rfl | rfl | rfl <;> decide
theorem check_ok {u:Uri} (h:checkV u=0):schemeB u.scheme=true∧u.user.length≤64∧hostB u.host=true∧0≤u.port∧u.port≤65535∧listB u.params=true∧listB u.headers=true∧u.headers.all (·.has)=true:=by
 unfold checkV at h
 cases e1:schemeB u.scheme
 ·simp [e1] at h
 rw [e1,if_neg (by simp)] at h;by_cases e2:64 < u.user.length
 ·simp [e2] at h
 rw [if_neg e2] at h
 cases e3:hostB u.host
 ·simp [e3] at h
 rw [e3,if_neg (by simp)] at h;by_cases e4:u.port < 0∨65535 < u.port
 ·simp [e4] at h
 rw [if_neg e4] at h
 cases e5:listB u.params
 ·simp [e5] at h
 rw [e5,if_neg (by simp)] at h
 cases e6:listB u.headers
 ·simp [e6] at h
 rw [e6,if_neg (by simp)] at h
 cases e7:u.headers.all (·.has)
 ·simp [e7] at h
 exact ⟨rfl,by omega,rfl,by omega,by omega,rfl,rfl,rfl⟩
def insN (ins:Bool) (x:UInt8):Bool:=if x=93 then false else if x=91 then true else ins
def whereGo:Bool → List UInt8 → Nat
 | _,[]=>0
 | ins,x :: l=>if ins=false∧x=58 then 0 else 1+whereGo (insN ins x) l
def portV (host l:List UInt8) (k:Nat):List UInt8 × Int × Int :=
 if k=l.length then (host,0,0)
 else if (numV 65535 (l.drop (k+1))).2 ≠ 0∨(numV 65535 (l.drop (k+1))).1=0 then ([],0,33) else (host,(numV 65535 (l.drop (k+1))).1,0)
def whereV (l:List UInt8):List UInt8 × Int × Int :=
 if hostB (lowL (l.take (whereGo false l)))=true then portV (lowL (l.take (whereGo false l))) l (whereGo false l) else ([],0,32)
theorem whereGo_le (b:Bool) (l:List UInt8):whereGo b l≤l.length:=by
 induction l generalizing b with
 | nil=>simp [whereGo]
 | cons x l ih =>
  rw [whereGo]
  split
  ·simp
  ·have:=ih (insN b x); simp; omega
def noU:Uri:=⟨[],[],[],0,[],[]⟩
def userV (s:List UInt8):List UInt8 × List UInt8 × Int :=
 if (cutL 64 s).2.2=true then
  (if (writtenV usersK (cutL 64 s).1).2=false∨(writtenV usersK (cutL 64 s).1).1=[]∨64 < (writtenV usersK (cutL 64 s).1).1.length then ([],[],31)
   else ((writtenV usersK (cutL 64 s).1).1,(cutL 64 s).2.1,0))
 else ([],s,0)
def headsV (asked:Bool) (back:List UInt8):Option (List Par):=if asked=true then parsOf headersK (splitL 38 back) else some []
def fillV (w:List UInt8 × Int × Int):Option (List Par) → Option (List Par) → Uri × Int
 | some ps,some hs=>(⟨[],[],w.1,w.2.1,ps,hs⟩,0)
 | _,_=>(noU,34)
def restV (s:List UInt8):Uri × Int :=
 if (whereV ((splitL 59 (cutL 63 s).1).headD [])).2.2 ≠ 0 then (noU,(whereV ((splitL 59 (cutL 63 s).1).headD [])).2.2)
 else fillV (whereV ((splitL 59 (cutL 63 s).1).headD [])) (parsOf paramsK (splitL 59 (cutL 63 s).1).tail) (headsV (cutL 63 s).2.2 (cutL 63 s).2.1)
def endV (u:Uri):Uri × Int:=if checkV u ≠ 0 then (noU,checkV u) else (u,0)
def bothV (sch us:List UInt8) (r:Uri × Int):Uri × Int:=if r.2 ≠ 0 then (noU,r.2) else endV { r.1 with scheme:=sch,user:=us }
def parseV (s:List UInt8):Uri × Int :=
 if (cutL 58 s).2.2=false∨schemeB (lowL (cutL 58 s).1)=false then (noU,30)
 else if (userV (cutL 58 s).2.1).2.2 ≠ 0 then (noU,(userV (cutL 58 s).2.1).2.2)
 else bothV (lowL (cutL 58 s).1) (userV (cutL 58 s).2.1).1 (restV (userV (cutL 58 s).2.1).2.1)
theorem byte_all {P:UInt8 → Prop} (h:∀ n:Fin 256,P (UInt8.ofNat n.val)) (b:UInt8):P b:=by
 have:=h ⟨b.toNat,b.toNat_lt⟩
 simpa using this
theorem parse_checked {s:List UInt8} {u:Uri} (h:parseV s=(u,0)):checkV u=0:=by
 unfold parseV at h
 split at h
 ·have:=congrArg Prod.snd h; simp at this
 split at h
 ·rename_i h2; exact absurd (congrArg Prod.snd h) h2
 unfold bothV at h
 split at h
 ·rename_i h2; exact absurd (congrArg Prod.snd h) h2
 unfold endV at h
 split at h
 ·rename_i h2; exact absurd (congrArg Prod.snd h) h2
 ·rename_i h2
  have:=congrArg Prod.fst h
  simp only at this;rw [← this];exact Classical.not_not.1 h2
def sipK:List UInt8:=[115,105,112]
def whoT (u:Uri):List UInt8:=escL usersK u.user++[64]++u.host
def whoV (u:Uri):List UInt8 × Int:=if checkV u ≠ 0 then ([],checkV u) else if u.user=[] then ([],31) else (whoT u,0)
def nameU (sch:List UInt8) (u:Uri):Uri:=⟨sch,u.user,u.host,0,[],[]⟩
theorem check_name {sch:List UInt8} {u:Uri} (hs:schemeB sch=true) (h:checkV u=0):checkV (nameU sch u)=0:=by
 obtain ⟨_,h2,h3,_⟩:=check_ok h;have h2':¬ 64 < u.user.length:=by omega
 simp [checkV,nameU,hs,h2',h3,listB,listGo]
theorem text_name {u:Uri} (hu:u.user ≠ []):textT (nameU sipK u)=[115,105,112,58]++whoT u:=by
 simp [textT,frontT,nameU,hu,parsT,hdrT,whoT,sipK]
end Go.Proofs.YteicmbhilambpaaGreatDoor
