/-
  HostL, Trim, Quote, Unquote, Escape, Unesc.
-/
import Derived.Test.YtiogedceommcoaaGreatDoorK02
import Derived.Deep.QuietTactic
import Derived.BigQuiet
set_option linter.unusedVariables false
set_option linter.unusedSimpArgs false
set_option maxRecDepth 20000
namespace Go.Proofs.YtiogedceommcoaaGreatDoor
open Go.RowKit Sc
theorem host_long {l:List UInt8} (h:64 < l.length):hostB l=false:=by
 have:decide (l.length≤64)=false:=by simp; omega
 unfold hostB; simp [this]
theorem host_caps {l:List UInt8} (h:(lowL l==l)=false):hostB l=false:=by
 unfold hostB; simp only [h,Bool.false_and,Bool.and_false]
theorem host_brk {l:List UInt8} (h1:1≤l.length) (h2:l.length≤64) (h:(lowL l==l)=true) (hb:l.getD 0 0=91):hostB l=brkB l:=by
 unfold hostB; simp only [h,if_pos hb,decide_eq_true h1,decide_eq_true h2,Bool.true_and]
theorem host_lab {l:List UInt8} (h1:1≤l.length) (h2:l.length≤64) (h:(lowL l==l)=true) (hb:¬ l.getD 0 0=91):hostB l=(splitL 46 l).all labB:=by
 unfold hostB; simp only [h,if_neg hb,decide_eq_true h1,decide_eq_true h2,Bool.true_and]
theorem mid_prefix (l:List UInt8) (a k m:Nat) (h:k≤m):∃ r,mid l a m=mid l a k++r:=by
 refine ⟨((l.drop a).take (m - a)).drop (k - a),?_⟩
 unfold mid
 conv=>lhs; rw [← List.take_append_drop (k - a) ((l.drop a).take (m - a))]
 rw [List.take_take,Nat.min_eq_left (by omega)]
theorem brk_bad {s:ByteArray} {k:Nat} (h1:1≤k) (h:k+1 < s.size) (hb:okc s[k]=false):brkB s.data.toList=false:=by
 obtain ⟨r,hr⟩:=mid_prefix s.data.toList 1 (k+1) (s.size - 1) (by omega);unfold brkB;rw [len_data,hr,mid_snoc s 1 k h1 (by omega)]
 simp [hb]
theorem brk_end {s:ByteArray} {k n:Nat} (h4:4≤s.size) (hk:k=s.size - 1) (ha:(mid s.data.toList 1 k).all okc=true) (hn:(mid s.data.toList 1 k).count 58=n) (hl:s.data.toList.getD k 0=93):brkB s.data.toList=decide (2≤n):=by
 subst hk;unfold brkB;rw [len_data,ha,hn,hl]
 simp [h4]
theorem brk_short {s:ByteArray} (h4:¬ 4≤s.size):brkB s.data.toList=false:=by
 unfold brkB; rw [len_data]; simp [h4]
theorem brk_last {s:ByteArray} {k:Nat} (hk:k=s.size - 1) (hl:¬ s.data.toList.getD k 0=93):brkB s.data.toList=false:=by
 subst hk
 have:(s.data.toList.getD (s.size - 1) 0==93)=false:=by simpa using hl
 unfold brkB; rw [len_data,this]; simp
theorem splitL_mem_len (c:UInt8) (l:List UInt8):∀ p ∈ splitL c l,p.length≤l.length:=by
 induction l with
 | nil=>simp [splitL]
 | cons x l ih =>
  obtain ⟨p,ps,hp⟩:=splitL_cons c l;rw [splitL];rw [hp] at ih ⊢
  split
  ·intro q hq;simp only [List.mem_cons] at hq
   rcases hq with rfl | hq
   ·simp
   ·have:=ih q (by simpa using hq); simp; omega
  ·intro q hq;simp only [List.headD_cons,List.tail_cons,List.mem_cons] at hq
   rcases hq with rfl | hq
   ·have:=ih p (by simp); simp; omega
   ·have:=ih q (by simp [hq]); simp; omega
def blk (b:UInt8):Bool:=isB b.toNat 32
def trimL (l:List UInt8):List UInt8:=((l.dropWhile blk).reverse.dropWhile blk).reverse
theorem blk_cls (b:UInt8):blk b=(cls b.toNat==32):=by
 have h:∀ n:Fin 256,isB (n.val:Int) 32=(cls (n.val:Int)==32):=by decide +kernel
 exact h ⟨b.toNat,b.toNat_lt⟩
theorem front_step {s:ByteArray} {k:Nat} (hk:k < s.size) (hb:blk s[k]=true):(s.data.toList.drop k).dropWhile blk=(s.data.toList.drop (k+1)).dropWhile blk:=by
 rw [drop_cons s k hk,List.dropWhile_cons,if_pos hb]
theorem front_stop {s:ByteArray} {k:Nat} (hk:k < s.size) (hb:blk s[k]=false):(s.data.toList.drop k).dropWhile blk=s.data.toList.drop k:=by
 rw [drop_cons s k hk,List.dropWhile_cons,if_neg (by simp [hb])]
theorem mid_pop {s:ByteArray} {k t:Nat} (hkt:k < t) (ht:t≤s.size):mid s.data.toList k t=mid s.data.toList k (t - 1)++[s[t - 1]]:=by
 have h:=mid_snoc s k (t - 1) (by omega) (by omega);rw [show t - 1+1=t by omega] at h;exact h
theorem back_step {s:ByteArray} {k t:Nat} (hkt:k < t) (ht:t≤s.size) (hb:blk s[t - 1]=true) :
  (mid s.data.toList k t).reverse.dropWhile blk=(mid s.data.toList k (t - 1)).reverse.dropWhile blk:=by
 rw [mid_pop hkt ht,List.reverse_append,List.reverse_cons,List.reverse_nil,List.nil_append,List.singleton_append,List.dropWhile_cons,if_pos hb]
theorem back_stop {s:ByteArray} {k t:Nat} (hkt:k < t) (ht:t≤s.size) (hb:blk s[t - 1]=false) :
  (mid s.data.toList k t).reverse.dropWhile blk=(mid s.data.toList k t).reverse:=by
 rw [mid_pop hkt ht,List.reverse_append,List.reverse_cons,List.reverse_nil,List.nil_append,List.singleton_append,List.dropWhile_cons,if_neg (by simp [hb])]
theorem mid_all (s:ByteArray) (k:Nat):mid s.data.toList k s.size=s.data.toList.drop k:=by
 rw [mid,List.take_of_length_le (by rw [List.length_drop,len_data]; omega)]
theorem trim_end {s:ByteArray} {k t:Nat} (hf:s.data.toList.dropWhile blk=s.data.toList.drop k)
  (hb:(s.data.toList.drop k).reverse.dropWhile blk=(mid s.data.toList k t).reverse):s.extract k t=⟨(trimL s.data.toList).toArray⟩:=by
 rw [ext_list,trimL,hf,hb,List.reverse_reverse,mid]
set_option maxHeartbeats 600000 in
theorem trim_any (s:ByteArray) (w:World) (hs:s.size≤281474976710656) :
  Calls Tryz.prog 113 #[.string s] w fun e w'=>e=.returned (.string ⟨(trimL s.data.toList).toArray⟩)∧Below w.heap.size w w':=by
 go_enter Tryz.func113,Tryz.ntmps113
 go_wp2
 go_loop [3] (fun i=>∃ k:Nat,k≤s.size∧i=.int .i64 k∧Hid (s.data.toList.dropWhile blk=(s.data.toList.drop k).dropWhile blk)) (fun i=>s.size - (intOf i).toNat)
 case atStart=>exact ⟨0,Nat.zero_le _,rfl,rfl⟩
 case round =>
  obtain ⟨k,hk,rfl,hf⟩:=hrel;by_cases hgo:∃ h:k < s.size,blk s[k]=true
  ·obtain ⟨hlt,hb⟩:=hgo;have hbd:=u8_bd s[k];have hb':isB s[k].toNat 32=true:=hb;have hf':Hid (s.data.toList.dropWhile blk=(s.data.toList.drop (k+1)).dropWhile blk):=by show _=_; rw [hf.out,front_step hlt hb]
   clear hb hf;go_wp2_with (go_at_call 143; refine (is_any _ _ _ hbd.1 hbd.2).mono ?_; rintro e w' ⟨rfl,rfl⟩)
   go_round
   case rel=>exact ⟨k+1,by omega,by go_num,hf'⟩
   case measure=>simp [intOf]; omega
  ·have hF:Hid (s.data.toList.dropWhile blk=s.data.toList.drop k):=by
    show _=_
    rw [hf.out];by_cases hlt:k < s.size
    ·exact front_stop hlt (by by_cases hb:blk s[k]=true; exact absurd ⟨hlt,hb⟩ hgo; simpa using hb)
    ·rw [drop_all s k (by omega)]; rfl
   clear hf;by_cases hlt:k < s.size
   ·have hbd:=u8_bd s[k];have hb':isB s[k].toNat 32=false:=by by_cases hb:blk s[k]=true; exact absurd ⟨hlt,hb⟩ hgo; simpa [blk] using hb
    clear hgo;go_wp2_with (go_at_call 143; refine (is_any _ _ _ hbd.1 hbd.2).mono ?_; rintro e w' ⟨rfl,rfl⟩)
    go_loop [4] (fun i=>∃ t:Nat,t≤s.size∧k≤t∧i=.int .i64 t∧Hid ((s.data.toList.drop k).reverse.dropWhile blk=(mid s.data.toList k t).reverse.dropWhile blk)) (fun i=>(intOf i).toNat)
    case atStart=>exact ⟨s.size,Nat.le_refl _,hk,rfl,show _=_ by rw [mid_all]⟩
    case round =>
     clear hb' hbd;obtain ⟨t,ht,hkt,rfl,hbk⟩:=hrel;by_cases hk2:k < t
     ·have hbd:=u8_bd s[t - 1];have ht1:((t:Int) - 1).toNat=t - 1:=by omega
      by_cases hb:blk s[t - 1]=true
      ·have hb':isB s[t - 1].toNat 32=true:=hb;have hbk':Hid ((s.data.toList.drop k).reverse.dropWhile blk=(mid s.data.toList k (t - 1)).reverse.dropWhile blk):=by show _=_; rw [hbk.out,back_step hk2 ht hb]
       clear hb hbk;go_wp2_with (go_at_call 143; refine (is_any _ _ _ hbd.1 hbd.2).mono ?_; rintro e w' ⟨rfl,rfl⟩)
       go_round
       case rel=>exact ⟨t - 1,by omega,by omega,by go_num,hbk'⟩
       case measure=>simp [intOf]; omega
      ·have hb':isB s[t - 1].toNat 32=false:=by simpa [blk] using hb
       have hE:Hid (s.extract k t=⟨(trimL s.data.toList).toArray⟩):=trim_end hF.out (by rw [hbk.out,back_stop hk2 ht (by simpa using hb)]);clear hb hbk;go_wp2_with (first
        | (go_at_call 143; refine (is_any _ _ _ hbd.1 hbd.2).mono ?_; rintro e w' ⟨rfl,rfl⟩)
        | (go_at_call 151; refine (piece_any s k t _ hs hkt ht).mono ?_; rintro e w2 ⟨rfl,hb2⟩))
       go_ret;exact ⟨by rw [← hE.out]; rfl,hb2⟩
     ·have hE:Hid (s.extract k t=⟨(trimL s.data.toList).toArray⟩):=trim_end hF.out (by rw [hbk.out,show t=k by omega,mid_self]; rfl);clear hbk;go_wp2_with (go_at_call 151; refine (piece_any s k t _ hs hkt ht).mono ?_; rintro e w2 ⟨rfl,hb2⟩)
      go_ret;exact ⟨by rw [← hE.out]; rfl,hb2⟩
   ·have hks:k=s.size:=by omega
    have hE:Hid (s.extract k s.size=⟨(trimL s.data.toList).toArray⟩):=trim_end hF.out (by rw [drop_all s k (by omega),hks,mid_self]; rfl);have HK:Hid (k=s.size):=hks;clear hgo hks;go_wp2
    go_loop [4] (fun i=>i=.int .i64 s.size) (fun _=>0)
    case atStart=>exact rfl
    case round =>
     subst hrel;go_wp2_with (go_at_call 151; refine (piece_any s k s.size _ hs hk (Nat.le_refl _)).mono ?_; rintro e w2 ⟨rfl,hb2⟩)
     go_ret;exact ⟨by rw [← hE.out]; rfl,hb2⟩
set_option maxHeartbeats 600000 in
theorem reftrim_any (s:ByteArray) (w:World) (hs:s.size≤281474976710656) :
  Calls Tryz.prog 57 #[.string s] w fun e w'=>e=.returned (.string ⟨(trimL s.data.toList).toArray⟩)∧w'=w:=by
 go_enter Tryz.func57,Tryz.ntmps57
 go_wp2
 go_loop [3] (fun i=>∃ k:Nat,k≤s.size∧i=.int .i64 k∧Hid (s.data.toList.dropWhile blk=(s.data.toList.drop k).dropWhile blk)) (fun i=>s.size - (intOf i).toNat)
 case atStart=>exact ⟨0,Nat.zero_le _,rfl,rfl⟩
 case round =>
  obtain ⟨k,hk,rfl,hf⟩:=hrel;by_cases hgo:∃ h:k < s.size,blk s[k]=true
  ·obtain ⟨hlt,hb⟩:=hgo;have hbd:=u8_bd s[k];have hb':(cls s[k].toNat==32)=true:=by rw [← blk_cls]; exact hb
   have hf':Hid (s.data.toList.dropWhile blk=(s.data.toList.drop (k+1)).dropWhile blk):=by show _=_; rw [hf.out,front_step hlt hb]
   clear hb hf;go_wp2_with (go_at_call 77; refine (refclass_any _ _ hbd.1 hbd.2).mono ?_; rintro e w' ⟨rfl,rfl⟩)
   go_round
   case rel=>exact ⟨k+1,by omega,by go_num,hf'⟩
   case measure=>simp [intOf]; omega
  ·have hF:Hid (s.data.toList.dropWhile blk=s.data.toList.drop k):=by
    show _=_
    rw [hf.out];by_cases hlt:k < s.size
    ·exact front_stop hlt (by by_cases hb:blk s[k]=true; exact absurd ⟨hlt,hb⟩ hgo; simpa using hb)
    ·rw [drop_all s k (by omega)]; rfl
   clear hf;by_cases hlt:k < s.size
   ·have hbd:=u8_bd s[k];have hb':(cls s[k].toNat==32)=false:=by rw [← blk_cls]; by_cases hb:blk s[k]=true; exact absurd ⟨hlt,hb⟩ hgo; simpa using hb
    clear hgo;go_wp2_with (go_at_call 77; refine (refclass_any _ _ hbd.1 hbd.2).mono ?_; rintro e w' ⟨rfl,rfl⟩)
    go_loop [4] (fun i=>∃ t:Nat,t≤s.size∧k≤t∧i=.int .i64 t∧Hid ((s.data.toList.drop k).reverse.dropWhile blk=(mid s.data.toList k t).reverse.dropWhile blk)) (fun i=>(intOf i).toNat)
    case atStart=>exact ⟨s.size,Nat.le_refl _,hk,rfl,show _=_ by rw [mid_all]⟩
    case round =>
     clear hb' hbd;obtain ⟨t,ht,hkt,rfl,hbk⟩:=hrel;by_cases hk2:k < t
     ·have hbd:=u8_bd s[t - 1];have ht1:((t:Int) - 1).toNat=t - 1:=by omega
      by_cases hb:blk s[t - 1]=true
      ·have hb':(cls s[t - 1].toNat==32)=true:=by rw [← blk_cls]; exact hb
       have hbk':Hid ((s.data.toList.drop k).reverse.dropWhile blk=(mid s.data.toList k (t - 1)).reverse.dropWhile blk):=by show _=_; rw [hbk.out,back_step hk2 ht hb]
       clear hb hbk;go_wp2_with (go_at_call 77; refine (refclass_any _ _ hbd.1 hbd.2).mono ?_; rintro e w' ⟨rfl,rfl⟩)
       go_round
       case rel=>exact ⟨t - 1,by omega,by omega,by go_num,hbk'⟩
       case measure=>simp [intOf]; omega
      ·have hb':(cls s[t - 1].toNat==32)=false:=by rw [← blk_cls]; simpa using hb
       have hE:Hid (s.extract k t=⟨(trimL s.data.toList).toArray⟩):=trim_end hF.out (by rw [hbk.out,back_stop hk2 ht (by simpa using hb)]);clear hb hbk;go_wp2_with (go_at_call 77; refine (refclass_any _ _ hbd.1 hbd.2).mono ?_; rintro e w' ⟨rfl,rfl⟩)
       go_ret;exact ⟨by rw [← hE.out]; rfl,rfl⟩
     ·have hE:Hid (s.extract k t=⟨(trimL s.data.toList).toArray⟩):=trim_end hF.out (by rw [hbk.out,show t=k by omega,mid_self]; rfl);clear hbk;go_wp2;go_ret;exact ⟨by rw [← hE.out]; rfl,rfl⟩
   ·have hks:k=s.size:=by omega
    have hE:Hid (s.extract k s.size=⟨(trimL s.data.toList).toArray⟩):=trim_end hF.out (by rw [drop_all s k (by omega),hks,mid_self]; rfl);have HK:Hid (k=s.size):=hks;clear hgo hks;go_wp2
    go_loop [4] (fun i=>i=.int .i64 s.size) (fun _=>0)
    case atStart=>exact rfl
    case round =>
     subst hrel;go_wp2;go_ret;exact ⟨by rw [← hE.out]; rfl,rfl⟩
def sameB (a b:List UInt8):Bool:=lowL a==lowL b
set_option maxHeartbeats 400000 in
theorem same_any (a b:ByteArray) (w:World) (ha:a.size≤281474976710656) (hb:b.size≤281474976710656) :
  Calls Tryz.prog 180 #[.string a,.string b] w fun e w'=>e=.returned (.bool (sameB a.data.toList b.data.toList))∧Below w.heap.size w w':=by
 go_enter Tryz.func180,Tryz.ntmps180
 go_wp2_with fail
 refine (lower_txt _ _ ha).mono ?_
 rintro e w1 ⟨rfl,h1⟩;go_wp2_with fail
 refine (lower_txt _ _ hb).mono ?_
 rintro e w2 ⟨rfl,h2⟩;go_wp2;go_ret;exact ⟨ret_bool (by rw [sameB]),h1.trans (h2.mono h1.size)⟩
set_option maxHeartbeats 400000 in
theorem refsame_any (a b:ByteArray) (w:World) (ha:a.size≤140737488355328) (hb:b.size≤140737488355328) :
  Calls Tryz.prog 105 #[.string a,.string b] w fun e w'=>e=.returned (.bool (sameB a.data.toList b.data.toList))∧Below w.heap.size w w':=by
 go_enter Tryz.func105,Tryz.ntmps105
 go_wp2_with fail
 refine (reflower_txt _ _ ha).mono ?_
 rintro e w1 ⟨rfl,h1⟩;go_wp2_with fail
 refine (reflower_txt _ _ hb).mono ?_
 rintro e w2 ⟨rfl,h2⟩;go_wp2;go_ret;exact ⟨ret_bool (by rw [sameB]),h1.trans (h2.mono h1.size)⟩
def quo:List UInt8 → List UInt8
 | []=>[]
 | b :: r=>(if bareB b.toNat then [b] else [92,b])++quo r
def hasBar (l:List UInt8):Bool:=l.any fun b=>barB b.toNat
def quoteV (l:List UInt8):List UInt8 × Int:=if hasBar l then ([],11) else (34 :: quo l++[34],0)
theorem quo_append (a b:List UInt8):quo (a++b)=quo a++quo b:=by
 induction a with
 | nil=>rfl
 | cons x r ih=>simp only [List.cons_append,quo,ih,List.append_assoc]
theorem quo_len (l:List UInt8):(quo l).length≤2 * l.length:=by
 induction l with
 | nil=>simp [quo]
 | cons x r ih=>simp only [quo,List.length_append,List.length_cons]; split <;> simp <;> omega
theorem quo_snoc1 (l:List UInt8) (b:UInt8) (h:bareB b.toNat=true):quo (l++[b])=quo l++[b]:=by simp [quo_append,quo,h]
theorem quo_snoc2 (l:List UInt8) (b:UInt8) (h:bareB b.toNat=false):quo (l++[b])=quo l++[92]++[b]:=by simp [quo_append,quo,h]
theorem hasBar_hit {s:ByteArray} {k:Nat} (h:k < s.size) (hb:barB s[k].toNat=true):hasBar s.data.toList=true:=by
 rw [hasBar,List.any_eq_true];exact ⟨s[k],List.mem_of_getElem? (getL s k h),hb⟩
theorem hasBar_snoc (l:List UInt8) (b:UInt8):hasBar (l++[b])=(hasBar l || barB b.toNat):=by simp [hasBar]
theorem ret_str {p:List UInt8 × Int} (a:List UInt8) (b:Int) (h:p=(a,b)):Ending.returned (.tuple #[.string ⟨a.toArray⟩,.int .i64 b])=.returned (.tuple #[.string ⟨p.1.toArray⟩,.int .i64 p.2]):=by rw [h]
theorem quo_cells1 (l:List UInt8) (b:UInt8) (h:bareB b.toNat=true):Lib.byteCells (34 :: quo l)++Lib.byteCells [b]=Lib.byteCells (34 :: quo (l++[b])):=by
 rw [quo_snoc1 l b h,← Lib.byteCells_append]; rfl
theorem quo_cells2 (l:List UInt8) (b:UInt8) (h:bareB b.toNat=false):Lib.byteCells (34 :: quo l)++Lib.byteCells [92]++Lib.byteCells [b]=Lib.byteCells (34 :: quo (l++[b])):=by
 rw [quo_snoc2 l b h,← Lib.byteCells_append,← Lib.byteCells_append]; rfl
theorem quo_cells_len (l:List UInt8):(Lib.byteCells (34 :: quo l)).length≤2 * l.length+1:=by
 rw [Lib.byteCells_length]; have:=quo_len l; simp; omega
set_option maxHeartbeats 1000000 in
theorem quote_any (s:ByteArray) (w:World) (hs:2 * s.size+2≤140737488355328) :
  Calls Tryz.prog 205 #[.string s] w fun e w'=>e=.returned (.tuple #[.string ⟨(quoteV s.data.toList).1.toArray⟩,.int .i64 (quoteV s.data.toList).2])∧Below w.heap.size w w':=by
 obtain ⟨i0,hi,hz0,hz1,hz2⟩:=info_parts info5
 go_enter Tryz.func205,Tryz.ntmps205
 go_wp2_with (first
  | (at_make; refine wp_make _ rfl _ _ 143 rfl w.heap.size 5 i0 (.int .u8 0) Tryz.underlying143 hi hz0 hz1 .i64 .i64 _ (s.size+2) rfl rfl (by omega) (by rw [hz2]; omega) (by unfold maxLen; omega) w (Below.refl _ _) (Nat.le_refl _) ?_; intro v0 w1 hown1 hb1 hB1)
  | (at_builtin; refine wp_app _ rfl (.tmp 10) (.tmp 11) 143 rfl w.heap.size 5 i0 (.int .u8 0) 1 Tryz.underlying143 hi hz0 hz1 hz2 rfl _ (Lib.byteCells []) rfl (hown1.alloc _) ⟨w1.heap.size,0,none⟩ 1 1 (Lib.byteCells [34]) rfl rfl (by exact one_new _ _ _) (byteCells_one _) (by unfold maxLen; simp [Lib.byteCells]) (by simp [Lib.byteCells]) w (hb1.alloc hB1 _) (by simp; omega) ?_; intro v2 w2 hown2 hb2 hB2))
 clear hown1 hb1 hB1
 go_loopw [4,15] (fun v i wr=>∃ k:Nat,k≤s.size∧i=.int .i64 k∧Own wr w.heap.size 5 v (Lib.byteCells (34 :: quo (s.data.toList.take k)))∧Below w.heap.size w wr∧w.heap.size≤wr.heap.size∧Hid (hasBar (s.data.toList.take k)=false)) (fun _ i _=>s.size - (intOf i).toNat)
 case atStart=>exact ⟨0,Nat.zero_le _,rfl,hown2,hb2,hB2,rfl⟩
 case round =>
  obtain ⟨k,hk,rfl,hown,hb,hB,hbar⟩:=hrel;have hlen:=quo_cells_len (s.data.toList.take k);have hlk:(s.data.toList.take k).length≤k:=List.length_take_le _ _;by_cases hlt:k < s.size
  ·by_cases hbb:barB s[k].toNat=true
   ·have hq:Hid (quoteV s.data.toList=([],11)):=by show _=_; rw [quoteV,if_pos (hasBar_hit hlt hbb)]
    clear hlen hlk;go_wp2_with (go_at_call 203; refine (barred_any _ _).mono ?_; rintro e w' ⟨rfl,rfl⟩)
    go_ret2;exact ⟨ret_str [] 11 hq.out,hb⟩
   ·have hbb':barB s[k].toNat=false:=by simpa using hbb
    clear hbb;have hbar':Hid (hasBar (s.data.toList.take (k+1))=false):=by show _=_; rw [take_snoc s k hlt,hasBar_snoc,hbar.out,hbb']; rfl
    by_cases hba:bareB s[k].toNat=true
    ·have hcs:=quo_cells1 (s.data.toList.take k) s[k] hba;rw [← take_snoc s k hlt] at hcs;have HC:Hid _:=hcs; clear hcs
     go_wp2_with (first
      | (go_at_call 203; refine (barred_any _ _).mono ?_; rintro e w' ⟨rfl,rfl⟩)
      | (go_at_call 204; refine (bare_any _ _).mono ?_; rintro e w' ⟨rfl,rfl⟩)
      | (at_builtin; refine wp_app _ rfl (.tmp 30) (.tmp 34) 143 rfl w.heap.size 5 i0 (.int .u8 0) 1 Tryz.underlying143 hi hz0 hz1 hz2 rfl _ _ rfl (hown.alloc _) ⟨_,0,none⟩ 1 1 (Lib.byteCells [s[k]]) rfl rfl (by exact one_new _ _ _) (byteCells_one _) (by unfold maxLen; omega) (by omega) w (hb.alloc hB _) (by simp; omega) ?_; intro v3 w3 hown3 hb3 hB3))
     rw [HC.out] at hown3;go_roundw
     case rel=>exact ⟨k+1,by omega,by go_num,hown3,hb3,hB3,hbar'⟩
     case measure=>simp [intOf]; omega
    ·have hba':bareB s[k].toNat=false:=by simpa using hba
     clear hba;have hcs:=quo_cells2 (s.data.toList.take k) s[k] hba';rw [← take_snoc s k hlt] at hcs;have HC:Hid _:=hcs; clear hcs
     go_wp2_with (first
      | (go_at_call 203; refine (barred_any _ _).mono ?_; rintro e w' ⟨rfl,rfl⟩)
      | (go_at_call 204; refine (bare_any _ _).mono ?_; rintro e w' ⟨rfl,rfl⟩)
      | (at_builtin; refine wp_app _ rfl (.tmp 27) (.tmp 28) 143 rfl w.heap.size 5 i0 (.int .u8 0) 1 Tryz.underlying143 hi hz0 hz1 hz2 rfl _ _ rfl (hown.alloc _) ⟨_,0,none⟩ 1 1 (Lib.byteCells [92]) rfl rfl (by exact one_new _ _ _) (byteCells_one _) (by unfold maxLen; omega) (by omega) w (hb.alloc hB _) (by simp; omega) ?_; intro v2 w2 hown2 hb2 hB2)
      | (at_builtin; refine wp_app _ rfl (.tmp 30) (.tmp 34) 143 rfl w.heap.size 5 i0 (.int .u8 0) 1 Tryz.underlying143 hi hz0 hz1 hz2 rfl _ _ rfl (hown2.alloc _) ⟨_,0,none⟩ 1 1 (Lib.byteCells [s[k]]) rfl rfl (by exact one_new _ _ _) (byteCells_one _) (by unfold maxLen; simp [Lib.byteCells] at hlen ⊢; omega) (by simp [Lib.byteCells] at hlen ⊢; omega) w (hb2.alloc hB2 _) (by simp; omega) ?_; intro v3 w3 hown3 hb3 hB3))
     rw [HC.out] at hown3;go_roundw
     case rel=>exact ⟨k+1,by omega,by go_num,hown3,hb3,hB3,hbar'⟩
     case measure=>simp [intOf]; omega
  ·have hta:=take_all s k (by omega);rw [hta] at hown hbar hlen;have hq:Hid (quoteV s.data.toList=(34 :: quo s.data.toList++[34],0)):=by show _=_; rw [quoteV,hbar.out]; rfl
   have hsz:=len_data s;clear hta;go_wp2_with (at_builtin; refine wp_app _ rfl (.tmp 37) (.tmp 38) 143 rfl w.heap.size 5 i0 (.int .u8 0) 1 Tryz.underlying143 hi hz0 hz1 hz2 rfl _ _ rfl (hown.alloc _) ⟨_,0,none⟩ 1 1 (Lib.byteCells [34]) rfl rfl (by exact one_new _ _ _) (byteCells_one _) (by unfold maxLen; omega) (by omega) w (hb.alloc hB _) (by simp; omega) ?_; intro v3 w3 hown3 hb3 hB3; rw [← Lib.byteCells_append] at hown3; have hcv:=conv_own (P:=Tryz.prog) _ Tryz.underlying143 Tryz.underlying5 Tryz.underlying9 hown3)
   go_ret2;exact ⟨ret_str (34 :: quo s.data.toList++[34]) 0 hq.out,hb3⟩
def badB (c:Int):Bool:=barB c || decide (127 < c)
def unq:List UInt8 → Option (List UInt8)
 | []=>some []
 | [b]=>if bareB b.toNat then some [b] else none
 | b :: c :: r=>if (b.toNat:Int)=92 then (if badB c.toNat then none else (unq r).map (c :: ·)) else if bareB b.toNat then (unq (c :: r)).map (b :: ·) else none
theorem unq_esc {b c:UInt8} {r:List UInt8} (h:(b.toNat:Int)=92):unq (b :: c :: r)=if badB c.toNat then none else (unq r).map (c :: ·):=by
 rw [unq,if_pos h]
theorem unq_plain {b:UInt8} {r:List UInt8} (h:(b.toNat:Int) ≠ 92∨r=[]):unq (b :: r)=if bareB b.toNat then (unq r).map (b :: ·) else none:=by
 cases r with
 | nil=>simp [unq]
 | cons c r=>rw [unq,if_neg (by rcases h with h | h; exact h; cases h)]
theorem map_snoc (acc:List UInt8) (b:UInt8) (x:Option (List UInt8)):(x.map (b :: ·)).map (acc++·)=x.map ((acc++[b])++·):=by
 cases x <;> simp
def unquoteV (l:List UInt8):List UInt8 × Int :=
 if l.length < 2∨l[0]?.map (·.toNat) ≠ some 34∨l[l.length - 1]?.map (·.toNat) ≠ some 34 then ([],11)
 else match unq (mid l 1 (l.length - 1)) with | some r=>(r,0) | none=>([],11)
theorem unquoteV_some {l r:List UInt8} (h:¬ (l.length < 2∨l[0]?.map (·.toNat) ≠ some 34∨l[l.length - 1]?.map (·.toNat) ≠ some 34)) (hr:unq (mid l 1 (l.length - 1))=some r):unquoteV l=(r,0):=by
 rw [unquoteV,if_neg h,hr]
theorem unquoteV_none {l:List UInt8} (h:¬ (l.length < 2∨l[0]?.map (·.toNat) ≠ some 34∨l[l.length - 1]?.map (·.toNat) ≠ some 34)) (hr:unq (mid l 1 (l.length - 1))=none):unquoteV l=([],11):=by
 rw [unquoteV,if_neg h,hr]
theorem unquoteV_bad {l:List UInt8} (h:l.length < 2∨l[0]?.map (·.toNat) ≠ some 34∨l[l.length - 1]?.map (·.toNat) ≠ some 34):unquoteV l=([],11):=by
 rw [unquoteV,if_pos h]
def UnqAt (l:List UInt8) (acc rest:List UInt8):Prop:=unq l=(unq rest).map (acc++·)
theorem unqAt0 (l:List UInt8):UnqAt l [] l:=by unfold UnqAt; cases unq l <;> simp
theorem unqAt_end {l acc:List UInt8} (h:UnqAt l acc []):unq l=some acc:=by rw [h]; simp [unq]
theorem unqAt_esc {l acc:List UInt8} {b c:UInt8} {r:List UInt8} (h:UnqAt l acc (b :: c :: r)) (hb:(b.toNat:Int)=92) (hc:badB c.toNat=false):UnqAt l (acc++[c]) r:=by
 unfold UnqAt at *;rw [h,unq_esc hb,hc]; simp only [Bool.false_eq_true,if_false]; exact map_snoc acc c (unq r)
theorem unqAt_bad {l acc:List UInt8} {b c:UInt8} {r:List UInt8} (h:UnqAt l acc (b :: c :: r)) (hb:(b.toNat:Int)=92) (hc:badB c.toNat=true):unq l=none:=by
 unfold UnqAt at h;rw [h,unq_esc hb,hc]; rfl
theorem unqAt_bare {l acc:List UInt8} {b:UInt8} {r:List UInt8} (h:UnqAt l acc (b :: r)) (hb:(b.toNat:Int) ≠ 92∨r=[]) (hc:bareB b.toNat=true):UnqAt l (acc++[b]) r:=by
 unfold UnqAt at *;rw [h,unq_plain hb,hc]; simp only [if_true]; exact map_snoc acc b (unq r)
theorem unqAt_not {l acc:List UInt8} {b:UInt8} {r:List UInt8} (h:UnqAt l acc (b :: r)) (hb:(b.toNat:Int) ≠ 92∨r=[]) (hc:bareB b.toNat=false):unq l=none:=by
 unfold UnqAt at h;rw [h,unq_plain hb,hc]; rfl
theorem byteCells_snoc (l:List UInt8) (b:UInt8):Lib.byteCells l++Lib.byteCells [b]=Lib.byteCells (l++[b]):=by rw [← Lib.byteCells_append]
theorem first_at {s:ByteArray} (h:0 < s.size):s.data.toList[0]?.map (·.toNat)=some (s[0]'h).toNat:=by
 rw [getL s 0 h]; rfl
theorem last_at {s:ByteArray} (h:s.size - 1 < s.size):s.data.toList[s.data.toList.length - 1]?.map (·.toNat)=some (s[s.size - 1]'h).toNat:=by
 rw [len_data,getL s (s.size - 1) h]; rfl
theorem marks_ok {s:ByteArray} (h2:2≤s.size) (hp0:0 < s.size) (hp1:s.size - 1 < s.size) (h0:((s[0]'hp0).toNat:Int)=34) (h1:((s[s.size - 1]'hp1).toNat:Int)=34) :
  ¬ (s.data.toList.length < 2∨s.data.toList[0]?.map (·.toNat) ≠ some 34∨s.data.toList[s.data.toList.length - 1]?.map (·.toNat) ≠ some 34):=by
 rw [first_at hp0,last_at hp1,len_data];rintro (h | h | h)
 ·omega
 ·exact h (by congr 1; omega)
 ·exact h (by congr 1; omega)
set_option maxHeartbeats 1000000 in
theorem unquote_short (s:ByteArray) (w:World) (h2:s.size < 2) :
  Calls Tryz.prog 184 #[.string s] w fun e w'=>e=.returned (.tuple #[.string ⟨(unquoteV s.data.toList).1.toArray⟩,.int .i64 (unquoteV s.data.toList).2])∧Below w.heap.size w w':=by
 have hv:Hid (unquoteV s.data.toList=([],11)):=unquoteV_bad (Or.inl (by rw [len_data]; exact h2))
 go_enter Tryz.func184,Tryz.ntmps184
 go_wp2;go_ret2;exact ⟨ret_str [] 11 hv.out,Below.refl _ _⟩
set_option maxHeartbeats 1000000 in
theorem unquote_first (s:ByteArray) (w:World) (hs:s.size≤140737488355328) (h2:2≤s.size) (hp0:0 < s.size) (h0:((s[0]'hp0).toNat:Int) ≠ 34) :
  Calls Tryz.prog 184 #[.string s] w fun e w'=>e=.returned (.tuple #[.string ⟨(unquoteV s.data.toList).1.toArray⟩,.int .i64 (unquoteV s.data.toList).2])∧Below w.heap.size w w':=by
 have hv:Hid (unquoteV s.data.toList=([],11)):=unquoteV_bad (Or.inr (Or.inl (by rw [first_at hp0]; intro e; injection e with e; omega)));have e0:(((s[0]'hp0).toNat:Int) != 34)=true:=by simp [h0]
 clear h0
 go_enter Tryz.func184,Tryz.ntmps184
 go_wp2;go_ret2;exact ⟨ret_str [] 11 hv.out,Below.refl _ _⟩
set_option maxHeartbeats 1000000 in
theorem unquote_last (s:ByteArray) (w:World) (hs:s.size≤140737488355328) (h2:2≤s.size) (hp0:0 < s.size) (hp1:s.size - 1 < s.size) (h0:((s[0]'hp0).toNat:Int)=34) (h1:((s[s.size - 1]'hp1).toNat:Int) ≠ 34) :
  Calls Tryz.prog 184 #[.string s] w fun e w'=>e=.returned (.tuple #[.string ⟨(unquoteV s.data.toList).1.toArray⟩,.int .i64 (unquoteV s.data.toList).2])∧Below w.heap.size w w':=by
 have hv:Hid (unquoteV s.data.toList=([],11)):=unquoteV_bad (Or.inr (Or.inr (by rw [last_at hp1]; intro e; injection e with e; omega)));have e0:(((s[0]'hp0).toNat:Int) != 34)=false:=by simp [h0]
 have e1:(((s[s.size - 1]'hp1).toNat:Int) != 34)=true:=by simp [h1]
 have ht1:((s.size:Int) - 1).toNat=s.size - 1:=by omega
 clear h0 h1
 go_enter Tryz.func184,Tryz.ntmps184
 go_wp2;go_ret2;exact ⟨ret_str [] 11 hv.out,Below.refl _ _⟩
theorem badB_split {c:Int} (h:badB c=false):barB c=false∧c≤127:=by
 simp only [badB,Bool.or_eq_false_iff,decide_eq_false_iff_not] at h; exact ⟨h.1,by omega⟩
set_option maxHeartbeats 2000000 in
theorem unquote_marks (s:ByteArray) (w:World) (hs:s.size≤140737488355328) (h2:2≤s.size) (hp0:0 < s.size) (hp1:s.size - 1 < s.size) (h0:((s[0]'hp0).toNat:Int)=34) (h1:((s[s.size - 1]'hp1).toNat:Int)=34) :
  Calls Tryz.prog 184 #[.string s] w fun e w'=>e=.returned (.tuple #[.string ⟨(unquoteV s.data.toList).1.toArray⟩,.int .i64 (unquoteV s.data.toList).2])∧Below w.heap.size w w':=by
 obtain ⟨i0,hi,hz0,hz1,hz2⟩:=info_parts info5;have hok:Hid (¬ (s.data.toList.length < 2∨s.data.toList[0]?.map (·.toNat) ≠ some 34∨s.data.toList[s.data.toList.length - 1]?.map (·.toNat) ≠ some 34)):=marks_ok h2 hp0 hp1 h0 h1;have e0:(((s[0]'hp0).toNat:Int) != 34)=false:=by simp [h0]
 have e1:(((s[s.size - 1]'hp1).toNat:Int) != 34)=false:=by simp [h1]
 have ht1:((s.size:Int) - 1).toNat=s.size - 1:=by omega
 have hin:Hid ((s.extract 1 (s.size - 1)).data.toList=mid s.data.toList 1 (s.data.toList.length - 1)):=by
  show _=_; rw [ext_list,len_data]; simp [mid]
 have hisz:(s.extract 1 (s.size - 1)).size=s.size - 2:=by rw [ByteArray.size_extract]; omega
 have HSZ:Hid ((s.extract 1 (s.size - 1)).size=s.size - 2):=hisz;clear h0 h1 hisz
 go_enter Tryz.func184,Tryz.ntmps184
 go_wp2_with (at_make; refine wp_make _ rfl _ _ 143 rfl w.heap.size 5 i0 (.int .u8 0) Tryz.underlying143 hi hz0 hz1 .i64 .i64 _ (s.size - 1 - 1) rfl rfl rfl (by rw [hz2]; omega) (by unfold maxLen; omega) w (Below.refl _ _) (Nat.le_refl _) ?_; intro v0 w1 hown1 hb1 hB1)
 generalize s.extract 1 (s.size - 1)=t at hin HSZ ⊢;have hts:t.size≤140737488355328:=by rw [HSZ.out]; omega
 go_loopw [5,6] (fun v i wr=>∃ (k:Nat) (acc:List UInt8),k≤t.size∧i=.int .i64 k∧acc.length≤k∧Own wr w.heap.size 5 v (Lib.byteCells acc)∧Below w.heap.size w wr∧w.heap.size≤wr.heap.size ∧
   Hid (UnqAt (mid s.data.toList 1 (s.data.toList.length - 1)) acc (t.data.toList.drop k))) (fun _ i _=>t.size - (intOf i).toNat)
 case atStart=>exact ⟨0,[],Nat.zero_le _,rfl,Nat.le_refl _,hown1,hb1,hB1,show UnqAt _ _ _ by rw [hin.out,List.drop_zero]; exact unqAt0 _⟩
 case round =>
  clear hown1 hb1 hB1 e0 e1 hin HSZ;obtain ⟨k,acc,hk,rfl,hac,hown,hb,hB,hu⟩:=hrel;by_cases hlt:k < t.size
  ·by_cases hes:(t[k].toNat:Int)=92∧k+1 < t.size
   ·obtain ⟨h92,hlt1⟩:=hes;have hu':=hu.out;rw [drop_cons t k hlt,drop_cons t (k+1) hlt1] at hu';have c1:((t[k].toNat:Int)==92)=true:=by simpa using h92
    by_cases hbad:badB t[k+1].toNat=true
    ·have hv:Hid (unquoteV s.data.toList=([],11)):=unquoteV_none hok.out (unqAt_bad hu' h92 hbad);clear hu hu' h92;by_cases hbr:barB t[k+1].toNat=true
     ·go_wp2_with (go_at_call 203; refine (barred_any _ _).mono ?_; rintro e w' ⟨rfl,rfl⟩)
      go_ret2;exact ⟨ret_str [] 11 hv.out,hb⟩
     ·have hbr':barB t[k+1].toNat=false:=by simpa using hbr
      have h127:127 < (t[k+1].toNat:Int):=by rw [badB,hbr'] at hbad; simpa using hbad
      clear hbr hbad;go_wp2_with (go_at_call 203; refine (barred_any _ _).mono ?_; rintro e w' ⟨rfl,rfl⟩)
      go_ret2;exact ⟨ret_str [] 11 hv.out,hb⟩
    ·have hbad':badB t[k+1].toNat=false:=by simpa using hbad
     have hn:Hid (UnqAt (mid s.data.toList 1 (s.data.toList.length - 1)) (acc++[t[k+1]]) (t.data.toList.drop (k+1+1))):=unqAt_esc hu' h92 hbad';obtain ⟨hbr,h127⟩:=badB_split hbad';clear hu hu' h92 hbad hbad';go_wp2_with (first
      | (go_at_call 203; refine (barred_any _ _).mono ?_; rintro e w' ⟨rfl,rfl⟩)
      | (at_builtin; refine wp_app _ rfl (.tmp 65) (.tmp 69) 143 rfl w.heap.size 5 i0 (.int .u8 0) 1 Tryz.underlying143 hi hz0 hz1 hz2 rfl _ _ rfl (hown.alloc _) ⟨_,0,none⟩ 1 1 (Lib.byteCells [t[k+1]]) rfl rfl (by exact one_new _ _ _) (byteCells_one _) (by rw [Lib.byteCells_length]; unfold maxLen; omega) (by rw [Lib.byteCells_length]; omega) w (hb.alloc hB _) (by simp; omega) ?_; intro v3 w3 hown3 hb3 hB3))
     rw [byteCells_snoc] at hown3;go_roundw
     case rel=>exact ⟨k+1+1,_,by omega,by go_num,by simp; omega,hown3,hb3,hB3,hn⟩
     case measure=>simp [intOf]; omega
   ·have hu':=hu.out;rw [drop_cons t k hlt] at hu';have hside:(t[k].toNat:Int) ≠ 92∨t.data.toList.drop (k+1)=[]:=by
     by_cases h92:(t[k].toNat:Int)=92
     ·right; exact drop_all t (k+1) (by have:=fun h=>hes ⟨h92,h⟩; omega)
     ·left; exact h92
    by_cases hba:bareB t[k].toNat=true
    ·have hn:Hid (UnqAt (mid s.data.toList 1 (s.data.toList.length - 1)) (acc++[t[k]]) (t.data.toList.drop (k+1))):=unqAt_bare hu' hside hba;by_cases h92:(t[k].toNat:Int)=92
     ·rw [h92] at hba; exact absurd hba (by decide)
     ·have c1:((t[k].toNat:Int)==92)=false:=by simpa using h92
      clear hu hu' hside hes h92;go_wp2_with (first
       | (go_at_call 204; refine (bare_any _ _).mono ?_; rintro e w' ⟨rfl,rfl⟩)
       | (at_builtin; refine wp_app _ rfl (.tmp 65) (.tmp 69) 143 rfl w.heap.size 5 i0 (.int .u8 0) 1 Tryz.underlying143 hi hz0 hz1 hz2 rfl _ _ rfl (hown.alloc _) ⟨_,0,none⟩ 1 1 (Lib.byteCells [t[k]]) rfl rfl (by exact one_new _ _ _) (byteCells_one _) (by rw [Lib.byteCells_length]; unfold maxLen; omega) (by rw [Lib.byteCells_length]; omega) w (hb.alloc hB _) (by simp; omega) ?_; intro v3 w3 hown3 hb3 hB3))
      rw [byteCells_snoc] at hown3;go_roundw
      case rel=>exact ⟨k+1,_,by omega,by go_num,by simp; omega,hown3,hb3,hB3,hn⟩
      case measure=>simp [intOf]; omega
    ·have hba':bareB t[k].toNat=false:=by simpa using hba
     have hv:Hid (unquoteV s.data.toList=([],11)):=unquoteV_none hok.out (unqAt_not hu' hside hba');by_cases h92:(t[k].toNat:Int)=92
     ·have c1:((t[k].toNat:Int)==92)=true:=by simpa using h92
      have c2:¬ (k+1 < t.size):=fun h=>hes ⟨h92,h⟩;clear hu hu' hside hes h92 hba;go_wp2_with (go_at_call 204; refine (bare_any _ _).mono ?_; rintro e w' ⟨rfl,rfl⟩)
      go_ret2;exact ⟨ret_str [] 11 hv.out,hb⟩
     ·have c1:((t[k].toNat:Int)==92)=false:=by simpa using h92
      clear hu hu' hside hes h92 hba;go_wp2_with (go_at_call 204; refine (bare_any _ _).mono ?_; rintro e w' ⟨rfl,rfl⟩)
      go_ret2;exact ⟨ret_str [] 11 hv.out,hb⟩
  ·have hu':=hu.out;rw [drop_all t k (by omega)] at hu';have hv:Hid (unquoteV s.data.toList=(acc,0)):=unquoteV_some hok.out (unqAt_end hu');have hcv:=conv_own (P:=Tryz.prog) _ Tryz.underlying143 Tryz.underlying5 Tryz.underlying9 hown;clear hu hu';go_wp2;go_ret2;exact ⟨ret_str acc 0 hv.out,hb⟩
theorem unquote_any (s:ByteArray) (w:World) (hs:s.size≤140737488355328) :
  Calls Tryz.prog 184 #[.string s] w fun e w'=>e=.returned (.tuple #[.string ⟨(unquoteV s.data.toList).1.toArray⟩,.int .i64 (unquoteV s.data.toList).2])∧Below w.heap.size w w':=by
 by_cases h2:2≤s.size
 ·have hp0:0 < s.size:=by omega
  have hp1:s.size - 1 < s.size:=by omega
  by_cases h0:((s[0]'hp0).toNat:Int)=34
  ·by_cases h1:((s[s.size - 1]'hp1).toNat:Int)=34
   ·exact unquote_marks s w hs h2 hp0 hp1 h0 h1
   ·exact unquote_last s w hs h2 hp0 hp1 h0 h1
  ·exact unquote_first s w hs h2 hp0 h0
 ·exact unquote_short s w (by omega)
def hexd (n:Nat):UInt8:=[48,49,50,51,52,53,54,55,56,57,65,66,67,68,69,70].getD n 0
def free (kp:Nat → Bool) (b:UInt8):Bool:=isB b.toNat 16 || kp b.toNat
def esc (kp:Nat → Bool):List UInt8 → List UInt8
 | []=>[]
 | b :: r=>(if free kp b then [b] else [37,hexd (b.toNat / 16),hexd (b.toNat % 16)])++esc kp r
theorem Own.drewN {w:World} {B:Nat} {e:TypeId} {v:Value} {xs:List Value} (h:Own w B e v xs) (q:Nat):Own (w.drewN q) B e v xs:=h
theorem Below.drewN {B:Nat} {a w:World} (h:Below B a w) (q:Nat):Below B a (w.drewN q):=⟨h.os,h.tape,h.output,h.size,h.block⟩
def hexv (c:Int):Int:=if 48≤c∧c≤57 then c - 48 else low c - 87
theorem isB_hex (c:Int) (h0:0≤c) (h1:c≤255):isB c 4=decide (48≤c∧c≤57∨97≤c∧c≤102∨65≤c∧c≤70):=by
 obtain ⟨n,rfl⟩:=Int.eq_ofNat_of_zero_le h0;have h:∀ n:Fin 256,isB (n.val:Int) 4=decide (48≤(n.val:Int)∧(n.val:Int)≤57∨97≤(n.val:Int)∧(n.val:Int)≤102∨65≤(n.val:Int)∧(n.val:Int)≤70):=by decide +kernel
 exact h ⟨n,by omega⟩
theorem hex_of {b:UInt8} (h:isB b.toNat 4=true):48≤(b.toNat:Int)∧(b.toNat:Int)≤57∨97≤(b.toNat:Int)∧(b.toNat:Int)≤102∨65≤(b.toNat:Int)∧(b.toNat:Int)≤70:=by
 have hb:=u8_bd b;rw [isB_hex _ hb.1 hb.2] at h
 simpa using h
theorem hexv_bd {b:UInt8} (h:isB b.toNat 4=true):0≤hexv b.toNat∧hexv b.toNat≤15:=by
 have:=hex_of h
 unfold hexv low
 repeat' split
 all_goals omega
def hxb (x y:UInt8):UInt8:=UInt8.ofNat (16 * hexv x.toNat+hexv y.toNat).toNat
theorem hxb_toNat {x y:UInt8} (hx:isB x.toNat 4=true) (hy:isB y.toNat 4=true):((hxb x y).toNat:Int)=16 * hexv x.toNat+hexv y.toNat:=by
 have h1:=hexv_bd hx;have h2:=hexv_bd hy;rw [hxb,UInt8.toNat_ofNat'];omega
set_option maxHeartbeats 400000 in
theorem hexvalue_any (b:UInt8) (w:World) (h:isB b.toNat 4=true) :
  Calls Tryz.prog 211 #[.int .u8 b.toNat] w fun e w'=>e=.returned (.int .u8 (hexv b.toNat))∧w'=w:=by
 have hbd:=u8_bd b;have hx:=hex_of h;by_cases hd:48≤(b.toNat:Int)∧(b.toNat:Int)≤57
 ·have h1:isB b.toNat 1=true:=by rw [isB_digit _ hbd.1 hbd.2]; simpa using hd
  have hv:Hid (hexv b.toNat=(b.toNat:Int) - 48):=by show _=_; rw [hexv,if_pos hd]
  obtain ⟨hd1,hd2⟩:=hd;clear h hx
  go_enter Tryz.func211,Tryz.ntmps211
  go_wp2_with (go_at_call 143; refine (is_any _ _ _ hbd.1 hbd.2).mono ?_; rintro e w' ⟨rfl,rfl⟩)
  go_ret;exact ⟨ret_int hv.out.symm,rfl⟩
 ·have h1:isB b.toNat 1=false:=by rw [isB_digit _ hbd.1 hbd.2]; simpa using hd
  have hl:97≤low b.toNat∧low b.toNat≤102:=by unfold low; split <;> omega
  have hv:Hid (hexv b.toNat=low b.toNat - 97+10):=by show _=_; rw [hexv,if_neg hd]; omega
  obtain ⟨hl1,hl2⟩:=hl;clear h hx hd
  go_enter Tryz.func211,Tryz.ntmps211
  go_wp2_with (first
   | (go_at_call 143; refine (is_any _ _ _ hbd.1 hbd.2).mono ?_; rintro e w' ⟨rfl,rfl⟩)
   | (go_at_call 162; refine (lower_any _ _ hbd.1 hbd.2).mono ?_; rintro e w' ⟨rfl,rfl⟩))
  go_ret;exact ⟨ret_int hv.out.symm,rfl⟩
def une:List UInt8 → Option (List UInt8)
 | []=>some []
 | [b]=>if (b.toNat:Int)=37 then none else some [b]
 | [b,x]=>if (b.toNat:Int)=37 then none else (une [x]).map (b :: ·)
 | b :: x :: y :: r=>if (b.toNat:Int)=37 then (if isB x.toNat 4 && isB y.toNat 4 then (une r).map (hxb x y :: ·) else none) else (une (x :: y :: r)).map (b :: ·)
theorem une_plain {b:UInt8} {r:List UInt8} (h:(b.toNat:Int) ≠ 37):une (b :: r)=(une r).map (b :: ·):=by
 match r with
 | []=>simp [une,h]
 | [x]=>show (if (b.toNat:Int)=37 then none else (une [x]).map (b :: ·))=_; rw [if_neg h]
 | x :: y :: r=>rw [une,if_neg h]
theorem une_short {b:UInt8} {r:List UInt8} (h:(b.toNat:Int)=37) (hr:r.length < 2):une (b :: r)=none:=by
 match r,hr with
 | [],_=>simp [une,h]
 | [x],_=>rw [une,if_pos h]
 | x :: y :: r,hr=>simp at hr; omega
theorem une_hex {b x y:UInt8} {r:List UInt8} (h:(b.toNat:Int)=37) (hx:isB x.toNat 4=true) (hy:isB y.toNat 4=true):une (b :: x :: y :: r)=(une r).map (hxb x y :: ·):=by
 rw [une,if_pos h,hx,hy]; rfl
theorem une_bad {b x y:UInt8} {r:List UInt8} (h:(b.toNat:Int)=37) (hx:(isB x.toNat 4 && isB y.toNat 4)=false):une (b :: x :: y :: r)=none:=by
 rw [une,if_pos h,hx]; rfl
def unescV (l:List UInt8):List UInt8 × Int:=match une l with | some r=>(r,0) | none=>([],12)
theorem unescV_some {l r:List UInt8} (h:une l=some r):unescV l=(r,0):=by rw [unescV,h]
theorem unescV_none {l:List UInt8} (h:une l=none):unescV l=([],12):=by rw [unescV,h]
def UneAt (l acc rest:List UInt8):Prop:=une l=(une rest).map (acc++·)
theorem uneAt0 (l:List UInt8):UneAt l [] l:=by unfold UneAt; cases une l <;> simp
theorem uneAt_end {l acc:List UInt8} (h:UneAt l acc []):une l=some acc:=by rw [h]; simp [une]
theorem uneAt_plain {l acc:List UInt8} {b:UInt8} {r:List UInt8} (h:UneAt l acc (b :: r)) (hb:(b.toNat:Int) ≠ 37):UneAt l (acc++[b]) r:=by
 unfold UneAt at *;rw [h,une_plain hb]; exact map_snoc acc b (une r)
theorem uneAt_hex {l acc:List UInt8} {b x y:UInt8} {r:List UInt8} (h:UneAt l acc (b :: x :: y :: r)) (hb:(b.toNat:Int)=37) (hx:isB x.toNat 4=true) (hy:isB y.toNat 4=true):UneAt l (acc++[hxb x y]) r:=by
 unfold UneAt at *;rw [h,une_hex hb hx hy]; exact map_snoc acc _ (une r)
theorem uneAt_short {l acc:List UInt8} {b:UInt8} {r:List UInt8} (h:UneAt l acc (b :: r)) (hb:(b.toNat:Int)=37) (hr:r.length < 2):une l=none:=by
 unfold UneAt at h;rw [h,une_short hb hr]; rfl
theorem uneAt_bad {l acc:List UInt8} {b x y:UInt8} {r:List UInt8} (h:UneAt l acc (b :: x :: y :: r)) (hb:(b.toNat:Int)=37) (hx:(isB x.toNat 4 && isB y.toNat 4)=false):une l=none:=by
 unfold UneAt at h;rw [h,une_bad hb hx]; rfl
theorem or_hex {x y:UInt8} (hx:isB x.toNat 4=true) (hy:isB y.toNat 4=true):bits BinOp.or IntKind.u8 (hexv x.toNat * 16 % 256) (hexv y.toNat)=((hxb x y).toNat:Int):=by
 rw [hxb_toNat hx hy];have h1:=hexv_bd hx;have h2:=hexv_bd hy;obtain ⟨m,hm⟩:=Int.eq_ofNat_of_zero_le h1.1;obtain ⟨n,hn⟩:=Int.eq_ofNat_of_zero_le h2.1;rw [hm,hn];have h:∀ m n:Fin 16,bits BinOp.or IntKind.u8 ((m.val:Int) * 16 % 256) (n.val:Int)=16 * (m.val:Int)+(n.val:Int):=by decide +kernel
 exact h ⟨m,by omega⟩ ⟨n,by omega⟩
theorem all2 (s:ByteArray) (k:Nat) (h:k+2 < s.size) (c:Int):allB c (s.extract (k+1) (k+3)).data.toList=(isB s[k+1].toNat c && isB s[k+2].toNat c):=by
 have e:(s.extract (k+1) (k+3)).data.toList=[s[k+1],s[k+2]]:=by
  rw [ext_list,show k+3 - (k+1)=2 by omega,drop_cons s (k+1) (by omega),drop_cons s (k+1+1) (by omega)]
  rfl
 rw [e,allB]; simp
theorem all_hex2 (s:ByteArray) (k:Nat) (h:k+2 < s.size) (hs:s.size≤maxLen) (w:World) (b:Bool) (hb:(isB s[k+1].toNat 4 && isB s[k+2].toNat 4)=b) :
  Calls Tryz.prog 98 #[.string (s.extract (k+1) (k+3)),.int .i64 4] w fun e w'=>e=.returned (.bool b)∧w'=w:=by
 have:=all_any (s.extract (k+1) (k+3)) 4 w (by rw [ByteArray.size_extract]; omega)
 rw [all2 s k h,hb] at this;exact this
end Go.Proofs.YtiogedceommcoaaGreatDoor
