/-
  Unesc, CutL, WrittenL, Params, OpenUri, Row, Lower, HostL, Trim, PListL, Digits, PrintL, CheckL, WhereL, ParseL.
-/
import Derived.Test.YtldkidljjbkmbaaGreatDoorPX01
import Derived.Laws.StructEq
import Derived.ChangeKeysEq
import Derived.Deep.Slices
import Derived.ChangeArms
set_option linter.unusedVariables false
set_option linter.unusedSimpArgs false
set_option maxRecDepth 20000
namespace Go.Proofs.YtldkidljjbkmbaaGreatDoor
open Go.RowKit Sc
set_option maxHeartbeats 2000000 in
theorem unescape_any (s:ByteArray) (w:World) (hs:s.size≤140737488355328) :
  Calls Tryz.prog 136 #[.string s] w fun e w'=>e=.returned (.tuple #[.string ⟨(unescV s.data.toList).1.toArray⟩,.int .i64 (unescV s.data.toList).2])∧Below w.heap.size w w':=by
 obtain ⟨i0,hi,hz0,hz1,hz2⟩:=info_parts info5
 go_enter Tryz.func136,Tryz.ntmps136
 go_wp2_with (at_make; refine wp_make _ rfl _ _ 86 rfl w.heap.size 5 i0 (.int .u8 0) Tryz.underlying86 hi hz0 hz1 .i64 .i64 _ s.size rfl rfl rfl (by rw [hz2]; omega) (by unfold maxLen; omega) w (Below.refl _ _) (Nat.le_refl _) ?_; intro v0 w1 hown1 hb1 hB1)
 go_loopw [4,5] (fun v i wr=>∃ (k:Nat) (acc:List UInt8),k≤s.size∧i=.int .i64 k∧acc.length≤k∧Own wr w.heap.size 5 v (Lib.byteCells acc)∧Below w.heap.size w wr∧w.heap.size≤wr.heap.size ∧
   Hid (UneAt s.data.toList acc (s.data.toList.drop k))) (fun _ i _=>s.size - (intOf i).toNat)
 case atStart=>exact ⟨0,[],Nat.zero_le _,rfl,Nat.le_refl _,hown1,hb1,hB1,show UneAt _ _ _ by rw [List.drop_zero]; exact uneAt0 _⟩
 case round =>
  clear hown1 hb1 hB1;obtain ⟨k,acc,hk,rfl,hac,hown,hb,hB,hu⟩:=hrel;by_cases hlt:k < s.size
  ·have hu':=hu.out;rw [drop_cons s k hlt] at hu';by_cases h37:(s[k].toNat:Int)=37
   ·have c1:((s[k].toNat:Int)==37)=true:=by simpa using h37
    by_cases hsh:k+2 < s.size
    ·rw [drop_cons s (k+1) (by omega),drop_cons s (k+1+1) (by omega)] at hu';by_cases hx:(isB s[k+1].toNat 4 && isB s[k+2].toNat 4)=true
     ·have hx1:isB s[k+1].toNat 4=true:=by simp at hx; exact hx.1
      have hx2:isB s[k+2].toNat 4=true:=by simp at hx; exact hx.2
      have hn:Hid (UneAt s.data.toList (acc++[hxb s[k+1] s[k+2]]) (s.data.toList.drop (k+1+1+1))):=uneAt_hex hu' h37 hx1 hx2;have HX:Hid ((isB s[k+1].toNat 4 && isB s[k+2].toNat 4)=true):=hx;clear hu hu' h37 hx;go_wp2_with (go_at_call 158; refine (all_hex2 s k hsh (by unfold maxLen; omega) _ true HX.out).mono ?_; rintro e w' ⟨rfl,rfl⟩)
      have q1:IntKind.i64.wrap ((k:Int)+1)=(k:Int)+1:=by simp [IntKind.wrap,IntKind.signed,IntKind.bits]; omega
      have q2:IntKind.i64.wrap ((k:Int)+2)=(k:Int)+2:=by simp [IntKind.wrap,IntKind.signed,IntKind.bits]; omega
      have q3:((k:Int)+1).toNat=k+1:=by omega
      have q4:((k:Int)+2).toNat=k+2:=by omega
      have q5:(0:Int)≤(k:Int)+1:=by omega
      have q6:(k:Int)+1 < (s.size:Int):=by omega
      have q7:(0:Int)≤(k:Int)+2:=by omega
      have q8:(k:Int)+2 < (s.size:Int):=by omega
      go_quiet ((go_at_call 159; exact Calls.quiet_of_same (hexvalue_any _ _ (by assumption))))
      have qv:=or_hex hx1 hx2;have hown':=hown.drewN nq;have hb':Below w.heap.size w (w'.drewN nq):=Below.drewN hb nq;have hB':w.heap.size≤(w'.drewN nq).heap.size:=hB;generalize w'.drewN nq=wq at hown' hb' hB' ⊢;rw [qv];clear hown hb hB qv;go_wp2_with (at_builtin; refine wp_app _ rfl (.tmp 50) (.tmp 52) 86 rfl w.heap.size 5 i0 (.int .u8 0) 1 Tryz.underlying86 hi hz0 hz1 hz2 rfl _ _ rfl (by exact hown'.alloc _) ⟨_,0,none⟩ 1 1 (Lib.byteCells [hxb s[k+1] s[k+2]]) rfl rfl (by exact one_new _ _ _) (byteCells_one _) (by rw [Lib.byteCells_length]; unfold maxLen; omega) (by rw [Lib.byteCells_length]; omega) w (by exact hb'.alloc hB' _) (by simp; omega) ?_; intro v3 w3 hown3 hb3 hB3)
      rw [byteCells_snoc] at hown3;go_wp2;go_roundw
      case rel=>exact ⟨k+1+1+1,_,by omega,by go_num,by simp; omega,hown3,hb3,hB3,hn⟩
      case measure=>simp [intOf]; omega
     ·have hx':(isB s[k+1].toNat 4 && isB s[k+2].toNat 4)=false:=by simpa using hx
      have hv:Hid (unescV s.data.toList=([],12)):=unescV_none (uneAt_bad hu' h37 hx');have HX:Hid ((isB s[k+1].toNat 4 && isB s[k+2].toNat 4)=false):=hx';clear hu hu' h37 hx hx';go_wp2_with (go_at_call 158; refine (all_hex2 s k hsh (by unfold maxLen; omega) _ false HX.out).mono ?_; rintro e w' ⟨rfl,rfl⟩)
      go_ret2;exact ⟨ret_str [] 12 hv.out,hb⟩
    ·have hv:Hid (unescV s.data.toList=([],12)):=unescV_none (uneAt_short hu' h37 (by rw [List.length_drop,len_data]; omega));clear hu hu' h37;go_wp2;go_ret2;exact ⟨ret_str [] 12 hv.out,hb⟩
   ·have c1:((s[k].toNat:Int)==37)=false:=by simpa using h37
    have hn:Hid (UneAt s.data.toList (acc++[s[k]]) (s.data.toList.drop (k+1))):=uneAt_plain hu' h37;clear hu hu' h37;go_wp2_with (at_builtin; refine wp_app _ rfl (.tmp 50) (.tmp 52) 86 rfl w.heap.size 5 i0 (.int .u8 0) 1 Tryz.underlying86 hi hz0 hz1 hz2 rfl _ _ rfl (hown.alloc _) ⟨_,0,none⟩ 1 1 (Lib.byteCells [s[k]]) rfl rfl (by exact one_new _ _ _) (byteCells_one _) (by rw [Lib.byteCells_length]; unfold maxLen; omega) (by rw [Lib.byteCells_length]; omega) w (hb.alloc hB _) (by simp; omega) ?_; intro v3 w3 hown3 hb3 hB3)
    rw [byteCells_snoc] at hown3;go_wp2;go_roundw
    case rel=>exact ⟨k+1,_,by omega,by go_num,by simp; omega,hown3,hb3,hB3,hn⟩
    case measure=>simp [intOf]; omega
  ·have hu':=hu.out;rw [drop_all s k (by omega)] at hu';have hv:Hid (unescV s.data.toList=(acc,0)):=unescV_some (uneAt_end hu');have hcv:=conv_own (P:=Tryz.prog) _ Tryz.underlying86 Tryz.underlying5 Tryz.underlying9 hown;clear hu hu';go_wp2;go_ret2;exact ⟨ret_str acc 0 hv.out,hb⟩
end Go.Proofs.YtldkidljjbkmbaaGreatDoor
namespace Go.Proofs.YtldkidljjbkmbaaGreatDoor
def cutL (c:UInt8):List UInt8 → List UInt8 × List UInt8 × Bool
 | []=>([],[],false)
 | x :: l=>if x=c then ([],l,true) else (x :: (cutL c l).1,(cutL c l).2.1,(cutL c l).2.2)
def splitL (c:UInt8):List UInt8 → List (List UInt8)
 | []=>[[]]
 | x :: l=>if x=c then [] :: splitL c l else (x :: (splitL c l).headD []) :: (splitL c l).tail
def hasL (c:UInt8) (l:List UInt8):Bool:=l.contains c
theorem cutL_miss {c:UInt8} {l:List UInt8} (h:c ∉ l):cutL c l=(l,[],false):=by
 induction l with
 | nil=>rfl
 | cons x l ih =>
  simp only [List.mem_cons,not_or] at h;rw [cutL,if_neg (fun e=>h.1 e.symm),ih h.2]
theorem cutL_hit {c:UInt8} {a b:List UInt8} (h:c ∉ a):cutL c (a++c :: b)=(a,b,true):=by
 induction a with
 | nil=>simp [cutL]
 | cons x a ih =>
  simp only [List.mem_cons,not_or] at h;rw [List.cons_append,cutL,if_neg (fun e=>h.1 e.symm),ih h.2]
theorem cutL_len (c:UInt8) (l:List UInt8):(cutL c l).1.length≤l.length∧(cutL c l).2.1.length≤l.length:=by
 induction l with
 | nil=>simp [cutL]
 | cons x l ih =>
  rw [cutL];by_cases h:x=c
  ·simp [h]
  ·rw [if_neg h]; simp; omega
theorem splitL_cons (c:UInt8) (l:List UInt8):∃ p ps,splitL c l=p :: ps:=by
 cases l with
 | nil=>exact ⟨_,_,rfl⟩
 | cons x l=>rw [splitL]; split <;> exact ⟨_,_,rfl⟩
theorem splitL_cut (c:UInt8) (l:List UInt8):splitL c l=if (cutL c l).2.2=true then (cutL c l).1 :: splitL c (cutL c l).2.1 else [(cutL c l).1]:=by
 induction l with
 | nil=>rfl
 | cons x l ih =>
  rw [splitL,cutL];by_cases h:x=c
  ·simp [h]
  ·rw [if_neg h,if_neg h]
   simp only
   rw [ih]
   split <;> simp
theorem splitL_len (c:UInt8) (l:List UInt8):(splitL c l).length≤l.length+1:=by
 induction l with
 | nil=>simp [splitL]
 | cons x l ih =>
  obtain ⟨p,ps,hp⟩:=splitL_cons c l;rw [splitL]
  split
  ·simp; omega
  ·rw [hp] at ih ⊢; simp at ih ⊢; omega
end Go.Proofs.YtldkidljjbkmbaaGreatDoor
namespace Go.Proofs.YtldkidljjbkmbaaGreatDoor
open Go.RowKit Sc
def okw (keep:List UInt8) (b:UInt8):Bool:=b==37 || (isB b.toNat 16 || hasL b keep)
def writtenV (keep l:List UInt8):List UInt8 × Bool:=if l.all (okw keep)=true then ((unescV l).1,(unescV l).2==0) else ([],false)
structure Par where
 name:List UInt8
 value:List UInt8
 has:Bool
deriving DecidableEq
def parCells (p:Par):List Value:=[.string ⟨p.name.toArray⟩,.string ⟨p.value.toArray⟩,.bool p.has]
def parOf (keep l:List UInt8):Option Par :=
 if (writtenV keep (cutL 61 l).1).2=true∧(writtenV keep (cutL 61 l).2.1).2=true then some ⟨(writtenV keep (cutL 61 l).1).1,(writtenV keep (cutL 61 l).2.1).1,(cutL 61 l).2.2⟩ else none
def parsOf (keep:List UInt8):List (List UInt8) → Option (List Par)
 | []=>some []
 | l :: ls=>match parOf keep l,parsOf keep ls with
  | some p,some ps=>some (p :: ps)
  | _,_=>none
theorem okw_snoc {keep:List UInt8} {s:ByteArray} {k:Nat} (hk:k < s.size) (h:(s.data.toList.take k).all (okw keep)=true) (hb:okw keep s[k]=true):(s.data.toList.take (k+1)).all (okw keep)=true:=by
 rw [take_snoc s k hk,List.all_append,h]; simp [hb]
theorem written_bad {keep:List UInt8} {s:ByteArray} {k:Nat} (hk:k < s.size) (hb:okw keep s[k]=false):writtenV keep s.data.toList=([],false):=by
 have:s.data.toList.all (okw keep)=false:=by
  rw [List.all_eq_false];refine ⟨s[k],?_,by simp [hb]⟩
  have:=getL s k hk
  exact List.mem_of_getElem? this
 rw [writtenV,this]; rfl
theorem written_all {keep l:List UInt8} (h:l.all (okw keep)=true):writtenV keep l=((unescV l).1,(unescV l).2==0):=by rw [writtenV,if_pos h]
def ParAt (w:World) (a:Addr) (k:Nat) (p:Par):Prop :=
 w.cell? (a.add (k * 3))=some (.string ⟨p.name.toArray⟩)∧w.cell? ⟨(a.add (k * 3)).block,(a.add (k * 3)).off+1,none⟩=some (.string ⟨p.value.toArray⟩)∧w.cell? ⟨(a.add (k * 3)).block,(a.add (k * 3)).off+2,none⟩=some (.bool p.has)
def ParsAt (w:World) (v:Value) (ps:List Par):Prop :=
 (v=.slice none 0 0∧ps=[])∨∃ (a:Addr) (cap:Nat),v=.slice (some a) ps.length cap∧∀ k (hk:k < ps.length),a.block < w.heap.size∧ParAt w a k ps[k]
theorem cell_below {B:Nat} {w w':World} (h:Below B w w') {a:Addr} (ha:a.block < B) {v:Value} (hc:w.cell? a=some v):w'.cell? a=some v:=by
 rw [← hc];simp only [World.cell?];rw [h.block a.block ha]
theorem add_block (a:Addr) (i:Nat):(a.add i).block=a.block:=by unfold Addr.add; split <;> rfl
theorem ParAt.below {B:Nat} {w w':World} {a:Addr} {k:Nat} {p:Par} (h:ParAt w a k p) (hb:Below B w w') (ha:a.block < B):ParAt w' a k p :=
 ⟨cell_below hb (by rw [add_block]; exact ha) h.1,cell_below hb (by simp only [add_block]; exact ha) h.2.1,cell_below hb (by simp only [add_block]; exact ha) h.2.2⟩
theorem ParsAt.below {w w':World} {v:Value} {ps:List Par} (h:ParsAt w v ps) (hb:Below w.heap.size w w'):ParsAt w' v ps:=by
 rcases h with h | ⟨a,cap,hv,hc⟩
 ·exact Or.inl h
 ·exact Or.inr ⟨a,cap,hv,fun k hk=>⟨Nat.lt_of_lt_of_le (hc k hk).1 hb.size,(hc k hk).2.below hb (hc k hk).1⟩⟩
theorem ParsAt.form {w:World} {v:Value} {ps:List Par} (h:ParsAt w v ps):∃ a cap,v=.slice a ps.length cap:=by
 rcases h with ⟨rfl,rfl⟩ | ⟨a,cap,rfl,_⟩
 ·exact ⟨none,0,rfl⟩
 ·exact ⟨_,cap,rfl⟩
structure Uri where
 scheme:List UInt8
 user:List UInt8
 host:List UInt8
 port:Int
 params:List Par
 headers:List Par
deriving DecidableEq
def uriV (u:Uri) (p h:Value):Value:=.agg #[.string ⟨u.scheme.toArray⟩,.string ⟨u.user.toArray⟩,.string ⟨u.host.toArray⟩,.int .i64 u.port,p,h]
theorem ParsAt.alloc {w:World} {v:Value} {ps:List Par} (h:ParsAt w v ps) (o:Obj):ParsAt (w.alloc o) v ps:=h.below ((Below.refl _ w).alloc (Nat.le_refl _) o)
end Go.Proofs.YtldkidljjbkmbaaGreatDoor
namespace Go.Proofs.YtldkidljjbkmbaaGreatDoor
open Go.RowKit Go.ChangeShapes Go.WideShapes Go.Deep
theorem cellsStr:Tryz.prog.cellsOf 9=1:=by kernel_rfl
theorem cellsInt:Tryz.prog.cellsOf 3=1:=by kernel_rfl
theorem back (s:ByteArray):(⟨s.data.toList.toArray⟩:ByteArray)=s:=by apply ByteArray.ext; simp
section
variable {H : Type} {enc : TypeId × Value → H} {W : World} {sp : Nat → Bool}
def SmallP (B:Nat) (ps:List Par):Prop:=ps.length≤B∧∀ p ∈ ps,p.name.length≤B∧p.value.length≤B
def SmallU (B:Nat) (u:Uri):Prop:=u.scheme.length≤B∧u.user.length≤B∧u.host.length≤B∧SmallP B u.params∧SmallP B u.headers
end
end Go.Proofs.YtldkidljjbkmbaaGreatDoor
namespace Go.Proofs.YtldkidljjbkmbaaGreatDoor
open Go.RowKit
def RowIs (w:World) (g:Nat) (e:TypeId) (l:List Value):Prop:=w.heap[g]? = some (.cells l.toArray e (0,0))
theorem RowIs.cell {w:World} {g:Nat} {e:TypeId} {l:List Value} (h:RowIs w g e l) (j:Nat) (hj:j < l.length):w.cell? ⟨g,j,none⟩=some l[j]:=by
 unfold RowIs at h
 simp [World.cell?,h,hj]
theorem RowIs.frozen {w:World} {g:Nat} {e:TypeId} {l:List Value} (h:RowIs w g e l) (j:Nat):w.frozen? ⟨g,j,none⟩=false:=by
 unfold RowIs at h
 simp [World.frozen?,h]
theorem RowIs.set {w:World} {g:Nat} {e:TypeId} {l:List Value} (h:RowIs w g e l) (j:Nat) (v:Value):RowIs (w.setCell ⟨g,j,none⟩ v) g e (l.set j v):=by
 have:=heap_setCell_same w g j l.toArray e v h
 unfold RowIs;rw [this]
 simp
theorem RowIs.below {w w':World} {g:Nat} {e:TypeId} {l:List Value} (h:RowIs w g e l) {B:Nat} (hb:Below B w w') (hg:g < B):RowIs w' g e l:=by
 unfold RowIs;rw [hb.block g hg];exact h
theorem RowIs.own {w:World} {g:Nat} {e:TypeId} {l:List Value} (h:RowIs w g e l) (B n:Nat) (hB:B≤g) (hn:l.length=n) (hm:n≤maxLen):Own w B e (.slice (some ⟨g,0,none⟩) n n) l:=by
 subst hn;refine ⟨by simp,Or.inr ⟨g,l.length,l.toArray,rfl,hB,h,Nat.le_refl _,hm,by simp,by simp⟩⟩
def filled (l:List UInt8) (n:Nat):List Value:=Lib.byteCells l++List.replicate (n - l.length) (.int .u8 0)
theorem filled_len (l:List UInt8) (n:Nat) (h:l.length≤n):(filled l n).length=n:=by simp [filled,Lib.byteCells]; omega
theorem filled_full (l:List UInt8) (n:Nat) (h:l.length=n):filled l n=Lib.byteCells l:=by simp [filled,h]
theorem filled_set (l:List UInt8) (n:Nat) (b:UInt8) (h:l.length < n):(filled l n).set l.length (.int .u8 b.toNat)=filled (l++[b]) n:=by
 have e:n - l.length=(n - (l.length+1))+1:=by omega
 have hl:(Lib.byteCells l).length=l.length:=Lib.byteCells_length l;unfold filled;rw [List.set_append_right _ _ (by omega),hl,Nat.sub_self,e,List.replicate_succ,List.set_cons_zero,Lib.byteCells_append,List.append_assoc,List.length_append]
 rfl
theorem made_row (w:World) (e:TypeId) (n:Nat):RowIs (w.alloc (.cells (madeCells #[.int .u8 0] n) e)) w.heap.size e (filled [] n):=by
 unfold RowIs;rw [heap_alloc_new]
 have:madeCells #[.int .u8 0] n=(filled [] n).toArray:=by
  apply Array.ext
  ·simp [size_madeCells,filled,Lib.byteCells]
  ·intro i h1 h2
   simp [madeCells,filled,Lib.byteCells,Nat.mod_one]
 rw [this]
end Go.Proofs.YtldkidljjbkmbaaGreatDoor
namespace Go.Proofs.YtldkidljjbkmbaaGreatDoor
open Go.RowKit Sc
def lowb (b:UInt8):UInt8:=if 65≤b.toNat∧b.toNat≤90 then b+32 else b
def lowL (l:List UInt8):List UInt8:=l.map lowb
theorem lowb_toNat (b:UInt8):((lowb b).toNat:Int)=low b.toNat:=by
 have h:∀ n:Fin 256,((lowb (UInt8.ofNat n.val)).toNat:Int)=low n.val:=by decide +kernel
 have:=h ⟨b.toNat,b.toNat_lt⟩
 simpa using this
theorem lowL_len (l:List UInt8):(lowL l).length=l.length:=by simp [lowL]
theorem lowL_snoc (l:List UInt8) (b:UInt8):lowL (l++[b])=lowL l++[lowb b]:=by simp [lowL]
set_option maxHeartbeats 400000 in
theorem lower_txt (s:ByteArray) (w:World) (hs:s.size≤281474976710656) :
  Calls Tryz.prog 75 #[.string s] w fun e w'=>e=.returned (.string ⟨(lowL s.data.toList).toArray⟩)∧Below w.heap.size w w':=by
 obtain ⟨i0,hi,hz0,hz1,hz2⟩:=info_parts info5
 have hmk:∀ u:World,(Instr.makeSlice 86 (.int .i64 (s.size:Int)) (.int .i64 (s.size:Int))).run Tryz.prog u =
   .ok (.slice (some ⟨u.heap.size,0,none⟩) s.size s.size) (u.alloc (.cells (madeCells #[.int .u8 0] s.size) 5)):=fun u=>by
  have h:=run_make (P:=Tryz.prog) u 86 5 i0 (.int .u8 0) Tryz.underlying86 hi hz0 .i64 .i64 (s.size:Int) (s.size:Int) (by omega) (Int.le_refl _) (by rw [hz2]; omega) (by omega)
  simpa [hz1,Value.cells] using h
 have hr0:Hid (RowIs (w.alloc (.cells (madeCells #[.int .u8 0] s.size) 5)) w.heap.size 5 (filled [] s.size)):=made_row w _ _
 go_enter Tryz.func75,Tryz.ntmps75
 go_wp2;clear hmk
 go_loopw [10] (fun i wr=>∃ k:Nat,k≤s.size∧i=.int .i64 k∧Hid (RowIs wr w.heap.size 5 (filled (lowL (s.data.toList.take k)) s.size))∧Below w.heap.size w wr) (fun i _=>s.size - (intOf i).toNat)
 case atStart=>exact ⟨0,Nat.zero_le _,rfl,hr0,(Below.refl _ _).alloc (Nat.le_refl _) _⟩
 case round =>
  clear hr0;obtain ⟨k,hk,rfl,hr,hb⟩:=hrel;have hlk:Hid ((lowL (s.data.toList.take k)).length=k):=by show _=_; rw [lowL_len,List.length_take,len_data]; omega
  by_cases hlt:k < s.size
  ·have hbd:=u8_bd s[k];obtain ⟨x,hc⟩:∃ x,wr.cell? ⟨w.heap.size,k,none⟩=some x:=⟨_,hr.out.cell k (by rw [filled_len _ _ (by rw [hlk.out]; omega)]; exact hlt)⟩
   have hf:=hr.out.frozen k
   have hr':Hid (RowIs (wr.setCell ⟨w.heap.size,k,none⟩ (.int .u8 (low s[k].toNat))) w.heap.size 5 (filled (lowL (s.data.toList.take (k+1))) s.size)):=by
    have h:=hr.out.set k (.int .u8 (lowb s[k]).toNat);have h2:=filled_set (lowL (s.data.toList.take k)) s.size (lowb s[k]) (by rw [hlk.out]; exact hlt);rw [hlk.out] at h2;rw [h2,lowb_toNat,← lowL_snoc,← take_snoc s k hlt] at h;exact h
   go_wp2_with (go_at_call 107; refine (lower_any _ _ hbd.1 hbd.2).mono ?_; rintro e w' ⟨rfl,rfl⟩)
   go_roundw
   case rel=>exact ⟨k+1,by omega,by go_num,hr',hb.setCell (Nat.le_refl _) _⟩
   case measure=>simp [intOf]; omega
  ·have hta:=take_all s k (by omega);have hr2:=hr.out;rw [hta,filled_full _ _ (by rw [lowL_len,len_data])] at hr2;have hown:=hr2.own w.heap.size s.size (Nat.le_refl _) (by rw [Lib.byteCells_length,lowL_len,len_data]) (by unfold maxLen; omega);have hcv:=conv_own (P:=Tryz.prog) _ Tryz.underlying86 Tryz.underlying5 Tryz.underlying9 hown;clear hta hr2 hown hr hlk;go_wp2;go_ret;exact ⟨rfl,hb⟩
def okc (b:UInt8):Bool:=b==58 || (b==46 || isB b.toNat 4)
def brkB (l:List UInt8):Bool:=decide (4≤l.length) && ((l.getD (l.length - 1) 0==93) && ((mid l 1 (l.length - 1)).all okc && decide (2≤(mid l 1 (l.length - 1)).count 58)))
def labB (p:List UInt8):Bool:=decide (1≤p.length) && (allB 64 p && (!(p.getD 0 0==45) && !(p.getD (p.length - 1) 0==45)))
def hostB (l:List UInt8):Bool:=decide (1≤l.length) && (decide (l.length≤64) && ((lowL l==l) && (if l.getD 0 0=91 then brkB l else (splitL 46 l).all labB)))
def schemeB (l:List UInt8):Bool:=l==[115,105,112] || (l==[115,105,112,115] || l==[112,114,101,115])
theorem host_long {l:List UInt8} (h:64 < l.length):hostB l=false:=by
 have:decide (l.length≤64)=false:=by simp; omega
 unfold hostB; simp [this]
theorem host_caps {l:List UInt8} (h:(lowL l==l)=false):hostB l=false:=by
 unfold hostB; simp only [h,Bool.false_and,Bool.and_false]
theorem host_brk {l:List UInt8} (h1:1≤l.length) (h2:l.length≤64) (h:(lowL l==l)=true) (hb:l.getD 0 0=91):hostB l=brkB l:=by
 unfold hostB; simp only [h,if_pos hb,decide_eq_true h1,decide_eq_true h2,Bool.true_and]
theorem host_lab {l:List UInt8} (h1:1≤l.length) (h2:l.length≤64) (h:(lowL l==l)=true) (hb:¬ l.getD 0 0=91):hostB l=(splitL 46 l).all labB:=by
 unfold hostB; simp only [h,if_neg hb,decide_eq_true h1,decide_eq_true h2,Bool.true_and]
theorem mid_prefix (l:List UInt8) (a k m:Nat) (h:k≤m):∃ r,mid l a m=mid l a k++r:=by
 refine ⟨((l.drop a).take (m - a)).drop (k - a),?_⟩
 unfold mid
 conv=>lhs; rw [← List.take_append_drop (k - a) ((l.drop a).take (m - a))]
 rw [List.take_take,Nat.min_eq_left (by omega)]
theorem brk_bad {s:ByteArray} {k:Nat} (h1:1≤k) (h:k+1 < s.size) (hb:okc s[k]=false):brkB s.data.toList=false:=by
 obtain ⟨r,hr⟩:=mid_prefix s.data.toList 1 (k+1) (s.size - 1) (by omega);unfold brkB;rw [len_data,hr,mid_snoc s 1 k h1 (by omega)]
 simp [hb]
theorem brk_end {s:ByteArray} {k n:Nat} (h4:4≤s.size) (hk:k=s.size - 1) (ha:(mid s.data.toList 1 k).all okc=true) (hn:(mid s.data.toList 1 k).count 58=n) (hl:s.data.toList.getD k 0=93):brkB s.data.toList=decide (2≤n):=by
 subst hk;unfold brkB;rw [len_data,ha,hn,hl]
 simp [h4]
theorem brk_short {s:ByteArray} (h4:¬ 4≤s.size):brkB s.data.toList=false:=by
 unfold brkB; rw [len_data]; simp [h4]
theorem brk_last {s:ByteArray} {k:Nat} (hk:k=s.size - 1) (hl:¬ s.data.toList.getD k 0=93):brkB s.data.toList=false:=by
 subst hk
 have:(s.data.toList.getD (s.size - 1) 0==93)=false:=by simpa using hl
 unfold brkB; rw [len_data,this]; simp
theorem splitL_mem_len (c:UInt8) (l:List UInt8):∀ p ∈ splitL c l,p.length≤l.length:=by
 induction l with
 | nil=>simp [splitL]
 | cons x l ih =>
  obtain ⟨p,ps,hp⟩:=splitL_cons c l;rw [splitL];rw [hp] at ih ⊢
  split
  ·intro q hq;simp only [List.mem_cons] at hq
   rcases hq with rfl | hq
   ·simp
   ·have:=ih q (by simpa using hq); simp; omega
  ·intro q hq;simp only [List.headD_cons,List.tail_cons,List.mem_cons] at hq
   rcases hq with rfl | hq
   ·have:=ih p (by simp); simp; omega
   ·have:=ih q (by simp [hq]); simp; omega
def sameB (a b:List UInt8):Bool:=lowL a==lowL b
def parB (p:Par):Bool:=decide (1≤p.name.length) && (decide (p.name.length≤64) && (decide (p.value.length≤64) && (p.has || p.value.isEmpty)))
def apartB (ps:List Par) (nm:List UInt8):Bool:=ps.all fun q=>!sameB q.name nm
def listGo:List Par → List Par → Bool
 | _,[]=>true
 | before,p :: ps=>parB p && (apartB before p.name && listGo (before++[p]) ps)
def listB (ps:List Par):Bool:=decide (ps.length≤16) && listGo [] ps
def checkV (u:Uri):Int :=
 if schemeB u.scheme=false then 30 else if 64 < u.user.length then 31 else if hostB u.host=false then 32 else if u.port < 0∨65535 < u.port then 33
 else if listB u.params=false then 34 else if listB u.headers=false then 34 else if u.headers.all (·.has)=false then 34 else 0
theorem listGo_at (ps:List Par) (k:Nat) (hk:k < ps.length):listGo (ps.take k) (ps.drop k)=(parB ps[k] && (apartB (ps.take k) ps[k].name && listGo (ps.take (k+1)) (ps.drop (k+1)))):=by
 rw [List.drop_eq_getElem_cons hk,listGo,List.take_succ_eq_append_getElem hk]
def digb (n:Nat):UInt8:=UInt8.ofNat (48+n % 10)
def digL (n:Nat):List UInt8:=if n < 10 then [digb n] else digL (n / 10)++[digb n]
termination_by n
decreasing_by omega
theorem digL_small {n:Nat} (h:n < 10):digL n=[digb n]:=by rw [digL,if_pos h]
theorem digL_big {n:Nat} (h:¬ n < 10):digL n=digL (n / 10)++[digb n]:=by rw [digL,if_neg h]
theorem digb_toNat (n:Nat):((digb n).toNat:Int)=48+(n:Int) % 10:=by
 have h:n % 10 < 10:=Nat.mod_lt _ (by decide);rw [digb,UInt8.toNat_ofNat'];omega
theorem digL_len (a:Nat):∀ n:Nat,n < 10 ^ (a+1) → (digL n).length≤a+1:=by
 induction a with
 | zero=>intro n h; rw [digL_small (by simpa using h)]; simp
 | succ a ih =>
  intro n h;by_cases hn:n < 10
  ·rw [digL_small hn]; simp
  ·rw [digL_big hn,List.length_append]
   have:=ih (n / 10) (by rw [Nat.pow_succ] at h; omega)
   simp; omega
theorem digL_len19 {n:Nat} (h:n≤9223372036854775807):(digL n).length≤19:=digL_len 18 n (by omega)
def room0:Array Value:=(List.replicate 19 (.int .u8 0)).toArray
theorem zero49 (u:World):Sem.run Tryz.prog (zeroValue 123) u=.ok (.agg room0) u:=by kernel_rfl
def tailed (a:Nat) (l:List UInt8):List Value:=List.replicate a (.int .u8 0)++Lib.byteCells l
theorem tailed_len (a:Nat) (l:List UInt8):(tailed a l).length=a+l.length:=by simp [tailed,Lib.byteCells]
theorem tailed_set (a:Nat) (l:List UInt8) (b:UInt8) (ha:1≤a):(tailed a l).set (a - 1) (.int .u8 b.toNat)=tailed (a - 1) (b :: l):=by
 obtain ⟨c,rfl⟩:∃ c,a=c+1:=⟨a - 1,by omega⟩
 have e:c+1 - 1=c:=by omega
 rw [e,tailed,tailed,List.replicate_succ',List.append_assoc,List.set_append_right _ _ (by simp)]
 simp [Lib.byteCells]
theorem room_row (w:World):RowIs (w.alloc (.cells room0 123)) w.heap.size 123 (tailed 19 []):=by
 unfold RowIs;rw [heap_alloc_new]
 rfl
theorem conv_row {P:Program} {w:World} {g e e' src dst a cap:Nat} {l:List UInt8} (hs:P.underlying src=some (.slice e)) (he:P.underlying e=some (.int .u8)) (hd:P.underlying dst=some .string)
  (h:RowIs w g e' (tailed a l)):(convert src dst (.slice (some ⟨g,a,none⟩) l.length cap)).run P w=.ok (.string ⟨l.toArray⟩) w:=by
 refine run_convert_bytes_back w src dst e _ cap l hs he hd fun j hj=>?_
 have hc:=h.cell (a+j) (by rw [tailed_len]; omega)
 have e1:(⟨g,a,none⟩:Addr).add j=⟨g,a+j,none⟩:=by
  unfold Addr.add;by_cases h0:j=0
  ·subst h0; simp
  ·simp [h0]
 rw [e1,hc]
 simp [tailed,List.getElem_append_right,Lib.byteCells]
theorem pow_div {m a:Nat} (h:m < 10 ^ a) (ha:1≤a):m / 10 < 10 ^ (a - 1):=by
 obtain ⟨c,rfl⟩:∃ c,a=c+1:=⟨a - 1,by omega⟩
 rw [Nat.pow_succ] at h;have e:c+1 - 1=c:=by omega
 rw [e]; omega
theorem und49:Tryz.prog.underlying 123=some (.array (Tryz.prog.arrayLen 123) (Tryz.prog.elem 123)):=by kernel_rfl
theorem len49:Tryz.prog.arrayLen 123=19:=by kernel_rfl
theorem elem49:Tryz.prog.elem 123=5:=by kernel_rfl
theorem slice19 (u:World) (B a:Nat) (h1:1≤a) (h2:a≤19) :
  (Instr.sliceAt 123 (.pointer (some ⟨B,0,none⟩)) (some (.int .i64 ((a:Int) - 1))) none none).run Tryz.prog u=.ok (.slice (some ⟨B,a - 1,none⟩) (19 - (a - 1)) (19 - (a - 1))) u:=by
 obtain ⟨i0,hi,hz0,hz1,hz2⟩:=info_parts info5;have h:=run_sliceAt_array_l (P:=Tryz.prog) u 123 ⟨B,0,none⟩ und49 .i64 ((a:Int) - 1) (by omega) (by rw [len49]; omega);have e:((a:Int) - 1).toNat=a - 1:=by omega
 rw [h,elem49,len49,e];have hne:¬ (19=a - 1):=by omega
 simp [sizeOf,typeInfo,hi,hz1,slicedAt,hne,Addr.add]
 omega
set_option maxHeartbeats 600000 in
theorem digits_any (n:Nat) (w:World) (hn:n≤9223372036854775807) :
  Calls Tryz.prog 57 #[.int .i64 n] w fun e w'=>e=.returned (.string ⟨(digL n).toArray⟩)∧Below w.heap.size w w':=by
 have hz49:=zero49;have hr0:Hid (RowIs (w.alloc (.cells room0 123)) w.heap.size 123 (tailed 19 [])):=room_row w;have hp0:Hid (n < 10 ^ 19):=by show _ < _; omega
 go_enter Tryz.func57,Tryz.ntmps57
 go_wp2;clear hz49
 go_loopw [0,4] (fun nn at_ wr=>∃ (a m:Nat) (l:List UInt8),1≤a∧a≤19∧m≤9223372036854775807∧at_=.int .i64 a∧nn=.int .i64 m∧Hid (m < 10 ^ a)∧Hid (a+l.length=19) ∧
   Hid (RowIs wr w.heap.size 123 (tailed a l))∧Below w.heap.size w wr∧Hid (digL n=digL m++l)) (fun _ i _=>(intOf i).toNat)
 case atStart=>exact ⟨19,n,[],by omega,by omega,hn,rfl,rfl,hp0,rfl,hr0,(Below.refl _ _).alloc (Nat.le_refl _) _,show _=_ by simp⟩
 case round =>
  clear hr0 hp0;obtain ⟨a,m,l,ha1,ha2,hm,rfl,rfl,hp,hal,hr,hb,hd⟩:=hrel;have ht1:((a:Int) - 1).toNat=a - 1:=by omega
  obtain ⟨x,hc⟩:∃ x,wr.cell? ⟨w.heap.size,a - 1,none⟩=some x:=⟨_,hr.out.cell (a - 1) (by rw [tailed_len]; omega)⟩
  have hf:=hr.out.frozen (a - 1)
  have hr':Hid (RowIs (wr.setCell ⟨w.heap.size,a - 1,none⟩ (.int .u8 (48+(m:Int) % 10))) w.heap.size 123 (tailed (a - 1) (digb m :: l))):=by
   have h:=hr.out.set (a - 1) (.int .u8 (digb m).toNat);rw [tailed_set a l (digb m) ha1,digb_toNat] at h;exact h
  by_cases hlast:m < 10
  ·have hv:Hid (digL n=digb m :: l):=by show _=_; rw [hd.out,digL_small hlast]; rfl
   have hcv:=conv_row (P:=Tryz.prog) (cap:=(digb m :: l).length) Tryz.underlying86 Tryz.underlying5 Tryz.underlying9 hr'.out;have hll:(digb m :: l).length=19 - (a - 1):=by have:=hal.out; simp; omega
   rw [hll] at hcv;have hq:(m:Int) / 10=0:=by omega
   have hsl:=fun u=>slice19 u w.heap.size a ha1 ha2;clear hll hr hd hp hal;go_wp2;go_ret;exact ⟨by rw [hv.out]; rfl,hb.setCell (Nat.le_refl _) _⟩
  ·have hq:(((m:Int) / 10)==0)=false:=by simp; omega
   have hd':Hid (digL n=digL (m / 10)++(digb m :: l)):=by show _=_; rw [hd.out,digL_big hlast,List.append_assoc]; rfl
   have hp':Hid (m / 10 < 10 ^ (a - 1)):=pow_div hp.out ha1
   have ha':1≤a - 1:=by
    by_cases h1:a=1
    ·have:=hp.out; rw [h1] at this; omega
    ·omega
   have hal':Hid ((a - 1)+(digb m :: l).length=19):=by show _=_; have:=hal.out; simp; omega
   clear hr hd hp hal;go_wp2;go_roundw
   case rel=>exact ⟨a - 1,m / 10,digb m :: l,ha',by omega,by omega,by go_num,by go_num,hp',hal',hr',hb.setCell (Nat.le_refl _) _,hd'⟩
   case measure=>simp [intOf]; omega
def usersK:List UInt8:=[38,61,43,36,44,59,63,47]
def paramsK:List UInt8:=[91,93,47,58,38,43,36]
def headersK:List UInt8:=[91,93,47,63,58,43,36]
def escL (keep l:List UInt8):List UInt8:=esc (kpF keep) l
def pairV (keep:List UInt8) (p:Par):List UInt8:=if p.has=true then escL keep p.name++[61]++escL keep p.value else escL keep p.name
def parsT (ps:List Par):List UInt8:=ps.flatMap fun p=>[59]++pairV paramsK p
def hdrT (ps:List Par):List UInt8:=(ps.zipIdx).flatMap fun (p,i)=>(if i=0 then [63] else [38])++pairV headersK p
def frontT (u:Uri):List UInt8:=u.scheme++[58]++(if u.user=[] then [] else escL usersK u.user++[64])++u.host++(if u.port=0 then [] else [58]++digL u.port.toNat)
def textT (u:Uri):List UInt8:=frontT u++parsT u.params++hdrT u.headers
def printV (u:Uri):List UInt8 × Int:=if checkV u=0 then (textT u,0) else ([],checkV u)
theorem listGo_par (b ps:List Par) (h:listGo b ps=true):∀ p ∈ ps,parB p=true:=by
 induction ps generalizing b with
 | nil=>simp
 | cons q ps ih =>
  rw [listGo,Bool.and_eq_true,Bool.and_eq_true] at h;intro p hp
  rcases List.mem_cons.1 hp with rfl | hp
  ·exact h.1
  ·exact ih _ h.2.2 p hp
theorem listB_ok {ps:List Par} (h:listB ps=true):ps.length≤16∧∀ p ∈ ps,parB p=true:=by
 rw [listB,Bool.and_eq_true] at h;exact ⟨by simpa using h.1,listGo_par [] ps h.2⟩
theorem parB_ok {p:Par} (h:parB p=true):1≤p.name.length∧p.name.length≤64∧p.value.length≤64∧(p.has=true∨p.value=[]):=by
 simp only [parB,Bool.and_eq_true,decide_eq_true_eq,Bool.or_eq_true,List.isEmpty_iff] at h;exact h
theorem hostB_ok {l:List UInt8} (h:hostB l=true):1≤l.length∧l.length≤64:=by
 simp only [hostB,Bool.and_eq_true,decide_eq_true_eq] at h;exact ⟨h.1,h.2.1⟩
theorem schemeB_ok {l:List UInt8} (h:schemeB l=true):l.length≤4:=by
 simp only [schemeB,Bool.or_eq_true,beq_iff_eq] at h
 rcases h with rfl | rfl | rfl <;> decide
theorem check_ok {u:Uri} (h:checkV u=0):schemeB u.scheme=true∧u.user.length≤64∧hostB u.host=true∧0≤u.port∧u.port≤65535∧listB u.params=true∧listB u.headers=true∧u.headers.all (·.has)=true:=by
 unfold checkV at h
 cases e1:schemeB u.scheme
 ·simp [e1] at h
 rw [e1,if_neg (by simp)] at h;by_cases e2:64 < u.user.length
 ·simp [e2] at h
 rw [if_neg e2] at h
 cases e3:hostB u.host
 ·simp [e3] at h
 rw [e3,if_neg (by simp)] at h;by_cases e4:u.port < 0∨65535 < u.port
 ·simp [e4] at h
 rw [if_neg e4] at h
 cases e5:listB u.params
 ·simp [e5] at h
 rw [e5,if_neg (by simp)] at h
 cases e6:listB u.headers
 ·simp [e6] at h
 rw [e6,if_neg (by simp)] at h
 cases e7:u.headers.all (·.has)
 ·simp [e7] at h
 exact ⟨rfl,by omega,rfl,by omega,by omega,rfl,rfl,rfl⟩
def insN (ins:Bool) (x:UInt8):Bool:=if x=93 then false else if x=91 then true else ins
def whereGo:Bool → List UInt8 → Nat
 | _,[]=>0
 | ins,x :: l=>if ins=false∧x=58 then 0 else 1+whereGo (insN ins x) l
def portV (host l:List UInt8) (k:Nat):List UInt8 × Int × Int :=
 if k=l.length then (host,0,0)
 else if (numV 65535 (l.drop (k+1))).2 ≠ 0∨(numV 65535 (l.drop (k+1))).1=0 then ([],0,33) else (host,(numV 65535 (l.drop (k+1))).1,0)
def whereV (l:List UInt8):List UInt8 × Int × Int :=
 if hostB (lowL (l.take (whereGo false l)))=true then portV (lowL (l.take (whereGo false l))) l (whereGo false l) else ([],0,32)
theorem whereGo_le (b:Bool) (l:List UInt8):whereGo b l≤l.length:=by
 induction l generalizing b with
 | nil=>simp [whereGo]
 | cons x l ih =>
  rw [whereGo]
  split
  ·simp
  ·have:=ih (insN b x); simp; omega
def noU:Uri:=⟨[],[],[],0,[],[]⟩
def userV (s:List UInt8):List UInt8 × List UInt8 × Int :=
 if (cutL 64 s).2.2=true then
  (if (writtenV usersK (cutL 64 s).1).2=false∨(writtenV usersK (cutL 64 s).1).1=[]∨64 < (writtenV usersK (cutL 64 s).1).1.length then ([],[],31)
   else ((writtenV usersK (cutL 64 s).1).1,(cutL 64 s).2.1,0))
 else ([],s,0)
def headsV (asked:Bool) (back:List UInt8):Option (List Par):=if asked=true then parsOf headersK (splitL 38 back) else some []
def fillV (w:List UInt8 × Int × Int):Option (List Par) → Option (List Par) → Uri × Int
 | some ps,some hs=>(⟨[],[],w.1,w.2.1,ps,hs⟩,0)
 | _,_=>(noU,34)
def restV (s:List UInt8):Uri × Int :=
 if (whereV ((splitL 59 (cutL 63 s).1).headD [])).2.2 ≠ 0 then (noU,(whereV ((splitL 59 (cutL 63 s).1).headD [])).2.2)
 else fillV (whereV ((splitL 59 (cutL 63 s).1).headD [])) (parsOf paramsK (splitL 59 (cutL 63 s).1).tail) (headsV (cutL 63 s).2.2 (cutL 63 s).2.1)
def endV (u:Uri):Uri × Int:=if checkV u ≠ 0 then (noU,checkV u) else (u,0)
def bothV (sch us:List UInt8) (r:Uri × Int):Uri × Int:=if r.2 ≠ 0 then (noU,r.2) else endV { r.1 with scheme:=sch,user:=us }
def parseV (s:List UInt8):Uri × Int :=
 if (cutL 58 s).2.2=false∨schemeB (lowL (cutL 58 s).1)=false then (noU,30)
 else if (userV (cutL 58 s).2.1).2.2 ≠ 0 then (noU,(userV (cutL 58 s).2.1).2.2)
 else bothV (lowL (cutL 58 s).1) (userV (cutL 58 s).2.1).1 (restV (userV (cutL 58 s).2.1).2.1)
end Go.Proofs.YtldkidljjbkmbaaGreatDoor
