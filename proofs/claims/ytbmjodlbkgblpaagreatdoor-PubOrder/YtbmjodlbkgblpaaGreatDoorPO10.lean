/-
  PubV, StrLib, PsN, PsO, PsP.
-/
import Derived.Test.YtbmjodlbkgblpaaGreatDoorPO09
import Derived.Lib.Bytealg
import Derived.Lib.CountLaws
import Derived.Laws.Entries
import Derived.Deep.Cut
set_option linter.unusedVariables false
set_option linter.unusedSimpArgs false
set_option maxRecDepth 20000
namespace Go.Proofs.YtbmjodlbkgblpaaGreatDoor
open Go.RowKit Sc
section
variable {k : KD} {lA lB l6 l7 : Bool} {xA xB : Value} {w w' : World}
theorem DynD.s6 (h:DynD k lA lB l6 l7 xA xB w) (hk:k.Ok) (hB:lB=true) (h0:l6=false) :
  DynD k lA lB true l7 xA xB ((((((((((w.setCell ⟨k.b6,0,none⟩ (.string ⟨k.S.c.host.toArray⟩)).setCell ⟨k.b6,1,none⟩ (.int .i64 k.S.c.calls)).setCell ⟨k.b6,2,none⟩ (.int .i64 k.S.c.pubs)).setCell ⟨k.b6,3,none⟩ (.int .i64 k.S.c.subs)).setCell ⟨k.b6,4,none⟩ (.int .i64 k.S.c.least)).setCell ⟨k.b6,5,none⟩ (.int .i64 k.S.c.most)).setCell ⟨k.b6,6,none⟩ (.int .i64 k.S.c.usual)).setCell ⟨k.b6,7,none⟩ (.int .i64 k.S.last)).setCell ⟨k.b6,8,none⟩ xA)):=by
 have r6:=h.r6;rw [h0] at r6;have blk:∀ b,b ≠ k.b6 → _:=fun b hb=>set9_block w hb (.string ⟨k.S.c.host.toArray⟩) (.int .i64 k.S.c.calls) (.int .i64 k.S.c.pubs) (.int .i64 k.S.c.subs) (.int .i64 k.S.c.least) (.int .i64 k.S.c.most) (.int .i64 k.S.c.usual) (.int .i64 k.S.last) xA;exact ⟨h.bs.blk (blk _ hk.n63),h.ba.blk (blk _ hk.n65),rc_below9 h.bel k.b6 hk.l6 _ _ _ _ _ _ _ _ _,by rw [set9_size]; exact h.lo,fun e=>own_set9 (h.own0 e) hk.h6 _ _ _ _ _ _ _ _ _,fun e=>own_set9 (h.ownA e) hk.h6 _ _ _ _ _ _ _ _ _,h.eB,rc_store9 r6 _ _ _ _ _ _ _ _ _,RowIs.blk h.r7 (blk _ hk.n67),h.cB,fun _=>hB⟩
theorem DynD.s7 (h:DynD k lA lB l6 l7 xA xB w) (hk:k.Ok) (h0:l7=false) :
  DynD k lA lB l6 true xA xB ((((w.setCell ⟨k.b7,0,none⟩ (.int .i64 k.T.status)).setCell ⟨k.b7,1,none⟩ (.int .i64 k.T.expires)).setCell ⟨k.b7,2,none⟩ (.string ⟨k.T.tag.toArray⟩)).setCell ⟨k.b7,3,none⟩ (.bool k.T.changed)):=by
 have r7:=h.r7;rw [h0] at r7;have blk:∀ b,b ≠ k.b7 → _:=fun b hb=>set4_block w hb (.int .i64 k.T.status) (.int .i64 k.T.expires) (.string ⟨k.T.tag.toArray⟩) (.bool k.T.changed);exact ⟨h.bs.blk (blk _ hk.n73),h.ba.blk (blk _ hk.n75),rc_below4 h.bel k.b7 hk.l7 _ _ _ _,Nat.le_trans h.lo (rc_below4 (Below.refl 0 w) k.b7 (Nat.zero_le _) _ _ _ _).size,fun e=>own_set4 (h.own0 e) hk.h7 _ _ _ _,fun e=>own_set4 (h.ownA e) hk.h7 _ _ _ _,h.eB,RowIs.blk h.r6 (blk _ (Ne.symm hk.n67)),rc_store4 r7 _ _ _ _,h.cB,h.c6⟩
end
theorem idx_cases (l:List UInt8) (c:UInt8):(c ∉ l∧Lib.indexByte l c=-1)∨∃ a b,l=a++c :: b∧c ∉ a∧Lib.indexByte l c=(a.length:Int):=by
 induction l with
 | nil=>exact .inl ⟨by simp,rfl⟩
 | cons x l ih =>
  by_cases h:x=c
  ·subst h; exact .inr ⟨[],l,rfl,by simp,by simp [Lib.indexByte]⟩
  ·have hb:(x==c)=false:=by simpa using h
   rcases ih with ⟨h1,h2⟩ | ⟨a,b,h1,h2,h3⟩
   ·exact .inl ⟨by rw [List.mem_cons,not_or]; exact ⟨fun e=>h e.symm,h1⟩,by simp [Lib.indexByte,hb,h2]⟩
   ·refine .inr ⟨x :: a,b,by rw [h1]; rfl,by rw [List.mem_cons,not_or]; exact ⟨fun e=>h e.symm,h2⟩,?_⟩
    rw [Lib.indexByte,hb,h3]
    have:((a.length:Int)==-1)=false:=by rw [beq_eq_false_iff_ne]; omega
    simp [this]
set_option maxHeartbeats 400000 in
theorem slIndexByte_any (s:ByteArray) (c:UInt8) (w:World) :
  Calls Tryz.prog 155 #[.string s,.int .u8 c.toNat] w fun e w'=>e=.returned (.int .i64 (Lib.indexByte s.data.toList c))∧w'=w:=by
 have hc:(c.toNat:Int).toNat.toUInt8=c:=by simp
 go_enter Tryz.func155,Tryz.ntmps155
 go_wp2;rw [run_callFunc_extern Tryz.func171 (by kernel_rfl) (by kernel_rfl) (by kernel_rfl) (e:=Extern.BytealgIndexByte.indexByte) (by kernel_rfl),Lib.run_indexByteString,hc];simp only [Result.andThen];rw [Oper.upon_value];go_wp2;go_ret;exact ⟨rfl,rfl⟩
set_option maxHeartbeats 400000 in
theorem strIndexByte_any (s:ByteArray) (c:UInt8) (w:World) :
  Calls Tryz.prog 138 #[.string s,.int .u8 c.toNat] w fun e w'=>e=.returned (.int .i64 (Lib.indexByte s.data.toList c))∧w'=w:=by
 go_enter Tryz.func138,Tryz.ntmps138
 go_wp2_with (go_at_call 155; refine (slIndexByte_any _ _ _).mono ?_; rintro e w' ⟨rfl,rfl⟩)
 go_ret;exact ⟨rfl,rfl⟩
set_option maxHeartbeats 1000000 in
theorem slIndex_any (s:ByteArray) (c:UInt8) (w:World) :
  Calls Tryz.prog 137 #[.string s,.string ⟨#[c]⟩] w fun e w'=>e=.returned (.int .i64 (Lib.indexByte s.data.toList c))∧w'=w:=by
 have h0:(ByteArray.mk #[c]).size=1:=rfl;by_cases hs:s=⟨#[c]⟩
 ·subst hs;have hv:Hid (Lib.indexByte (ByteArray.mk #[c]).data.toList c=0):=show _=_ by simp [Lib.indexByte]
  go_enter Tryz.func137,Tryz.ntmps137
  go_wp2;go_ret;exact ⟨ret_int hv.out.symm,rfl⟩
 ·have hne:([c]==s.toList)=false:=by
   rw [beq_eq_false_iff_ne];intro e
   apply hs
   rw [ByteArray.toList_eq] at e
   apply ByteArray.ext
   exact (Array.toList_inj.1 (show s.data.toList=(#[c]:Array UInt8).toList from e.symm))
  go_enter Tryz.func137,Tryz.ntmps137
  go_wp2_with (go_at_call 155; refine (slIndexByte_any _ c _).mono ?_; rintro e w' ⟨rfl,rfl⟩)
  go_ret;exact ⟨rfl,rfl⟩
set_option maxHeartbeats 400000 in
theorem strIndex_any (s:ByteArray) (c:UInt8) (w:World) :
  Calls Tryz.prog 162 #[.string s,.string ⟨#[c]⟩] w fun e w'=>e=.returned (.int .i64 (Lib.indexByte s.data.toList c))∧w'=w:=by
 go_enter Tryz.func162,Tryz.ntmps162
 go_wp2_with (go_at_call 137; refine (slIndex_any _ c _).mono ?_; rintro e w' ⟨rfl,rfl⟩)
 go_ret;exact ⟨rfl,rfl⟩
theorem cut_data (s:ByteArray) {a b:List UInt8} {c:UInt8} (h:s.data.toList=a++c :: b):s.extract 0 a.length=⟨a.toArray⟩∧s.extract (a.length+1) s.size=⟨b.toArray⟩∧s.size=a.length+1+b.length:=by
 have hl:=len_data s;rw [h] at hl
 simp at hl
 refine ⟨?_,?_,by omega⟩
 ·rw [ext_list,h]; simp
 ·rw [ext_list,h,List.drop_append,List.drop_eq_nil_of_le (by omega),← hl];have e:a.length+1 - a.length=1:=by omega
  have e2:a.length+(b.length+1) - (a.length+1)=b.length:=by omega
  rw [e,e2]; simp
set_option maxHeartbeats 1000000 in
theorem slCut_any (s:ByteArray) (c:UInt8) (w:World) (hs:s.size≤9223372036854775807) :
  Calls Tryz.prog 114 #[.string s,.string ⟨#[c]⟩] w fun e w'=>e=.returned (.tuple #[.string ⟨(cutL c s.data.toList).1.toArray⟩,.string ⟨(cutL c s.data.toList).2.1.toArray⟩,.bool (cutL c s.data.toList).2.2])∧∃ q,w'=w.drewN q:=by
 have h0:(ByteArray.mk #[c]).size=1:=rfl
 rcases idx_cases s.data.toList c with ⟨h1,h2⟩ | ⟨a,b,h1,h2,h3⟩
 ·have hv:Hid (cutL c s.data.toList=(s.data.toList,[],false)):=cutL_miss h1;clear h1
  go_enter Tryz.func114,Tryz.ntmps114
  go_wp2_with (go_at_call 137; refine (slIndex_any _ c _).mono ?_; rintro e w' ⟨rfl,rfl⟩; rw [h2])
  go_ret3
  exact ⟨ret_cut hv.out,0,rfl⟩
 ·obtain ⟨e1,e2,e3⟩:=cut_data s h1;have hv:Hid (cutL c s.data.toList=(a,b,true)):=show _=_ by rw [h1]; exact cutL_hit h2
  have E1:Hid _:=e1;rw [e3] at e2;have E2:Hid _:=e2;clear e1 e2 h1 h2;have hk:a.length < s.size:=by omega
  have hwr:IntKind.i64.wrap ((a.length:Int)+1)=((a.length+1:Nat):Int):=by
   simp [IntKind.wrap,IntKind.bits,IntKind.signed]; omega
  go_enter Tryz.func114,Tryz.ntmps114
  go_wp2_with (go_at_call 137; refine (slIndex_any _ c _).mono ?_; rintro e w' ⟨rfl,rfl⟩; rw [h3])
  go_quiet (fail)
  go_wp2;go_ret3
  exact ⟨ret_cut (by rw [hv.out,E1.out,E2.out]),nq,rfl⟩
set_option maxHeartbeats 400000 in
theorem strCut_any (s:ByteArray) (c:UInt8) (w:World) (hs:s.size≤9223372036854775807) :
  Calls Tryz.prog 94 #[.string s,.string ⟨#[c]⟩] w fun e w'=>e=.returned (.tuple #[.string ⟨(cutL c s.data.toList).1.toArray⟩,.string ⟨(cutL c s.data.toList).2.1.toArray⟩,.bool (cutL c s.data.toList).2.2])∧∃ q,w'=w.drewN q:=by
 go_enter Tryz.func94,Tryz.ntmps94
 go_wp2_with (go_at_call 114; refine (slCut_any _ c _ hs).mono ?_; rintro e w' ⟨rfl,q,rfl⟩)
 go_ret3
 exact ⟨rfl,q,rfl⟩
set_option maxHeartbeats 400000 in
theorem strCount_any (s:ByteArray) (c:UInt8) (w:World) :
  Calls Tryz.prog 161 #[.string s,.string ⟨#[c]⟩] w fun e w'=>e=.returned (.int .i64 (Lib.countByte s.data.toList c))∧w'=w:=by
 have h0:(ByteArray.mk #[c]).size=1:=rfl
 go_enter Tryz.func161,Tryz.ntmps161
 go_wp2;rw [run_callFunc_extern Tryz.func175 (by kernel_rfl) (by kernel_rfl) (by kernel_rfl) (e:=Extern.BytealgCount.count) (by kernel_rfl),Lib.run_countString];simp only [Result.andThen];rw [Oper.upon_value];go_wp2;go_ret;exact ⟨rfl,rfl⟩
def startsB (c:UInt8) (l:List UInt8):Bool:=l.getD 0 0==c
def endsB (c:UInt8) (l:List UInt8):Bool:=l.getD (l.length - 1) 0==c
set_option maxHeartbeats 400000 in
theorem slPrefix_any (s:ByteArray) (c:UInt8) (w:World) (h0c:(0==c)=false) :
  Calls Tryz.prog 147 #[.string s,.string ⟨#[c]⟩] w fun e w'=>e=.returned (.bool (startsB c s.data.toList))∧w'=w:=by
 have h0:(ByteArray.mk #[c]).size=1:=rfl;by_cases hs:1≤s.size
 ·have e1:Hid ((s.extract 0 1).toList=[s.data.toList.getD 0 0]):=show _=_ by
   rw [ByteArray.toList_eq,ext_list];have hl:=len_data s
   cases hd:s.data.toList with
   | nil=>rw [hd] at hl; simp at hl; omega
   | cons x l=>simp
  go_enter Tryz.func147,Tryz.ntmps147
  go_wp2;go_ret;refine ⟨ret_bool ?_,rfl⟩
  rw [e1.out,startsB]
  simp
 ·have hl:Hid (startsB c s.data.toList=false):=show _=_ by
   rw [List.eq_nil_of_length_eq_zero (l:=s.data.toList) (by rw [len_data]; omega)]; exact h0c
  go_enter Tryz.func147,Tryz.ntmps147
  go_wp2;go_ret;exact ⟨ret_bool hl.out.symm,rfl⟩
set_option maxHeartbeats 400000 in
theorem strPrefix_any (s:ByteArray) (c:UInt8) (w:World) (h0c:(0==c)=false) :
  Calls Tryz.prog 143 #[.string s,.string ⟨#[c]⟩] w fun e w'=>e=.returned (.bool (startsB c s.data.toList))∧w'=w:=by
 go_enter Tryz.func143,Tryz.ntmps143
 go_wp2_with (go_at_call 147; refine (slPrefix_any _ c _ h0c).mono ?_; rintro e w' ⟨rfl,rfl⟩)
 go_ret;exact ⟨rfl,rfl⟩
set_option maxHeartbeats 400000 in
theorem slSuffix_any (s:ByteArray) (c:UInt8) (w:World) (h0c:(0==c)=false) (hs:s.size≤9223372036854775807) :
  Calls Tryz.prog 176 #[.string s,.string ⟨#[c]⟩] w fun e w'=>e=.returned (.bool (endsB c s.data.toList))∧w'=w:=by
 have h0:(ByteArray.mk #[c]).size=1:=rfl;by_cases hs:1≤s.size
 ·have e1:Hid ((s.extract (s.size - 1) s.size).toList=[s.data.toList.getD (s.size - 1) 0]):=show _=_ by
   rw [ByteArray.toList_eq,ext_list];have hl:=len_data s;have e:s.size - (s.size - 1)=1:=by omega
   rw [e,List.drop_eq_getElem_cons (by omega),List.getD_eq_getElem?_getD,List.getElem?_eq_getElem (by omega)]
   simp
  have hwr:IntKind.i64.wrap ((s.size:Int) - 1)=((s.size - 1:Nat):Int):=by
   simp [IntKind.wrap,IntKind.bits,IntKind.signed]; omega
  go_enter Tryz.func176,Tryz.ntmps176
  go_wp2;go_ret;refine ⟨ret_bool ?_,rfl⟩
  rw [e1.out,endsB,len_data]
  simp
 ·have hl:Hid (endsB c s.data.toList=false):=show _=_ by
   rw [List.eq_nil_of_length_eq_zero (l:=s.data.toList) (by rw [len_data]; omega)]; exact h0c
  go_enter Tryz.func176,Tryz.ntmps176
  go_wp2;go_ret;exact ⟨ret_bool hl.out.symm,rfl⟩
set_option maxHeartbeats 400000 in
theorem strSuffix_any (s:ByteArray) (c:UInt8) (w:World) (h0c:(0==c)=false) (hs:s.size≤9223372036854775807) :
  Calls Tryz.prog 163 #[.string s,.string ⟨#[c]⟩] w fun e w'=>e=.returned (.bool (endsB c s.data.toList))∧w'=w:=by
 go_enter Tryz.func163,Tryz.ntmps163
 go_wp2_with (go_at_call 176; refine (slSuffix_any _ c _ h0c hs).mono ?_; rintro e w' ⟨rfl,rfl⟩)
 go_ret;exact ⟨rfl,rfl⟩
end Go.Proofs.YtbmjodlbkgblpaaGreatDoor
namespace Go.Proofs.YtbmjodlbkgblpaaGreatDoor
open Go.RowKit Go.Maps Go.WideMaps Sc
theorem clonep (l:List UInt8) (w:World) (hl:l.length≤281474976710656) :
  Calls Tryz.prog 24 #[.string ⟨l.toArray⟩] w fun e w'=>e=.returned (.string ⟨l.toArray⟩)∧Below w.heap.size w w':=sclone_any ⟨l.toArray⟩ w (by rw [sp_size]; omega)
theorem row_other {w:World} {b g:Nat} {e:TypeId} {l:List Value} (h:RowIs w g e l) (hne:g ≠ b) (j:Nat) (v:Value):RowIs (w.setCell ⟨b,j,none⟩ v) g e l:=RowIs.blk h (Below.heap_setCell _ ⟨b,j,none⟩ _ _ hne)
theorem rows_neP {w:World} {B1 B2 e1 e2 s1 s2 n1 n2:Nat} {v1 v2:Value} {x1 x2:List Value} (h1:w.ownsRow B1 e1 s1 v1 n1 x1) (h2:w.ownsRow B2 e2 s2 v2 n2 x2) (hne:e2 ≠ e1):v2.ownBlock=none∨v2.ownBlock ≠ v1.ownBlock:=by
 rcases h2.2 with ⟨rfl,_⟩ | ⟨g2,c2,u2,rfl,_,hg2,_⟩
 ·exact Or.inl rfl
 ·right
  rcases h1.2 with ⟨rfl,_⟩ | ⟨g1,c1,u1,rfl,_,hg1,_⟩
  ·simp [Value.ownBlock]
  ·simp only [Value.ownBlock];intro e
   injection e with e
   rw [e,hg1] at hg2
   injection hg2 with hg2
   injection hg2 with _ hg2
   exact hne hg2.symm
structure CT (w u:World) (t:Tu):Prop where
 s:RowIs u w.heap.size 89 (tuCells t)
 r:RowIs u (w.heap.size+1) 89 [.string ⟨#[]⟩,.bool false,.string ⟨#[]⟩,.int .i64 0,.string ⟨#[]⟩]
 b:Below w.heap.size w u
theorem CT.step {w u u':World} {t:Tu} (h:CT w u t) (hb:Below u.heap.size u u'):CT w u' t :=
 ⟨h.s.below hb h.s.bl,h.r.below hb h.r.bl,h.b.trans (hb.mono h.b.size)⟩
theorem CT.set0 {w u:World} {t:Tu} (h:CT w u t):CT w (u.setCell ⟨w.heap.size,0,none⟩ (.string ⟨t.id.toArray⟩)) t :=
 ⟨by have:=h.s.set 0 (.string ⟨t.id.toArray⟩); simpa [tuCells] using this,row_other h.r (by omega) _ _,h.b.setCell (Nat.le_refl _) _⟩
theorem CT.set2 {w u:World} {t:Tu} (h:CT w u t):CT w (u.setCell ⟨w.heap.size,2,none⟩ (.string ⟨t.contact.toArray⟩)) t :=
 ⟨by have:=h.s.set 2 (.string ⟨t.contact.toArray⟩); simpa [tuCells] using this,row_other h.r (by omega) _ _,h.b.setCell (Nat.le_refl _) _⟩
theorem CT.set4 {w u:World} {t:Tu} (h:CT w u t):CT w (u.setCell ⟨w.heap.size,4,none⟩ (.string ⟨t.note.toArray⟩)) t :=
 ⟨by have:=h.s.set 4 (.string ⟨t.note.toArray⟩); simpa [tuCells] using this,row_other h.r (by omega) _ _,h.b.setCell (Nat.le_refl _) _⟩
set_option maxHeartbeats 4000000 in
set_option maxRecDepth 100000 in
theorem pcopytu_any (t:Tu) (w:World) (hs:SmallT 140737488355328 t) :
  Calls Tryz.prog 40 #[tuV t] w fun e w'=>e=.returned (tuV t)∧Below w.heap.size w w':=by
 obtain ⟨h1,h2,h3,_⟩:=hs;have hs0:=rc_row5 w (.string ⟨t.id.toArray⟩) (.bool t.opn) (.string ⟨t.contact.toArray⟩) (.int .i64 t.prio) (.string ⟨t.note.toArray⟩) 89;have hb0:Below w.heap.size w (w.alloc (.cells #[.string ⟨t.id.toArray⟩,.bool t.opn,.string ⟨t.contact.toArray⟩,.int .i64 t.prio,.string ⟨t.note.toArray⟩] 89)):=(Below.refl _ w).alloc (Nat.le_refl _) _;have e0:(w.alloc (.cells #[.string ⟨t.id.toArray⟩,.bool t.opn,.string ⟨t.contact.toArray⟩,.int .i64 t.prio,.string ⟨t.note.toArray⟩] 89)).heap.size=w.heap.size+1:=by simp
 generalize hw0:w.alloc (.cells #[.string ⟨t.id.toArray⟩,.bool t.opn,.string ⟨t.contact.toArray⟩,.int .i64 t.prio,.string ⟨t.note.toArray⟩] 89)=w0 at hb0 hs0 e0;have hr1:=rc_row5 w0 (.string ⟨#[]⟩) (.bool false) (.string ⟨#[]⟩) (.int .i64 0) (.string ⟨#[]⟩) 89;have hb1:Below w0.heap.size w0 (w0.alloc (.cells #[.string ⟨#[]⟩,.bool false,.string ⟨#[]⟩,.int .i64 0,.string ⟨#[]⟩] 89)):=(Below.refl _ w0).alloc (Nat.le_refl _) _;generalize hw1:w0.alloc (.cells #[.string ⟨#[]⟩,.bool false,.string ⟨#[]⟩,.int .i64 0,.string ⟨#[]⟩] 89)=w1 at hb1 hr1;rw [e0] at hr1;have HI:Hid (CT w w1 t):=⟨hs0.below hb1 hs0.bl,hr1,hb0.trans (hb1.mono hb0.size)⟩
 have K1:=hid (fun (u:World)=>clonep t.id u (by omega));have K2:=hid (fun (u:World)=>clonep t.contact u (by omega));have K3:=hid (fun (u:World)=>clonep t.note u (by omega));obtain ⟨s0,s1,s2,s3,s4,g0,g1,g2,g3,g4⟩:=HI.out.s.rc5;clear hr1 hb0 hb1 hs0 h1 h2 h3
 go_enter Tryz.func40,Tryz.ntmps40
 unfold tuV;go_wp2_with fail
 refine (K1.out _).mono ?_
 rintro e w2 ⟨rfl,hb2⟩;replace HI:=hid (HI.out.step hb2);clear s0 s1 s2 s3 s4 g0 g1 g2 g3 g4 hb2;obtain ⟨s0,s1,s2,s3,s4,g0,g1,g2,g3,g4⟩:=HI.out.s.rc5;go_wp2_with fail
 refine (K2.out _).mono ?_
 rintro e w3 ⟨rfl,hb3⟩;replace HI:=hid (HI.out.set0.step hb3);clear s0 s1 s2 s3 s4 g0 g1 g2 g3 g4 hb3;obtain ⟨s0,s1,s2,s3,s4,g0,g1,g2,g3,g4⟩:=HI.out.s.rc5;go_wp2_with fail
 refine (K3.out _).mono ?_
 rintro e w4 ⟨rfl,hb4⟩;replace HI:=hid (HI.out.set2.step hb4);clear s0 s1 s2 s3 s4 g0 g1 g2 g3 g4 hb4;obtain ⟨s0,s1,s2,s3,s4,g0,g1,g2,g3,g4⟩:=HI.out.s.rc5
 go_upto_region 4 with fail
 replace HI:=hid (HI.out.set4);clear s0 s1 s2 s3 s4 g0 g1 g2 g3 g4;generalize World.setCell _ _ _=wA at HI ⊢;obtain ⟨s0,s1,s2,s3,s4,g0,g1,g2,g3,g4⟩:=HI.out.s.rc5;obtain ⟨z0,z1,z2,z3,z4,y0,y1,y2,y3,y4⟩:=HI.out.r.rc5;have KEEP:=hid (And.intro (rc_store5 HI.out.r (.string ⟨t.id.toArray⟩) (.bool t.opn) (.string ⟨t.contact.toArray⟩) (.int .i64 t.prio) (.string ⟨t.note.toArray⟩)) (rc_below5 HI.out.b (w.heap.size+1) (by omega) (.string ⟨t.id.toArray⟩) (.bool t.opn) (.string ⟨t.contact.toArray⟩) (.int .i64 t.prio) (.string ⟨t.note.toArray⟩)));clear HI;go_wp2;generalize World.setCell _ _ _=wB at KEEP ⊢;obtain ⟨hrA,hbA⟩:=KEEP.out;obtain ⟨d0,d1,d2,d3,d4,_,_,_,_,_⟩:=hrA.rc5
 try simp only [Exit.inBlock,Exit.then]
 refine bodyPost_ret (v:=.agg #[.string ⟨t.id.toArray⟩,.bool t.opn,.string ⟨t.contact.toArray⟩,.int .i64 t.prio,.string ⟨t.note.toArray⟩]) (by simp [results,Tryz.results40,go_sem,d0,d1,d2,d3,d4]; try rfl) rfl ?_
 exact ⟨rfl,hbA⟩
theorem step_appTu {P:Program} {ops:Array Oper} {o:Oper} {a:Act} {w:World} {K:Act → World → Prop} {Q:Exit → Act → World → Prop} {E:Prop} (hgd:o.guard=none)
  (s x:Operand) (t:TypeId) (ho:o.op=Op.call { callee:=Callee.builtin Builtin.append,args:=#[s,x],argTypes:=#[t,t] }) (B:Nat) (i:TypeInfo)
  (z:Value) (ht:P.underlying t=some (TypeDesc.slice 89)) (hi:P.info? 89=some i) (hz:i.zero=some z) (hsize:i.size=5) (hby:i.bytes=64) (hzs:z.cells.size=5)
  (v:Value) (ts:List Tu) (hs:a.eval s=v) (hown:OwnU w B v ts) (ad:Addr) (k:Nat) (c:Tu) (hx:a.eval x=Value.slice (some ad) 1 k)
  (hnews:∀ (j:Nat) (u:Value),(tuCells c)[j]? = some u → w.cell? (ad.add j)=some u)
  (hlen:ts.length≤2000000) (hB:B≤w.heap.size)
  (h:∀ (v':Value) (w':World),OwnU w' B v' (ts++[c]) → w.grownBy w' v.ownBlock → K (a.put o.dst v') w'):if Region.wanted o (yielded ops a.tmps)=true then Oper.wp P o a w K Q else E:=by
 have hw:Region.wanted o (yielded ops a.tmps)=true:=by simp [Region.wanted,hgd]
 rw [if_pos hw];obtain ⟨v',w',hrun,r1,hgr,_,hat⟩:=run_append_own_at (P:=P) w B t o.type 89 i z 5 64 ht hi hz hsize hby hzs (by decide) v ts.length (tusCells ts) hown ad 1 k (tuCells c) rfl hnews
  (by intro u hu; simp [tuCells] at hu; rcases hu with rfl | rfl | rfl | rfl | rfl <;> rfl) (by unfold maxLen; omega) (by omega) hB
 unfold Oper.wp
 simp [execOp,ho,resolve,invoke,builtin,hs,hx,hrun,Result.andThen]
 refine h v' w' ?_ hgr
 have e:tusCells (ts++[c])=tusCells ts++tuCells c:=by simp [tusCells]
 unfold OwnU;rw [e,List.length_append];exact r1
theorem step_appS {P:Program} {ops:Array Oper} {o:Oper} {a:Act} {w:World} {K:Act → World → Prop} {Q:Exit → Act → World → Prop} {E:Prop} (hgd:o.guard=none)
  (s x:Operand) (t:TypeId) (ho:o.op=Op.call { callee:=Callee.builtin Builtin.append,args:=#[s,x],argTypes:=#[t,t] }) (B:Nat) (e:TypeId) (i:TypeInfo)
  (z:Value) (bytes:Nat) (ht:P.underlying t=some (TypeDesc.slice e)) (hi:P.info? e=some i) (hz:i.zero=some z) (hsize:i.size=1) (hby:i.bytes=bytes) (hzs:z.cells.size=1)
  (v:Value) (xs:List Value) (hs:a.eval s=v) (hown:Own w B e v xs) (ad:Addr) (m:Nat) (c:Nat) (news:List Value) (hx:a.eval x=Value.slice (some ad) m c) (hl:news.length=m)
  (hnews:∀ (j:Nat) (u:Value),news[j]? = some u → w.cell? (ad.add j)=some u) (h1:∀ u ∈ news,u.oneCell'=true)
  (h63:xs.length+m≤maxLen) (hbytes:(xs.length+m) * bytes≤140737488355328) (hB:B≤w.heap.size)
  (h:∀ (v':Value) (w':World),Own w' B e v' (xs++news) → w.grownBy w' v.ownBlock → K (a.put o.dst v') w') :
  if Region.wanted o (yielded ops a.tmps)=true then Oper.wp P o a w K Q else E:=by
 have hw:Region.wanted o (yielded ops a.tmps)=true:=by simp [Region.wanted,hgd]
 rw [if_pos hw];obtain ⟨v',w',hrun,r1,hgr,_⟩:=run_append_own (P:=P) w B t o.type e i z 1 bytes ht hi hz hsize hby hzs (by decide) v xs.length xs hown ad m c news (by simpa using hl) hnews h1 h63 hbytes hB;unfold Oper.wp
 simp [execOp,ho,resolve,invoke,builtin,hs,hx,hrun,Result.andThen]
 refine h v' w' ?_ hgr
 unfold Own;rw [List.length_append,hl];exact r1
theorem tu_newP (W:World) (x:Tu) (g:Nat) (hg:g=W.heap.size):∀ (j:Nat) (u:Value),(tuCells x)[j]? = some u → (W.alloc (.cells #[.string ⟨x.id.toArray⟩,.bool x.opn,.string ⟨x.contact.toArray⟩,.int .i64 x.prio,.string ⟨x.note.toArray⟩] 89)).cell? ((⟨g,0,none⟩:Addr).add j)=some u:=by
 intro j u hj;subst hg;have e:(⟨W.heap.size,0,none⟩:Addr).add j=⟨W.heap.size,j,none⟩:=by unfold Addr.add; split <;> simp_all
 rw [e];unfold World.cell?;rw [heap_alloc_new]
 simpa [tuCells] using hj
structure CD (w:World) (b3 B:Nat) (en:List UInt8) (ts ns va vn:Value) (L1:List Tu) (L2:List (List UInt8)) (u:World):Prop where
 s:RowIs u w.heap.size 35 [.string ⟨en.toArray⟩,ts,ns]
 r:RowIs u (w.heap.size+1) 35 [.string ⟨#[]⟩,.slice none 0 0,.slice none 0 0]
 c:RowIs u b3 35 [.string ⟨en.toArray⟩,va,vn]
 o1:OwnU u B va L1
 o2:Own u B 9 vn (strs L2)
 b:Below w.heap.size w u
 l3:w.heap.size+1 < b3
 lB:b3 < B
 lo:B≤u.heap.size
section
variable {w : World} {b3 B : Nat} {en : List UInt8} {ts ns va vn : Value} {L1 : List Tu} {L2 : List (List UInt8)} {u u' : World}
theorem CD.step (h:CD w b3 B en ts ns va vn L1 L2 u) (hb:Below u.heap.size u u'):CD w b3 B en ts ns va vn L1 L2 u' :=
 ⟨h.s.below hb h.s.bl,h.r.below hb h.r.bl,h.c.below hb h.c.bl,h.o1.below hb,h.o2.below hb,h.b.trans (hb.mono h.b.size),h.l3,h.lB,Nat.le_trans h.lo hb.size⟩
theorem own_ge {w:World} {B e s n:Nat} {v:Value} {xs:List Value} (h:w.ownsRow B e s v n xs):∀ g,v.ownBlock=some g → B≤g:=fun g e=>(World.ownsRow.lt h g e).1
theorem CD.mid (h:CD w b3 B en ts ns va vn L1 L2 u) (hg:u.grownBy u' va.ownBlock):RowIs u' b3 35 [.string ⟨en.toArray⟩,va,vn] :=
 h.c.gr hg fun e=>by have:=own_ge h.o1 b3 e; have:=h.lB; omega
theorem CD.put1 (h:CD w b3 B en ts ns va vn L1 L2 u) (hg:u.grownBy u' va.ownBlock) {va':Value} {L:List Tu} (ho:OwnU u' B va' L):CD w b3 B en ts ns va' vn L L2 (u'.setCell ⟨b3,1,none⟩ va'):=by
 have hge:=own_ge h.o1;have ne:∀ b,b < B → va.ownBlock ≠ some b:=fun b hb e=>by have:=hge b e; omega
 have l3:=h.l3;have lB:=h.lB;refine ⟨row_other (h.s.gr hg (ne _ (by omega))) (by omega) _ _,row_other (h.r.gr hg (ne _ (by omega))) (by omega) _ _,?_,ownsRow_setCell_below (a:=⟨b3,1,none⟩) ho lB _,ownsRow_setCell_below (a:=⟨b3,1,none⟩) (World.ownsRow.kept h.o2 hg (rows_neP h.o1 h.o2 (by decide))) lB _,(h.b.grown hg h.b.size (fun g e=>by have:=hge g e; omega)).setCell (show w.heap.size≤(⟨b3,1,none⟩:Addr).block by simp only; omega) _,l3,lB,?_⟩
 ·have:=(h.c.gr hg (ne _ lB)).set 1 va'
  simpa using this
 ·have h1:=(Below.refl 0 u').setCell (p:=⟨b3,1,none⟩) (Nat.zero_le _) va';exact Nat.le_trans h.lo (Nat.le_trans hg.size h1.size)
theorem CD.mid2 (h:CD w b3 B en ts ns va vn L1 L2 u) (hg:u.grownBy u' vn.ownBlock):RowIs u' b3 35 [.string ⟨en.toArray⟩,va,vn] :=
 h.c.gr hg fun e=>by have:=own_ge h.o2 b3 e; have:=h.lB; omega
theorem CD.put2 (h:CD w b3 B en ts ns va vn L1 L2 u) (hg:u.grownBy u' vn.ownBlock) {vn':Value} {L:List (List UInt8)} (ho:Own u' B 9 vn' (strs L)):CD w b3 B en ts ns va vn' L1 L (u'.setCell ⟨b3,2,none⟩ vn'):=by
 have hge:=own_ge h.o2;have ne:∀ b,b < B → vn.ownBlock ≠ some b:=fun b hb e=>by have:=hge b e; omega
 have l3:=h.l3;have lB:=h.lB;refine ⟨row_other (h.s.gr hg (ne _ (by omega))) (by omega) _ _,row_other (h.r.gr hg (ne _ (by omega))) (by omega) _ _,?_,ownsRow_setCell_below (a:=⟨b3,2,none⟩) (World.ownsRow.kept h.o1 hg (rows_neP h.o2 h.o1 (by decide))) lB _,ownsRow_setCell_below (a:=⟨b3,2,none⟩) ho lB _,(h.b.grown hg h.b.size (fun g e=>by have:=hge g e; omega)).setCell (show w.heap.size≤(⟨b3,2,none⟩:Addr).block by simp only; omega) _,l3,lB,?_⟩
 ·have:=(h.c.gr hg (ne _ lB)).set 2 vn'
  simpa using this
 ·have h1:=(Below.refl 0 u').setCell (p:=⟨b3,2,none⟩) (Nat.zero_le _) vn';exact Nat.le_trans h.lo (Nat.le_trans hg.size h1.size)
end
theorem own_lower {w:World} {B C e s n:Nat} {v:Value} {xs:List Value} (h:w.ownsRow B e s v n xs) (hc:C≤B):w.ownsRow C e s v n xs:=by
 obtain ⟨h1,h2⟩:=h;refine ⟨h1,?_⟩
 rcases h2 with h2 | ⟨g,cap,cur,hv,hg,r⟩
 ·exact Or.inl h2
 ·exact Or.inr ⟨g,cap,cur,hv,Nat.le_trans hc hg,r⟩
theorem own_formP {w:World} {B:Nat} {e:TypeId} {v:Value} {xs:List Value} (h:Own w B e v xs):∃ a cap,v=.slice a xs.length cap:=by
 rcases h.2 with ⟨rfl,hn⟩ | ⟨g,cap,cur,rfl,_⟩
 ·exact ⟨none,0,by rw [hn]⟩
 ·exact ⟨_,cap,rfl⟩
set_option maxHeartbeats 4000000 in
set_option maxRecDepth 100000 in
theorem pcopydoc_any (d:Dc) (ts ns:Value) (w:World) (hsm:SmallD 140737488355328 d) (hl1:d.tuples.length≤1000000) (hl2:d.notes.length≤1000000) (hts:TusAt w ts d.tuples) (hns:StrsAt w ns d.notes) :
  Calls Tryz.prog 25 #[docV d ts ns] w fun e w'=>∃ ts' ns',e=.returned (docV d ts' ns')∧OwnU w' w.heap.size ts' d.tuples∧Own w' w.heap.size 9 ns' (strs d.notes)∧Below w.heap.size w w':=by
 obtain ⟨i1,hj,hy0,hy1,hy2⟩:=info_parts infoTup;obtain ⟨i2,hk2,hv0,hv1,hv2⟩:=info_parts infoStrU;obtain ⟨en,tl,nl⟩:=d;obtain ⟨ze,_,_,hst,hsn⟩:=hsm;simp only at ze hst hsn hl1 hl2 hts hns;obtain ⟨ta,tc,rfl,htc⟩:=hts;obtain ⟨na,nc,rfl,hnc⟩:=hns;have HTC:=hid htc;have HNC:=hid hnc;have HST:=hid hst;have HSN:=hid hsn;clear htc hnc hst hsn;obtain ⟨n1,hn1⟩:∃ n,n=tl.length:=⟨_,rfl⟩
 obtain ⟨n2,hn2⟩:∃ n,n=nl.length:=⟨_,rfl⟩
 unfold docV
 simp only
 rw [← hn1,← hn2];rw [← hn1] at hl1;rw [← hn2] at hl2;have HN1:=hid hn1;have HN2:=hid hn2;clear hn1 hn2;have hs0:=rc_row3 w (.string ⟨en.toArray⟩) (.slice ta n1 tc) (.slice na n2 nc) 35;have hb0:Below w.heap.size w (w.alloc (.cells #[.string ⟨en.toArray⟩,.slice ta n1 tc,.slice na n2 nc] 35)):=(Below.refl _ w).alloc (Nat.le_refl _) _;have e0:(w.alloc (.cells #[.string ⟨en.toArray⟩,.slice ta n1 tc,.slice na n2 nc] 35)).heap.size=w.heap.size+1:=by simp
 generalize hw0:w.alloc (.cells #[.string ⟨en.toArray⟩,.slice ta n1 tc,.slice na n2 nc] 35)=w0 at hb0 hs0 e0;have hr1:=rc_row3 w0 (.string ⟨#[]⟩) (.slice none 0 0) (.slice none 0 0) 35;have hb1:Below w0.heap.size w0 (w0.alloc (.cells #[.string ⟨#[]⟩,.slice none 0 0,.slice none 0 0] 35)):=(Below.refl _ w0).alloc (Nat.le_refl _) _;have e1:(w0.alloc (.cells #[.string ⟨#[]⟩,.slice none 0 0,.slice none 0 0] 35)).heap.size=w.heap.size+2:=by simp [e0]
 generalize hw1:w0.alloc (.cells #[.string ⟨#[]⟩,.slice none 0 0,.slice none 0 0] 35)=w1 at hb1 hr1 e1;rw [e0] at hr1;have K1:=hid (fun (u:World)=>clonep en u (by omega));have hs1:=hs0.below hb1 hs0.bl;have hb01:=hb0.trans (hb1.mono hb0.size);have C0:=hid (fun (u:World) (hu:Below w1.heap.size w1 u)=>(⟨(hs1.below hu hs1.bl).below ((Below.refl _ u).alloc (Nat.le_refl _) _) (by have:=hu.size; omega),(hr1.below hu hr1.bl).below ((Below.refl _ u).alloc (Nat.le_refl _) _) (by have:=hu.size; omega),rc_row3 u _ _ _ _,OwnU.nil _ _,Own.nil _ _ _,(hb01.trans (hu.mono hb01.size)).alloc (by have:=hu.size; omega) _,by have:=hu.size; omega,Nat.lt_succ_self _,by simp⟩:CD w u.heap.size (u.heap.size+1) en (.slice ta n1 tc) (.slice na n2 nc) (.slice none 0 0) (.slice none 0 0) [] [] (u.alloc (.cells #[.string ⟨en.toArray⟩,.slice none 0 0,.slice none 0 0] 35))));obtain ⟨s0,s1,s2,f0,f1,f2⟩:=hs1.rc3;clear hs0 hs1 hb0 hb1 hr1 hb01
 go_enter Tryz.func25,Tryz.ntmps25
 go_wp2_with fail
 refine (K1.out _).mono ?_
 rintro e w2 ⟨rfl,hb2⟩;have C1:=hid (C0.out w2 hb2);clear C0 K1 s0 s1 s2 f0 f1 f2 hw0 hw1 hb2
 go_upto_region 2 with fail
 obtain ⟨b3,hb3⟩:∃ b3,b3=w2.heap.size:=⟨_,rfl⟩
 rw [← hb3] at C1 ⊢;generalize World.alloc _ _=W3 at C1 ⊢;clear hb3;obtain ⟨s0,s1,s2,f0,f1,f2⟩:=C1.out.s.rc3;go_wp2
 go_loopw [15] (fun i wr=>∃ (k:Nat) (va:Value),k≤n1∧i=.int .i64 k∧Hid (CD w b3 (b3+1) en (.slice ta n1 tc) (.slice na n2 nc) va (.slice none 0 0) (tl.take k) [] wr)) (fun i _=>n1 - (intOf i).toNat)
 case atStart=>exact ⟨0,_,by omega,rfl,C1⟩
 case round =>
  obtain ⟨k,va,hk,rfl,hM⟩:=hrel;clear C1 s0 s1 s2 f0 f1 f2;by_cases hlt:k < n1
  ·have hlt':(k:Int) < n1:=by omega
   have hkl:k < tl.length:=by rw [← HN1.out]; exact hlt
   obtain ⟨ad,rfl,hab,cel0⟩:=HTC.out k hkl;have cel:=cel0.below hM.out.b hab;clear cel0;have KT:=hid (fun u=>pcopytu_any tl[k] u (HST.out _ (List.getElem_mem hkl)));have htk:=hid (List.take_succ_eq_append_getElem hkl);have hll:(tl.take k).length≤1000000:=by rw [List.length_take]; omega
   have HLK:Hid ((tl.take k).length=k):=hid (by rw [List.length_take]; omega);generalize tl.take k=L0 at hM htk hll HLK;generalize tl[k]=t at cel KT htk;have cel':=cel;obtain ⟨c0,c1,c2,c3,c4⟩:=cel;obtain ⟨oa,cap,hva⟩:=hM.out.o1.form;have hlk:=HLK.out;rw [hlk] at hva;subst hva;clear hlk
   go_upto_region 5 with fail
   have HA:=hid (hM.out.step ((Below.refl _ wr).alloc (Nat.le_refl _) (.cells #[.string ⟨t.id.toArray⟩,.bool t.opn,.string ⟨t.contact.toArray⟩,.int .i64 t.prio,.string ⟨t.note.toArray⟩] 89)));have HT:=rc_row5 wr (.string ⟨t.id.toArray⟩) (.bool t.opn) (.string ⟨t.contact.toArray⟩) (.int .i64 t.prio) (.string ⟨t.note.toArray⟩) 89;clear c0 c1 c2 c3 c4 cel' hM;generalize World.alloc wr _=W5 at HA HT ⊢;have HI:=hid (HA.out.step (Below.refl _ W5).drew);obtain ⟨t0,t1,t2,t3,t4,_,_,_,_,_⟩:=HT.rc5;obtain ⟨u0,u1,u2,u3,u4,_,_,_,_,_⟩:=(show RowIs W5.drew _ _ _ from HT).rc5;obtain ⟨r0,r1,r2,g0,g1,g2⟩:=HA.out.c.rc3;obtain ⟨q0,q1,q2,h0,h1,h2⟩:=HI.out.c.rc3;clear HT HA;unfold tuV at KT
   go_region_law (first
    | (go_simp; go_at_call 40; refine (KT.out _).mono ?_; rintro e w6 ⟨rfl,hb6⟩; replace HI:=hid (HI.out.step hb6); clear hb6; obtain ⟨r0,r1,r2,g0,g1,g2⟩:=HI.out.c.rc3; obtain ⟨m0,m1,m2,_,_,_⟩:=(HI.out.step ((Below.refl _ w6).alloc (Nat.le_refl _) (.cells #[.string ⟨t.id.toArray⟩,.bool t.opn,.string ⟨t.contact.toArray⟩,.int .i64 t.prio,.string ⟨t.note.toArray⟩] 89))).c.rc3)
    | (refine step_appTu rfl (.tmp 20) (.tmp 23) 32 rfl (b3+1) i1 _ Tryz.underlying32 hj hy0 hy1 hy2 rfl _ L0 (by first | rfl | simp [Act.eval,Act.put,HLK.out]) (by exact (HI.out.o1.alloc _)) ⟨_,0,none⟩ 1 t rfl (tu_newP _ t _ rfl) (by omega) (Nat.le_trans HI.out.lo (by simp)) ?_; intro v7 w7 ho7 hg7; have HP:=hid ((HI.out.step ((Below.refl _ _).alloc (Nat.le_refl _) _)).put1 hg7 ho7); obtain ⟨x0,x1,x2,y0,y1,y2⟩:=((HI.out.step ((Below.refl _ _).alloc (Nat.le_refl _) _)).mid hg7).rc3; obtain ⟨xa,xk,e7⟩:=ho7.form; rw [show (L0++[t]).length=L0.length+1 by simp] at e7; subst e7; clear ho7 hg7))
   all_goals (
    generalize World.setCell _ _ _=W8 at HP ⊢;go_wp2;go_roundw
    case rel=>exact ⟨k+1,_,by omega,by go_num,hid (by rw [htk.out]; exact HP.out)⟩
    case measure=>simp [intOf]; omega)
  ·have hlt':¬ ((k:Int) < n1):=by omega
   obtain rfl:k=n1:=by omega
   have htk:tl.take k=tl:=List.take_of_length_le (by have:=HN1.out; omega);rw [htk] at hM;clear htk HTC HST;obtain ⟨oa,cap,hva⟩:=hM.out.o1.form;rw [← HN1.out] at hva;subst hva;obtain ⟨s0,s1,s2,f0,f1,f2⟩:=hM.out.s.rc3;go_wp2
   go_loopw [30] (fun i wr=>∃ (j:Nat) (vn:Value),j≤n2∧i=.int .i64 j∧Hid (CD w b3 (b3+1) en (.slice ta k tc) (.slice na n2 nc) (.slice oa k cap) vn tl (nl.take j) wr)) (fun i _=>n2 - (intOf i).toNat)
   case atStart=>exact ⟨0,_,by omega,rfl,hM⟩
   case round =>
    obtain ⟨j,vn,hj2,rfl,hM2⟩:=hrel;clear hM s0 s1 s2 f0 f1 f2;by_cases hlt2:j < n2
    ·have hlt2':(j:Int) < n2:=by omega
     have hkl:j < nl.length:=by rw [← HN2.out]; exact hlt2
     obtain ⟨ad,rfl,hab,cel0⟩:=HNC.out j hkl;have cel:=cell_below hM2.out.b (by rw [add_block]; exact hab) cel0;clear cel0;have KN:=hid (fun u=>clonep nl[j] u (by have:=HSN.out _ (List.getElem_mem hkl); omega));have htk:=hid (List.take_succ_eq_append_getElem hkl);have hll:(nl.take j).length≤1000000:=by rw [List.length_take]; omega
     have HLK:Hid ((nl.take j).length=j):=hid (by rw [List.length_take]; omega);generalize nl.take j=L0 at hM2 htk hll HLK;generalize nl[j]=t at cel KN htk;obtain ⟨na2,nc2,hvn⟩:=own_formP hM2.out.o2;have hlk:=HLK.out;have hsl:(strs L0).length=L0.length:=by simp [strs]
     rw [hsl,hlk] at hvn;subst hvn;clear hlk hsl
     go_upto_region 10 with fail
     have HI:=hid (hM2.out.step (Below.refl _ wr).drew);obtain ⟨r0,r1,r2,g0,g1,g2⟩:=hM2.out.c.rc3;obtain ⟨q0,q1,q2,h0,h1,h2⟩:=HI.out.c.rc3;clear hM2
     go_region_law (first
      | (go_simp; go_at_call 24; refine (KN.out _).mono ?_; rintro e w6 ⟨rfl,hb6⟩; replace HI:=hid (HI.out.step hb6); clear hb6; obtain ⟨r0,r1,r2,g0,g1,g2⟩:=HI.out.c.rc3; obtain ⟨m0,m1,m2,_,_,_⟩:=(HI.out.step ((Below.refl _ w6).alloc (Nat.le_refl _) (.cells #[.string ⟨t.toArray⟩] 9))).c.rc3)
      | (refine step_appS rfl (.tmp 35) (.tmp 38) 33 rfl (b3+1) 9 i2 _ 16 Tryz.underlying33 hk2 hv0 hv1 hv2 rfl _ (strs L0) (by first | rfl | simp [Act.eval,Act.put,HLK.out]) (by exact (HI.out.o2.alloc _)) ⟨_,0,none⟩ 1 1 [.string ⟨t.toArray⟩] rfl rfl (by intro j2 u2 hj2; exact one_new _ _ _ j2 u2 hj2) (by intro u hu; simp at hu; subst hu; rfl) (by simp [strs]; unfold maxLen; omega) (by simp [strs]; omega) (Nat.le_trans HI.out.lo (by simp)) ?_; intro v7 w7 ho7 hb7; have HP:=hid (fun (vn':Value) (L:List (List UInt8)) ho=>(HI.out.step ((Below.refl _ _).alloc (Nat.le_refl _) _)).put2 (vn':=vn') (L:=L) hb7 ho); obtain ⟨x0,x1,x2,y0,y1,y2⟩:=((HI.out.step ((Below.refl _ _).alloc (Nat.le_refl _) _)).mid2 hb7).rc3; obtain ⟨xa,xk,e7⟩:=own_formP ho7; rw [show (strs L0++[Value.string ⟨t.toArray⟩]).length=L0.length+1 by simp [strs]] at e7; have HO:=hid ho7; subst e7; clear ho7 hb7))
     all_goals (
      have HQ:=hid (HP.out _ (L0++[t]) (by simpa [strs] using HO.out));clear HP HO;generalize World.setCell _ _ _=W8 at HQ ⊢;go_wp2;go_roundw
      case rel=>exact ⟨j+1,_,by omega,by go_num,hid (by rw [htk.out]; exact HQ.out)⟩
      case measure=>simp [intOf]; omega)
    ·have hlt2':¬ ((j:Int) < n2):=by omega
     obtain rfl:j=n2:=by omega
     have htk:nl.take j=nl:=List.take_of_length_le (by have:=HN2.out; omega);rw [htk] at hM2;clear htk HNC HSN;obtain ⟨na2,nc2,hvn⟩:=own_formP hM2.out.o2;rw [show (strs nl).length=j by simp [strs,HN2.out]] at hvn;subst hvn;obtain ⟨r0,r1,r2,g0,g1,g2⟩:=hM2.out.c.rc3;obtain ⟨z0,z1,z2,y0,y1,y2⟩:=hM2.out.r.rc3;have l3:=hM2.out.l3;have lB:=hM2.out.lB;have KEEP:=hid (And.intro (rc_store3 hM2.out.r (.string ⟨en.toArray⟩) (.slice oa k cap) (.slice na2 j nc2)) (And.intro (rc_below3 hM2.out.b (w.heap.size+1) (by omega) (.string ⟨en.toArray⟩) (.slice oa k cap) (.slice na2 j nc2)) (And.intro (ownsRow_setCell_below (a:=⟨w.heap.size+1,2,none⟩) (ownsRow_setCell_below (a:=⟨w.heap.size+1,1,none⟩) (ownsRow_setCell_below (a:=⟨w.heap.size+1,0,none⟩) hM2.out.o1 (show w.heap.size+1 < b3+1 by omega) (.string ⟨en.toArray⟩)) (show w.heap.size+1 < b3+1 by omega) (.slice oa k cap)) (show w.heap.size+1 < b3+1 by omega) (.slice na2 j nc2)) (ownsRow_setCell_below (a:=⟨w.heap.size+1,2,none⟩) (ownsRow_setCell_below (a:=⟨w.heap.size+1,1,none⟩) (ownsRow_setCell_below (a:=⟨w.heap.size+1,0,none⟩) hM2.out.o2 (show w.heap.size+1 < b3+1 by omega) (.string ⟨en.toArray⟩)) (show w.heap.size+1 < b3+1 by omega) (.slice oa k cap)) (show w.heap.size+1 < b3+1 by omega) (.slice na2 j nc2)))));clear hM2;go_wp2;generalize World.setCell _ _ _=wB at KEEP ⊢;obtain ⟨hrA,hbA,hoA,hnA⟩:=KEEP.out;obtain ⟨d0,d1,d2,_,_,_⟩:=hrA.rc3
     try simp only [Exit.inBlock,Exit.then]
     refine bodyPost_ret (v:=.agg #[.string ⟨en.toArray⟩,.slice oa k cap,.slice na2 j nc2]) (by simp [results,Tryz.results25,go_sem,d0,d1,d2]; try rfl) rfl ?_
     exact ⟨_,_,rfl,own_lower hoA (by omega),own_lower hnA (by omega),hbA⟩
theorem rp_row7 (w:World) (v0 v1 v2 v3 v4 v5 v6:Value) (t:TypeId):RowIs (w.alloc (.cells #[v0,v1,v2,v3,v4,v5,v6] t)) w.heap.size t [v0,v1,v2,v3,v4,v5,v6]:=by
 unfold RowIs; rw [heap_alloc_new]
theorem rp_store7 {w:World} {b:Nat} {e:TypeId} {u0 u1 u2 u3 u4 u5 u6:Value} (h:RowIs w b e [u0,u1,u2,u3,u4,u5,u6]) (v0 v1 v2 v3 v4 v5 v6:Value):RowIs (((((((w.setCell ⟨b,0,none⟩ v0).setCell ⟨b,1,none⟩ v1).setCell ⟨b,2,none⟩ v2).setCell ⟨b,3,none⟩ v3).setCell ⟨b,4,none⟩ v4).setCell ⟨b,5,none⟩ v5).setCell ⟨b,6,none⟩ v6) b e [v0,v1,v2,v3,v4,v5,v6]:=by
 have:=(((((((h.set 0 v0).set 1 v1).set 2 v2).set 3 v3).set 4 v4).set 5 v5).set 6 v6)
 simpa using this
theorem rp_below7 {B:Nat} {a w:World} (h:Below B a w) (b:Nat) (hb:B≤b) (v0 v1 v2 v3 v4 v5 v6:Value):Below B a (((((((w.setCell ⟨b,0,none⟩ v0).setCell ⟨b,1,none⟩ v1).setCell ⟨b,2,none⟩ v2).setCell ⟨b,3,none⟩ v3).setCell ⟨b,4,none⟩ v4).setCell ⟨b,5,none⟩ v5).setCell ⟨b,6,none⟩ v6):=(((((((h.setCell hb _).setCell hb _).setCell hb _).setCell hb _).setCell hb _).setCell hb _).setCell hb _)
structure RowP7 (w:World) (b:Nat) (v0 v1 v2 v3 v4 v5 v6:Value):Prop where
 c0:w.cell? ⟨b,0,none⟩=some v0
 c1:w.cell? ⟨b,1,none⟩=some v1
 c2:w.cell? ⟨b,2,none⟩=some v2
 c3:w.cell? ⟨b,3,none⟩=some v3
 c4:w.cell? ⟨b,4,none⟩=some v4
 c5:w.cell? ⟨b,5,none⟩=some v5
 c6:w.cell? ⟨b,6,none⟩=some v6
 f0:w.frozen? ⟨b,0,none⟩=false
 f1:w.frozen? ⟨b,1,none⟩=false
 f2:w.frozen? ⟨b,2,none⟩=false
 f3:w.frozen? ⟨b,3,none⟩=false
 f4:w.frozen? ⟨b,4,none⟩=false
 f5:w.frozen? ⟨b,5,none⟩=false
 f6:w.frozen? ⟨b,6,none⟩=false
theorem RowIs.rp7 {w:World} {b:Nat} {e:TypeId} {v0 v1 v2 v3 v4 v5 v6:Value} (h:RowIs w b e [v0,v1,v2,v3,v4,v5,v6]):RowP7 w b v0 v1 v2 v3 v4 v5 v6:=⟨h.cell 0 (by simp),h.cell 1 (by simp),h.cell 2 (by simp),h.cell 3 (by simp),h.cell 4 (by simp),h.cell 5 (by simp),h.cell 6 (by simp),h.frozen 0,h.frozen 1,h.frozen 2,h.frozen 3,h.frozen 4,h.frozen 5,h.frozen 6⟩
theorem rp_own7 {w:World} {B e s m b:Nat} {v:Value} {xs:List Value} (h:w.ownsRow B e s v m xs) (hb:b < B) (v0 v1 v2 v3 v4 v5 v6:Value):(((((((w.setCell ⟨b,0,none⟩ v0).setCell ⟨b,1,none⟩ v1).setCell ⟨b,2,none⟩ v2).setCell ⟨b,3,none⟩ v3).setCell ⟨b,4,none⟩ v4).setCell ⟨b,5,none⟩ v5).setCell ⟨b,6,none⟩ v6).ownsRow B e s v m xs:=(ownsRow_setCell_below (a:=⟨b,6,none⟩) (ownsRow_setCell_below (a:=⟨b,5,none⟩) (ownsRow_setCell_below (a:=⟨b,4,none⟩) (ownsRow_setCell_below (a:=⟨b,3,none⟩) (ownsRow_setCell_below (a:=⟨b,2,none⟩) (ownsRow_setCell_below (a:=⟨b,1,none⟩) (ownsRow_setCell_below (a:=⟨b,0,none⟩) h hb _) hb _) hb _) hb _) hb _) hb _) hb _)
structure CP (w u:World) (c:PbC):Prop where
 s:RowIs u w.heap.size 37 (pbCells c)
 r:RowIs u (w.heap.size+1) 37 [.int .i64 0,.string ⟨#[]⟩,.string ⟨#[]⟩,.int .i64 0,.string ⟨#[]⟩,.slice none 0 0,.slice none 0 0]
 b:Below w.heap.size w u
theorem CP.step {w u u':World} {c:PbC} (h:CP w u c) (hb:Below u.heap.size u u'):CP w u' c :=
 ⟨h.s.below hb h.s.bl,h.r.below hb h.r.bl,h.b.trans (hb.mono h.b.size)⟩
theorem CP.set1 {w u:World} {c:PbC} (h:CP w u c):CP w (u.setCell ⟨w.heap.size,1,none⟩ (.string ⟨c.p.who.toArray⟩)) c :=
 ⟨by have:=h.s.set 1 (.string ⟨c.p.who.toArray⟩); simpa [pbCells] using this,row_other h.r (by omega) _ _,h.b.setCell (Nat.le_refl _) _⟩
theorem CP.set2 {w u:World} {c:PbC} (h:CP w u c):CP w (u.setCell ⟨w.heap.size,2,none⟩ (.string ⟨c.p.tag.toArray⟩)) c :=
 ⟨by have:=h.s.set 2 (.string ⟨c.p.tag.toArray⟩); simpa [pbCells] using this,row_other h.r (by omega) _ _,h.b.setCell (Nat.le_refl _) _⟩
theorem CP.set4 {w u:World} {c:PbC} (h:CP w u c) (ts ns:Value):CP w (((u.setCell ⟨w.heap.size,4,none⟩ (.string ⟨c.p.doc.entity.toArray⟩)).setCell ⟨w.heap.size,5,none⟩ ts).setCell ⟨w.heap.size,6,none⟩ ns) ⟨c.p,ts,ns⟩ :=
 ⟨by have:=((h.s.set 4 (.string ⟨c.p.doc.entity.toArray⟩)).set 5 ts).set 6 ns; simpa [pbCells] using this,row_other (row_other (row_other h.r (by omega) _ _) (by omega) _ _) (by omega) _ _,((h.b.setCell (Nat.le_refl _) _).setCell (Nat.le_refl _) _).setCell (Nat.le_refl _) _⟩
theorem own_set3P {w:World} {B e s m b:Nat} {v:Value} {xs:List Value} (h:w.ownsRow B e s v m xs) (hb:b < B) (v4 v5 v6:Value):(((w.setCell ⟨b,4,none⟩ v4).setCell ⟨b,5,none⟩ v5).setCell ⟨b,6,none⟩ v6).ownsRow B e s v m xs:=ownsRow_setCell_below (a:=⟨b,6,none⟩) (ownsRow_setCell_below (a:=⟨b,5,none⟩) (ownsRow_setCell_below (a:=⟨b,4,none⟩) h hb _) hb _) hb _
end Go.Proofs.YtbmjodlbkgblpaaGreatDoor
