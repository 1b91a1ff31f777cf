/-
  Builder, XBld, XWrite, PR6.
-/
import Derived.Test.YtdnekampnkhmfaaGreatDoorPM18
set_option linter.unusedVariables false
set_option linter.unusedSimpArgs false
set_option maxRecDepth 20000
namespace Go.Proofs.YtdnekampnkhmfaaGreatDoor
open Go.RowKit
abbrev IsBld (w:World) (B b:Nat) (l:List UInt8):Prop:=Lib.IsBuilderF 102 5 B b (Lib.byteCells l) w
theorem sizeBld:(Tryz.prog.info? 102).map (·.size)=some 2:=by kernel_rfl
theorem liesBld:liesAt Tryz.prog Tryz.prog.depth 102 (2 / Tryz.prog.cellsOf 102) 0 102 1=true:=by kernel_rfl
theorem infoPB:∃ j,Tryz.prog.info? 102=some j∧j.size=2:=Option.map_eq_some_iff.1 sizeBld
set_option maxHeartbeats 400000 in
theorem copyUsed (b:Nat) (w:World) (h0:w.cell? ⟨b,0,none⟩=some (.pointer (some ⟨b,0,none⟩))) :
  Calls Tryz.prog 111 #[.pointer (some ⟨b,0,none⟩)] w fun e w'=>e=.returned (.tuple #[])∧w'=w:=by
 obtain ⟨j,hj,_⟩:=infoPB
 go_enter Tryz.func111,Tryz.ntmps111
 go_wp2;rw [Lib.run_neq_ptr_same w _ Tryz.underlying99 hj];go_wp2
 go_end0
 exact ⟨rfl,rfl⟩
set_option maxHeartbeats 400000 in
theorem copyFresh (b:Nat) (w:World) (h0:w.cell? ⟨b,0,none⟩=some (.pointer none)) (hsh:w.shape? b=some (102,2)) (hfz:w.frozen? ⟨b,0,none⟩=false) :
  Calls Tryz.prog 111 #[.pointer (some ⟨b,0,none⟩)] w fun e w'=>e=.returned (.tuple #[])∧w'=w.setCell ⟨b,0,none⟩ (.pointer (some ⟨b,0,none⟩)):=by
 obtain ⟨j,hj,hjs⟩:=infoPB
 go_enter Tryz.func111,Tryz.ntmps111
 go_wp2;rw [Lib.run_to_unsafe w ⟨b,0,none⟩ Tryz.underlying99 Tryz.underlying175 hj (by rw [hjs]; decide) hsh (Nat.zero_lt_succ 1)];simp only [Result.andThen];rw [Oper.upon_value];go_wp2;rw [run_callFunc_extern Tryz.func155 (by kernel_rfl) (by kernel_rfl) (by kernel_rfl) (e:=Extern.AbiNoEscape.same) (by kernel_rfl)];rw [Lib.run_noEscape];simp only [Result.andThen];rw [Oper.upon_value];go_wp2;rw [Lib.run_from_unsafe w ⟨b,0,none⟩ Tryz.underlying175 Tryz.underlying99 hj hsh liesBld];simp only [Result.andThen];rw [Oper.upon_value];go_wp2
 go_end0
 exact ⟨rfl,rfl⟩
theorem copyCheck_any (B b:Nat) (bs:List Value) (w:World) (h:Lib.IsBuilderF 102 5 B b bs w) :
  Calls Tryz.prog 111 #[.pointer (some ⟨b,0,none⟩)] w fun e w'=>e=.returned (.tuple #[])∧(Lib.BuilderAtF 102 5 B b (.pointer (some ⟨b,0,none⟩)) bs w'∧Below B w w'∧Lib.OthersKept 5 (some b) w w'):=by
 rcases h with h | h
 ·refine (copyFresh b w h.cell0 h.shape h.frozen0).mono ?_
  rintro e w' ⟨rfl,rfl⟩;exact ⟨rfl,h.used _,(Below.refl B w).setCell (p:=⟨b,0,none⟩) h.1 _,(Lib.OthersKept.refl _ _ w).setCell ⟨b,0,none⟩ rfl _⟩
 ·refine (copyUsed b w h.cell0).mono ?_
  rintro e w' ⟨rfl,rfl⟩;exact ⟨rfl,h,Below.refl B _,Lib.OthersKept.refl _ _ _⟩
set_option maxHeartbeats 2000000 in
set_option maxRecDepth 100000 in
theorem writeByte_any (B b:Nat) (bs:List Value) (c:Int) (w:World) (h:Lib.IsBuilderF 102 5 B b bs w) (hlen:bs.length+1≤140737488355328) (hBw:B≤w.heap.size) :
  Calls Tryz.prog 156 #[.pointer (some ⟨b,0,none⟩),.int .u8 c] w fun e w'=>e=.returned .nilIface∧(Lib.BuilderAtF 102 5 B b (.pointer (some ⟨b,0,none⟩)) (bs++[.int .u8 c]) w'∧Below B w w'∧Lib.OthersKept 5 (some b) w w'):=by
 obtain ⟨i0,hi,hz0,hz1,hz2⟩:=info_parts info5
 go_enter Tryz.func156,Tryz.ntmps156
 go_wp2_with (go_at_call 111; refine (copyCheck_any B b bs _ h).mono ?_)
 rintro e w1 ⟨rfl,h1,hb1,hk1⟩;obtain ⟨hB,v,hbk,hown,hne⟩:=h1;have c0:w1.cell? ⟨b,0,none⟩=some (.pointer (some ⟨b,0,none⟩)):=by rw [Lib.cell_of_heap hbk]; rfl
 have c1:w1.cell? ⟨b,1,none⟩=some v:=by rw [Lib.cell_of_heap hbk]; rfl
 go_wp2_with (at_builtin; refine wpList_append_ownF _ rfl _ _ 100 rfl B 5 i0 (.int .u8 0) 1 1 Tryz.underlying100 hi hz0 hz1 hz2 rfl (by decide) _ _ _ rfl (hown.alloc _) ⟨w1.heap.size,0,none⟩ 1 1 [.int .u8 c] rfl rfl ?c1 ?c2 ?c3 ?c4 ?c5 ?_)
 case c1 =>
  intro j u hj
  match j,hj with
  | 0,hj=>simp at hj; subst hj; simp [Addr.add]
 case c2=>intro u hu; simp at hu; subst hu; rfl
 case c3=>unfold maxLen; omega
 case c4=>omega
 case c5=>have:=hb1.size; simp; omega
 intro v' w2 hown' hgrow _;have hlt:b < w1.heap.size:=by
  rcases Nat.lt_or_ge b w1.heap.size with h' | h'
  ·exact h'
  ·simp [Array.getElem?_eq_none h'] at hbk
 have hb2:w2.heap[b]? = some (.cells #[.pointer (some ⟨b,0,none⟩),v] 102 (0,0)):=by
  rw [hgrow.block b (by simp; omega) (fun e=>hne e.symm),Lib.alloc_old w1 _ b hlt];exact hbk
 have d0:w2.cell? ⟨b,0,none⟩=some (.pointer (some ⟨b,0,none⟩)):=by rw [Lib.cell_of_heap hb2]; rfl
 have d1:w2.cell? ⟨b,1,none⟩=some v:=by rw [Lib.cell_of_heap hb2]; rfl
 have f1:w2.frozen? ⟨b,1,none⟩=false:=Lib.frozen_of_heap hb2 1;obtain ⟨g,cap,rfl⟩:∃ g cap,v'=.slice (some ⟨g,0,none⟩) (bs.length+1) cap:=by
  rcases hown'.2 with ⟨_,h0⟩ | ⟨g,cap,cur,fz,hv,_⟩
  ·omega
  ·exact ⟨g,cap,hv⟩
 go_wp2;go_ret;refine ⟨rfl,?_,?_,((hk1.alloc _).grown hgrow (Lib.ownsRowF_kind (hown.alloc _))).setCell ⟨b,1,none⟩ rfl _⟩
 ·exact Lib.BuilderAtF.put (T:=102) (e:=5) hB hb2 (bs':=bs++[.int .u8 c]) (by simpa using hown') (by decide)
 ·exact ((hb1.alloc (by have:=hb1.size; omega) _).grown hgrow (by have:=hb1.size; simp; omega) (fun k hk=>(hown.lt k hk).1)).setCell (p:=⟨b,1,none⟩) hB _
theorem cellsU8:Tryz.prog.cellsOf 5=1:=by kernel_rfl
set_option maxHeartbeats 1000000 in
set_option maxRecDepth 100000 in
theorem bldString (B b:Nat) (l:List UInt8) (w:World) (h:IsBld w B b l) (h0:l ≠ []) :
  Calls Tryz.prog 59 #[.pointer (some ⟨b,0,none⟩)] w fun e w'=>e=.returned (.string ⟨l.toArray⟩)∧(IsBld w' B b l∧Below B w w'∧Lib.OthersKept 5 (some b) w w'):=by
 obtain ⟨p,hp,hAt⟩:∃ p,(p=.pointer none∨p=.pointer (some ⟨b,0,none⟩))∧Lib.BuilderAtF 102 5 B b p (Lib.byteCells l) w:=by
  rcases h with h | h
  ·exact ⟨_,.inl rfl,h⟩
  ·exact ⟨_,.inr rfl,h⟩
 obtain ⟨hB,v,hbk,hown,hne⟩:=hAt;have hl0:l.length ≠ 0:=by simpa using h0
 rw [Lib.byteCells_length] at hown;obtain ⟨g,cap,cur,fz,rfl,hbg,hg,hfz,hnc,hcm,hcs,htake⟩:∃ g cap cur fz,v=.slice (some ⟨g,0,none⟩) l.length cap∧B≤g∧w.heap[g]? = some (.cells cur 5 fz)∧fz.2≤l.length * 1∧l.length≤cap∧cap≤maxLen∧cur.size=cap * 1∧cur.toList.take (l.length * 1)=Lib.byteCells l:=by
  rcases hown.2 with ⟨_,hz⟩ | ⟨g,cap,cur,fz,hv,r⟩
  ·exact absurd hz hl0
  ·exact ⟨g,cap,cur,fz,hv,r⟩
 have c1:w.drew.cell? ⟨b,1,none⟩=some (.slice (some ⟨g,0,none⟩) l.length cap):=by
  have:w.drew.heap[b]? = some (.cells #[p,.slice (some ⟨g,0,none⟩) l.length cap] 102 (0,0)):=hbk
  rw [Lib.cell_of_heap this]; rfl
 have hSD:(Builtin.unsafeSliceData_ #[100] 149 #[.slice (some ⟨g,0,none⟩) l.length cap]).run Tryz.prog w.drew=.ok (.pointer (some ⟨g,0,none⟩)) w.drew :=
  Lib.run_unsafeSliceData_row _ _ _ _ _ _ (by omega)
 have hUS:(Builtin.unsafeString_ #[149,3] 9 #[.pointer (some ⟨g,0,none⟩),.int .i64 l.length]).run Tryz.prog w.drew=.ok (.string ⟨l.toArray⟩) (w.drew.freeze ⟨g,0,none⟩ l.length):=by
  refine Lib.run_unsafeString_row w.drew 149 3 9 5 Tryz.underlying149 cellsU8 g cur.size (by have hg':w.drew.heap[g]? = some (.cells cur 5 fz):=hg; simp [World.shape?,hg']) l h0 (by omega) (by unfold maxLen at hcm; omega) ?_
  intro j x hx
  have:=hown.cells (g:=g) rfl j (.int .u8 x.toNat) (by simp [Lib.byteCells,hx])
  exact this
 have hkeep:IsBld (w.drew.freeze ⟨g,0,none⟩ l.length) B b l:=by
  have hA:Lib.BuilderAtF 102 5 B b p (Lib.byteCells l) w.drew:=⟨hB,_,hbk,by rw [Lib.byteCells_length]; exact hown,hne⟩
  have hF:=hA.froze (g:=g) (cap:=cap) (by rw [Lib.byteCells_length]; exact c1);rw [Lib.byteCells_length] at hF
  rcases hp with rfl | rfl
  ·exact .inl hF
  ·exact .inr hF
 go_enter Tryz.func59,Tryz.ntmps59
 go_wp2
 go_region
 all_goals (go_wp2; go_ret; exact ⟨rfl,hkeep,Lib.below_freeze (Below.drew (Below.refl B w)) (p:=⟨g,0,none⟩) hbg _,((Lib.OthersKept.refl _ _ w).drew).freeze ⟨g,0,none⟩ _ ⟨cur,fz,hg⟩⟩)
end Go.Proofs.YtdnekampnkhmfaaGreatDoor
namespace Go.Proofs.YtdnekampnkhmfaaGreatDoor
open Go.RowKit Sc
structure Wrote (B b:Nat) (l:List UInt8) (w w':World):Prop where
 bld:IsBld w' B b l
 bel:Below B w w'
 oth:Lib.OthersKept 5 (some b) w w'
theorem Wrote.trans {B b:Nat} {l l':List UInt8} {w w1 w2:World} (h:Wrote B b l w w1) (k:Wrote B b l' w1 w2):Wrote B b l' w w2:=⟨k.bld,h.bel.trans k.bel,h.oth.trans k.oth⟩
theorem bld_below {B b:Nat} {l:List UInt8} {w w':World} (h:IsBld w B b l) (hb:Below w.heap.size w w'):IsBld w' B b l:=by
 have key:∀ p,Lib.BuilderAtF 102 5 B b p (Lib.byteCells l) w → Lib.BuilderAtF 102 5 B b p (Lib.byteCells l) w':=by
  rintro p ⟨h1,v,h2,⟨h3,h4⟩,h5⟩;refine ⟨h1,v,by rw [hb.block b (Array.getElem?_eq_some_iff.1 h2).1]; exact h2,⟨h3,?_⟩,h5⟩
  rcases h4 with h4 | ⟨g,cap,cur,fz,hv,hg,hh,r⟩
  ·exact .inl h4
  ·exact .inr ⟨g,cap,cur,fz,hv,hg,by rw [hb.block g (Array.getElem?_eq_some_iff.1 hh).1]; exact hh,r⟩
 rcases h with h | h
 ·exact .inl (key _ h)
 ·exact .inr (key _ h)
theorem oth_below {b:Nat} {w w':World} (hb:Below w.heap.size w w'):Lib.OthersKept 5 (some b) w w':=fun k o hk _ _=>by
 rw [hb.block k (Array.getElem?_eq_some_iff.1 hk).1]; exact hk
theorem Wrote.of {B b:Nat} {l:List UInt8} {w w':World} (h:IsBld w B b l) (hB:B≤w.heap.size) (hb:Below w.heap.size w w'):Wrote B b l w w':=⟨bld_below h hb,hb.mono hB,oth_below hb⟩
theorem Wrote.row {B b c:Nat} {l:List UInt8} {w w':World} {e:TypeId} {us:List Value} (h:Wrote B b l w w') (hr:RowIs w c e us) (hn:c ≠ b) (he:e ≠ 5):RowIs w' c e us :=
 h.oth c _ hr (fun e=>hn (Option.some.inj e)) (fun c' fz e'=>by injection e' with _ e2 _; exact he e2)
theorem Wrote.owns {B b C n s:Nat} {l:List UInt8} {w w':World} {e:TypeId} {v:Value} {xs:List Value} (h:Wrote B b l w w') (ho:w.ownsRow C e s v n xs) (hn:v.ownBlock ≠ some b) (he:e ≠ 5):w'.ownsRow C e s v n xs:=by
 obtain ⟨h1,h2⟩:=ho;refine ⟨h1,?_⟩
 rcases h2 with h2 | ⟨g,cap,cur,rfl,hg,hh,r⟩
 ·exact .inl h2
 ·exact .inr ⟨g,cap,cur,rfl,hg,h.oth g _ hh (fun e=>hn (by rw [← e]; rfl)) (fun c' fz e'=>by injection e' with _ e2 _; exact he e2),r⟩
theorem bld_lt {B b:Nat} {l:List UInt8} {w:World} (h:IsBld w B b l):b < w.heap.size:=by
 rcases h with ⟨_,v,h2,_⟩ | ⟨_,v,h2,_⟩ <;> exact (Array.getElem?_eq_some_iff.1 h2).1
set_option maxHeartbeats 2000000 in
set_option maxRecDepth 100000 in
theorem xbldWrite (B b:Nat) (l r:List UInt8) (w:World) (h:IsBld w B b l) (hlen:l.length+r.length≤140737488355328) (hBw:B≤w.heap.size) :
  Calls Tryz.prog 57 #[.pointer (some ⟨b,0,none⟩),.string ⟨r.toArray⟩] w fun e w'=>e=.returned (.tuple #[.int .i64 r.length,.nilIface])∧Wrote B b (l++r) w w':=by
 obtain ⟨i0,hi,hz0,hz1,hz2⟩:=info_parts info5;have hz:(⟨r.toArray⟩:ByteArray).size=r.length:=size_list r;have hbl:(Lib.byteCells l).length=l.length:=Lib.byteCells_length l;have KC:=hid (copyCheck_any B b (Lib.byteCells l) w h);clear h
 go_enter Tryz.func57,Tryz.ntmps57
 go_wp2_with fail
 refine KC.out.mono ?_
 rintro e w1 ⟨rfl,h1,hb1,hk1⟩;obtain ⟨hB,v,hbk,hown,hne⟩:=h1;have c0:w1.cell? ⟨b,0,none⟩=some (.pointer (some ⟨b,0,none⟩)):=by rw [Lib.cell_of_heap hbk]; rfl
 have c1:w1.cell? ⟨b,1,none⟩=some v:=by rw [Lib.cell_of_heap hbk]; rfl
 have hlt:b < w1.heap.size:=(Array.getElem?_eq_some_iff.1 hbk).1;have hBw1:B≤w1.heap.size:=Nat.le_trans hBw hb1.size;go_wp2_with (at_builtin; refine Lib.wpList_append_own_stringF _ rfl _ _ 100 9 rfl B 5 i0 Tryz.underlying100 Tryz.underlying9 hi hz0 hz1 hz2 _ _ _ rfl hown ⟨r.toArray⟩ rfl ?c3 ?c4 hBw1 ?_)
 case c3=>rw [hz,hbl]; unfold maxLen; omega
 case c4=>rw [hz,hbl]; omega
 intro v' w2 hown' hgrow _;have hb2:w2.heap[b]? = some (.cells #[.pointer (some ⟨b,0,none⟩),v] 102 (0,0)):=by
  rw [hgrow.block b hlt (fun e=>hne e.symm)];exact hbk
 have d0:w2.cell? ⟨b,0,none⟩=some (.pointer (some ⟨b,0,none⟩)):=by rw [Lib.cell_of_heap hb2]; rfl
 have d1:w2.cell? ⟨b,1,none⟩=some v:=by rw [Lib.cell_of_heap hb2]; rfl
 have f1:w2.frozen? ⟨b,1,none⟩=false:=Lib.frozen_of_heap hb2 1;obtain ⟨ao,n',cap,rfl⟩:∃ ao n' cap,v'=.slice ao n' cap:=by
  rcases hown'.2 with ⟨hv,_⟩ | ⟨g,cap,cur,fz,hv,_⟩
  ·exact ⟨_,_,_,hv⟩
  ·exact ⟨_,_,_,hv⟩
 have hput:=hid (Lib.BuilderAtF.put (T:=102) (e:=5) hB hb2 (bs':=Lib.byteCells l++Lib.strCells ⟨r.toArray⟩) (by rw [List.length_append,Lib.strCells_length,hbl,hz]; exact hown') (by decide));have hbel:=hid ((hb1.grown hgrow hBw1 (fun k hk=>(hown.lt k hk).1)).setCell (p:=⟨b,1,none⟩) hB (.slice ao n' cap));have hoth:=hid ((hk1.grown hgrow (Lib.ownsRowF_kind hown)).setCell ⟨b,1,none⟩ rfl (.slice ao n' cap));rw [strC_list,← Lib.byteCells_append] at hput;clear hown' hgrow hb2 hbk hown hne KC hbl hk1 hb1;go_wp2;go_ret2;exact ⟨by simp,.inr hput.out,hbel.out,hoth.out⟩
theorem xesc_snoc {t:ByteArray} {k:Nat} (h:k < t.size):escX (t.data.toList.take (k+1))=escX (t.data.toList.take k)++escS t[k]:=by
 rw [take_snoc t k h,escX_app]
 simp [escX]
theorem esc_take (t:ByteArray) (k:Nat) (h:k < t.size):(escX (t.data.toList.take k)).length+(escS t[k]).length≤(escX t.data.toList).length:=by
 have e:=List.take_append_drop (k+1) t.data.toList;have e2:escX t.data.toList=escX (t.data.toList.take (k+1))++escX (t.data.toList.drop (k+1)):=by rw [← escX_app,e]
 rw [e2,xesc_snoc h,List.length_append,List.length_append];omega
set_option maxHeartbeats 2000000 in
set_option maxRecDepth 100000 in
theorem writeText_any (B b:Nat) (l:List UInt8) (t:ByteArray) (w:World) (h:IsBld w B b l) (hlen:l.length+(escX t.data.toList).length≤140737488355328) (hts:t.size≤140737488355328) (hBw:B≤w.heap.size) :
  Calls Tryz.prog 112 #[.pointer (some ⟨b,0,none⟩),.string t] w fun e w'=>e=.returned (.tuple #[])∧Wrote B b (l++escX t.data.toList) w w':=by
 have H:=hid h;have HE:Hid (∀ k,t.size≤k → escX (t.data.toList.take k)=escX t.data.toList):=fun k hk=>by rw [take_all t k hk]
 have HT:=hid (fun k h=>esc_take t k h);have HS:=hid (fun k h=>@xesc_snoc t k h);clear h
 go_enter Tryz.func112,Tryz.ntmps112
 go_wp2
 go_loopw [7] (fun i wr=>∃ k:Nat,k≤t.size∧i=.int .i64 k∧Wrote B b (l++escX (t.data.toList.take k)) w wr∧B≤wr.heap.size) (fun i _=>t.size - (intOf i).toNat)
 case atStart=>exact ⟨0,Nat.zero_le _,rfl,⟨by simpa [escX] using H.out,Below.refl _ _,Lib.OthersKept.refl _ _ _⟩,hBw⟩
 case round =>
  obtain ⟨k,hk,rfl,hw,hB⟩:=hrel;by_cases hlt:k < t.size
  ·have hbd:=u8_bd t[k];have htk:=HT.out k hlt;have hsn:=HS.out k hlt;have HW:=hid hw;by_cases h38:t[k]=38
   ·have q38:((t[k].toNat:Int)==38)=true:=u8_eq (b:=38) h38;rw [h38,show escS 38=[38,97,109,112,59] from rfl] at htk hsn;have KW:=hid (xbldWrite B b (l++escX (t.data.toList.take k)) [38,97,109,112,59] wr HW.out.bld (by rw [List.length_append]; omega) hB);rw [List.append_assoc,← hsn] at KW;clear hsn htk h38 hw;go_wp2_with fail
    refine (KW.out).mono ?_
    rintro e w2 ⟨rfl,hw2⟩;go_wp2;go_roundw
    case rel=>exact ⟨k+1,by omega,by go_num,HW.out.trans hw2,Nat.le_trans hB hw2.bel.size⟩
    case measure=>simp [intOf]; omega
   have q38:((t[k].toNat:Int)==38)=false:=u8_ne (b:=38) h38;by_cases h60:t[k]=60
   ·have q60:((t[k].toNat:Int)==60)=true:=u8_eq (b:=60) h60;rw [h60,show escS 60=[38,108,116,59] from rfl] at htk hsn;have KW:=hid (xbldWrite B b (l++escX (t.data.toList.take k)) [38,108,116,59] wr HW.out.bld (by rw [List.length_append]; omega) hB);rw [List.append_assoc,← hsn] at KW;clear hsn htk h60 hw;go_wp2_with fail
    refine (KW.out).mono ?_
    rintro e w2 ⟨rfl,hw2⟩;go_wp2;go_roundw
    case rel=>exact ⟨k+1,by omega,by go_num,HW.out.trans hw2,Nat.le_trans hB hw2.bel.size⟩
    case measure=>simp [intOf]; omega
   have q60:((t[k].toNat:Int)==60)=false:=u8_ne (b:=60) h60;by_cases h62:t[k]=62
   ·have q62:((t[k].toNat:Int)==62)=true:=u8_eq (b:=62) h62;rw [h62,show escS 62=[38,103,116,59] from rfl] at htk hsn;have KW:=hid (xbldWrite B b (l++escX (t.data.toList.take k)) [38,103,116,59] wr HW.out.bld (by rw [List.length_append]; omega) hB);rw [List.append_assoc,← hsn] at KW;clear hsn htk h62 hw;go_wp2_with fail
    refine (KW.out).mono ?_
    rintro e w2 ⟨rfl,hw2⟩;go_wp2;go_roundw
    case rel=>exact ⟨k+1,by omega,by go_num,HW.out.trans hw2,Nat.le_trans hB hw2.bel.size⟩
    case measure=>simp [intOf]; omega
   have q62:((t[k].toNat:Int)==62)=false:=u8_ne (b:=62) h62;by_cases h34:t[k]=34
   ·have q34:((t[k].toNat:Int)==34)=true:=u8_eq (b:=34) h34;rw [h34,show escS 34=[38,113,117,111,116,59] from rfl] at htk hsn;have KW:=hid (xbldWrite B b (l++escX (t.data.toList.take k)) [38,113,117,111,116,59] wr HW.out.bld (by rw [List.length_append]; omega) hB);rw [List.append_assoc,← hsn] at KW;clear hsn htk h34 hw;go_wp2_with fail
    refine (KW.out).mono ?_
    rintro e w2 ⟨rfl,hw2⟩;go_wp2;go_roundw
    case rel=>exact ⟨k+1,by omega,by go_num,HW.out.trans hw2,Nat.le_trans hB hw2.bel.size⟩
    case measure=>simp [intOf]; omega
   have q34:((t[k].toNat:Int)==34)=false:=u8_ne (b:=34) h34;have hes:escS t[k]=[t[k]]:=by unfold escS; rw [if_neg h38,if_neg h60,if_neg h62,if_neg h34]
   rw [hes] at htk hsn;simp only [List.length_cons,List.length_nil] at htk;have KB:=hid (writeByte_any B b (Lib.byteCells (l++escX (t.data.toList.take k))) (t[k].toNat:Int) wr HW.out.bld (by rw [Lib.byteCells_length,List.length_append]; omega) hB);rw [show Lib.byteCells (l++escX (t.data.toList.take k))++[.int .u8 (t[k].toNat:Int)]=Lib.byteCells (l++escX (t.data.toList.take (k+1))) by rw [hsn,← List.append_assoc,Lib.byteCells_append (l++escX (t.data.toList.take k)) [t[k]]]; rfl] at KB;clear hsn htk hes h38 h60 h62 h34 hw;go_wp2_with fail
   refine (KB.out).mono ?_
   rintro e w2 ⟨rfl,h1,h2,h3⟩;go_wp2;go_roundw
   case rel=>exact ⟨k+1,by omega,by go_num,HW.out.trans ⟨.inr h1,h2,h3⟩,Nat.le_trans hB h2.size⟩
   case measure=>simp [intOf]; omega
  ·have hE:=HE.out k (by omega);rw [hE] at hw;have HW:=hid hw;clear hE hw;go_wp2
   first | go_end0 | refine bodyPost_ret (results_none rfl _ _ _) rfl ?_
   exact ⟨rfl,HW.out⟩
theorem writeText_list (B b:Nat) (l t:List UInt8) (w:World) (h:IsBld w B b l) (hlen:l.length+(escX t).length≤140737488355328) (hts:t.length≤140737488355328) (hBw:B≤w.heap.size) :
  Calls Tryz.prog 112 #[.pointer (some ⟨b,0,none⟩),.string ⟨t.toArray⟩] w fun e w'=>e=.returned (.tuple #[])∧Wrote B b (l++escX t) w w':=writeText_any B b l ⟨t.toArray⟩ w h hlen (by rw [size_list]; exact hts) hBw
theorem starts_len (d:Nat):∀ (ks:List XT) (p:Nat),(startsX d ks p).length=ks.length
 | [],p=>rfl
 | k :: ks,p=>by rw [startsX,List.length_cons,List.length_cons,starts_len d ks]
theorem starts_at (d:Nat):∀ (ks:List XT) (p j:Nat) (h:j < ks.length),(startsX d ks p)[j]'(by rw [starts_len]; exact h)=p+(flatXs d (ks.take j)).length
 | k :: ks,p,0,h=>by simp [startsX,flatXs]
 | k :: ks,p,j+1,h=>by
  have:=starts_at d ks (p+(flatX d k).length) j (by simpa using h)
  simp only [startsX,List.getElem_cons_succ,List.take_succ_cons,flatXs,List.length_append];rw [this]; omega
theorem printX_pos (t:XT):1≤(printX t).length:=by
 obtain ⟨n,a,tx,k⟩:=t
 have:=print_len n a tx k
 omega
theorem prints_nil {ks:List XT} (h:printXs ks=[]):ks=[]:=by
 cases ks with
 | nil=>rfl
 | cons k ks =>
  rw [printXs] at h
  have:=printX_pos k
  have e:=congrArg List.length h;rw [List.length_append,List.length_nil] at e;omega
theorem prints_snoc {ks:List XT} {j:Nat} (h:j < ks.length):printXs (ks.take (j+1))=printXs (ks.take j)++printX ks[j]:=by
 rw [List.take_succ_eq_append_getElem h,printXs_app,printXs,printXs,List.append_nil]
theorem prints_take {ks:List XT} {j:Nat} (h:j < ks.length):(printXs (ks.take j)).length+(printX ks[j]).length≤(printXs ks).length:=by
 have e:=List.take_append_drop (j+1) ks;have e2:printXs ks=printXs (ks.take (j+1))++printXs (ks.drop (j+1)):=by rw [← printXs_app,e]
 rw [e2,prints_snoc h,List.length_append,List.length_append]; omega
theorem own_pos {w:World} {C n kc:Nat} {ka:Option Addr} {l:List Nat} (h:Own w C 3 (.slice ka n kc) (posCells l)) (j:Nat) (hj:j < l.length):∃ g,ka=some ⟨g,0,none⟩∧w.cell? ⟨g,j,none⟩=some (.int .i64 ((l[j]:Nat):Int)):=by
 have h0:=h
 rcases h.2 with ⟨hv,hn⟩ | ⟨g,cap,cur,hv,hb,hg,r⟩
 ·simp [posCells] at hn
  rw [hn] at hj; simp at hj
 ·simp only [Value.slice.injEq] at hv;obtain ⟨rfl,hv2,hv3⟩:=hv;refine ⟨g,rfl,?_⟩
  have:=World.ownsRow.cells h0 (g:=g) rfl j (.int .i64 ((l[j]:Nat):Int)) (by simp [posCells,hj])
  have e:(⟨g,0,none⟩:Addr).add j=⟨g,j,none⟩:=by unfold Addr.add; split <;> simp_all
  rw [e] at this; exact this
theorem szX_in {n:List UInt8} {a:List Par} {tx:List UInt8} {ks:List XT} {j:Nat} (h:j < ks.length):szX ks[j]+2≤szX (.mk n a tx ks):=by
 have:=sz_in (n:=n) (a:=a) (t:=tx) (ks:=ks) (done:=ks.take j) (k:=ks[j]) (rest:=ks.drop (j+1)) (N:=szX (.mk n a tx ks) - 1) (by rw [szX]; omega) (by rw [← List.drop_eq_getElem_cons h,List.take_append_drop])
 have key:∀ (l r:List XT) (k:XT),szX k≤szXs (l++k :: r):=fun l r k=>by
  induction l with
  | nil=>rw [List.nil_append,szXs]; omega
  | cons x l ih=>rw [List.cons_append,szXs]; omega
 have h2:=key (ks.take j) (ks.drop (j+1)) ks[j];rw [← List.drop_eq_getElem_cons h,List.take_append_drop] at h2;rw [szX]; omega
theorem szXs_len:∀ ks:List XT,ks.length≤szXs ks
 | []=>Nat.zero_le _
 | k :: ks=>by
  have:=szXs_len ks
  obtain ⟨n,a,tx,kk⟩:=k;rw [szXs,szX,List.length_cons]; omega
def WrE (B b:Nat) (v:Value) (k:Nat) (l:List UInt8) (w:World):Prop :=
 Calls Tryz.prog 58 #[.pointer (some ⟨b,0,none⟩),v,.int .i64 k] w fun e w'=>e=.returned (.tuple #[])∧Wrote B b l w w'
section
variable (wP : World) (v : Value) (cs : List NdC) (b : Nat)
def WrS (N:Nat):Prop:=∀ (t:XT),szX t≤N → ∀ (k d:Nat) (post:List Nd) (l0:List UInt8) (w:World),(ndsL cs).drop k=flatX d t++post → (∀ x,post.head? = some x → x.deep≤(d:Int)) → Below wP.heap.size wP w → IsBld w wP.heap.size b l0 → l0.length+(printX t).length≤140737488355328 → d+szX t≤1000000 → WrE wP.heap.size b v k (l0++printX t) w
set_option maxHeartbeats 8000000 in
set_option maxRecDepth 100000 in
theorem write_step (hv:NdsAt wP v cs) (hz:cs.length≤1000000) (hsm:∀ c ∈ cs,SmallN 140737488355328 c.nd) (hbB:wP.heap.size≤b) (N:Nat) (ih:WrS wP v cs b N):WrS wP v cs b (N+1):=by
 intro t ht k d post l0 w hdrop hpost hbw hbld hpl hd;obtain ⟨nm,ps,tx,ks⟩:=t;have HSI:Hid (∀ j (hj:j < ks.length),d+1+szX ks[j]≤1000000):=fun j hj=>by have:=szX_in (n:=nm) (a:=ps) (tx:=tx) hj; omega
 have hd:d≤1000000:=by omega
 have hksl:ks.length≤1000000:=by
  have h1:=szXs_len ks;have h2:szX (.mk nm ps tx ks)=szXs ks+2:=by rw [szX]
  omega
 have hpl2:=print_len nm ps tx ks;rw [flatX,List.cons_append] at hdrop;obtain ⟨hk,hnd,hdrop1⟩:=drop_nd hdrop;have hlb:=bld_lt hbld;have hBw:wP.heap.size≤w.heap.size:=hbw.size;have hvw:=hv;obtain ⟨ao,cap,rfl,hc⟩:=hv;obtain ⟨ad,hao,hab,c0,pa⟩:=hc k hk;subst hao;obtain ⟨s1,s2,s3,s4⟩:=hsm cs[k] (List.getElem_mem hk);have cN:=c0.below hbw hab;rw [hnd] at pa s1 s2 s3 s4;simp only at pa s1 s2 s3 s4;obtain ⟨pao,pcap,hpa,hpc⟩:=pa.open;have HPar:=hid hpc;obtain ⟨c0,c1,c2,c3⟩:=cN;rw [hnd] at c0 c1 c3;rw [hpa] at c2;simp only at c0 c1 c3;have s3z:=s3.1;have HS3:=hid s3.2;have HI:=hid ih;have HV:=hid hvw;have HBW:=hid hbw;have KK:=hid (fun w' (h':Below wP.heap.size wP w')=>xkids_any (.slice (some ad) cs.length cap) cs k w' hk hz (by rw [hnd]; simp only; omega) (by rw [hnd]; simp only; omega) (hvw.below h'));rw [hnd,hdrop1,kids_of d ks post (k+1) hpost] at KK;have HDrop:Hid (∀ j (hj:j < ks.length),(ndsL cs).drop (k+1+(flatXs (d+1) (ks.take j)).length)=flatX (d+1) ks[j]++(flatXs (d+1) (ks.drop (j+1))++post)):=fun j hj=>by
  have e:ks=ks.take j++ks[j] :: ks.drop (j+1):=by rw [← List.drop_eq_getElem_cons hj,List.take_append_drop]
  have h1:(ndsL cs).drop (k+1)=flatXs (d+1) (ks.take j)++(flatX (d+1) ks[j]++(flatXs (d+1) (ks.drop (j+1))++post)):=by
   rw [hdrop1]
   conv=>lhs; rw [e]
   rw [flatXs_app,flatXs]; simp
  exact drop_more h1
 have HPost:Hid (∀ j,∀ x,(flatXs (d+1) (ks.drop (j+1))++post).head? = some x → x.deep≤((d+1:Nat):Int)):=fun j=>post_head hpost;have HSz:Hid (∀ j (hj:j < ks.length),szX ks[j]≤N):=fun j hj=>sz_in ht (done:=ks.take j) (rest:=ks.drop (j+1)) (by rw [← List.drop_eq_getElem_cons hj,List.take_append_drop]);obtain ⟨n,hn⟩:∃ n,n=cs.length:=⟨_,rfl⟩
 rw [← hn] at HI HV KK ⊢;have q1:(k:Int) < (n:Int):=by omega
 have HN:=hid hn;have z1:=size_list nm;have HC0:=hid (xcat [60] nm);have hs0:¬ 9223372036854775807 < 1+nm.length:=by omega
 have hrow:=rc_row4 w (.int .i64 (d:Int)) (.string ⟨nm.toArray⟩) (.slice pao ps.length pcap) (.string ⟨tx.toArray⟩) 52;have hbn:Below w.heap.size w (w.alloc (.cells #[.int .i64 (d:Int),.string ⟨nm.toArray⟩,.slice pao ps.length pcap,.string ⟨tx.toArray⟩] 52)):=(Below.refl _ w).alloc (Nat.le_refl _) _;have hszn:(w.alloc (.cells #[.int .i64 (d:Int),.string ⟨nm.toArray⟩,.slice pao ps.length pcap,.string ⟨tx.toArray⟩] 52)).heap.size=w.heap.size+1:=by simp
 have HW0:Hid (Wrote wP.heap.size b l0 w (w.alloc (.cells #[.int .i64 (d:Int),.string ⟨nm.toArray⟩,.slice pao ps.length pcap,.string ⟨tx.toArray⟩] 52))):=Wrote.of hbld hBw hbn;have hnb:w.heap.size ≠ b:=by omega
 clear hsm hn hc hdrop hdrop1 hpost ht s4 ih hvw hpc hpa pa hnd hbw hbld;unfold WrE
 go_enter Tryz.func58,Tryz.ntmps58
 go_wp2_with fail
 clear c0 c1 c2 c3;generalize World.alloc _ _=W0 at hrow hbn HW0 hszn ⊢
 try rw [HC0.out]
 refine (xbldWrite wP.heap.size b l0 ([60]++nm) W0 HW0.out.bld (by simp; omega) (by omega)).mono ?_
 rintro e w1 ⟨rfl,hw1⟩;have hrow1:=hw1.row hrow hnb (by decide);obtain ⟨e0,e1,e2,e3,_,_,_,_⟩:=hrow1.rc4;have HW1:=hid (HW0.out.trans hw1);have hB1:wP.heap.size≤w1.heap.size:=Nat.le_trans hBw HW1.out.bel.size;clear hrow hbn hw1 hszn;go_wp2
 go_loopw [24] (fun iv wr=>∃ j:Nat,j≤ps.length∧iv=.int .i64 (j:Int)∧Hid (Wrote wP.heap.size b (l0++([60]++nm++attrsT (ps.take j))) w wr)∧Hid (RowIs wr w.heap.size 52 [.int .i64 (d:Int),.string ⟨nm.toArray⟩,.slice pao ps.length pcap,.string ⟨tx.toArray⟩])∧wP.heap.size≤wr.heap.size) (fun iv _=>ps.length - (intOf iv).toNat)
 case atStart=>exact ⟨0,Nat.zero_le _,rfl,by simpa [attrsT] using HW1,hid hrow1,hB1⟩
 case round =>
  obtain ⟨j,hj,rfl,hw,hr,hB⟩:=hrel;clear HW1 hrow1 hB1 e0 e1 e2 e3 HW0 HC0;by_cases hlt:j < ps.length
  ·obtain ⟨pad,hpo,hpb,k0,k1,k2⟩:=HPar.out j hlt;subst hpo;obtain ⟨t1,t2⟩:=HS3.out ps[j] (List.getElem_mem hlt);have hbr:=HBW.out.trans hw.out.bel;have a0:=cell_below hbr (by rw [add_block]; exact hpb) k0;have a1:=cell_below hbr (by simp only [add_block]; exact hpb) k1;have a2:=cell_below hbr (by simp only [add_block]; exact hpb) k2;have q6:(j:Int) < (ps.length:Int):=by omega
   have hat:=attrsT_len hlt;have hat2:=attrT_len ps[j];have hsn:Hid (attrsT (ps.take (j+1))=attrsT (ps.take j)++attrT ps[j]):=show _=_ from attrsT_snoc hlt
   have hatd:attrT ps[j]=[32]++ps[j].name++[61,34]++escX ps[j].value++[34]:=rfl;have hprow:=rc_row3 wr (.string ⟨ps[j].name.toArray⟩) (.string ⟨ps[j].value.toArray⟩) (.bool ps[j].has) 59;have hpbn:Below wr.heap.size wr (wr.alloc (.cells #[.string ⟨ps[j].name.toArray⟩,.string ⟨ps[j].value.toArray⟩,.bool ps[j].has] 59)):=(Below.refl _ wr).alloc (Nat.le_refl _) _;have HWp:=hid (Wrote.of hw.out.bld hB hpbn);have hnbp:wr.heap.size ≠ b:=by have:=bld_lt hw.out.bld; omega
   clear k0 k1 k2;generalize attrT ps[j]=AT at hat hat2 hsn hatd;generalize ps[j]=P at a0 a1 a2 t1 t2 hat2 hatd hprow hpbn HWp;obtain ⟨pn,pv,ph⟩:=P;simp only at a0 a1 a2 t1 t2 hat2 hatd hprow hpbn HWp;have z2:=size_list pn;have HC1:=hid (xcat [32] pn);have HC2:=hid (xcat ([32]++pn) [61,34]);have hs1:¬ 9223372036854775807 < 1+pn.length:=by omega
   have hs2:¬ 9223372036854775807 < 1+pn.length+2:=by omega
   have HATD:=hid hatd;clear hatd;go_wp2_with fail
   clear a0 a1 a2;generalize World.alloc _ _=W2 at hprow hpbn HWp ⊢
   try rw [HC1.out]
   try rw [HC2.out]
   have hB2:wP.heap.size≤W2.heap.size:=Nat.le_trans hB hpbn.size;refine (xbldWrite wP.heap.size b _ ([32]++pn++[61,34]) W2 HWp.out.bld (by simp; omega) hB2).mono ?_
   rintro e w3 ⟨rfl,hw3⟩;have hprow3:=hw3.row hprow hnbp (by decide);obtain ⟨g0,g1,g2,_,_,_⟩:=hprow3.rc3;have hB3:wP.heap.size≤w3.heap.size:=Nat.le_trans hB2 hw3.bel.size;go_wp2_with fail
   refine (writeText_list wP.heap.size b _ pv w3 hw3.bld (by simp; omega) t2 hB3).mono ?_
   rintro e w4 ⟨rfl,hw4⟩;have hB4:wP.heap.size≤w4.heap.size:=Nat.le_trans hB3 hw4.bel.size;go_wp2_with fail
   refine (xbldWrite wP.heap.size b _ [34] w4 hw4.bld (by simp; omega) hB4).mono ?_
   rintro e w5 ⟨rfl,hw5⟩;have hwA:=((HWp.out.trans hw3).trans hw4).trans hw5;have hrowA:=hwA.row hr.out hnb (by decide);have hwF:=hw.out.trans hwA;rw [show l0++([60]++nm++attrsT (ps.take j))++([32]++pn++[61,34])++escX pv++[34]=l0++([60]++nm++attrsT (ps.take (j+1))) by rw [hsn.out,HATD.out]; simp] at hwF;have hBF:wP.heap.size≤w5.heap.size:=Nat.le_trans hB4 hw5.bel.size;go_wp2;go_roundw
   case rel=>exact ⟨j+1,by omega,by go_num,hid hwF,hid hrowA,hBF⟩
   case measure=>simp [intOf]; omega
  ·have hjl:j=ps.length:=by omega
   subst hjl;rw [List.take_length] at hw;have q6:¬ ((ps.length:Int) < (ps.length:Int)):=by omega
   obtain ⟨e0,e1,e2,e3,_,_,_,_⟩:=hr.out.rc4;have hbr:=HBW.out.trans hw.out.bel;have hbldr:=hw.out.bld;clear HPar HS3;go_wp2_with fail
   refine (KK.out wr hbr).mono ?_
   rintro e w3 ⟨kv,rfl,hown,hw3⟩;have hw3':=Wrote.of hw.out.bld hB hw3;have hr3:=hw3'.row hr.out hnb (by decide);obtain ⟨g0,g1,g2,g3,_,_,_,_⟩:=hr3.rc4;have hwB:=hw.out.trans hw3';have hB3:wP.heap.size≤w3.heap.size:=Nat.le_trans hB hw3.size;obtain ⟨ka,kc,hkv⟩:=hown.form;have hkl:(posCells (startsX (d+1) ks (k+1))).length=ks.length:=by simp [posCells,starts_len]
   rw [hkl] at hkv;subst hkv;have HKL:=hid hkl;have HWB:=hid hwB;have HR3:=hid hr3;have HOWN:=hid hown;clear e0 e1 e2 e3 hw hr hw3 hw3' hwB hr3 hown hkl KK;have hfr:(l0++([60]++nm++attrsT ps)).length=l0.length+1+nm.length+(attrsT ps).length:=by simp; omega
   have hkb:(Value.slice ka ks.length kc).ownBlock ≠ some b:=fun e=>by
    have:=World.ownsRow.lt HOWN.out b e
    have:=bld_lt hbldr
    omega
   obtain ⟨C0,hC0⟩:∃ C0,wr.heap.size=C0:=⟨_,rfl⟩
   rw [hC0] at HOWN;by_cases hem:tx=[]∧ks=[]
   ·obtain ⟨rfl,rfl⟩:=hem;have HP:Hid (printX (.mk nm ps [] [])=[60]++nm++attrsT ps++[47,62]):=show _=_ from print_nil rfl
    have q7:(([]:List UInt8)).isEmpty=true:=rfl;have q8:(((0:Nat):Int)==0)=true:=rfl;have hpx:(printX (.mk nm ps [] [])).length=3+nm.length+(attrsT ps).length:=by rw [HP.out]; simp; omega
    simp only [List.length_nil] at *;go_wp2_with fail
    refine (xbldWrite wP.heap.size b _ [47,62] w3 HWB.out.bld (by rw [hfr]; simp only [List.length_cons,List.length_nil]; omega) hB3).mono ?_
    rintro e w4 ⟨rfl,hw4⟩;have hwF:=HWB.out.trans hw4;rw [show l0++([60]++nm++attrsT ps)++[47,62]=l0++printX (.mk nm ps [] []) by rw [HP.out]; simp] at hwF;go_wp2
    first | go_end0 | refine bodyPost_ret (results_none rfl _ _ _) rfl ?_
    exact ⟨rfl,hwF⟩
   ·have hne:tx.isEmpty=false∨(tx.isEmpty=true∧((ks.length:Int)==0)=false):=by
     cases tx with
     | cons a b=>exact .inl rfl
     | nil =>
      right
      refine ⟨rfl,?_⟩
      cases ks with
      | nil=>exact absurd ⟨rfl,rfl⟩ hem
      | cons a b=>rw [beq_eq_false_iff_ne]; simp; omega
    have hnn:escX tx++printXs ks ≠ []:=fun e=>by
     rw [List.append_eq_nil_iff] at e;exact hem ⟨escX_nil.1 e.1,prints_nil e.2⟩
    have HP:Hid (printX (.mk nm ps tx ks)=[60]++nm++attrsT ps++([62]++(escX tx++printXs ks)++([60,47]++nm++[62]))):=show _=_ from print_in hnn
    have hpx:(printX (.mk nm ps tx ks)).length=5+2 * nm.length+(attrsT ps).length+(escX tx).length+(printXs ks).length:=by rw [HP.out]; simp; omega
    have HC3:=hid (xcat [60,47] nm);have HC4:=hid (xcat ([60,47]++nm) [62]);have hs3:¬ 9223372036854775807 < 2+nm.length:=by omega
    have hs4:¬ 9223372036854775807 < 2+nm.length+1:=by omega
    clear hem hnn
    rcases hne with hA | ⟨hA,hA2⟩
    all_goals
     (go_wp2_with fail
      refine (xbldWrite wP.heap.size b _ [62] w3 HWB.out.bld (by rw [hfr]; simp only [List.length_cons,List.length_nil]; omega) hB3).mono ?_
      rintro e w4 ⟨rfl,hw4⟩;have hr4:=hw4.row HR3.out hnb (by decide);obtain ⟨m0,m1,m2,m3,_,_,_,_⟩:=hr4.rc4;have hB4:wP.heap.size≤w4.heap.size:=Nat.le_trans hB3 hw4.bel.size;go_wp2_with fail
      refine (writeText_list wP.heap.size b _ tx w4 hw4.bld (by rw [List.length_append,hfr]; simp only [List.length_cons,List.length_nil]; omega) s2 hB4).mono ?_
      rintro e w5 ⟨rfl,hw5⟩;have hr5:=hw5.row hr4 hnb (by decide);have hB5:wP.heap.size≤w5.heap.size:=Nat.le_trans hB4 hw5.bel.size;have hw45:=hw4.trans hw5;have HO5:Hid (Own w5 C0 3 (.slice ka ks.length kc) (posCells (startsX (d+1) ks (k+1)))):=hw45.owns HOWN.out hkb (by decide);have HW5:=hid (HWB.out.trans hw45);have HR5:=hid hr5;clear g0 g1 g2 g3 m0 m1 m2 m3 hr4 hr5 hw4 hw5 hw45 HOWN HWB HR3 hA;go_wp2
      go_loopw [62] (fun iv wx=>∃ j:Nat,j≤ks.length∧iv=.int .i64 (j:Int)∧Hid (Wrote wP.heap.size b (l0++([60]++nm++attrsT ps)++[62]++escX tx++printXs (ks.take j)) w wx)∧Hid (RowIs wx w.heap.size 52 [.int .i64 (d:Int),.string ⟨nm.toArray⟩,.slice pao ps.length pcap,.string ⟨tx.toArray⟩])∧Hid (Own wx C0 3 (.slice ka ks.length kc) (posCells (startsX (d+1) ks (k+1))))∧wP.heap.size≤wx.heap.size) (fun iv _=>ks.length - (intOf iv).toNat)
      case atStart=>exact ⟨0,Nat.zero_le _,rfl,by simpa [printXs] using HW5,HR5,HO5,hB5⟩
      case round =>
       obtain ⟨j,hj,rfl,hw,hr,ho,hB⟩:=hrel;clear HW5 HR5 HO5 hB5;by_cases hlt:j < ks.length
       ·obtain ⟨g,rfl,cg⟩:=own_pos ho.out j (by rw [starts_len]; exact hlt);rw [starts_at (d+1) ks (k+1) j hlt] at cg;have hpt:=prints_take hlt;have hbx:=HBW.out.trans hw.out.bel;have KW:=hid (HI.out ks[j] (HSz.out j hlt) (k+1+(flatXs (d+1) (ks.take j)).length) (d+1) _ _ wr (HDrop.out j hlt) (HPost.out j) hbx hw.out.bld (by simp only [List.length_append,List.length_cons,List.length_nil]; omega) (HSI.out j hlt));unfold WrE at KW;have HSN:=hid (prints_snoc hlt);have HLT:=hid hlt;generalize k+1+(flatXs (d+1) (ks.take j)).length=pos at cg KW;have q6:(j:Int) < (ks.length:Int):=by omega
        go_wp2_with fail
        refine (KW.out).mono ?_
        rintro e w6 ⟨rfl,hw6⟩;have hr6:=hw6.row hr.out hnb (by decide);have ho6:Own w6 C0 3 (.slice (some ⟨g,0,none⟩) ks.length kc) (posCells (startsX (d+1) ks (k+1))):=hw6.owns ho.out hkb (by decide);have hwF:=hw.out.trans hw6;rw [List.append_assoc (l0++([60]++nm++attrsT ps)++[62]++escX tx),← HSN.out] at hwF;have hB6:wP.heap.size≤w6.heap.size:=Nat.le_trans hB hw6.bel.size;go_wp2;go_roundw
        case rel=>exact ⟨j+1,by have:=HLT.out; omega,by go_num,hid hwF,hid hr6,hid ho6,hB6⟩
        case measure=>have:=HLT.out; simp [intOf]; omega
       ·have hjl:j=ks.length:=by omega
        subst hjl;rw [List.take_length] at hw;have q6:¬ ((ks.length:Int) < (ks.length:Int)):=by omega
        obtain ⟨m0,m1,m2,m3,_,_,_,_⟩:=hr.out.rc4;go_wp2_with fail
        try rw [HC3.out]
        try rw [HC4.out]
        refine (xbldWrite wP.heap.size b _ ([60,47]++nm++[62]) wr hw.out.bld (by simp only [List.length_append,List.length_cons,List.length_nil]; omega) hB).mono ?_
        rintro e w7 ⟨rfl,hw7⟩;have hwF:=hw.out.trans hw7;rw [show l0++([60]++nm++attrsT ps)++[62]++escX tx++printXs ks++([60,47]++nm++[62])=l0++printX (.mk nm ps tx ks) by rw [HP.out]; simp] at hwF;go_wp2
        first | go_end0 | refine bodyPost_ret (results_none rfl _ _ _) rfl ?_
        exact ⟨rfl,hwF⟩)
end
structure RowD (w:World) (v:Value) (cs:List NdC):Prop where
 at':NdsAt w v cs
 len:cs.length≤1000
 deep:∀ c ∈ cs,0≤c.nd.deep∧c.nd.deep≤1000000
 small:∀ c ∈ cs,SmallN 1048576 c.nd
theorem RowD.below {w w':World} {v:Value} {cs:List NdC} (h:RowD w v cs) (hb:Below w.heap.size w w'):RowD w' v cs:=⟨h.at'.below hb,h.len,h.deep,h.small⟩
theorem sub_at {cs:List NdC} {p d:Nat} {t:XT} (h:SubAt (ndsL cs) p d t):∃ hp:p < cs.length,cs[p].nd=⟨d,nameT t,attrsOf t,textOf t⟩:=by
 have hl:=sub_lt h;rw [ndsL_len] at hl;exact ⟨hl,by rw [← sub_node h,ndsL_get hl]⟩
theorem own_lower {w:World} {B C:Nat} {e:TypeId} {v:Value} {xs:List Value} (h:Own w B e v xs) (hc:C≤B):Own w C e v xs:=by
 obtain ⟨h1,h2⟩:=h;refine ⟨h1,?_⟩
 rcases h2 with h2 | ⟨g,cap,cur,hv,hg,r⟩
 ·exact Or.inl h2
 ·exact Or.inr ⟨g,cap,cur,hv,Nat.le_trans hc hg,r⟩
def placesN (nm:List UInt8) (d:Nat) (t:XT) (p:Nat):List (Nat × XT):=namedP nm (startsP (d+1) (kidsOf t) (p+1))
theorem namedP_snoc {nm:List UInt8} {l:List (Nat × XT)} {j:Nat} (hj:j < l.length):namedP nm (l.take (j+1))=namedP nm (l.take j)++(if (localX (nameT l[j].2)==nm)=true then [l[j]] else []):=by
 unfold namedP;rw [List.take_succ_eq_append_getElem hj,List.filter_append,List.filter_cons]
 rfl
theorem namedP_le (nm:List UInt8) (l:List (Nat × XT)):(namedP nm l).length≤l.length:=List.length_filter_le _ _
end Go.Proofs.YtdnekampnkhmfaaGreatDoor
