/-
  Builder, FGrow, FJoin, FPrint, FParseL, FUnfold, FStart, FHeader, FHeaders, FParse, RHead, RHead2.
-/
import Derived.Test.YtiogedceommcoaaGreatDoorK16
import Derived.Lib.Builder
import Derived.Lib.FrozenHead2
import Derived.Lib.MakeNoZero
import Derived.Lib.FrozenHead
set_option linter.unusedVariables false
set_option linter.unusedSimpArgs false
set_option maxRecDepth 20000
namespace Go.Proofs.YtiogedceommcoaaGreatDoor
open Go.RowKit
abbrev IsBld (w:World) (B b:Nat) (l:List UInt8):Prop:=Lib.IsBuilderF 179 5 B b (Lib.byteCells l) w
theorem sizeBld:(Tryz.prog.info? 179).map (·.size)=some 2:=by kernel_rfl
theorem liesBld:liesAt Tryz.prog Tryz.prog.depth 179 (2 / Tryz.prog.cellsOf 179) 0 179 1=true:=by kernel_rfl
theorem infoPB:∃ j,Tryz.prog.info? 179=some j∧j.size=2:=Option.map_eq_some_iff.1 sizeBld
set_option maxHeartbeats 400000 in
theorem copyUsed (b:Nat) (w:World) (h0:w.cell? ⟨b,0,none⟩=some (.pointer (some ⟨b,0,none⟩))) :
  Calls Tryz.prog 178 #[.pointer (some ⟨b,0,none⟩)] w fun e w'=>e=.returned (.tuple #[])∧w'=w:=by
 obtain ⟨j,hj,_⟩:=infoPB
 go_enter Tryz.func178,Tryz.ntmps178
 go_wp2;rw [Lib.run_neq_ptr_same w _ Tryz.underlying177 hj];go_wp2
 go_end0
 exact ⟨rfl,rfl⟩
set_option maxHeartbeats 400000 in
theorem copyFresh (b:Nat) (w:World) (h0:w.cell? ⟨b,0,none⟩=some (.pointer none)) (hsh:w.shape? b=some (179,2)) (hfz:w.frozen? ⟨b,0,none⟩=false) :
  Calls Tryz.prog 178 #[.pointer (some ⟨b,0,none⟩)] w fun e w'=>e=.returned (.tuple #[])∧w'=w.setCell ⟨b,0,none⟩ (.pointer (some ⟨b,0,none⟩)):=by
 obtain ⟨j,hj,hjs⟩:=infoPB
 go_enter Tryz.func178,Tryz.ntmps178
 go_wp2;rw [Lib.run_to_unsafe w ⟨b,0,none⟩ Tryz.underlying177 Tryz.underlying211 hj (by rw [hjs]; decide) hsh (Nat.zero_lt_succ 1)];simp only [Result.andThen];rw [Oper.upon_value];go_wp2;rw [run_callFunc_extern Tryz.func200 (by kernel_rfl) (by kernel_rfl) (by kernel_rfl) (e:=Extern.AbiNoEscape.same) (by kernel_rfl)];rw [Lib.run_noEscape];simp only [Result.andThen];rw [Oper.upon_value];go_wp2;rw [Lib.run_from_unsafe w ⟨b,0,none⟩ Tryz.underlying211 Tryz.underlying177 hj hsh liesBld];simp only [Result.andThen];rw [Oper.upon_value];go_wp2
 go_end0
 exact ⟨rfl,rfl⟩
theorem cellsU8:Tryz.prog.cellsOf 5=1:=by kernel_rfl
set_option maxHeartbeats 1000000 in
set_option maxRecDepth 100000 in
theorem bldString (B b:Nat) (l:List UInt8) (w:World) (h:IsBld w B b l) (h0:l ≠ []) :
  Calls Tryz.prog 148 #[.pointer (some ⟨b,0,none⟩)] w fun e w'=>e=.returned (.string ⟨l.toArray⟩)∧(IsBld w' B b l∧Below B w w'∧Lib.OthersKept 5 (some b) w w'):=by
 obtain ⟨p,hp,hAt⟩:∃ p,(p=.pointer none∨p=.pointer (some ⟨b,0,none⟩))∧Lib.BuilderAtF 179 5 B b p (Lib.byteCells l) w:=by
  rcases h with h | h
  ·exact ⟨_,.inl rfl,h⟩
  ·exact ⟨_,.inr rfl,h⟩
 obtain ⟨hB,v,hbk,hown,hne⟩:=hAt;have hl0:l.length ≠ 0:=by simpa using h0
 rw [Lib.byteCells_length] at hown;obtain ⟨g,cap,cur,fz,rfl,hbg,hg,hfz,hnc,hcm,hcs,htake⟩:∃ g cap cur fz,v=.slice (some ⟨g,0,none⟩) l.length cap∧B≤g∧w.heap[g]? = some (.cells cur 5 fz)∧fz.2≤l.length * 1∧l.length≤cap∧cap≤maxLen∧cur.size=cap * 1∧cur.toList.take (l.length * 1)=Lib.byteCells l:=by
  rcases hown.2 with ⟨_,hz⟩ | ⟨g,cap,cur,fz,hv,r⟩
  ·exact absurd hz hl0
  ·exact ⟨g,cap,cur,fz,hv,r⟩
 have c1:w.drew.cell? ⟨b,1,none⟩=some (.slice (some ⟨g,0,none⟩) l.length cap):=by
  have:w.drew.heap[b]? = some (.cells #[p,.slice (some ⟨g,0,none⟩) l.length cap] 179 (0,0)):=hbk
  rw [Lib.cell_of_heap this]; rfl
 have hSD:(Builtin.unsafeSliceData_ #[143] 161 #[.slice (some ⟨g,0,none⟩) l.length cap]).run Tryz.prog w.drew=.ok (.pointer (some ⟨g,0,none⟩)) w.drew :=
  Lib.run_unsafeSliceData_row _ _ _ _ _ _ (by omega)
 have hUS:(Builtin.unsafeString_ #[161,3] 9 #[.pointer (some ⟨g,0,none⟩),.int .i64 l.length]).run Tryz.prog w.drew=.ok (.string ⟨l.toArray⟩) (w.drew.freeze ⟨g,0,none⟩ l.length):=by
  refine Lib.run_unsafeString_row w.drew 161 3 9 5 Tryz.underlying161 cellsU8 g cur.size (by have hg':w.drew.heap[g]? = some (.cells cur 5 fz):=hg; simp [World.shape?,hg']) l h0 (by omega) (by unfold maxLen at hcm; omega) ?_
  intro j x hx
  have:=hown.cells (g:=g) rfl j (.int .u8 x.toNat) (by simp [Lib.byteCells,hx])
  exact this
 have hkeep:IsBld (w.drew.freeze ⟨g,0,none⟩ l.length) B b l:=by
  have hA:Lib.BuilderAtF 179 5 B b p (Lib.byteCells l) w.drew:=⟨hB,_,hbk,by rw [Lib.byteCells_length]; exact hown,hne⟩
  have hF:=hA.froze (g:=g) (cap:=cap) (by rw [Lib.byteCells_length]; exact c1);rw [Lib.byteCells_length] at hF
  rcases hp with rfl | rfl
  ·exact .inl hF
  ·exact .inr hF
 go_enter Tryz.func148,Tryz.ntmps148
 go_wp2
 go_region
 all_goals (go_wp2; go_ret; exact ⟨rfl,hkeep,Lib.below_freeze (Below.drew (Below.refl B w)) (p:=⟨g,0,none⟩) hbg _,((Lib.OthersKept.refl _ _ w).drew).freeze ⟨g,0,none⟩ _ ⟨cur,fz,hg⟩⟩)
end Go.Proofs.YtiogedceommcoaaGreatDoor
namespace Go.Proofs.YtiogedceommcoaaGreatDoor
open Go.RowKit Sc
abbrev BldAt (w:World) (B b:Nat) (l:List UInt8):Prop:=Lib.BuilderAt 179 5 B b (.pointer (some ⟨b,0,none⟩)) (Lib.byteCells l) w
theorem sizeU8:(Tryz.prog.info? 5).map (·.size)=some 1:=by kernel_rfl
theorem strC_is (r:List UInt8):Lib.strCells ⟨r.toArray⟩=Lib.byteCells r:=rfl
set_option maxHeartbeats 2000000 in
set_option maxRecDepth 1000000 in
theorem bldGrow0 (B b n:Nat) (w:World) (hB:B≤b) (hbk:w.heap[b]? = some (.cells #[.pointer (some ⟨b,0,none⟩),.slice none 0 0] 179 (0,0))) (hBw:B≤w.heap.size) (hn:n≤1048576) :
  Calls Tryz.prog 179 #[.pointer (some ⟨b,0,none⟩),.int .i64 n] w fun e w'=>e=.returned (.tuple #[])∧(BldAt w' B b []∧Below B w w'):=by
 obtain ⟨cs,hrun,hle,hmax⟩:=Lib.run_makeNoZero (P:=Tryz.prog) w.drew #[3] 143 5 Tryz.underlying143 n (by omega);have hw:IntKind.i64.wrap (IntKind.i64.wrap 0+(n:Int))=n:=by
  rw [IntKind.wrap_i64,IntKind.wrap_i64];omega
 have hcall:(callFunc 201 #[.int .i64 (IntKind.i64.wrap (IntKind.i64.wrap 0+(n:Int)))]).run Tryz.prog w.drew=.ok (.value (.slice (some ⟨w.drew.heap.size,0,none⟩) n cs.size)) (w.drew.drew.drew.alloc (.cells cs 5)):=by
  rw [hw,run_callFunc_extern Tryz.func201 (by kernel_rfl) (by kernel_rfl) (by kernel_rfl) (e:=Extern.BytealgMakeNoZero.makeNoZero #[3] #[143]) (by kernel_rfl),hrun]
  rfl
 have hlt:b < w.heap.size:=by
  rcases Nat.lt_or_ge b w.heap.size with h' | h'
  ·exact h'
  ·simp [Array.getElem?_eq_none h'] at hbk
 have c1:w.drew.cell? ⟨b,1,none⟩=some (.slice none 0 0):=by
  have:w.drew.heap[b]? = _:=hbk
  rw [Lib.cell_of_heap this]; rfl
 have hbk2:(w.alloc (.cells cs 5)).heap[b]? = _:=(Lib.alloc_old w _ b hlt).trans hbk;have c2:(w.alloc (.cells cs 5)).cell? ⟨b,1,none⟩=some (.slice none 0 0):=by rw [Lib.cell_of_heap hbk2]; rfl
 have f2:(w.alloc (.cells cs 5)).frozen? ⟨b,1,none⟩=false:=Lib.frozen_of_heap hbk2 1;have hcopy:∀ W:World,(Builtin.copy_ #[143,143] 3 #[.slice (some ⟨w.heap.size,0,none⟩) 0 cs.size,.slice none 0 0]).run Tryz.prog W=.ok (goInt 0) W :=
  fun W=>run_copy_none W 143 143 3 5 _ _ 0 cs.size 0 0 Tryz.underlying143 sizeU8 rfl
 have hfin:=hid (Lib.grown_fresh (T:=179) (e:=5) (cs:=cs) hB hbk hBw (hmax (by unfold maxLen; omega)) (by decide));clear hw hbk2 hbk hrun hlt hB hBw hmax hle
 go_enter Tryz.func179,Tryz.ntmps179
 go_wp2
 go_region
 all_goals (go_wp2; go_end0; exact ⟨rfl,hfin.out⟩)
set_option maxHeartbeats 2000000 in
set_option maxRecDepth 1000000 in
theorem bldGrow (B b n:Nat) (w:World) (hB:B≤b) (hbk:w.heap[b]? = some (.cells #[.pointer none,.slice none 0 0] 179 (0,0))) (hBw:B≤w.heap.size) (hn:n≤1048576) (hn0:1≤n) :
  Calls Tryz.prog 146 #[.pointer (some ⟨b,0,none⟩),.int .i64 n] w fun e w'=>e=.returned (.tuple #[])∧(BldAt w' B b []∧Below B w w'):=by
 have KC:=hid (copyFresh b w (by rw [Lib.cell_of_heap hbk]; rfl) (by simp [World.shape?,hbk]) (Lib.frozen_of_heap hbk 0));have hbk1:(w.setCell ⟨b,0,none⟩ (.pointer (some ⟨b,0,none⟩))).heap[b]? = some (.cells #[.pointer (some ⟨b,0,none⟩),.slice none 0 0] 179 (0,0)):=by
  simp [World.setCell,Array.getElem?_modify,hbk]
 have hb1:Below B w (w.setCell ⟨b,0,none⟩ (.pointer (some ⟨b,0,none⟩))):=(Below.refl B w).setCell (p:=⟨b,0,none⟩) hB _;have hsz:B≤(w.setCell ⟨b,0,none⟩ (.pointer (some ⟨b,0,none⟩))).heap.size:=by simpa [World.setCell] using hBw
 generalize w.setCell ⟨b,0,none⟩ (.pointer (some ⟨b,0,none⟩))=W at KC hbk1 hb1 hsz;have c1:W.cell? ⟨b,1,none⟩=some (.slice none 0 0):=by rw [Lib.cell_of_heap hbk1]; rfl
 have KG:=hid (fun q=>bldGrow0 B b n (W.drewN q) hB hbk1 hsz hn);have hw0:IntKind.i64.wrap 0=0:=by decide
 have hdec:decide ((0:Int) < (n:Int))=true:=by simp; omega
 clear hbk hbk1
 go_enter Tryz.func146,Tryz.ntmps146
 go_wp2_with (go_at_call 178; refine KC.out.mono ?_; rintro e w' ⟨rfl,hw⟩; rw [hw])
 go_quiet (fail)
 go_wp2_with (go_at_call 179; refine (KG.out _).mono ?_; rintro e w2 ⟨rfl,h1,h2⟩)
 go_end0
 exact ⟨rfl,h1,hb1.trans (((below_drewN W nq).mono hsz).trans h2)⟩
set_option maxHeartbeats 2000000 in
set_option maxRecDepth 100000 in
theorem bldWrite (B b:Nat) (l r:List UInt8) (w:World) (h:BldAt w B b l) (hlen:l.length+r.length≤1048576) (hBw:B≤w.heap.size) :
  Calls Tryz.prog 147 #[.pointer (some ⟨b,0,none⟩),.string ⟨r.toArray⟩] w fun e w'=>e=.returned (.tuple #[.int .i64 r.length,.nilIface])∧(BldAt w' B b (l++r)∧Below B w w'):=by
 obtain ⟨i0,hi,hz0,hz1,hz2⟩:=info_parts info5;have hz:(⟨r.toArray⟩:ByteArray).size=r.length:=size_list r;have hbl:(Lib.byteCells l).length=l.length:=Lib.byteCells_length l;have KC:=hid (copyUsed b w h.cell0);obtain ⟨hB,v,hbk,hown,hne⟩:=h;have c0:w.cell? ⟨b,0,none⟩=some (.pointer (some ⟨b,0,none⟩)):=by rw [Lib.cell_of_heap hbk]; rfl
 have c1:w.cell? ⟨b,1,none⟩=some v:=by rw [Lib.cell_of_heap hbk]; rfl
 have hlt:b < w.heap.size:=by
  rcases Nat.lt_or_ge b w.heap.size with h' | h'
  ·exact h'
  ·simp [Array.getElem?_eq_none h'] at hbk
 go_enter Tryz.func147,Tryz.ntmps147
 go_wp2_with (first
  | (go_at_call 178; refine KC.out.mono ?_; rintro e w' ⟨rfl,hw⟩; rw [hw])
  | (at_builtin; refine Lib.wpList_append_own_string _ rfl _ _ 143 9 rfl B 5 i0 Tryz.underlying143 Tryz.underlying9 hi hz0 hz1 hz2 _ _ _ rfl hown ⟨r.toArray⟩ rfl ?c3 ?c4 hBw ?_))
 case c3=>rw [hz,hbl]; unfold maxLen; omega
 case c4=>rw [hz,hbl]; omega
 intro v' w2 hown' hgrow _;have hb2:w2.heap[b]? = some (.cells #[.pointer (some ⟨b,0,none⟩),v] 179 (0,0)):=by
  rw [hgrow.block b hlt (fun e=>hne e.symm)];exact hbk
 have d0:w2.cell? ⟨b,0,none⟩=some (.pointer (some ⟨b,0,none⟩)):=by rw [Lib.cell_of_heap hb2]; rfl
 have d1:w2.cell? ⟨b,1,none⟩=some v:=by rw [Lib.cell_of_heap hb2]; rfl
 have f1:w2.frozen? ⟨b,1,none⟩=false:=Lib.frozen_of_heap hb2 1;obtain ⟨ao,n',cap,rfl⟩:∃ ao n' cap,v'=.slice ao n' cap:=by
  rcases hown'.2 with ⟨hv,_⟩ | ⟨g,cap,cur,hv,_⟩
  ·exact ⟨_,_,_,hv⟩
  ·exact ⟨_,_,_,hv⟩
 have hput:=hid (Lib.BuilderAt.put (T:=179) (e:=5) hB hb2 (bs':=Lib.byteCells l++Lib.strCells ⟨r.toArray⟩) (by rw [List.length_append,Lib.strCells_length,hbl,hz]; exact hown') (by decide));have hbel:=hid (((Below.refl B w).grown hgrow hBw (fun k hk=>(hown.lt k hk).1)).setCell (p:=⟨b,1,none⟩) hB (.slice ao n' cap));rw [strC_is,show Lib.byteCells l++Lib.byteCells r=Lib.byteCells (l++r) by simp [Lib.byteCells]] at hput;clear hown' hgrow hb2 hbk hown hne KC hbl;go_wp2;go_ret2;exact ⟨by simp,hput.out,hbel.out⟩
theorem flat_take {ps:List (List UInt8)} {k:Nat} (hk:k < ps.length):(ps.take (k+1)).flatten=(ps.take k).flatten++ps[k]:=by
 rw [List.take_succ_eq_append_getElem hk,List.flatten_append]; simp
set_option maxHeartbeats 2000000 in
set_option maxRecDepth 100000 in
theorem join_any (ps:List (List UInt8)) (g cap:Nat) (w:World) (hat:∀ j (hj:j < ps.length),w.cell? ⟨g,j,none⟩=some (.string ⟨ps[j].toArray⟩)) (hg:g < w.heap.size) (h2:2≤ps.length) (hn:ps.length≤1000000) (hcap:ps.length≤cap)
  (hL0:ps.flatten ≠ []) (hL:ps.flatten.length≤4096) :
  Calls Tryz.prog 103 #[.slice (some ⟨g,0,none⟩) ps.length cap,.string ⟨#[]⟩] w fun e w'=>e=.returned (.string ⟨ps.flatten.toArray⟩)∧Below w.heap.size w w':=by
 have HAT:=hid hat;have HST:=hid (fun k (hk:k < ps.length)=>flat_take hk);have HSL:=hid (fun k=>sum_le (ps:=ps) k);have HSM:=hid (fun k (hk:k < ps.length)=>sum_step hk);clear hat;obtain ⟨n,hnn⟩:∃ n,n=ps.length:=⟨_,rfl⟩
 rw [← hnn] at hn h2 hcap ⊢;have HN:=hid hnn;clear hnn;obtain ⟨L,hLL⟩:∃ L,L=ps.flatten:=⟨_,rfl⟩
 rw [← hLL] at hL hL0 HSL ⊢;have HLL:=hid hLL;have HL0:=hid hL0;clear hLL hL0;have HFR:=hid (show (w.alloc (.cells #[.pointer none,.slice none 0 0] 179)).heap[w.heap.size]? = some (.cells #[.pointer none,.slice none 0 0] 179 (0,0)) by rw [heap_alloc_new]);have hA:=(Below.refl _ w).alloc (Nat.le_refl _) (.cells #[.pointer none,.slice none 0 0] 179);have hne0:((n:Int)==0)=false:=beq_eq_false_iff_ne.2 (by omega);have hne1:((n:Int)==1)=false:=beq_eq_false_iff_ne.2 (by omega)
 go_enter Tryz.func103,Tryz.ntmps103
 go_wp2
 go_loop [5,41] (fun x i=>∃ (k t:Nat),k≤n∧i=.int .i64 k∧x=.int .i64 t∧t≤4096∧Hid (t=(ps.take k).flatten.length)) (fun _ i=>n - (intOf i).toNat)
 case atStart=>exact ⟨0,0,Nat.zero_le _,rfl,rfl,by omega,hid (by simp)⟩
 case round =>
  obtain ⟨k,t,hk,rfl,rfl,ht4,ht⟩:=hrel;by_cases hlt:k < n
  ·have hkl:k < ps.length:=by have:=HN.out; omega
   have hcell:=HAT.out k hkl;have hz:(⟨ps[k].toArray⟩:ByteArray).size=ps[k].length:=size_list _;have hb1:t+ps[k].length≤4096:=by
    have h1:=HSM.out k hkl; have h2:=HSL.out (k+1); have h4:=ht.out; omega
   have hnx:Hid (t+ps[k].length=(ps.take (k+1)).flatten.length):=show _=_ by rw [HSM.out k hkl,ht.out]
   clear ht;generalize ps[k]=p at hcell hz hb1 hnx;go_wp2
   go_round
   case rel=>exact ⟨k+1,t+p.length,by omega,by go_num,by go_num,hb1,hnx⟩
   case measure=>simp [intOf]; omega
  ·have hv:t=L.length:=by rw [ht.out,HLL.out,List.take_of_length_le (by have:=HN.out; omega)]
   have hpos:1≤L.length:=by
    have:=HL0.out
    cases L with
    | nil=>exact absurd rfl this
    | cons _ _=>simp
   have h0l:0 < ps.length:=by have:=HN.out; omega
   have KG:=hid (bldGrow w.heap.size w.heap.size L.length (w.alloc (.cells #[.pointer none,.slice none 0 0] 179)) (Nat.le_refl _) HFR.out hA.size (by omega) hpos);have c0:=HAT.out 0 h0l;have hst0:=HST.out 0 h0l;have hsl1:=HSL.out 1;have hc1:¬ ((1:Int)=(cap:Int)):=by omega
   have hc2:¬ (1=cap):=by omega
   clear ht;subst hv;obtain ⟨p0,hp0⟩:∃ p0,p0=ps[0]:=⟨_,rfl⟩
   rw [← hp0] at c0 hst0;have hl1:p0.length≤4096:=by rw [hst0] at hsl1; simp at hsl1; omega
   have HS0:Hid ((ps.take 1).flatten=p0):=show _=_ by rw [hst0]; simp
   clear hp0 hst0 hsl1 HFR;go_wp2_with fail
   refine KG.out.mono ?_
   rintro e w1 ⟨rfl,hbl,hw1⟩;have hb1:=hA.trans hw1;have HBL:=hid hbl;have d0:=cell_below hb1 hg c0;clear hbl KG hw1 c0 hA;have KW:=hid (bldWrite w.heap.size w.heap.size [] p0 w1 HBL.out (by simp; omega) hb1.size);rw [List.nil_append] at KW;go_wp2_with fail
   refine KW.out.mono ?_
   rintro e w2 ⟨rfl,hbl,hw2⟩;have hb2:=hb1.trans hw2;have HBL2:=hid hbl;clear hbl KW hw2 d0 HBL hb1;go_wp2
   go_loopw [65] (fun i wr=>∃ (k:Nat) (l:List UInt8),k+1≤n∧i=.int .i64 k∧Hid (l=(ps.take (k+1)).flatten)∧Hid (BldAt wr w.heap.size w.heap.size l)∧Below w.heap.size w wr) (fun i _=>n - (intOf i).toNat)
   case atStart=>exact ⟨0,p0,by omega,rfl,hid HS0.out.symm,HBL2,hb2⟩
   case round =>
    clear HBL2 hb2 HS0 hl1;obtain ⟨k,l,hk,rfl,hl,HB,hb⟩:=hrel;by_cases hlt:k+1 < n
    ·have hkl:k+1 < ps.length:=by have:=HN.out; omega
     have hcell:=cell_below hb hg (HAT.out (k+1) hkl);have hlt2:(k:Int) < (n:Int) - 1:=by omega
     have hst:=HST.out (k+1) hkl;have hsl:=HSL.out (k+1+1);obtain ⟨p,hp⟩:∃ p,p=ps[k+1]:=⟨_,rfl⟩
     rw [← hp] at hcell hst;rw [Nat.add_comm k 1] at hcell;have hle:l.length+p.length≤4096:=by
      have h1:=hl.out; rw [hst,← h1,List.length_append] at hsl; omega
     have hnx:Hid (l++p=(ps.take (k+1+1)).flatten):=show _=_ by rw [hst,hl.out]
     have K0:=hid (bldWrite w.heap.size w.heap.size l [] wr HB.out (by simp; omega) hb.size);rw [List.append_nil] at K0;clear hst hsl hl hp hkl;go_wp2_with fail
     refine K0.out.mono ?_
     rintro e w3 ⟨rfl,hbl,hw3⟩;have hb3:=hb.trans hw3;have K1:=hid (bldWrite w.heap.size w.heap.size l p w3 hbl (by omega) hb3.size);clear hbl hw3 hcell HB K0;go_wp2_with fail
     refine K1.out.mono ?_
     rintro e w4 ⟨rfl,hbl,hw4⟩;have HB4:=hid hbl;have hb4:=hb3.trans hw4;clear hbl hw4 K1;go_wp2;go_roundw
     case rel=>exact ⟨k+1,l++p,by omega,by go_num,hnx,HB4,hb4⟩
     case measure=>simp [intOf]; omega
    ·have hv:l=L:=by rw [hl.out,HLL.out,List.take_of_length_le (by have:=HN.out; omega)]
     have hlt2:¬ ((k:Int) < (n:Int) - 1):=by omega
     subst hv;have KS:=hid (bldString w.heap.size w.heap.size l wr (Or.inr (Lib.BuilderAtF.of HB.out)) HL0.out);clear HB hl;go_wp2_with fail
     refine KS.out.mono ?_
     rintro e w5 ⟨rfl,_,hw5,_⟩;go_wp2;go_ret;exact ⟨rfl,hb.trans hw5⟩
end Go.Proofs.YtiogedceommcoaaGreatDoor
namespace Go.Proofs.YtiogedceommcoaaGreatDoor
open Go.RowKit Go.Sort Sc
theorem hdrs_flat_len {B:Nat}:∀ hs:List Hdr,(∀ p ∈ hs,p.name.length≤B∧p.value.length≤B) → (hs.flatMap hdrP).flatten.length≤hs.length * (2 * B+4)
 | [],_=>by simp
 | x :: hs,h=>by
  have ih:=hdrs_flat_len hs (fun p hp=>h p (by simp [hp]));have hx:=h x (by simp);rw [List.flatMap_cons,List.flatten_append,List.length_append,List.length_cons,Nat.add_mul];have e:(hdrP x).flatten.length=x.name.length+2+x.value.length+2:=by simp [hdrP,crlf]; omega
  omega
theorem text_bound {m:Ms} (h:SmallM 140737488355328 m) (h64:m.headers.length≤64) (h0:0≤m.status) (h1:m.status≤699):(piecesM m).flatten.length≤4611686018427387904:=by
 obtain ⟨k1,k2,k3,k4,_,k6⟩:=h;have hh:=hdrs_flat_len m.headers k6;have hm:m.headers.length * (2 * 140737488355328+4)≤64 * (2 * 140737488355328+4):=Nat.mul_le_mul_right _ h64;have d1:(digL m.body.length).length≤19:=digL_len19 (by omega);have d2:(digL m.status.toNat).length≤19:=digL_len19 (by omega);have e1:(startP m).flatten.length≤3 * 140737488355328:=by
  unfold startP
  split
  ·simp [versionK,crlf]; omega
  ·simp [versionK,crlf]; omega
 have e2:(lastP m.body).flatten.length≤140737488355328+100:=by
  simp [lastP,lengthK,crlf]; omega
 unfold piecesM;rw [List.flatten_append,List.flatten_append,List.length_append,List.length_append];omega
theorem first_st {m:Ms} (h:firstB m=true):0≤m.status∧m.status≤699:=by
 cases he:m.method.isEmpty with
 | true =>
  have:=first_resp he
  rw [h] at this;have h2:decide (100≤m.status)=true∧decide (m.status≤699)=true:=by
   revert this; cases decide (100≤m.status) <;> cases decide (m.status≤699) <;> simp
  exact ⟨by have:=of_decide_eq_true h2.1; omega,of_decide_eq_true h2.2⟩
 | false =>
  have:=first_req he
  rw [h] at this;have h2:decide (m.status=0)=true:=by
   revert this; cases tokenB m.method <;> cases tgtB m.target <;> cases decide (m.status=0) <;> simp
  have:=of_decide_eq_true h2
  omega
theorem text_ne (m:Ms):textM m ≠ []:=by
 unfold textM crlf; simp
theorem ret_pr {R:List UInt8 × Int} {x:List UInt8} {n:Int} (h:R=(x,n)):Ending.returned (.tuple #[.string ⟨x.toArray⟩,.int .i64 n])=.returned (.tuple #[.string ⟨R.1.toArray⟩,.int .i64 R.2]):=by rw [h]
set_option maxHeartbeats 4000000 in
set_option maxRecDepth 100000 in
theorem fprint_any (m:Ms) (h:Value) (w:World) (hsm:SmallM 140737488355328 m) (hat:HdrsAt w h m.headers) :
  Calls Tryz.prog 46 #[msgV m h] w fun e w'=>e=.returned (.tuple #[.string ⟨(printM m).1.toArray⟩,.int .i64 (printM m).2])∧Below w.heap.size w w':=by
 obtain ⟨i0,hi,hz0,hz1,hz2⟩:=info_parts info9;have KC:=hid (fun w' (hb:Below w.heap.size w w')=>fcheck_any m h w' hsm (hat.below hb));obtain ⟨ao,cap,rfl,hcell⟩:=hat.get;have HC:=hid hcell;have HBX:=hid (boxM_new w m (.slice ao m.headers.length cap));have hb0:Below w.heap.size w (w.alloc (objM m (.slice ao m.headers.length cap))):=(Below.refl _ w).alloc (Nat.le_refl _) _;have hlt:=alloc_lt w (objM m (.slice ao m.headers.length cap));clear hcell hat;by_cases hok:checkM m=0
 case neg =>
  have HP:Hid (printM m=([],checkM m)):=show _=_ by rw [printM,if_pos hok]
  have hne:(checkM m != 0)=true:=by simpa using hok
  generalize printM m=R at HP ⊢;generalize checkM m=cv at KC HP hne;clear hok hsm HC;obtain ⟨me,ta,st,re,hs,bo⟩:=m;unfold msgV at KC ⊢;unfold objM at HBX hb0 hlt;simp only at KC HBX hb0 hlt ⊢;obtain ⟨x0,x1,x2,x3,x4,x5⟩:=HBX.out;simp only at x0 x1 x2 x3 x4 x5
  go_enter Tryz.func46,Tryz.ntmps46
  go_wp2_with fail
  refine (KC.out _ hb0).mono ?_
  rintro e w1 ⟨rfl,hw1⟩;go_wp2;go_ret2;exact ⟨ret_pr (x:=[]) HP.out,hb0.trans (hw1.mono hb0.size)⟩
 obtain ⟨f1,f2,f3⟩:=checkM_ok hok;obtain ⟨s0,s1⟩:=first_st f1;have HTB:=hid (text_bound hsm f2 s0 s1);have HPF:=hid (pieces_flat m);have HNE:=hid (text_ne m);have HP:Hid (printM m=if 4096 < (textM m).length then ([],2) else (textM m,0)):=show _=_ by rw [printM,if_neg (by simp [hok])]
 have KP:=hid (fun w'=>spieces_any m ao m.headers.length cap w' s0 s1);have hPM:piecesM m=startP m++m.headers.flatMap hdrP++lastP m.body:=rfl;have hsl:=startP_len m;have hbo:=hsm.2.2.2.1;have KD:=hid (fun w'=>digits_any m.body.length w' (by omega));rw [hok] at KC;generalize printM m=R at HP ⊢;generalize textM m=T at HPF HNE HP;generalize startP m=S at KP hPM hsl;clear hok f1 f3 hsm;obtain ⟨me,ta,st,re,hs,bo⟩:=m;unfold msgV at KC KP ⊢;unfold objM at HBX hb0 hlt;simp only at KC KP KD HC HBX hb0 hlt hPM f2 hbo ⊢;have hlp:lastP bo=[lengthK,[58,32],digL bo.length,crlf,crlf,bo]:=rfl;generalize digL bo.length=dg at KD hlp;generalize piecesM _=P at HTB HPF hPM;obtain ⟨n,hnn⟩:∃ n,n=hs.length:=⟨_,rfl⟩
 rw [← hnn] at HBX hb0 hlt KC KP f2 ⊢;have HN:=hid hnn;have HPM:=hid hPM;have HLP:=hid hlp;have HSL:=hid hsl;clear hnn hPM hlp hsl;obtain ⟨x0,x1,x2,x3,x4,x5⟩:=HBX.out;simp only at x0 x1 x2 x3 x4 x5
 go_enter Tryz.func46,Tryz.ntmps46
 go_wp2_with fail
 refine (KC.out _ hb0).mono ?_
 rintro e w1 ⟨rfl,hw1⟩;have HB1:=hid (BoxM.below HBX.out hw1 hlt);have hb1:=hb0.trans (hw1.mono hb0.size);have hlt1:=Nat.lt_of_lt_of_le hlt hw1.size;clear HBX hw1 hb0 hlt x0 x1 x2 x3 x4 x5 KC;obtain ⟨x0,x1,x2,x3,x4,x5⟩:=HB1.out;simp only at x0 x1 x2 x3 x4 x5;go_wp2_with fail
 refine (KP.out _).mono ?_
 rintro e w2 ⟨v2,rfl,hown2,hw2⟩;obtain ⟨a2,c2,hv2⟩:=hown2.form;subst hv2;rw [strs_length,HSL.out] at hown2 ⊢;have HO2:=hid hown2;clear hown2 KP x0 x1 x2 x3 x4 x5;obtain ⟨x0,x1,x2,x3,x4,x5⟩:=BoxM.below HB1.out hw2 hlt1;simp only at x0 x1 x2 x3 x4 x5;go_wp2
 go_loopw [5,18] (fun x i wr=>∃ k:Nat,k≤n∧i=.int .i64 k∧Hid (Own wr w1.heap.size 9 x (strs (S++(hs.take k).flatMap hdrP)))∧Below w1.heap.size w1 wr∧w1.heap.size≤wr.heap.size) (fun _ i _=>n - (intOf i).toNat)
 case atStart=>exact ⟨0,Nat.zero_le _,rfl,hid (by simpa using HO2.out),hw2,hw2.size⟩
 case round =>
  clear x0 x1 x2 x3 x4 x5 HO2 hw2;obtain ⟨k,hk,rfl,HO,hb,hB⟩:=hrel;obtain ⟨x0,x1,x2,x3,x4,x5⟩:=BoxM.below HB1.out hb hlt1;simp only at x0 x1 x2 x3 x4 x5;have hbw:Below w.heap.size w wr:=hb1.trans (hb.mono hb1.size);have hlen:(S++(hs.take k).flatMap hdrP).length≤1000:=by
   rw [List.length_append,hdrsP_len,List.length_take,HSL.out]; omega
  by_cases hlt2:k < n
  ·have hkl:k < hs.length:=by have:=HN.out; omega
   obtain ⟨a,ha,hab,h0,h1⟩:=HC.out k hkl;have d0:=cell_below hbw (by rw [add_block]; exact hab) h0;have d1:=cell_below hbw (by simp only [add_block]; exact hab) h1;have hst:=hid (hdrsP_step hkl);obtain ⟨xa,xc,hxe⟩:=HO.out.form;subst hxe;rw [strs_length] at HO;clear hab h0 h1;subst ha;generalize hs[k]=x at d0 d1 hst;obtain ⟨nm,vl⟩:=x;simp only at d0 d1;have hnx:Hid ((S++(hs.take k).flatMap hdrP)++hdrP ⟨nm,vl⟩=S++(hs.take (k+1)).flatMap hdrP):=show _=_ by rw [hst.out]; simp
   generalize hQ:S++(hs.take k).flatMap hdrP=Q at HO hlen hnx;clear hst hQ;rw [strs_length];have HNV:=hid (new_txts (wr.alloc (objH ⟨nm,vl⟩)) 9 (hdrP ⟨nm,vl⟩));have hO3:=hid (fun o o2=>((HO.out.alloc o).alloc o2));have hb3:=hid (fun o o2=>(hb.alloc hB o).alloc (o:=o2) (by have:=hB; simp; omega));unfold objH at HNV;rw [show (wr.alloc (.cells #[.string ⟨nm.toArray⟩,.string ⟨vl.toArray⟩] 52)).heap.size=wr.heap.size+1 by simp] at HNV;clear HO x0 x1 x2 x3 x4 x5;go_wp2_with (at_builtin; refine wp_appT _ rfl (.tmp 22) (.tmp 27) 35 rfl w1.heap.size 9 i0 (.string .empty) Tryz.underlying35 hi hz0 hz1 hz2 rfl _ Q rfl (hO3.out _ _) ⟨_,0,none⟩ 4 (hdrP ⟨nm,vl⟩) 4 rfl rfl (by exact HNV.out) (by omega) w1 (hb3.out _ _) (by simp; omega) ?_; intro v5 w5 hown5 hb5 hB5)
   rw [hnx.out] at hown5;have HO5:=hid hown5;clear hown5;go_wp2;go_roundw
   case rel=>exact ⟨k+1,by omega,by go_num,HO5,hb5,hB5⟩
   case measure=>simp [intOf]; omega
  ·have hQ:S++(hs.take k).flatMap hdrP=S++hs.flatMap hdrP:=by rw [List.take_of_length_le (by have:=HN.out; omega)]
   rw [hQ] at HO hlen;obtain ⟨Q,hQQ⟩:∃ Q,Q=S++hs.flatMap hdrP:=⟨_,rfl⟩
   rw [← hQQ] at HO hlen;have HPQ:Hid (P=Q++[lengthK,[58,32],dg,crlf,crlf,bo]):=show _=_ by rw [HPM.out,HLP.out,← hQQ]
   clear hQ hQQ HPM HLP HSL HC HN;obtain ⟨xa,xc,hxe⟩:=HO.out.form;subst hxe;rw [strs_length] at HO ⊢;have HX5:=hid (fun (w3:World) (hw3:Below wr.drew.heap.size wr.drew w3)=>cell_below hw3 (show w.heap.size < wr.drew.heap.size from Nat.lt_of_lt_of_le hlt1 hB) x5);have HOX:=hid (fun (w3:World) (hw3:Below wr.drew.heap.size wr.drew w3) (o:Obj)=>(HO.out.drew.below hw3).alloc o);have HBX:=hid (fun (w3:World) (hw3:Below wr.drew.heap.size wr.drew w3) (o:Obj)=>(hb.drew.trans (hw3.mono hB)).alloc (Nat.le_trans hB hw3.size) o);have HSX:=hid (fun (w3:World) (hw3:Below wr.drew.heap.size wr.drew w3)=>Nat.le_trans hB hw3.size);have hzb:(⟨bo.toArray⟩:ByteArray).size=bo.length:=size_list bo;clear HO;go_wp2
   go_region_law (first
    | (refine step_appT rfl (.tmp 30) (.tmp 37) 35 rfl w1.heap.size 9 i0 (.string .empty) Tryz.underlying35 hi hz0 hz1 hz2 rfl _ Q rfl (HOX.out _ hw3 _) ⟨_,0,none⟩ 6 [lengthK,[58,32],dg,crlf,crlf,bo] 6 rfl rfl (by exact new_txts _ _ [lengthK,[58,32],dg,crlf,crlf,bo]) (by omega) w1 (HBX.out _ hw3 _) (by have:=HSX.out _ hw3; simp; omega) ?_; intro v5 w5 hown5 hb5 hB5)
    | (go_simp; go_at_call 50; refine (KD.out _).mono ?_; rintro e w3 ⟨rfl,hw3⟩; have hx5:=HX5.out _ hw3))
   all_goals
    rw [← HPQ.out] at hown5;have hPne:P ≠ []:=by rw [HPQ.out]; simp
    obtain ⟨g,pc,hve,hpc,hg,hBg,hcl⟩:=own_cells hown5 hPne;have hpl:P.length≤1006:=by rw [HPQ.out,List.length_append]; simp; omega
    have hp2:2≤P.length:=by rw [HPQ.out,List.length_append]; simp
    have KL:=hid (lengthOf_any P ⟨g,0,none⟩ pc w5 (fun j hj=>⟨hg,by rw [add_at,Nat.zero_add]; exact hcl j hj⟩) (by omega) HTB.out);have KJ:=hid (fun h4=>join_any P g pc w5 hcl hg hp2 (by omega) hpc (by rw [HPF.out]; exact HNE.out) h4);rw [HPF.out] at KL KJ;have hbw5:Below w.heap.size w w5:=hb1.trans (hb5.mono hb1.size);subst hve;clear hcl hown5 hb5 hB5 HPQ hPne;by_cases h4:4096 < T.length
    ·have h4':(4096:Int) < (T.length:Int):=by omega
     have HR:Hid (R=([],2)):=show _=_ by rw [HP.out,if_pos h4]
     go_wp2_with (go_at_call 102; refine KL.out.mono ?_; rintro e w6 ⟨rfl,hw⟩; rw [hw])
     go_ret2;exact ⟨ret_pr (x:=[]) HR.out,hbw5⟩
    ·have h4':¬ ((4096:Int) < (T.length:Int)):=by omega
     have HR:Hid (R=(T,0)):=show _=_ by rw [HP.out,if_neg h4]
     have KJ2:=hid (KJ.out (by omega));go_wp2_with (first
      | (go_at_call 102; refine KL.out.mono ?_; rintro e w6 ⟨rfl,hw⟩; rw [hw])
      | (go_at_call 103; refine KJ2.out.mono ?_; rintro e w7 ⟨rfl,hw7⟩))
     go_ret2;exact ⟨ret_pr HR.out,hbw5.trans (hw7.mono hbw5.size)⟩
end Go.Proofs.YtiogedceommcoaaGreatDoor
namespace Go.Proofs.YtiogedceommcoaaGreatDoor
open Go.RowKit Sc
def valG:Int → List UInt8 → Int
 | n,[]=>n
 | n,b :: r=>valG (10 * n+((b.toNat:Int) - 48)) r
theorem valG_ge:∀ (l:List UInt8) (n:Int),0≤n → allB 1 l=true → n≤valG n l
 | [],n,_,_=>Int.le_refl _
 | b :: r,n,h0,h=>by
  have hb:=u8_bd b;have h1:isB b.toNat 1=true∧allB 1 r=true:=by unfold allB at h ⊢; simpa using h
  rw [isB_digit _ hb.1 hb.2] at h1;have h2:=of_decide_eq_true h1.1
  have:=valG_ge r (10 * n+((b.toNat:Int) - 48)) (by omega) h1.2
  unfold valG; omega
theorem numL_is (most:Int) (hm:9≤most):∀ (l:List UInt8) (n:Int),0≤n → n≤most → allB 1 l=true → numL most n l=if valG n l≤most then some (valG n l) else none
 | [],n,_,hn,_=>by rw [numL,valG,if_pos hn]
 | b :: r,n,h0,hn,h=>by
  have hb:=u8_bd b;have h1:isB b.toNat 1=true∧allB 1 r=true:=by unfold allB at h ⊢; simpa using h
  rw [isB_digit _ hb.1 hb.2] at h1;have h2:=of_decide_eq_true h1.1;have hg:=valG_ge r (10 * n+((b.toNat:Int) - 48)) (by omega) h1.2;rw [numL,valG];by_cases hc:(b.toNat:Int) - 48 > most∨n > (most - ((b.toNat:Int) - 48)) / 10
  ·rw [if_pos hc,if_neg (by omega)]
  ·rw [if_neg hc,numL_is most hm r _ (by omega) (by omega) h1.2]
theorem numV_is {most:Int} (hm:9≤most) (l:List UInt8):numV most l=if l=[]∨allB 1 l=false then (0,10) else if valG 0 l≤most then (valG 0 l,0) else (0,9):=by
 unfold numV;by_cases h:l=[]∨allB 1 l=false
 ·rw [if_pos h,if_pos h]
 ·rw [if_neg h,if_neg h,numL_is most hm l 0 (by omega) (by omega) (by simp only [not_or] at h; simpa using h.2)];by_cases h2:valG 0 l≤most
  ·rw [if_pos h2,if_pos h2]
  ·rw [if_neg h2,if_neg h2]
theorem numV_nonneg {most:Int} (hm:9≤most) {l:List UInt8} (h:(numV most l).2=0):0≤(numV most l).1∧(numV most l).1≤most:=by
 rw [numV_is hm] at h ⊢
 split at h
 ·simp at h
 ·rename_i h1
  rw [if_neg h1]
  split at h
  ·rename_i h2
   rw [if_pos h2];simp only [not_or] at h1;exact ⟨valG_ge l 0 (Int.le_refl _) (by simpa using h1.2),h2⟩
  ·simp at h
theorem cut_more {c:UInt8} {s:List UInt8} (h:(cutL c s).2.2=false):(cutL c (cutL c s).2.1).2.2=false:=by
 rcases idx_cases s c with ⟨h1,_⟩ | ⟨a,b,rfl,h2,_⟩
 ·rw [cutL_miss h1]; rfl
 ·rw [cutL_hit h2] at h; simp at h
theorem parse_long {s:List UInt8} (h:4096 < s.length):parseM s=(noM,2):=by rw [parseM,if_pos h]
end Go.Proofs.YtiogedceommcoaaGreatDoor
namespace Go.Proofs.YtiogedceommcoaaGreatDoor
open Go.RowKit Go.Sort Sc
theorem own_set {w:World} {B:Nat} {e:TypeId} {g cap n:Nat} {xs:List Value} (h:Own w B e (.slice (some ⟨g,0,none⟩) n cap) xs) (i:Nat) (x:Value):Own (w.setCell ⟨g,i,none⟩ x) B e (.slice (some ⟨g,0,none⟩) n cap) (xs.set i x):=by
 obtain ⟨h1,h2⟩:=h
 rcases h2 with ⟨h2,_⟩ | ⟨g',cap',cur,hv,hb,hg,hnc,hcm,hcs,ht⟩
 ·cases h2
 ·simp only [Value.slice.injEq,Option.some.injEq,Addr.mk.injEq,and_true] at hv;obtain ⟨rfl,hn,rfl⟩:=hv;refine ⟨by simp,Or.inr ⟨g,cap,cur.setIfInBounds i x,by rw [List.length_set,hn],hb,heap_setCell_same w g i cur e x hg,by simpa using hnc,hcm,by simpa using hcs,?_⟩⟩
  rw [Array.toList_setIfInBounds,List.take_set,List.length_set,ht]
theorem own_frozen {w:World} {B:Nat} {e:TypeId} {g cap n:Nat} {xs:List Value} (h:Own w B e (.slice (some ⟨g,0,none⟩) n cap) xs) (i:Nat):w.frozen? ⟨g,i,none⟩=false:=by
 rcases h.2 with ⟨h2,_⟩ | ⟨g',cap',cur,hv,hb,hg,_⟩
 ·cases h2
 ·simp only [Value.slice.injEq,Option.some.injEq,Addr.mk.injEq,and_true] at hv;obtain ⟨rfl,_⟩:=hv
  simp [World.frozen?,hg]
theorem strs_set (l:List (List UInt8)) (i:Nat) (x:List UInt8):(strs l).set i (.string ⟨x.toArray⟩)=strs (l.set i x):=by
 simp [strs,List.map_set]
def zeroM:List Value:=[.string ⟨#[]⟩,.string ⟨#[]⟩,.int .i64 0,.string ⟨#[]⟩,.slice none 0 0,.string ⟨#[]⟩]
theorem rowM_new (w:World):RowIs (w.alloc (.cells #[.string ⟨#[]⟩,.string ⟨#[]⟩,.int .i64 0,.string ⟨#[]⟩,.slice none 0 0,.string ⟨#[]⟩] 24)) w.heap.size 24 zeroM:=by
 unfold RowIs; rw [heap_alloc_new]; rfl
theorem RowIs.drew {w:World} {g:Nat} {e:TypeId} {l:List Value} (h:RowIs w g e l):RowIs w.drew g e l:=h
theorem key {w X:World} {b:Nat} {v0 v1 v2 v3 v4 v5:Value} (hm:RowIs X b 24 [v0,v1,v2,v3,v4,v5]) (hr:RowIs X w.heap.size 24 zeroM) (hb:Below w.heap.size w X) (h1:w.heap.size < b) (h2:b < X.heap.size) :
  ∀ w5,Below X.drew.heap.size X.drew w5 → (Six w5 b v0 v1 v2 v3 v4 v5∧Six w5 w.heap.size (.string ⟨#[]⟩) (.string ⟨#[]⟩) (.int .i64 0) (.string ⟨#[]⟩) (.slice none 0 0) (.string ⟨#[]⟩)∧RowIs w5 w.heap.size 24 zeroM∧Below w.heap.size w w5):=by
 intro w5 h5;have hr5:=RowIs.below hr.drew h5 (Nat.lt_trans h1 h2);exact ⟨(RowIs.below hm.drew h5 h2).six,RowIs.six hr5,hr5,hb.drew.trans (h5.mono hb.size)⟩
theorem smallM_of {me ta re:List UInt8} {st:Int} (h1:me.length≤100000) (h2:ta.length≤100000) (h3:re.length≤100000):SmallM 140737488355328 ⟨me,ta,st,re,[],[]⟩ :=
 ⟨by show me.length≤_; omega,by show ta.length≤_; omega,by show re.length≤_; omega,by simp,by simp,fun p hp=>by simp at hp⟩
theorem behind_len (l:List UInt8):(behindL l).length≤l.length:=by
 unfold behindL;rw [List.length_reverse];refine Nat.le_trans (List.dropWhile_sublist _).length_le ?_
 rw [List.length_reverse]; exact Nat.le_refl _
theorem OwnH.form {w:World} {B:Nat} {v:Value} {hs:List Hdr} (h:OwnH w B v hs):∃ a cap,v=.slice a hs.length cap:=h.hdrsAt.form
def MsgRes (R:Ms × Int) (w w':World) (e:Ending):Prop:=∃ h,e=.returned (.tuple #[msgV R.1 h,.int .i64 R.2])∧OwnH w' w.heap.size h R.1.headers
theorem pres_bad {R:Ms × Int} {n:Int} {w w':World} (h:R=(noM,n)):MsgRes R w w' (.returned (.tuple #[.agg #[.string ⟨#[]⟩,.string ⟨#[]⟩,.int .i64 0,.string ⟨#[]⟩,.slice none 0 0,.string ⟨#[]⟩],.int .i64 n])):=by
 subst h;exact ⟨.slice none 0 0,rfl,OwnH.nil _ _⟩
theorem pres_ok {R:Ms × Int} {me ta re bo:List UInt8} {st:Int} {hs:List Hdr} {v:Value} {w w':World} (h:R=(⟨me,ta,st,re,hs,bo⟩,0)) (ho:OwnH w' w.heap.size v hs) :
  MsgRes R w w' (.returned (.tuple #[.agg #[.string ⟨me.toArray⟩,.string ⟨ta.toArray⟩,.int .i64 st,.string ⟨re.toArray⟩,v,.string ⟨bo.toArray⟩],.int .i64 0])):=by
 subst h;exact ⟨v,rfl,ho⟩
theorem rowB_new (w:World) (me ta re bo:List UInt8) (st:Int):RowIs (w.alloc (.cells #[.string ⟨me.toArray⟩,.string ⟨ta.toArray⟩,.int .i64 st,.string ⟨re.toArray⟩,.slice none 0 0,.string ⟨bo.toArray⟩] 24)) w.heap.size 24 [.string ⟨me.toArray⟩,.string ⟨ta.toArray⟩,.int .i64 st,.string ⟨re.toArray⟩,.slice none 0 0,.string ⟨bo.toArray⟩]:=by
 unfold RowIs; rw [heap_alloc_new]
theorem RowIs.alloc2 {w:World} {g:Nat} {e:TypeId} {l:List Value} (h:RowIs w g e l) (o:Obj):RowIs (w.alloc o) g e l :=
 h.below ((Below.refl _ w).alloc (Nat.le_refl _) o) (Array.getElem?_eq_some_iff.1 h).1
theorem OwnH.setB {w:World} {B:Nat} {v:Value} {hs:List Hdr} (h:OwnH w B v hs) {b:Nat} (hb:b < B) (j:Nat) (u:Value):OwnH (w.setCell ⟨b,j,none⟩ u) B v hs:=ownsRow_setCell_below h hb _
theorem OwnH.store {w:World} {B:Nat} {v:Value} {hs:List Hdr} (h:OwnH w B v hs) {b:Nat} (hb:b < B) (v0 v1 v2 v3 v4 v5:Value) :
  OwnH ((((((w.setCell ⟨b,0,none⟩ v0).setCell ⟨b,1,none⟩ v1).setCell ⟨b,2,none⟩ v2).setCell ⟨b,3,none⟩ v3).setCell ⟨b,4,none⟩ v4).setCell ⟨b,5,none⟩ v5) B v hs :=
 (((((h.setB hb 0 v0).setB hb 1 v1).setB hb 2 v2).setB hb 3 v3).setB hb 4 v4).setB hb 5 v5
set_option maxHeartbeats 1000000 in
theorem rline_any (s:ByteArray) (k:Nat) (w:World) (hs:s.size≤4096) (hk:k≤s.size) :
  Calls Tryz.prog 107 #[.string s,.int .i64 k] w fun e w'=>e=.returned (.tuple #[.string ⟨(lineI s.data.toList k).1.toArray⟩,.int .i64 (lineI s.data.toList k).2])∧w'=w:=by
 obtain ⟨R,hR⟩:∃ R,R=lineI s.data.toList k:=⟨_,rfl⟩
 rw [← hR];have HR:=hid hR;clear hR
 go_enter Tryz.func107,Tryz.ntmps107
 go_wp2
 go_loop [6] (fun i=>∃ j:Nat,k≤j∧j≤s.size∧i=.int .i64 j∧Hid (LineAt s.data.toList k j)) (fun i=>s.size - (intOf i).toNat)
 case atStart=>exact ⟨k,Nat.le_refl _,hk,rfl,LineAt.start _ _⟩
 case round =>
  obtain ⟨j,hkj,hjs,rfl,hL⟩:=hrel;by_cases hlt:j+1 < s.size
  ·have hlt':(j:Int)+1 < (s.size:Int):=by omega
   have hd1:=drop_cons s j (by omega);have hd2:=drop_cons s (j+1) hlt;have hbd:=u8_bd s[j];have hbd2:=u8_bd s[j+1];have e1:((j:Int)+1).toNat=j+1:=by omega
   by_cases h13:s[j]=13
   ·have q13:((s[j].toNat:Int)==13)=true:=by rw [h13]; rfl
    by_cases h10:s[j+1]=10
    ·have q10:((s[j+1].toNat:Int)==10)=true:=by rw [h10]; rfl
     have hv:Hid (R=((s.extract k j).data.toList,((j+2:Nat):Int))):=show _=_ by
      rw [HR.out,LineAt.hit hkj hL.out (by rw [hd1,hd2,h13,h10]),ext_list]
     clear hd1 hd2 h13 h10 hL HR;go_wp2;go_ret2;exact ⟨by rw [hv.out]; first | rfl | (congr 1; simp),rfl⟩
    ·have q10:((s[j+1].toNat:Int)==10)=false:=u8_ne (b:=10) h10;have hnx:Hid (LineAt s.data.toList k (j+1)):=LineAt.skip hkj hL.out hd1 (by rw [hd2]; rintro ⟨_,h⟩; exact h10 (by simpa using h));clear hd1 hd2 h13 h10 hL;go_wp2
     go_round
     case rel=>exact ⟨j+1,by omega,by omega,by go_num,hnx⟩
     case measure=>simp [intOf]; omega
   ·have q13:((s[j].toNat:Int)==13)=false:=u8_ne (b:=13) h13;have hnx:Hid (LineAt s.data.toList k (j+1)):=LineAt.skip hkj hL.out hd1 (by rintro ⟨h,_⟩; exact h13 h);clear hd1 hd2 h13 hL;go_wp2
    go_round
    case rel=>exact ⟨j+1,by omega,by omega,by go_num,hnx⟩
    case measure=>simp [intOf]; omega
  ·have hlt':¬ ((j:Int)+1 < (s.size:Int)):=by omega
   have hv:Hid (R=([],-1)):=show _=_ by rw [HR.out]; exact LineAt.end hL.out (by rw [len_data]; omega)
   clear hL HR;go_wp2;go_ret2;exact ⟨by rw [hv.out]; rfl,rfl⟩
theorem rline_list (l:List UInt8) (k:Nat) (w:World) (hs:l.length≤4096) (hk:k≤l.length) :
  Calls Tryz.prog 107 #[.string ⟨l.toArray⟩,.int .i64 k] w fun e w'=>e=.returned (.tuple #[.string ⟨(lineI l k).1.toArray⟩,.int .i64 (lineI l k).2])∧w'=w:=rline_any ⟨l.toArray⟩ k w (by rw [size_list]; exact hs) (by rw [size_list]; exact hk)
def HeadRes (H:Option (List (List UInt8) × List UInt8)) (s:List UInt8) (w w':World) (e:Ending):Prop :=
 (H=none∧e=.returned (.tuple #[.slice none 0 0,.int .i64 (-1)]))∨∃ (Q:List (List UInt8)) (k:Nat) (v:Value),H=some (Q,s.drop k)∧e=.returned (.tuple #[v,.int .i64 k])∧Own w' w.heap.size 9 v (strs Q)∧k≤s.length∧sumL Q≤8192
end Go.Proofs.YtiogedceommcoaaGreatDoor
