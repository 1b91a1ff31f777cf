/-
  PsS, PShelf, PSort, PtE, PtF, PtG.
-/
import Derived.Test.YteicmbhilambpaaGreatDoorPV40
set_option linter.unusedVariables false
set_option linter.unusedSimpArgs false
set_option maxRecDepth 20000
namespace Go.Proofs.YteicmbhilambpaaGreatDoor
open Go.RowKit Go.Maps Go.WideMaps Sc
section
variable {B bt mn ma be mw : Nat} {w w' : World} {c : Cf} {last : Int} {l la : List PbC} {r : List Tm}
theorem field_whoP (x:PbC) (h:SlF x.ts∧SlF x.ns) (u:World):(Instr.field 62 (pbV x) 1).run Tryz.prog u=.ok (.string ⟨x.p.who.toArray⟩) u:=by kernel_rfl
end
end Go.Proofs.YteicmbhilambpaaGreatDoor
namespace Go.Proofs.YteicmbhilambpaaGreatDoor
open Go.Shelf
def lays190_ren:Go.Shelf.Ren:=⟨fun | 190=>37 | 125=>52 | 258=>51 | 128=>77 | 129=>78 | 302=>68 | 303=>69 | 304=>70 | 305=>71 | 306=>72 | 307=>73 | 308=>74 | 309=>75 | 310=>76 | 333=>104 | 329=>105 | 330=>106 | 334=>107 | 335=>108 | 336=>109 | 344=>130 | n=>n,fun | 31=>33 | 9=>9 | 3=>3 | 46=>65 | 0=>0 | 51=>138 | 53=>140 | 4=>4 | 183=>131 | 182=>130 | 131=>51 | 5=>5 | 218=>168 | 222=>172 | 228=>195 | 229=>196 | n=>n,fun | n=>n⟩
theorem lays190:Go.Proofs.Lays.n190 Tryz.prog lays190_ren:={
 mixed:=by kernel_rfl
 f125:=Tryz.func52.trans (congrArg some (by kernel_rfl))
 f128:=Tryz.func77.trans (congrArg some (by kernel_rfl))
 f129:=Tryz.func78.trans (congrArg some (by kernel_rfl))
 f190:=Tryz.func37.trans (congrArg some (by kernel_rfl))
 f258:=Tryz.func51.trans (congrArg some (by kernel_rfl))
 f302:=Tryz.func68.trans (congrArg some (by kernel_rfl))
 f303:=Tryz.func69.trans (congrArg some (by kernel_rfl))
 f304:=Tryz.func70.trans (congrArg some (by kernel_rfl))
 f305:=Tryz.func71.trans (congrArg some (by kernel_rfl))
 f306:=Tryz.func72.trans (congrArg some (by kernel_rfl))
 f307:=Tryz.func73.trans (congrArg some (by kernel_rfl))
 f308:=Tryz.func74.trans (congrArg some (by kernel_rfl))
 f309:=Tryz.func75.trans (congrArg some (by kernel_rfl))
 f310:=Tryz.func76.trans (congrArg some (by kernel_rfl))
 f329:=Tryz.func105.trans (congrArg some (by kernel_rfl))
 f330:=Tryz.func106.trans (congrArg some (by kernel_rfl))
 f333:=Tryz.func104.trans (congrArg some (by kernel_rfl))
 f334:=Tryz.func107.trans (congrArg some (by kernel_rfl))
 f335:=Tryz.func108.trans (congrArg some (by kernel_rfl))
 f336:=Tryz.func109.trans (congrArg some (by kernel_rfl))
 f344:=Tryz.func130.trans (congrArg some (by kernel_rfl))
 t0:=Tryz.underlying0
 a0:=Tryz.isAgg0
 z0:=Tryz.sizeOf0
 v0:=Tryz.zeroValue0
 t3:=Tryz.underlying3
 a3:=Tryz.isAgg3
 z3:=Tryz.sizeOf3
 v3:=Tryz.zeroValue3
 t4:=Tryz.underlying4
 a4:=Tryz.isAgg4
 z4:=Tryz.sizeOf4
 v4:=Tryz.zeroValue4
 t5:=Tryz.underlying5
 a5:=Tryz.isAgg5
 z5:=Tryz.sizeOf5
 v5:=Tryz.zeroValue5
 t9:=Tryz.underlying9
 a9:=Tryz.isAgg9
 z9:=Tryz.sizeOf9
 v9:=Tryz.zeroValue9
 t31:=Tryz.underlying33
 a31:=Tryz.isAgg33
 z31:=Tryz.sizeOf33
 v31:=Tryz.zeroValue33
 t46:=Tryz.underlying65
 a46:=Tryz.isAgg65
 z46:=Tryz.sizeOf65
 v46:=Tryz.zeroValue65
 t51:=Tryz.underlying138
 a51:=Tryz.isAgg138
 z51:=Tryz.sizeOf138
 v51:=Tryz.zeroValue138
 t53:=Tryz.underlying140
 a53:=Tryz.isAgg140
 z53:=Tryz.sizeOf140
 v53:=Tryz.zeroValue140
 t131:=Tryz.underlying51
 a131:=Tryz.isAgg51
 z131:=Tryz.sizeOf51
 v131:=Tryz.zeroValue51
 t182:=Tryz.underlying130
 a182:=Tryz.isAgg130
 z182:=Tryz.sizeOf130
 v182:=Tryz.zeroValue130
 t183:=Tryz.underlying131
 a183:=Tryz.isAgg131
 z183:=Tryz.sizeOf131
 v183:=Tryz.zeroValue131
 t218:=Tryz.underlying168
 a218:=Tryz.isAgg168
 z218:=Tryz.sizeOf168
 v218:=Tryz.zeroValue168
 t222:=Tryz.underlying172
 a222:=Tryz.isAgg172
 z222:=Tryz.sizeOf172
 v222:=Tryz.zeroValue172
 t228:=Tryz.underlying195
 a228:=Tryz.isAgg195
 z228:=Tryz.sizeOf195
 v228:=Tryz.zeroValue195
 t229:=Tryz.underlying196
 a229:=Tryz.isAgg196
 z229:=Tryz.sizeOf196
 v229:=Tryz.zeroValue196 }
open Go.Sort Go.RowKit in
theorem slices_Sort_string (blk off cap:Nat) (ss:List (List UInt8)) (w:World) (hH:Holds encStr w blk off ss.toArray) (hblk:blk < w.heap.size) (hsz:ss.length < 4611686018427387904) :
  Calls Tryz.prog 37 #[.slice (some ⟨blk,off,none⟩) ss.length cap] w fun e w' =>
   e=.returned (.tuple #[])∧∃ n os,w'=grow (putRow encStr (Sort.ahead w n) blk off (ss.mergeSort fun x y=>decide (x≤y)).toArray) os:=Any.slices_Sort_string lays190 blk off cap ss w hH hblk hsz
def lays194_ren:Go.Shelf.Ren:=⟨fun | 194=>38 | n=>n,fun | 31=>33 | 9=>9 | 3=>3 | 4=>4 | 0=>0 | n=>n,fun | n=>n⟩
theorem lays194:Go.Proofs.Lays.n194 Tryz.prog lays194_ren:={
 mixed:=by kernel_rfl
 f194:=Tryz.func38.trans (congrArg some (by kernel_rfl))
 t0:=Tryz.underlying0
 a0:=Tryz.isAgg0
 z0:=Tryz.sizeOf0
 v0:=Tryz.zeroValue0
 t3:=Tryz.underlying3
 a3:=Tryz.isAgg3
 z3:=Tryz.sizeOf3
 v3:=Tryz.zeroValue3
 t4:=Tryz.underlying4
 a4:=Tryz.isAgg4
 z4:=Tryz.sizeOf4
 v4:=Tryz.zeroValue4
 t9:=Tryz.underlying9
 a9:=Tryz.isAgg9
 z9:=Tryz.sizeOf9
 v9:=Tryz.zeroValue9
 t31:=Tryz.underlying33
 a31:=Tryz.isAgg33
 z31:=Tryz.sizeOf33
 v31:=Tryz.zeroValue33 }
open Go.RowKit Go.Lib Go.Sort in
theorem slices_Compact_string (blk off cap:Nat) (zs:List (List UInt8)) (w:World) (hH:Holds encStr w blk off zs.toArray) (hsz:zs.length≤9223372036854775807) (hcap:zs.length≤cap) :
  Calls Tryz.prog 38 #[.slice (some ⟨blk,off,none⟩) zs.length cap] w fun e w'=>e=.returned (.slice (some ⟨blk,off,none⟩) (Lib.compact zs).length cap)∧∃ q,w'=putRow encStr (Sort.ahead w q) blk off (Lib.compact zs++List.replicate (zs.length - (Lib.compact zs).length) []).toArray:=Any.slices_Compact_string lays194 blk off cap zs w hH hsz hcap
open Go.RowKit Go.Lib Go.Sort in
theorem slices_Compact_string_empty (a:Option Addr) (cap:Nat) (w:World) :
  Calls Tryz.prog 38 #[.slice a 0 cap] w fun e w'=>e=.returned (.slice a 0 cap)∧w'=w:=Any.slices_Compact_string_empty lays194 a cap w
open Go.RowKit Go.Sort in
theorem slices_Sort_string_none (p:Option Addr) (cap:Nat) (w:World) :
  Calls Tryz.prog 37 #[.slice p 0 cap] w fun e w'=>e=.returned (.tuple #[])∧w'=w:=Any.slices_Sort_string_none lays190 p cap w
end Go.Proofs.YteicmbhilambpaaGreatDoor
namespace Go.Proofs.YteicmbhilambpaaGreatDoor
open Go.RowKit Go.Maps Go.WideMaps Go.Sort
theorem sort_strs {u:World} {B:Nat} {v:Value} {xs:List (List UInt8)} (ho:Own u B 9 v (strs xs)) (hn:xs.length≤1000000) :
  Calls Tryz.prog 37 #[v] u fun e u'=>e=.returned (.tuple #[])∧Own u' B 9 v (strs (sortS xs))∧u.grownBy u' v.ownBlock:=by
 have hcl:(strs xs).length=xs.length:=by simp [strs]
 have ho0:=ho;obtain ⟨h1,h2⟩:=ho
 rcases h2 with ⟨rfl,h0⟩ | ⟨g,cap,cur,rfl,hg,hh,hnc,hcm,hcs,ht⟩
 ·have hx:xs=[]:=List.eq_nil_of_length_eq_zero (by rw [← hcl]; exact h0);subst hx;refine (slices_Sort_string_none none 0 u).mono ?_
  rintro e u' ⟨rfl,rfl⟩;have e0:sortS []=[]:=by simp [sortS]
  rw [e0];exact ⟨rfl,ho0,⟨rfl,rfl,rfl,Nat.le_refl _,fun _ _ _=>rfl⟩⟩
 ·rw [hcl] at ht hnc ⊢;rw [Nat.mul_one] at ht;have hH:=holds_of_block (ss:=xs) hh ht;refine (slices_Sort_string g 0 cap xs u hH (Array.getElem?_eq_some_iff.1 hh).1 (by omega)).mono ?_
  rintro e u' ⟨rfl,n,os,rfl⟩;refine ⟨rfl,?_,grownBy_sorted _⟩
  have hl:(strs (sortS xs)).length=xs.length:=by simp [strs,sortS_len]
  unfold Own;rw [hl];exact ownsRow_sorted (ss:=xs) (ts:=sortS xs) (sortS_len xs) hg hh hnc hcm (by simpa using hcs)
theorem compact_len (xs:List (List UInt8)):(Lib.compact xs).length≤xs.length:=by
 unfold Lib.compact Lib.compactUpTo;rw [List.length_map];exact Nat.le_trans (List.length_filter_le _ _) (by simp)
theorem compact_strs {u:World} {B:Nat} {v:Value} {xs:List (List UInt8)} (ho:Own u B 9 v (strs xs)) (hn:xs.length≤1000000) :
  Calls Tryz.prog 38 #[v] u fun e u'=>∃ v',e=.returned v'∧Own u' B 9 v' (strs (Lib.compact xs))∧u.grownBy u' v.ownBlock:=by
 have hcl:(strs xs).length=xs.length:=by simp [strs]
 have ho0:=ho;obtain ⟨h1,h2⟩:=ho
 rcases h2 with ⟨rfl,h0⟩ | ⟨g,cap,cur,rfl,hg,hh,hnc,hcm,hcs,ht⟩
 ·have hx:xs=[]:=List.eq_nil_of_length_eq_zero (by rw [← hcl]; exact h0);subst hx;refine (slices_Compact_string_empty none 0 u).mono ?_
  rintro e u' ⟨rfl,rfl⟩;exact ⟨_,rfl,ho0,⟨rfl,rfl,rfl,Nat.le_refl _,fun _ _ _=>rfl⟩⟩
 ·rw [hcl] at ht hnc ⊢;rw [Nat.mul_one] at ht;have hH:=holds_of_block (ss:=xs) hh ht;refine (slices_Compact_string g 0 cap xs u hH (by omega) hnc).mono ?_
  rintro e u' ⟨rfl,q,rfl⟩;have hc:=compact_len xs;obtain ⟨ys,hys⟩:∃ ys,ys=Lib.compact xs++List.replicate (xs.length - (Lib.compact xs).length) []:=⟨_,rfl⟩
  have hyl:ys.length=xs.length:=by rw [hys]; simp; omega
  rw [← hys];have hgr:putRow encStr (Sort.ahead u q) g 0 ys.toArray=grow (putRow encStr (Sort.ahead u q) g 0 ys.toArray) #[]:=(grow_empty _).symm;refine ⟨_,rfl,?_,?_⟩
  ·rw [hgr];have hb:=heap_sorted (w:=u) (n:=q) (os:=#[]) ys.toArray hh;have hl:(strs (Lib.compact xs)).length=(Lib.compact xs).length:=by simp [strs]
   unfold Own;rw [hl];have h3:=take_putCells cur ys (by rw [hyl]; have hcs':cur.size=cap:=(by simpa using hcs); omega);have h4:=congrArg (List.take (Lib.compact xs).length) h3;rw [List.take_take,Nat.min_eq_left (by omega)] at h4
   have h5:List.take (Lib.compact xs).length (List.map encStr ys)=strs (Lib.compact xs):=by
    rw [hys,List.map_append,List.take_append_of_le_length (by simp),List.take_of_length_le (by simp)]; rfl
   rw [h5] at h4;exact ⟨by rw [hl]; simp,.inr ⟨g,cap,_,rfl,hg,hb,by omega,hcm,by simpa [putCells] using hcs,by rw [Nat.mul_one]; exact h4⟩⟩
  ·rw [hgr]; exact grownBy_sorted _
end Go.Proofs.YteicmbhilambpaaGreatDoor
namespace Go.Proofs.YteicmbhilambpaaGreatDoor
open Go.RowKit Go.Maps Go.WideMaps Sc
theorem own_tmP {w:World} {B:Nat} {oa:Option Addr} {n cap:Nat} {ts:List Tm} (h:OwnT w B (.slice oa n cap) ts) {k:Nat} (hk:k < ts.length):∃ g,oa=some ⟨g,0,none⟩∧w.cell? ⟨g,k * 2,none⟩=some (.int .i64 ts[k].1)∧w.cell? ⟨g,k * 2+1,none⟩=some (.int .i64 ts[k].2):=by
 rcases h.2 with ⟨hv,hn⟩ | ⟨g,c',cur,hv,_⟩
 ·have:ts=[]:=List.eq_nil_of_length_eq_zero hn
  subst this; simp at hk
 ·injection hv with h1 h2 h3
  subst h1;have e:∀ j,(⟨g,0,none⟩:Addr).add j=⟨g,j,none⟩:=fun j=>by unfold Addr.add; split <;> simp_all
  obtain ⟨c0,c1⟩:=tmsCells_get ts k hk;have a0:=World.ownsRow.cells h (g:=g) rfl _ _ c0;have a1:=World.ownsRow.cells h (g:=g) rfl _ _ c1;rw [e] at a0 a1;exact ⟨g,rfl,a0,a1⟩
theorem row2P (w:World) (v0 v1:Value) (t:TypeId):RowIs (w.alloc (.cells #[v0,v1] t)) w.heap.size t [v0,v1]:=by
 unfold RowIs;rw [heap_alloc_new]
theorem row_growP {u u':World} {b B' e e' s n:Nat} {us:List Value} {v:Value} {xs:List Value} (hr:RowIs u b e us) (ho:u.ownsRow B' e' s v n xs) (hne:e ≠ e') (hg:u.grownBy u' v.ownBlock):RowIs u' b e us:=by
 have hb:=hr.bl;unfold RowIs at hr ⊢;rw [hg.block b hb ?_]
 ·exact hr
 ·intro x
  rcases ho.2 with ⟨rfl,_⟩ | ⟨g,cap,cur,rfl,_,hh,_⟩
  ·cases x
  ·simp only [Value.ownBlock,Option.some.injEq] at x;subst x;rw [hr] at hh;simp only [Option.some.injEq,Obj.cells.injEq] at hh;exact hne hh.2.1
theorem rows_neQ {w:World} {B1 B2 e1 e2 s1 s2 n1 n2:Nat} {v1 v2:Value} {x1 x2:List Value} (h1:w.ownsRow B1 e1 s1 v1 n1 x1) (h2:w.ownsRow B2 e2 s2 v2 n2 x2) (hne:e2 ≠ e1):v2.ownBlock=none∨v2.ownBlock ≠ v1.ownBlock:=by
 rcases h2.2 with ⟨rfl,_⟩ | ⟨g2,_,_,rfl,_,hh2,_⟩
 ·exact .inl rfl
 ·refine .inr ?_
  rcases h1.2 with ⟨rfl,_⟩ | ⟨g1,_,_,rfl,_,hh1,_⟩
  ·simp [Value.ownBlock]
  ·intro e;simp only [Value.ownBlock,Option.some.injEq] at e;subst e;rw [hh1] at hh2;simp only [Option.some.injEq,Obj.cells.injEq] at hh2;exact hne hh2.2.1.symm
theorem stop_due {r:List Tm} (h:Row9 r) {now:Int} {d:Tm} (hd:d ∈ dueT r now):stopT (leftT r now) d.2=leftT r now:=by
 obtain ⟨e1,e2⟩:=due_filterP h now;rw [e1] at hd;rw [e2];unfold stopT;refine List.filter_eq_self.2 fun t ht=>?_
 obtain ⟨d1,d2⟩:=List.mem_filter.1 hd;obtain ⟨t1,t2⟩:=List.mem_filter.1 ht;by_cases e:t.2=d.2
 ·have:t=d:=by
   obtain ⟨i,hi,rfl⟩:=List.mem_iff_getElem.1 t1;obtain ⟨j,hj,rfl⟩:=List.mem_iff_getElem.1 d1;have hP:=List.pairwise_iff_getElem.1 h.ids
   rcases Nat.lt_trichotomy i j with x | x | x
   ·exact absurd e (hP i j hi hj x)
   ·subst x; rfl
   ·exact absurd e.symm (hP j i hj hi x)
  subst this;simp only [decide_eq_true_eq,Bool.not_eq_true',decide_eq_false_iff_not] at d2 t2;omega
 ·simpa using e
section
variable {B bt mn ma be mw : Nat} {w w' : World} {c : Cf} {last : Int} {l la : List PbC} {r : List Tm}
theorem Sp2.grown (h:Sp2 B bt mn ma be mw w c last l la r) {B' e s n:Nat} {v:Value} {xs:List Value} (ho:w.ownsRow B' e s v n xs) (n1:e ≠ 120) (n2:e ≠ 127) (n3:e ≠ 123) (n4:e ≠ 76) (hg:w.grownBy w' v.ownBlock):Sp2 B bt mn ma be mw w' c last l la r:=by
 refine h.chg (S:=fun k=>v.ownBlock=some k) ⟨hg.os,hg.tape,hg.output,hg.size,fun k hk hn=>hg.block k hk fun e=>hn e.symm⟩ fun k _ _ hS=>?_
 rcases ho.2 with ⟨rfl,_⟩ | ⟨g,cap,cur,rfl,_,hh,_⟩
 ·cases hS
 ·simp [Value.ownBlock] at hS
  subst hS;exact ⟨_,_,_,hh,n1,n2,n3,n4⟩
theorem FrP.grown {u u':World} (h:FrP B w u) {e s n:Nat} {v:Value} {xs:List Value} (ho:u.ownsRow w.heap.size e s v n xs) (hB:B≤w.heap.size) (hg:u.grownBy u' v.ownBlock):FrP B w u':=by
 have hno:∀ k,k < w.heap.size → some k ≠ v.ownBlock:=fun k hk e=>by
  rcases ho.2 with ⟨rfl,_⟩ | ⟨g,cap,cur,rfl,hl,_⟩
  ·cases e
  ·simp [Value.ownBlock] at e; omega
 refine ⟨⟨hg.os.trans h.below.os,hg.tape.trans h.below.tape,hg.output.trans h.below.output,Nat.le_trans h.below.size hg.size,fun k hk=>?_⟩,fun k cs e x hh n1 n2 n3 n4=>?_⟩
 ·rw [hg.block k (by have:=h.below.size; omega) (hno k (by omega))]; exact h.below.block k hk
 ·have hk:=(Array.getElem?_eq_some_iff.1 hh).1;rw [hg.block k (by have:=h.below.size; omega) (hno k hk)]; exact h.keep k cs e x hh n1 n2 n3 n4
structure ExP (B bt mn ma be mw:Nat) (w:World) (c:Cf) (last:Int) (l:List PbC) (ds:List Tm) (rr:List Tm) (va:Value) (k j:Nat) (vo:Value) (wr:World):Prop where
 sv:Sp2 B bt mn ma be mw wr c last (behindP l (ds.take k)) (behindP l (ds.take k)) rr
 own:Own wr w.heap.size 9 vo (strs (whoseP l (ds.take j)))
 fr:FrP B w wr
 due:OwnT wr w.heap.size va ds
 lo:w.heap.size≤wr.heap.size
theorem ExP.step {ds rr:List Tm} {va vo:Value} {k j:Nat} {wr w2:World} (h:ExP B bt mn ma be mw w c last l ds rr va k j vo wr) (hb:Below wr.heap.size wr w2):ExP B bt mn ma be mw w c last l ds rr va k j vo w2 :=
 ⟨h.sv.below hb,h.own.below hb,h.fr.trans (FrP.of hb h.sv.lo),(FrP.of hb h.sv.lo).own h.due (by decide) (by decide) (by decide) (by decide),Nat.le_trans h.lo hb.size⟩
theorem ExP.app {ds rr:List Tm} {va vo vo':Value} {k:Nat} {wr w4:World} (hk:k < ds.length) (h:ExP B bt mn ma be mw w c last l ds rr va k k vo wr) (hB:B≤w.heap.size)
  (h4:Own w4 w.heap.size 9 vo' (strs (whoseP l (ds.take k))++[.string ⟨(whoN l ds[k].2).toArray⟩])) (hg:wr.grownBy w4 vo.ownBlock):ExP B bt mn ma be mw w c last l ds rr va k (k+1) vo' w4:=by
 refine ⟨h.sv.grown h.own (by decide) (by decide) (by decide) (by decide) hg,?_,h.fr.grown h.own hB hg,World.ownsRow.kept h.due hg (rows_neQ h.own h.due (by decide)),Nat.le_trans h.lo hg.size⟩
 rw [List.take_succ_eq_append_getElem hk];unfold whoseP;rw [List.map_append];unfold strs;rw [List.map_append];exact h4
theorem ExP.ended {ds rr:List Tm} {va vo:Value} {k j:Nat} {wr w2:World} (h:ExP B bt mn ma be mw w c last l ds rr va k j vo wr) (hs:Sp2 B bt mn ma be mw w2 c last (behindP l (ds.take (k+1))) (behindP l (ds.take (k+1))) rr) (hf:FrP B wr w2):ExP B bt mn ma be mw w c last l ds rr va (k+1) j vo w2 :=
 ⟨hs,hf.ownS h.own,h.fr.trans hf,hf.own h.due (by decide) (by decide) (by decide) (by decide),Nat.le_trans h.lo hf.below.size⟩
set_option maxHeartbeats 4000000 in
set_option maxRecDepth 100000 in
theorem pexpire_of (h:Sp2 B bt mn ma be mw w c last l l r) (hl:∀ x ∈ l,SmallPb x) (hr:l.Pairwise fun a b=>a.p.num < b.p.num) (hkey:l.Pairwise fun a b=>a.p.tag ≠ b.p.tag) (hE:EndsP l r) {now:Int} :
  Calls Tryz.prog 16 #[.pointer (some ⟨bt,0,none⟩),.int .i64 now] w fun e w'=>∃ v,e=.returned v∧Own w' w.heap.size 9 v (strs ((((pbsL l).filter (overP now)).map Pb.who).foldl riseV []))∧Sp2 B bt mn ma be mw w' c last (l.filter fun x=>!overD now x) (l.filter fun x=>!overD now x) (leftT r now)∧FrP B w w':=by
 obtain ⟨i2,hk2,hv0,hv1,hv2⟩:=info_parts infoStrU;have hrow:=h.wheel.row;obtain ⟨hp,_⟩:=ends_dueP hE hrow.1 now;have hdi:=due_idsP hrow.1 now;have hlen:(dueT r now).length≤4096:=Nat.le_trans (by rw [(due_filterP hrow.1 now).1]; exact List.length_filter_le _ _) hrow.2;have KM:=hid (pmade_any h);have KD:=hid (wmdue_any h.wheel (now:=now));have c10:=h.c10;have hB:=h.lo
 have EX0:Hid (∀ (u:World) (va:Value),OwnT u w.heap.size va (dueT r now) → WWm mw B be u (leftT r now) → FrM mw B w u → ExP B bt mn ma be mw w c last l (dueT r now) (leftT r now) va 0 0 (.slice none 0 0) u):=fun u va ho hw hf =>
  ⟨by rw [List.take_zero,behindP_nil]; exact h.turnW hw hf,Own.nil _ _ _,hf.frp,ho,hf.fr.below.size⟩
 have KE:Hid (∀ (k:Nat) (hk:k < (dueT r now).length),∃ x,x ∈ behindP l ((dueT r now).take k)∧x.p.num=(dueT r now)[k].2∧whoN l (dueT r now)[k].2=x.p.who∧SmallPb x∧(∀ u,Sp2 B bt mn ma be mw u c last (behindP l ((dueT r now).take k)) (behindP l ((dueT r now).take k)) (leftT r now) →
   Calls Tryz.prog 36 #[.pointer (some ⟨bt,0,none⟩),.int .i64 (dueT r now)[k].2] u fun e w'=>e=.returned (.tuple #[])∧(Sp2 B bt mn ma be mw w' c last (behindP l ((dueT r now).take (k+1))) (behindP l ((dueT r now).take (k+1))) (leftT r now)∧FrP B u w'))):=fun k hk=>by
  obtain ⟨x,hx,e⟩:=behindP_mem hp hdi hk;have hxl:x ∈ l:=(List.mem_filter.1 hx).1;refine ⟨x,hx,e,by rw [← e]; exact whoN_is hr hxl,hl x hxl,fun u hu=>?_⟩
  obtain ⟨i,hi,ei⟩:=List.mem_iff_getElem.1 hx
  have:=pend_any hu (fun y hy=>hl y (List.mem_filter.1 hy).1) (hr.filter _) (hkey.filter _) hi
  rw [ei,e,stop_due hrow.1 (List.getElem_mem hk)] at this;rw [behindP_step l hk];exact this
 have FIN:Hid (behindP l (dueT r now)=(l.filter fun x=>!overD now x)∧Lib.compact (sortS (whoseP l (dueT r now)))=((((pbsL l).filter (overP now)).map Pb.who).foldl riseV [])):=⟨behindP_all hr hp,told_is hr hp⟩
 generalize ((((pbsL l).filter (overP now)).map Pb.who).foldl riseV [])=GONE at *;generalize (l.filter fun x=>!overD now x)=LEFT at *;generalize dueT r now=ds at *;generalize leftT r now=rr at *;clear h hl hr hkey hE hp hdi hrow
 go_enter Tryz.func16,Tryz.ntmps16
 go_wp2_with (go_at_call 34; refine KM.out.mono ?_; rintro e w9 ⟨rfl,hw9⟩; rw [hw9]; clear hw9)
 refine KD.out.mono ?_
 rintro e w1 ⟨va,rfl,ho1,hw1,hf1⟩;have X0:=hid (EX0.out w1 va ho1 hw1 hf1);obtain ⟨oa,cap,rfl⟩:=ho1.form;clear ho1 hw1 hf1 EX0 KD KM c10;obtain ⟨n,hnn⟩:∃ n,n=ds.length:=⟨_,rfl⟩
 rw [← hnn] at X0 hlen ⊢;have HN:=hid hnn;clear hnn;go_wp2
 go_loopw [18,5] (fun i vo wr=>∃ k:Nat,k≤n∧i=.int .i64 k∧Hid (ExP B bt mn ma be mw w c last l ds rr (.slice oa n cap) k k vo wr)) (fun i _ _=>n - (intOf i).toNat)
 case atStart=>exact ⟨0,by omega,rfl,X0⟩
 case round =>
  obtain ⟨k,hk,rfl,hM⟩:=hrel;by_cases hlt:k < n
  ·have hlt':(k:Int) < n:=by omega
   have hkd:k < ds.length:=by rw [← HN.out]; exact hlt
   obtain ⟨g,hoa,t0,t1⟩:=own_tmP hM.out.due hkd;subst hoa;obtain ⟨x,hx,hxn,hxw,hxs,hKE⟩:=KE.out k hkd;have KE':=hid hKE;clear hKE;obtain ⟨va2,vc2,hvo⟩:=own_formP hM.out.own;have hGl:(whoseP l (ds.take k)).length=k:=by unfold whoseP; rw [List.length_map,List.length_take]; omega
   have hsl:(strs (whoseP l (ds.take k))).length=(whoseP l (ds.take k)).length:=by simp [strs]
   rw [hsl,hGl] at hvo;subst hvo;have hR0:=hid (row2P wr (.int .i64 ds[k].1) (.int .i64 ds[k].2) 87);have X1:=hid (hM.out.step ((Below.refl _ wr).alloc (Nat.le_refl _) (.cells #[.int .i64 ds[k].1,.int .i64 ds[k].2] 87)));have hfk:=field_whoP x hxs.f;unfold pbV at hfk
   have XAP:Hid (∀ (W:World),ExP B bt mn ma be mw w c last l ds rr (.slice (some ⟨g,0,none⟩) n cap) k k (.slice va2 k vc2) W → ∀ (o:Obj) (vo':Value) (w4:World),Own w4 w.heap.size 9 vo' (strs (whoseP l (ds.take k))++[.string ⟨x.p.who.toArray⟩]) → (W.alloc o).grownBy w4 (Value.slice va2 k vc2).ownBlock → ExP B bt mn ma be mw w c last l ds rr (.slice (some ⟨g,0,none⟩) n cap) k (k+1) vo' w4) :=
    hid (fun W hW o vo' w4 h1 h2=>ExP.app hkd (hW.step ((Below.refl _ _).alloc (Nat.le_refl _) o)) hB (by rw [hxw]; exact h1) h2)
   have KL:=hid (fun (W:World) (hW:ExP B bt mn ma be mw w c last l ds rr (.slice (some ⟨g,0,none⟩) n cap) k k (.slice va2 k vc2) W)=>(hW.sv.lookA hx hxs).2);rw [hxn] at KL;unfold pbV at KL;have hd1:=hid (rfl:ds[k]=ds[k]);generalize ds[k]=d at hR0 X1 t0 t1 KE' KL;obtain ⟨d1,d2⟩:=d;simp only at hR0 X1 t0 t1 KE' KL;have hlo:=hM.out.lo;clear hM hxw hxn hx hd1
   go_upto_region 7 with fail
   clear t0 t1;generalize World.alloc _ _=w2 at hR0 X1 ⊢;have X2:=hid (X1.out.step (Below.refl _ w2).drew);have m1:w2.drew.cell? ⟨wr.heap.size,1,none⟩=some (.int .i64 d2):=(show RowIs w2.drew wr.heap.size 87 [.int .i64 d1,.int .i64 d2] from hR0.out).cell 1 (by simp);have hR2:Hid (RowIs w2.drew wr.heap.size 87 [.int .i64 d1,.int .i64 d2]):=hid hR0.out;have c9:=X2.out.sv.c9;have hlk:=KL.out _ X2.out;clear X1 hR0 KL;have XA2:=hid (XAP.out _ X2.out);clear XAP
   go_region_law (refine step_appS rfl (.tmp 22) (.tmp 31) 33 rfl w.heap.size 9 i2 _ 16 Tryz.underlying33 hk2 hv0 hv1 hv2 rfl _ (strs (whoseP l (ds.take k))) rfl (X2.out.own.alloc _) ⟨_,0,none⟩ 1 1 [.string ⟨x.p.who.toArray⟩] rfl rfl (by intro j2 u2 hj2; exact one_new _ _ _ j2 u2 hj2) (by intro u hu; simp at hu; subst hu; rfl) (by rw [hsl,hGl]; unfold maxLen; omega) (by rw [hsl,hGl]; omega) (Nat.le_trans X2.out.lo (by simp)) ?_; intro v7 w7 ho7 hg7; have XM:=hid (XA2.out _ _ _ ho7 hg7); have RT:=hid (row_growP (RowIs.below hR2.out ((Below.refl _ w2.drew).alloc (Nat.le_refl _) _) hR2.out.bl) (X2.out.own.alloc _) (by decide) hg7); clear ho7 hg7)
   all_goals (
    clear m1 c9 hlk;have m1:w7.cell? ⟨wr.heap.size,1,none⟩=some (.int .i64 d2):=RT.out.cell 1 (by simp);go_wp2_with (go_at_call 36; refine (KE'.out _ XM.out.sv).mono ?_; rintro e w8 ⟨rfl,hs8,hf8⟩; have X8:=hid (XM.out.ended hs8 hf8); clear hs8 hf8)
    go_roundw
    case rel=>exact ⟨k+1,by omega,by go_num,X8⟩
    case measure=>simp [intOf]; omega)
  ·have hlt':¬ ((k:Int) < n):=by omega
   have hkn:k=n:=by omega
   have hM':=hM.out;rw [hkn,HN.out] at hM';have hown:=hM'.own;have hsv:=hM'.sv;rw [List.take_length] at hown;rw [List.take_length,FIN.out.1] at hsv;have hwl:(whoseP l ds).length≤1000000:=by unfold whoseP; rw [List.length_map,← HN.out]; omega
   have KS:=hid (sort_strs hown hwl);have FI:=hid (fun (u:World) (hg:wr.grownBy u _)=>And.intro (hsv.grown hown (by decide) (by decide) (by decide) (by decide) hg) (hM'.fr.grown hown hB hg));have KC:=hid (fun (u:World) (v0:Value) (ho:Own u w.heap.size 9 v0 (strs (sortS (whoseP l ds))))=>compact_strs ho (by rw [sortS_len]; exact hwl));clear hM' hsv hown hwl
   go_wp2_with (first
    | (go_at_call 37; refine KS.out.mono ?_; rintro e w5 ⟨rfl,ho5,hg5⟩; have Y5:=hid (FI.out _ hg5); have HO5:=hid ho5; clear ho5 hg5 KS)
    | (go_at_call 38; refine (KC.out _ _ HO5.out).mono ?_; rintro e w6 ⟨v6,rfl,ho6,hg6⟩))
   go_ret;rw [← FIN.out.2];exact ⟨_,rfl,ho6,Y5.out.1.grown HO5.out (by decide) (by decide) (by decide) (by decide) hg6,Y5.out.2.grown HO5.out hB hg6⟩
end
section
variable {B bt : Nat} {w w' : World} {s : Sto} {now : Int}
theorem left_pbs (cs:List PbC) (now:Int):pbsL (cs.filter fun x=>!overD now x)=(pbsL cs).filter fun p=>!overP now p:=by
 unfold pbsL;rw [List.filter_map]
 rfl
theorem pexp_any (h:TabP B bt w s):Calls Tryz.prog 16 #[.pointer (some ⟨bt,0,none⟩),.int .i64 now] w fun e w'=>∃ v,e=.returned v∧Own w' w.heap.size 9 v (strs (expS s now).2)∧TabP B bt w' (expS s now).1∧FrP B w w':=by
 obtain ⟨mn,ma,be,mw,cs,r,e1,h2,h3,h4,h5⟩:=h.has;have hpw:cs.Pairwise fun a b=>a.p.num < b.p.num:=nums_pw (by rw [← e1]; exact h.ok.nums);have htp:=tags_pw h.ok e1;obtain ⟨_,hE⟩:=ends_dueP h5 h4.wheel.row.1 now;refine (pexpire_of h4 h2 hpw htp h5 (now:=now)).mono ?_
 rintro e w' ⟨v,he,hO,hS,hF⟩;have e2:s.l.filter (fun p=>!overP now p)=pbsL (cs.filter fun x=>!overD now x):=by rw [left_pbs,← e1]
 refine ⟨v,he,?_,⟨h.right,h.ok.sub List.filter_sublist,mn,ma,be,mw,_,_,e2,fun x hx=>h2 x (List.mem_filter.1 hx).1,fun x hx=>⟨hF.ownU (h3 x (List.mem_filter.1 hx).1).1,hF.ownS (h3 x (List.mem_filter.1 hx).1).2⟩,hS,hE⟩,hF⟩
 unfold expS;rw [e1];exact hO
end
end Go.Proofs.YteicmbhilambpaaGreatDoor
