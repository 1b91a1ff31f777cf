/-
  PsM, PubR, PubS, RegMem, PubV.
-/
import Derived.Test.YtbmjodlbkgblpaaGreatDoorPO08
set_option linter.unusedVariables false
set_option linter.unusedSimpArgs false
set_option maxRecDepth 20000
namespace Go.Proofs.YtbmjodlbkgblpaaGreatDoor
open Go.RowKit Go.Maps Go.WideMaps Sc
theorem zeroP_f:SlF zeroP.ts∧SlF zeroP.ns:=⟨.inl ⟨0,0,rfl⟩,.inl ⟨0,0,rfl⟩⟩
theorem zeroPb (w:World):(zeroValue 37).run Tryz.prog w=.ok (pbV zeroP) w:=by kernel_rfl
theorem zeroIp (w:World):(zeroValue 3).run Tryz.prog w=.ok (.int .i64 0) w:=by kernel_rfl
theorem keySp:Keyed Tryz.prog 9:=string_keyed Tryz.underlying9
theorem sp_size (l:List UInt8):(⟨l.toArray⟩:ByteArray).size=l.length:=by simp [ByteArray.size]
def kBp (l:List UInt8):Lit:=.string l
theorem key_strp {l:List UInt8} (h:l.length≤281474976710656):keyOf Tryz.prog 9 (.string ⟨l.toArray⟩)=some (kBp l):=keyOf_string_mk Tryz.underlying9 (by rw [sp_size]; unfold maxLen; omega)
def kNp (c:PbC):Lit:=kBp c.p.tag
def dNp (c:PbC):DataW Unit:=.lit (.int .i64 c.p.num)
def kAp (c:PbC):Lit:=idK c.p.num
structure SmallPb (c:PbC):Prop where
 who:c.p.who.length≤281474976710656
 tag:c.p.tag.length≤281474976710656
 doc:SmallD 140737488355328 c.p.doc
 tl:c.p.doc.tuples.length≤1000000
 nl:c.p.doc.notes.length≤1000000
 num:(Lit.int .i64 c.p.num).wf=true
 f:SlF c.ts∧SlF c.ns
theorem kNp_inj {a b:PbC}:kNp a=kNp b ↔ a.p.tag=b.p.tag:=by
 constructor
 ·intro e; unfold kNp kBp at e; injection e
 ·intro e; unfold kNp; rw [e]
theorem kAp_inj {a b:PbC}:kAp a=kAp b ↔ a.p.num=b.p.num:=by
 constructor
 ·intro e; unfold kAp idK at e; injection e
 ·intro e; unfold kAp; rw [e]
def spL (c:Cf) (last:Int) (mn ma be:Nat):List Value:=[.string ⟨c.host.toArray⟩,.int .i64 c.calls,.int .i64 c.pubs,.int .i64 c.subs,.int .i64 c.least,.int .i64 c.most,.int .i64 c.usual,.int .i64 last,.map (some mn),.map (some ma),.pointer (some ⟨be,0,none⟩)]
structure Sp2 (B bt mn ma be mw:Nat) (w:World) (c:Cf) (last:Int) (l la:List PbC) (r:List Tm):Prop where
 row:RowIs w bt 57 (spL c last mn ma be)
 num:∃ D,w.ownsMap Tryz.prog 9 numP mn l.length D∧MpG kNp dNp l D
 all:∃ D,w.ownsMap Tryz.prog 3 pbE ma la.length D∧MpG kAp pbD la D
 wheel:WWm mw B be w r
 n1:mn ≠ ma
 n2:mn ≠ mw
 n3:ma ≠ mw
 lb:B≤bt
 ln:B≤mn
 lm:B≤ma
structure FrP (B:Nat) (w w':World):Prop where
 below:Below B w w'
 keep:∀ (k:Nat) (cs:Array Value) (e:TypeId) (x:Nat × Nat),w.heap[k]? = some (Obj.cells cs e x) → e ≠ 106 → e ≠ 170 → e ≠ 162 → e ≠ 57 → w'.heap[k]? = some (Obj.cells cs e x)
theorem FrP.refl (B:Nat) (w:World):FrP B w w:=⟨Below.refl _ _,fun _ _ _ _ h _ _ _ _=>h⟩
theorem FrP.trans {B:Nat} {a b c:World} (h:FrP B a b) (k:FrP B b c):FrP B a c:=⟨h.below.trans k.below,fun i cs e x hh n1 n2 n3 n4=>k.keep i cs e x (h.keep i cs e x hh n1 n2 n3 n4) n1 n2 n3 n4⟩
theorem FrP.of {B:Nat} {w w':World} (h:Below w.heap.size w w') (hB:B≤w.heap.size):FrP B w w' :=
 ⟨h.mono hB,fun k cs e x hh _ _ _ _=>by rw [h.block k (Array.getElem?_eq_some_iff.1 hh).1]; exact hh⟩
theorem FrP.drew {B:Nat} {w w':World} (h:FrP B w w'):FrP B w w'.drew:=⟨h.below.drew,h.keep⟩
theorem FrM.frp {m B:Nat} {w w':World} (h:FrM m B w w'):FrP B w w':=⟨h.fr.below,fun k cs e x hh n1 n2 n3 _=>h.fr.keep k cs e x hh n1 n2 n3⟩
theorem FrP.row {B:Nat} {w w':World} {b:Nat} {e:TypeId} {l:List Value} (h:FrP B w w') (hr:RowIs w b e l) (n1:e ≠ 106) (n2:e ≠ 170) (n3:e ≠ 162) (n4:e ≠ 57):RowIs w' b e l:=by
 unfold RowIs at hr ⊢;exact h.keep _ _ _ _ hr n1 n2 n3 n4
theorem FrP.own {B C e s n:Nat} {w w':World} {v:Value} {xs:List Value} (hf:FrP C w w') (h:w.ownsRow B e s v n xs) (n1:e ≠ 106) (n2:e ≠ 170) (n3:e ≠ 162) (n4:e ≠ 57):w'.ownsRow B e s v n xs:=by
 obtain ⟨h1,h2⟩:=h;refine ⟨h1,?_⟩
 rcases h2 with h2 | ⟨g,cap,cur,hv,hg,hh,r⟩
 ·exact Or.inl h2
 ·exact Or.inr ⟨g,cap,cur,hv,hg,hf.keep g _ _ _ hh n1 n2 n3 n4,r⟩
section
variable {B bt mn ma be mw : Nat} {w w' : World} {c : Cf} {last : Int} {l la : List PbC} {r : List Tm}
theorem Sp2.lo (h:Sp2 B bt mn ma be mw w c last l la r):B≤w.heap.size:=h.wheel.lo
theorem Sp2.bt_lt (h:Sp2 B bt mn ma be mw w c last l la r):bt < w.heap.size:=(Array.getElem?_eq_some_iff.1 h.row).1
theorem Sp2.chg {S:Nat → Prop} (h:Sp2 B bt mn ma be mw w c last l la r) (hc:Chg S w w') (hn:∀ k,B≤k → k < w.heap.size → S k → ∃ cs e x,w.heap[k]? = some (Obj.cells cs e x)∧e ≠ 106∧e ≠ 170∧e ≠ 162∧e ≠ 57):Sp2 B bt mn ma be mw w' c last l la r:=by
 have hm:∀ {k:TypeId} {R:Value → Option (DataW Unit × List MemPlace)} {b n:Nat} {D:DataW Unit},w.ownsMap Tryz.prog k R b n D → B≤b → w'.ownsMap Tryz.prog k R b n D:=fun h1 hb=>own_chg h1 hc fun hS=>by
  obtain ⟨cs,e,x,hh,_⟩:=hn _ hb h1.lt hS;exact map_no_row h1 _ _ _ hh
 refine ⟨?_,?_,?_,?_,h.n1,h.n2,h.n3,h.lb,h.ln,h.lm⟩
 ·refine h.row.chg hc fun hS=>?_
  obtain ⟨cs,e,x,hh,_,_,_,n4⟩:=hn _ h.lb h.bt_lt hS
  have:=h.row
  unfold RowIs at this;rw [this] at hh
  simp at hh
  exact n4 hh.2.1.symm
 ·obtain ⟨D,h1,h2⟩:=h.num;exact ⟨D,hm h1 h.ln,h2⟩
 ·obtain ⟨D,h1,h2⟩:=h.all;exact ⟨D,hm h1 h.lm,h2⟩
 ·refine h.wheel.chg (S:=fun k=>S k∧k < w.heap.size) ⟨hc.os,hc.tape,hc.output,hc.size,fun k hk hS=>hc.block k hk fun x=>hS ⟨x,hk⟩⟩ fun k hB hS=>?_
  obtain ⟨cs,e,x,hh,n1,n2,n3,n4⟩:=hn _ hB hS.2 hS.1;refine ⟨fun e'=>?_,fun cs' e' x' hh'=>?_⟩
  ·subst e';obtain ⟨v,f,n,D,hW,_⟩:=h.wheel;exact map_no_row hW.mp _ _ _ hh
  ·rw [hh] at hh'
   simp at hh'
   rw [← hh'.2.1];exact ⟨n1,n2,n3⟩
theorem Sp2.below (h:Sp2 B bt mn ma be mw w c last l la r) (hb:Below w.heap.size w w'):Sp2 B bt mn ma be mw w' c last l la r :=
 h.chg (S:=fun k=>w.heap.size≤k) ⟨hb.os,hb.tape,hb.output,hb.size,fun k _ hn=>hb.block k (by omega)⟩ (fun k _ h1 h2=>by omega)
theorem Sp2.drew (h:Sp2 B bt mn ma be mw w c last l la r):Sp2 B bt mn ma be mw w.drew c last l la r:=h.below (Below.refl _ _).drew
theorem Sp2.new (h:Sp2 B bt mn ma be mw w c last l la r) (o:Obj):Sp2 B bt mn ma be mw (w.alloc o) c last l la r:=h.below ((Below.refl _ _).alloc (Nat.le_refl _) o)
theorem Sp2.put (h:Sp2 B bt mn ma be mw w c last l la r) {b:Nat} {e:TypeId} {us:List Value} (hr:RowIs w b e us) (n1:e ≠ 106) (n2:e ≠ 170) (n3:e ≠ 162) (n4:e ≠ 57) (hc:Chg (fun k=>k=b) w w'):Sp2 B bt mn ma be mw w' c last l la r :=
 h.chg hc fun k _ _ e'=>by subst e'; exact ⟨_,_,_,hr,n1,n2,n3,n4⟩
theorem Sp2.c0 (h:Sp2 B bt mn ma be mw w c last l la r):w.cell? ⟨bt,0,none⟩=some (.string ⟨c.host.toArray⟩):=h.row.cell 0 (by simp [spL])
theorem Sp2.c1 (h:Sp2 B bt mn ma be mw w c last l la r):w.cell? ⟨bt,1,none⟩=some (.int .i64 c.calls):=h.row.cell 1 (by simp [spL])
theorem Sp2.c2 (h:Sp2 B bt mn ma be mw w c last l la r):w.cell? ⟨bt,2,none⟩=some (.int .i64 c.pubs):=h.row.cell 2 (by simp [spL])
theorem Sp2.c3 (h:Sp2 B bt mn ma be mw w c last l la r):w.cell? ⟨bt,3,none⟩=some (.int .i64 c.subs):=h.row.cell 3 (by simp [spL])
theorem Sp2.c4 (h:Sp2 B bt mn ma be mw w c last l la r):w.cell? ⟨bt,4,none⟩=some (.int .i64 c.least):=h.row.cell 4 (by simp [spL])
theorem Sp2.c5 (h:Sp2 B bt mn ma be mw w c last l la r):w.cell? ⟨bt,5,none⟩=some (.int .i64 c.most):=h.row.cell 5 (by simp [spL])
theorem Sp2.c6 (h:Sp2 B bt mn ma be mw w c last l la r):w.cell? ⟨bt,6,none⟩=some (.int .i64 c.usual):=h.row.cell 6 (by simp [spL])
theorem Sp2.c7 (h:Sp2 B bt mn ma be mw w c last l la r):w.cell? ⟨bt,7,none⟩=some (.int .i64 last):=h.row.cell 7 (by simp [spL])
theorem Sp2.c8 (h:Sp2 B bt mn ma be mw w c last l la r):w.cell? ⟨bt,8,none⟩=some (.map (some mn)):=h.row.cell 8 (by simp [spL])
theorem Sp2.c9 (h:Sp2 B bt mn ma be mw w c last l la r):w.cell? ⟨bt,9,none⟩=some (.map (some ma)):=h.row.cell 9 (by simp [spL])
theorem Sp2.c10 (h:Sp2 B bt mn ma be mw w c last l la r):w.cell? ⟨bt,10,none⟩=some (.pointer (some ⟨be,0,none⟩)):=h.row.cell 10 (by simp [spL])
theorem Sp2.f7 (h:Sp2 B bt mn ma be mw w c last l la r):w.frozen? ⟨bt,7,none⟩=false:=h.row.frozen 7
theorem Sp2.lookN (h:Sp2 B bt mn ma be mw w c last l la r) {x:PbC} (hx:x ∈ l) (hs:x.p.tag.length≤281474976710656):(Instr.lookup 53 (.map (some mn)) (.string ⟨x.p.tag.toArray⟩) true).run Tryz.prog w=.ok (.tuple #[.int .i64 x.p.num,.bool true]) w∧(Instr.lookup 53 (.map (some mn)) (.string ⟨x.p.tag.toArray⟩) false).run Tryz.prog w=.ok (.int .i64 x.p.num) w:=by
 obtain ⟨D,h1,h2⟩:=h.num;have e1:Maps.has D (kBp x.p.tag)=true:=(h2.has _).2 ⟨x,hx,rfl⟩;have e2:D.atKey (kBp x.p.tag) (.lit (.int .i64 0))=.lit (.int .i64 x.p.num):=h2.at' x hx _
 constructor
 ·obtain ⟨v,ps,hr,hv⟩:=h1.look_ok keySp Tryz.underlying53 (zeroIp w) (zd:=.lit (.int .i64 0)) (zp:=[]) rfl (key_strp hs);rw [e2] at hv;obtain rfl:=numP_inv hv;rw [hr,e1]
 ·obtain ⟨v,ps,hr,hv⟩:=h1.lookup keySp Tryz.underlying53 (zeroIp w) (zd:=.lit (.int .i64 0)) (zp:=[]) rfl (key_strp hs);rw [e2] at hv;obtain rfl:=numP_inv hv;exact hr
theorem Sp2.lookN_no (h:Sp2 B bt mn ma be mw w c last l la r) {tag:List UInt8} (h1:tag.length≤281474976710656) (hno:∀ x ∈ l,x.p.tag ≠ tag) :
  (Instr.lookup 53 (.map (some mn)) (.string ⟨tag.toArray⟩) true).run Tryz.prog w=.ok (.tuple #[.int .i64 0,.bool false]) w∧(Instr.lookup 53 (.map (some mn)) (.string ⟨tag.toArray⟩) false).run Tryz.prog w=.ok (.int .i64 0) w:=by
 obtain ⟨D,g1,g2⟩:=h.num;have e1:Maps.has D (kBp tag)=false:=g2.hasNot fun x hx e=>hno x hx (by unfold kNp kBp at e; injection e)
 constructor
 ·obtain ⟨v,ps,hr,hv⟩:=g1.look_ok keySp Tryz.underlying53 (zeroIp w) (zd:=.lit (.int .i64 0)) (zp:=[]) rfl (key_strp h1);rw [Maps.atKey_of_not_has e1] at hv;obtain rfl:=numP_inv hv;rw [hr,e1]
 ·obtain ⟨v,ps,hr,hv⟩:=g1.lookup keySp Tryz.underlying53 (zeroIp w) (zd:=.lit (.int .i64 0)) (zp:=[]) rfl (key_strp h1);rw [Maps.atKey_of_not_has e1] at hv;obtain rfl:=numP_inv hv;exact hr
theorem Sp2.lookA (h:Sp2 B bt mn ma be mw w c last l la r) {x:PbC} (hx:x ∈ la) (hs:SmallPb x) :
  (Instr.lookup 54 (.map (some ma)) (.int .i64 x.p.num) true).run Tryz.prog w=.ok (.tuple #[pbV x,.bool true]) w∧(Instr.lookup 54 (.map (some ma)) (.int .i64 x.p.num) false).run Tryz.prog w=.ok (pbV x) w:=by
 obtain ⟨D,h1,h2⟩:=h.all;have e1:Maps.has D (idK x.p.num)=true:=(h2.has _).2 ⟨x,hx,rfl⟩;have e2:∀ z,D.atKey (idK x.p.num) z=pbD x:=fun z=>h2.at' x hx z
 constructor
 ·obtain ⟨v,ps,hr,hv⟩:=h1.look_ok keyI Tryz.underlying54 (zeroPb w) (pbE_mk zeroP_f) (key_int hs.num);rw [e2] at hv;obtain rfl:=pbE_inv hv hs.f;rw [hr,e1]
 ·obtain ⟨v,ps,hr,hv⟩:=h1.lookup keyI Tryz.underlying54 (zeroPb w) (pbE_mk zeroP_f) (key_int hs.num);rw [e2] at hv;obtain rfl:=pbE_inv hv hs.f;exact hr
theorem Sp2.lookA_no (h:Sp2 B bt mn ma be mw w c last l la r) {id:Int} (hwf:(Lit.int .i64 id).wf=true) (hno:∀ x ∈ la,x.p.num ≠ id) :
  (Instr.lookup 54 (.map (some ma)) (.int .i64 id) true).run Tryz.prog w=.ok (.tuple #[pbV zeroP,.bool false]) w:=by
 obtain ⟨D,h1,h2⟩:=h.all;have e1:Maps.has D (idK id)=false:=h2.hasNot fun x hx e=>hno x hx (by unfold kAp idK at e; injection e);obtain ⟨v,ps,hr,hv⟩:=h1.look_ok keyI Tryz.underlying54 (zeroPb w) (pbE_mk zeroP_f) (key_int hwf);rw [Maps.atKey_of_not_has e1] at hv;obtain rfl:=pbE_inv hv zeroP_f;rw [hr,e1]
theorem Sp2.len (h:Sp2 B bt mn ma be mw w c last l la r) (ty:TypeId):(Builtin.len_ #[54] ty #[.map (some ma)]).run Tryz.prog w=.ok (.int .i64 la.length) w:=by
 obtain ⟨D,h1,h2⟩:=h.all;rw [h1.len Tryz.underlying54,h2.size]
theorem grown_ownp {P:Program} {k:TypeId} {R:Value → Option (DataW Unit × List MemPlace)} {b m n:Nat} {D:DataW Unit} (h:w.ownsMap P k R b n D) (hg:w.grownBy w' (some m)) (hne:b ≠ m):w'.ownsMap P k R b n D:=h.kept hg (fun e=>hne (by injection e))
theorem grown_chgp {m:Nat} (hg:w.grownBy w' (some m)):Chg (fun k=>k=m) w w':=⟨hg.os,hg.tape,hg.output,hg.size,fun k hk hn=>hg.block k hk fun e=>hn (by injection e)⟩
theorem map_lt_nep {P:Program} {k:TypeId} {R:Value → Option (DataW Unit × List MemPlace)} {b n g:Nat} {D:DataW Unit} {e:TypeId} {us:List Value} (h:w.ownsMap P k R b n D) (hr:RowIs w g e us):g ≠ b:=fun e'=>by subst e'; exact map_no_row h _ _ _ hr
theorem WWm.turnp {bw m B b n:Nat} {k:TypeId} {P:Program} {R:Value → Option (DataW Unit × List MemPlace)} {D:DataW Unit} {r:List Tm} (h:WWm m B bw w r) (ho:w.ownsMap P k R b n D) (hg:w.grownBy w' (some b)) (hne:b ≠ m):WWm m B bw w' r :=
 h.chg (grown_chgp hg) fun k _ e=>by subst e; exact ⟨hne,fun cs e x hh=>absurd hh (map_no_row ho _ _ _)⟩
theorem Sp2.mapN (h:Sp2 B bt mn ma be mw w c last l la r) {l':List PbC} (hg:w.grownBy w' (some mn)) (hn:∃ D,w'.ownsMap Tryz.prog 9 numP mn l'.length D∧MpG kNp dNp l' D):Sp2 B bt mn ma be mw w' c last l' la r:=by
 obtain ⟨D,h1,h2⟩:=h.num;obtain ⟨E,k1,k2⟩:=h.all;exact ⟨h.row.gr hg (fun e=>map_lt_nep h1 h.row (by injection e with e; exact e.symm)),hn,⟨E,grown_ownp k1 hg (Ne.symm h.n1),k2⟩,h.wheel.turnp h1 hg h.n2,h.n1,h.n2,h.n3,h.lb,h.ln,h.lm⟩
theorem Sp2.mapA (h:Sp2 B bt mn ma be mw w c last l la r) {l':List PbC} (hg:w.grownBy w' (some ma)) (hn:∃ D,w'.ownsMap Tryz.prog 3 pbE ma l'.length D∧MpG kAp pbD l' D):Sp2 B bt mn ma be mw w' c last l l' r:=by
 obtain ⟨D,h1,h2⟩:=h.num;obtain ⟨E,k1,k2⟩:=h.all;exact ⟨h.row.gr hg (fun e=>map_lt_nep k1 h.row (by injection e with e; exact e.symm)),⟨D,grown_ownp h1 hg h.n1,h2⟩,hn,h.wheel.turnp k1 hg h.n3,h.n1,h.n2,h.n3,h.lb,h.ln,h.lm⟩
theorem MpG.perm {α:Type} {kn:α → Lit} {dn:α → DataW Unit} {l l':List α} {D:DataW Unit} (h:MpG kn dn l D) (hp:l'.Perm l):MpG kn dn l' D :=
 ⟨fun k=>by rw [h.has]; constructor <;> rintro ⟨x,hx,e⟩; exact ⟨x,hp.mem_iff.2 hx,e⟩; exact ⟨x,hp.mem_iff.1 hx,e⟩,fun c hc z=>h.at' c (hp.mem_iff.1 hc) z,by rw [h.size,hp.length_eq]⟩
theorem Sp2.permN {l':List PbC} (h:Sp2 B bt mn ma be mw w c last l la r) (hp:l'.Perm l):Sp2 B bt mn ma be mw w c last l' la r:=by
 obtain ⟨D,h1,h2⟩:=h.num;exact ⟨h.row,⟨D,by rw [hp.length_eq]; exact h1,h2.perm hp⟩,h.all,h.wheel,h.n1,h.n2,h.n3,h.lb,h.ln,h.lm⟩
theorem FrP.turn {b:Nat} {k:TypeId} {P:Program} {R:Value → Option (DataW Unit × List MemPlace)} {n:Nat} {D:DataW Unit} (ho:w.ownsMap P k R b n D) (hg:w.grownBy w' (some b)) (hB:B≤b):FrP B w w':=by
 have hlt:=ho.lt;refine ⟨(grown_chgp hg).below (by omega) (fun k e=>by omega),fun k cs e x hh _ _ _ _=>?_⟩
 rw [hg.block k (Array.getElem?_eq_some_iff.1 hh).1 (fun e'=>by injection e' with e'; subst e'; exact map_no_row ho _ _ _ hh)];exact hh
theorem Sp2.addN (h:Sp2 B bt mn ma be mw w c last l la r) {x:PbC} (hs:x.p.tag.length≤281474976710656) (hno:∀ y ∈ l,y.p.tag ≠ x.p.tag) (hn:l.length≤1000000) :
  ∃ w',(Instr.mapUpdate 53 (.map (some mn)) (.string ⟨x.p.tag.toArray⟩) (.int .i64 x.p.num)).run Tryz.prog w=.ok () w'∧Sp2 B bt mn ma be mw w' c last (l++[x]) la r∧FrP B w w':=by
 obtain ⟨D,h1,h2⟩:=h.num;obtain ⟨w',hrun,g1,g2⟩:=h1.update keySp Tryz.underlying53 (by unfold maxLen; omega) (key_strp hs) (show numP (.int .i64 x.p.num)=some (dNp x,[]) from rfl);refine ⟨w',hrun,?_,FrP.turn h1 g2 h.ln⟩
 have hM:MpG kNp dNp (l++[x]) (D.put (kBp x.p.tag) (dNp x)):=h2.add h1.isMap (h1.tidy keySp) (c:=x) (by unfold kNp kBp; trivial) (fun y hy e=>hno y hy (kNp_inj.1 e));have g1':=own_tight g1;rw [hM.size] at g1';exact h.mapN g2 ⟨_,g1',hM⟩
theorem Sp2.addA (h:Sp2 B bt mn ma be mw w c last l la r) {x:PbC} (hs:(Lit.int .i64 x.p.num).wf=true) (hf:SlF x.ts∧SlF x.ns) (hno:∀ y ∈ la,y.p.num ≠ x.p.num) (hn:la.length≤1000000) :
  ∃ w',(Instr.mapUpdate 54 (.map (some ma)) (.int .i64 x.p.num) (pbV x)).run Tryz.prog w=.ok () w'∧Sp2 B bt mn ma be mw w' c last l (la++[x]) r∧FrP B w w':=by
 obtain ⟨D,h1,h2⟩:=h.all;obtain ⟨w',hrun,g1,g2⟩:=h1.update keyI Tryz.underlying54 (by unfold maxLen; omega) (key_int hs) (pbE_mk hf);refine ⟨w',hrun,?_,FrP.turn h1 g2 h.lm⟩
 have hM:MpG kAp pbD (la++[x]) (D.put (idK x.p.num) (pbD x)):=h2.add h1.isMap (h1.tidy keyI) (c:=x) (by unfold kAp; trivial) (fun y hy e=>hno y hy (kAp_inj.1 e));have g1':=own_tight g1;rw [hM.size] at g1';exact h.mapA g2 ⟨_,g1',hM⟩
theorem Sp2.putA (h:Sp2 B bt mn ma be mw w c last l la r) {k:Nat} (hk:k < la.length) {x:PbC} (hs:(Lit.int .i64 x.p.num).wf=true) (hf:SlF x.ts∧SlF x.ns) (he:x.p.num=la[k].p.num) (hr:la.Pairwise fun a b=>a.p.num < b.p.num) (hn:la.length≤1000000) :
  ∃ w',(Instr.mapUpdate 54 (.map (some ma)) (.int .i64 x.p.num) (pbV x)).run Tryz.prog w=.ok () w'∧Sp2 B bt mn ma be mw w' c last l (la.set k x) r∧FrP B w w':=by
 obtain ⟨D,h1,h2⟩:=h.all;obtain ⟨w',hrun,g1,g2⟩:=h1.update keyI Tryz.underlying54 (by unfold maxLen; omega) (key_int hs) (pbE_mk hf);refine ⟨w',hrun,?_,FrP.turn h1 g2 h.lm⟩
 have hM:MpG kAp pbD (la.set k x) (D.put (idK x.p.num) (pbD x)):=h2.set h1.isMap (h1.tidy keyI) hk (c:=x) (by unfold kAp; trivial) (kAp_inj.2 he) (fun j hj hne e=>by
  have hP:=List.pairwise_iff_getElem.1 hr;have e:=kAp_inj.1 e
  rcases Nat.lt_or_gt_of_ne hne with y | y
  ·have:=hP j k hj hk y; omega
  ·have:=hP k j hk hj y; omega)
 have g1':=own_tight g1;rw [hM.size] at g1';exact h.mapA g2 ⟨_,g1',hM⟩
theorem notN_at {l:List PbC} (hr:l.Pairwise fun a b=>a.p.num < b.p.num) {k:Nat} (hk:k < l.length) (j:Nat) (hj:j < l.length):notN l[k].p.num l[j]=true ↔ j ≠ k:=by
 have hP:=List.pairwise_iff_getElem.1 hr;unfold notN;simp only [Bool.not_eq_true',beq_eq_false_iff_ne,ne_eq]
 constructor
 ·rintro h rfl; exact h rfl
 ·intro hne e
  rcases Nat.lt_or_gt_of_ne hne with y | y
  ·have:=hP j k hj hk y; omega
  ·have:=hP k j hk hj y; omega
theorem withoutP {l:List PbC} (hr:l.Pairwise fun a b=>a.p.num < b.p.num) {k:Nat} (hk:k < l.length):(l.filter (notN l[k].p.num)).length+1=l.length∧l.filter (notN l[k].p.num)=l.take k++l.drop (k+1):=filter_oneG hk (notN_at hr hk)
theorem Sp2.dropN (h:Sp2 B bt mn ma be mw w c last l la r) (hr:l.Pairwise fun a b=>a.p.num < b.p.num) (hkey:l.Pairwise fun a b=>a.p.tag ≠ b.p.tag) {k:Nat} (hk:k < l.length) (hs:l[k].p.tag.length≤281474976710656) (ty:TypeId) :
  ∃ w',(Builtin.delete_ #[53,9] ty #[.map (some mn),.string ⟨l[k].p.tag.toArray⟩]).run Tryz.prog w=.ok (.tuple #[]) w'∧Sp2 B bt mn ma be mw w' c last (l.filter (notN l[k].p.num)) la r∧FrP B w w':=by
 obtain ⟨D,h1,h2⟩:=h.num;obtain ⟨w',hrun,g1,g2⟩:=h1.drop keySp Tryz.underlying53 (key_strp hs) ty;refine ⟨w',hrun,?_,FrP.turn h1 g2.grown h.ln⟩
 have hM:MpG kNp dNp (l.filter (notN l[k].p.num)) (D.del (kBp l[k].p.tag)):=h2.del (h1.tidy keySp) (List.getElem_mem hk) (fun x hx=>by
  obtain ⟨j,hj,rfl⟩:=List.mem_iff_getElem.1 hx;rw [notN_at hr hk j hj,ne_eq,ne_eq,kNp_inj];have hP:=List.pairwise_iff_getElem.1 hkey
  constructor
  ·intro hne e
   rcases Nat.lt_or_gt_of_ne hne with x | x
   ·exact hP j k hj hk x e
   ·exact hP k j hk hj x e.symm
  ·rintro e rfl; exact e rfl) (withoutP hr hk).1
 have g1':=own_tight g1;rw [hM.size] at g1';exact h.mapN g2.grown ⟨_,g1',hM⟩
theorem Sp2.dropA (h:Sp2 B bt mn ma be mw w c last l la r) (hr:la.Pairwise fun a b=>a.p.num < b.p.num) {k:Nat} (hk:k < la.length) (hs:(Lit.int .i64 la[k].p.num).wf=true) (ty:TypeId) :
  ∃ w',(Builtin.delete_ #[54,3] ty #[.map (some ma),.int .i64 la[k].p.num]).run Tryz.prog w=.ok (.tuple #[]) w'∧Sp2 B bt mn ma be mw w' c last l (la.filter (notN la[k].p.num)) r∧FrP B w w':=by
 obtain ⟨D,h1,h2⟩:=h.all;obtain ⟨w',hrun,g1,g2⟩:=h1.drop keyI Tryz.underlying54 (key_int hs) ty;refine ⟨w',hrun,?_,FrP.turn h1 g2.grown h.lm⟩
 have hM:MpG kAp pbD (la.filter (notN la[k].p.num)) (D.del (idK la[k].p.num)):=h2.del (h1.tidy keyI) (List.getElem_mem hk) (fun x hx=>by
  rw [ne_eq,kAp_inj]
  simp [notN]) (withoutP hr hk).1
 have g1':=own_tight g1;rw [hM.size] at g1';exact h.mapA g2.grown ⟨_,g1',hM⟩
theorem Sp2.turnW (h:Sp2 B bt mn ma be mw w c last l la r) {r':List Tm} (hw:WWm mw B be w' r') (hf:FrM mw B w w'):Sp2 B bt mn ma be mw w' c last l la r':=by
 obtain ⟨D,h1,h2⟩:=h.num;obtain ⟨E,k1,k2⟩:=h.all;exact ⟨hf.fr.row h.row (by decide) (by decide) (by decide),⟨D,hf.own h1 h.n2,h2⟩,⟨E,hf.own k1 h.n3,k2⟩,hw,h.n1,h.n2,h.n3,h.lb,h.ln,h.lm⟩
theorem FrP.put {b j:Nat} {us:List Value} (hr:RowIs w b 57 us) (hB:B≤b) (v:Value):FrP B w (w.setCell ⟨b,j,none⟩ v):=by
 have hc:Chg (fun k=>k=b) w (w.setCell ⟨b,j,none⟩ v):=(Chg.refl (fun k=>k=b) w).setCell (p:=⟨b,j,none⟩) (fun _=>rfl) v;refine ⟨(Below.refl B w).setCell hB v,fun k cs e x hh _ _ _ n4=>?_⟩
 rw [hc.block k (Array.getElem?_eq_some_iff.1 hh).1]
 ·exact hh
 ·intro e';subst e';unfold RowIs at hr;rw [hr] at hh
  simp at hh
  exact n4 hh.2.1.symm
theorem Sp2.count (h:Sp2 B bt mn ma be mw w c last l la r) (n:Int):Sp2 B bt mn ma be mw (w.setCell ⟨bt,7,none⟩ (.int .i64 n)) c n l la r∧FrP B w (w.setCell ⟨bt,7,none⟩ (.int .i64 n)):=by
 have hc:Chg (fun k=>k=bt) w (w.setCell ⟨bt,7,none⟩ (.int .i64 n)):=(Chg.refl (fun k=>k=bt) w).setCell (p:=⟨bt,7,none⟩) (fun _=>rfl) _;obtain ⟨D,h1,h2⟩:=h.num;obtain ⟨E,k1,k2⟩:=h.all;refine ⟨⟨?_,⟨D,own_chg h1 hc (Ne.symm (map_lt_nep h1 h.row)),h2⟩,⟨E,own_chg k1 hc (Ne.symm (map_lt_nep k1 h.row)),k2⟩,?_,h.n1,h.n2,h.n3,h.lb,h.ln,h.lm⟩,FrP.put h.row h.lb _⟩
 ·have:=h.row.set 7 (.int .i64 n)
  simpa [spL] using this
 ·refine h.wheel.chg hc fun k _ e=>?_
  subst e;refine ⟨fun e=>?_,fun cs e x hh=>?_⟩
  ·subst e;obtain ⟨v,f,n,D,hW,_⟩:=h.wheel;exact map_lt_nep hW.mp h.row rfl
  ·have:=h.row
   unfold RowIs at this;rw [this] at hh
   simp at hh
   rw [← hh.2.1];exact ⟨by decide,by decide,by decide⟩
theorem wmstop_any (h:WWm mw B be w r) {id:Int} (hwf:(Lit.int .i64 id).wf=true) :
  Calls Tryz.prog 80 #[.pointer (some ⟨be,0,none⟩),.int .i64 id] w fun e w'=>e=.returned (.bool (whenT r id).isSome)∧WWm mw B be w' (stopT r id)∧FrM mw B w w':=by
 obtain ⟨v,f,n,D,h,hn⟩:=h;refine (stop_any h hwf (by omega)).mono ?_
 rintro e w' ⟨rfl,v',f',n',D',h',hn',hc⟩;exact ⟨rfl,⟨v',f',n',D',h',by omega⟩,h.frm (hc.mono fun k _ x=>h.ss x)⟩
end
end Go.Proofs.YtbmjodlbkgblpaaGreatDoor
namespace Go.Proofs.YtbmjodlbkgblpaaGreatDoor
open Go.RowKit Sc
theorem infoStrU:(Tryz.prog.info? 9).map (fun i=>(i.zero,i.size,i.bytes))=some (some (.string .empty),1,16):=by kernel_rfl
theorem rc_row9 (w:World) (v0 v1 v2 v3 v4 v5 v6 v7 v8:Value) (t:TypeId):RowIs (w.alloc (.cells #[v0,v1,v2,v3,v4,v5,v6,v7,v8] t)) w.heap.size t [v0,v1,v2,v3,v4,v5,v6,v7,v8]:=by
 unfold RowIs; rw [heap_alloc_new]
theorem rc_store9 {w:World} {b:Nat} {e:TypeId} {u0 u1 u2 u3 u4 u5 u6 u7 u8:Value} (h:RowIs w b e [u0,u1,u2,u3,u4,u5,u6,u7,u8]) (v0 v1 v2 v3 v4 v5 v6 v7 v8:Value):RowIs (((((((((w.setCell ⟨b,0,none⟩ v0).setCell ⟨b,1,none⟩ v1).setCell ⟨b,2,none⟩ v2).setCell ⟨b,3,none⟩ v3).setCell ⟨b,4,none⟩ v4).setCell ⟨b,5,none⟩ v5).setCell ⟨b,6,none⟩ v6).setCell ⟨b,7,none⟩ v7).setCell ⟨b,8,none⟩ v8) b e [v0,v1,v2,v3,v4,v5,v6,v7,v8]:=by
 have:=((((((((h.set 0 v0).set 1 v1).set 2 v2).set 3 v3).set 4 v4).set 5 v5).set 6 v6).set 7 v7).set 8 v8
 simpa using this
theorem rc_below9 {B:Nat} {a w:World} (h:Below B a w) (b:Nat) (hb:B≤b) (v0 v1 v2 v3 v4 v5 v6 v7 v8:Value):Below B a (((((((((w.setCell ⟨b,0,none⟩ v0).setCell ⟨b,1,none⟩ v1).setCell ⟨b,2,none⟩ v2).setCell ⟨b,3,none⟩ v3).setCell ⟨b,4,none⟩ v4).setCell ⟨b,5,none⟩ v5).setCell ⟨b,6,none⟩ v6).setCell ⟨b,7,none⟩ v7).setCell ⟨b,8,none⟩ v8):=((((((((h.setCell hb _).setCell hb _).setCell hb _).setCell hb _).setCell hb _).setCell hb _).setCell hb _).setCell hb _).setCell hb _
structure RowC9 (w:World) (b:Nat) (v0 v1 v2 v3 v4 v5 v6 v7 v8:Value):Prop where
 c0:w.cell? ⟨b,0,none⟩=some v0
 c1:w.cell? ⟨b,1,none⟩=some v1
 c2:w.cell? ⟨b,2,none⟩=some v2
 c3:w.cell? ⟨b,3,none⟩=some v3
 c4:w.cell? ⟨b,4,none⟩=some v4
 c5:w.cell? ⟨b,5,none⟩=some v5
 c6:w.cell? ⟨b,6,none⟩=some v6
 c7:w.cell? ⟨b,7,none⟩=some v7
 c8:w.cell? ⟨b,8,none⟩=some v8
 f0:w.frozen? ⟨b,0,none⟩=false
 f1:w.frozen? ⟨b,1,none⟩=false
 f2:w.frozen? ⟨b,2,none⟩=false
 f3:w.frozen? ⟨b,3,none⟩=false
 f4:w.frozen? ⟨b,4,none⟩=false
 f5:w.frozen? ⟨b,5,none⟩=false
 f6:w.frozen? ⟨b,6,none⟩=false
 f7:w.frozen? ⟨b,7,none⟩=false
 f8:w.frozen? ⟨b,8,none⟩=false
theorem RowIs.rc9 {w:World} {b:Nat} {e:TypeId} {v0 v1 v2 v3 v4 v5 v6 v7 v8:Value} (h:RowIs w b e [v0,v1,v2,v3,v4,v5,v6,v7,v8]):RowC9 w b v0 v1 v2 v3 v4 v5 v6 v7 v8:=⟨h.cell 0 (by simp),h.cell 1 (by simp),h.cell 2 (by simp),h.cell 3 (by simp),h.cell 4 (by simp),h.cell 5 (by simp),h.cell 6 (by simp),h.cell 7 (by simp),h.cell 8 (by simp),h.frozen 0,h.frozen 1,h.frozen 2,h.frozen 3,h.frozen 4,h.frozen 5,h.frozen 6,h.frozen 7,h.frozen 8⟩
theorem own_set9 {w:World} {B e s n b:Nat} {v:Value} {xs:List Value} (h:w.ownsRow B e s v n xs) (hb:b < B) (v0 v1 v2 v3 v4 v5 v6 v7 v8:Value):(((((((((w.setCell ⟨b,0,none⟩ v0).setCell ⟨b,1,none⟩ v1).setCell ⟨b,2,none⟩ v2).setCell ⟨b,3,none⟩ v3).setCell ⟨b,4,none⟩ v4).setCell ⟨b,5,none⟩ v5).setCell ⟨b,6,none⟩ v6).setCell ⟨b,7,none⟩ v7).setCell ⟨b,8,none⟩ v8).ownsRow B e s v n xs :=
 ownsRow_setCell_below (ownsRow_setCell_below (ownsRow_setCell_below (ownsRow_setCell_below (ownsRow_setCell_below (ownsRow_setCell_below (ownsRow_setCell_below (ownsRow_setCell_below (ownsRow_setCell_below h hb _) hb _) hb _) hb _) hb _) hb _) hb _) hb _) hb _
theorem ow_rows_ne {w:World} {B1 B2 e1 e2 s1 s2 n1 n2:Nat} {v1 v2:Value} {x1 x2:List Value} (h1:w.ownsRow B1 e1 s1 v1 n1 x1) (h2:w.ownsRow B2 e2 s2 v2 n2 x2) (hne:e2 ≠ e1):v2.ownBlock=none∨v2.ownBlock ≠ v1.ownBlock:=by
 rcases h2.2 with ⟨rfl,_⟩ | ⟨g2,c2,u2,rfl,_,hg2,_⟩
 ·exact Or.inl rfl
 ·right
  rcases h1.2 with ⟨rfl,_⟩ | ⟨g1,c1,u1,rfl,_,hg1,_⟩
  ·simp [Value.ownBlock]
  ·simp only [Value.ownBlock];intro e
   injection e with e
   rw [e,hg1] at hg2
   injection hg2 with hg2
   injection hg2 with _ hg2
   exact hne hg2.symm
theorem wp_appPg {P:Program} (w:World) {ops:Array Oper} {rest:List Oper} {o:Oper} {a:Act} {Q:Exit → Act → World → Prop} (hgd:o.guard=none)
  (s x:Operand) (t:TypeId) (ho:o.op=Op.call { callee:=Callee.builtin Builtin.append,args:=#[s,x],argTypes:=#[t,t] }) (B:Nat) (i:TypeInfo)
  (z:Value) (ht:P.underlying t=some (TypeDesc.slice 37)) (hi:P.info? 37=some i) (hz:i.zero=some z) (hsize:i.size=7) (hby:i.bytes=112) (hzs:z.cells.size=7)
  (v:Value) (cs:List PbC) (hs:a.eval s=v) (hown:OwnPb w B v cs) (ad:Addr) (k:Nat) (c:List PbC) (n:Nat) (hn:n=c.length) (hc:∀ d ∈ c,d.ts.oneCell'=true∧d.ns.oneCell'=true) (hx:a.eval x=Value.slice (some ad) n k)
  (hnews:∀ (j:Nat) (u:Value),(pbsCells c)[j]? = some u → w.cell? (ad.add j)=some u)
  (hlen:cs.length≤100000) (hlen2:c.length≤100000) (hB:B≤w.heap.size)
  (h:∀ (v':Value) (w':World),OwnPb w' B v' (cs++c) → w.grownBy w' v.ownBlock → wpList P ops Q rest (a.put o.dst v') w'):wpList P ops Q (o :: rest) a w:=by
 subst hn
 refine wpList_append_own w hgd s x t ho B 37 i z 7 112 ht hi hz hsize hby hzs (by decide) v cs.length (pbsCells cs) hs hown ad c.length k (pbsCells c) hx (pbsCells_len c) hnews
  (by
   intro u hu;unfold pbsCells at hu;obtain ⟨d,hd,hu⟩:=List.mem_flatMap.1 hu
   simp [pbCells] at hu
   rcases hu with rfl | rfl | rfl | rfl | rfl | rfl | rfl <;> first | rfl | exact (hc d hd).1 | exact (hc d hd).2) (by unfold maxLen; omega) (by omega) hB ?_
 intro v' w' hown' hgr _;refine h v' w' ?_ hgr
 unfold OwnPb;rw [pbsCells_app,List.length_append];exact hown'
theorem strNe:9 ≠ 37:=by decide
end Go.Proofs.YtbmjodlbkgblpaaGreatDoor
namespace Go.Proofs.YtbmjodlbkgblpaaGreatDoor
open Go.RowKit
theorem put_list (a:Act) (d:Nat) (v:Value):(a.put (some d) v).tmps.toList=a.tmps.toList.set d v:=by simp [Act.put]
structure MP where
 a0:Act
 lo:Nat
 hi:Nat
 n:Nat
 k:Nat
 W:World
 D:Nat → Nat
 R:Nat → Value → World → Prop
structure Outs (p:MP) (a0 a:Act):Prop where
 sz:a.tmps.size=p.n
 df:a.defers=[]
 out:∀ s,s < p.lo∨p.hi≤s → a.eval (.tmp s)=a0.eval (.tmp s)
theorem Outs.fin {p:MP} {a0 a:Act} (h:Outs p a0 a) (h0:a0.tmps.size=p.n) (hle:p.lo≤p.hi) (hn:p.hi≤p.n):∃ us:List Value,us.length=p.hi - p.lo∧a=⟨(a0.tmps.toList.take p.lo++(us++a0.tmps.toList.drop p.hi)).toArray,[]⟩:=by
 have key:∀ s,s < p.lo∨p.hi≤s → a.tmps.toList[s]? = a0.tmps.toList[s]? := fun s hs=>by
  have e:=h.out s hs;by_cases hlt:s < p.n
  ·have l1:s < a.tmps.size:=by rw [h.sz]; exact hlt
   have l2:s < a0.tmps.size:=by rw [h0]; exact hlt
   simp [Act.eval,Array.getD_eq_getD_getElem?,l1,l2] at e
   simp [l1,l2,e]
  ·rw [List.getElem?_eq_none (by simp; rw [h.sz]; omega),List.getElem?_eq_none (by simp; rw [h0]; omega)]
 refine ⟨(a.tmps.toList.take p.hi).drop p.lo,by simp [h.sz]; omega,?_⟩
 have e1:a0.tmps.toList.take p.lo=a.tmps.toList.take p.lo:=by
  apply List.ext_getElem?
  intro s;rw [List.getElem?_take,List.getElem?_take]
  split
  ·exact (key s (.inl ‹_›)).symm
  ·rfl
 have e2:a0.tmps.toList.drop p.hi=a.tmps.toList.drop p.hi:=by
  apply List.ext_getElem?
  intro s;rw [List.getElem?_drop,List.getElem?_drop];exact (key _ (.inr (by omega))).symm
 have e3:a.tmps.toList=a.tmps.toList.take p.lo++((a.tmps.toList.take p.hi).drop p.lo++a.tmps.toList.drop p.hi):=by
  have:=List.take_append_drop p.lo (a.tmps.toList.take p.hi)
  rw [← List.append_assoc];rw [List.take_take,Nat.min_eq_left hle] at this;rw [this,List.take_append_drop]
 rw [e1,e2,← e3];obtain ⟨tm,df⟩:=a
 have:=h.df
 simp only at this;subst this
 rfl
section
variable {p : MP} {ops : Array Oper} {L : Array Bool} {a : Act} {w w' : World}
theorem ready_nots {i:Nat} (hi:i ∈ Region.ready .any ops L):L.getD i false=false∧i < ops.size:=by
 refine ⟨?_,?_⟩
 ·have:=(mem_ready.1 hi).1
  rw [Array.getD_eq_getD_getElem?] at this ⊢
  cases e:L[i]? with
  | none=>rw [e] at this; simp at this
  | some b=>rw [e] at this; simpa using this
 ·obtain ⟨_,o,ho,_⟩:=mem_ready.1 hi;exact (Array.getElem?_eq_some_iff.1 ho).1
end
def waitsB (ops:Array Oper) (i j:Nat):Bool:=match ops[i]? with
 | some o=>o.after.any fun e=>Region.binds .any e && decide (e.on=j)
 | none=>false
theorem waits_of {ops:Array Oper} {i j:Nat} (h:waitsB ops i j=true):Waits ops i j:=by
 unfold waitsB at h
 cases ho:ops[i]? with
 | none=>rw [ho] at h; cases h
 | some o =>
  rw [ho] at h;simp only at h;obtain ⟨k,hk,hb⟩:=Array.any_eq_true.1 h;simp only [Bool.and_eq_true,decide_eq_true_eq] at hb;exact ⟨o,ho,o.after[k],Array.getElem_mem hk,hb.1,hb.2⟩
end Go.Proofs.YtbmjodlbkgblpaaGreatDoor
namespace Go.Proofs.YtbmjodlbkgblpaaGreatDoor
open Go.RowKit Sc
structure BoxA (w:World) (b:Nat) (a:Pa) (ts ns:Value):Prop where
 c0:w.cell? ⟨b,0,none⟩=some (.string ⟨a.who.toArray⟩)
 c1:w.cell? ⟨b,1,none⟩=some (.string ⟨a.mt.toArray⟩)
 c2:w.cell? ⟨b,2,none⟩=some (.int .i64 a.exp)
 c3:w.cell? ⟨b,3,none⟩=some (.bool a.has)
 c4:w.cell? ⟨b,4,none⟩=some (.string ⟨a.doc.entity.toArray⟩)
 c5:w.cell? ⟨b,5,none⟩=some ts
 c6:w.cell? ⟨b,6,none⟩=some ns
 c7:w.cell? ⟨b,7,none⟩=some (.string ⟨a.tag.toArray⟩)
def askL (a:Pa) (ts ns:Value):List Value:=[.string ⟨a.who.toArray⟩,.string ⟨a.mt.toArray⟩,.int .i64 a.exp,.bool a.has,.string ⟨a.doc.entity.toArray⟩,ts,ns,.string ⟨a.tag.toArray⟩]
def askV (a:Pa) (ts ns:Value):Value:=.agg #[.string ⟨a.who.toArray⟩,.string ⟨a.mt.toArray⟩,.int .i64 a.exp,.bool a.has,.string ⟨a.doc.entity.toArray⟩,ts,ns,.string ⟨a.tag.toArray⟩]
def objA (a:Pa) (ts ns:Value):Obj:=.cells #[.string ⟨a.who.toArray⟩,.string ⟨a.mt.toArray⟩,.int .i64 a.exp,.bool a.has,.string ⟨a.doc.entity.toArray⟩,ts,ns,.string ⟨a.tag.toArray⟩] 44
theorem boxA_new (w:World) (a:Pa) (ts ns:Value):BoxA (w.alloc (objA a ts ns)) w.heap.size a ts ns:=by
 unfold objA
 constructor <;> rw [World.cell?_alloc_new] <;> rfl
theorem BoxA.below {w w':World} {b B:Nat} {a:Pa} {ts ns:Value} (h:BoxA w b a ts ns) (hb:Below B w w') (hl:b < B):BoxA w' b a ts ns :=
 ⟨cell_below hb hl h.c0,cell_below hb hl h.c1,cell_below hb hl h.c2,cell_below hb hl h.c3,cell_below hb hl h.c4,cell_below hb hl h.c5,cell_below hb hl h.c6,cell_below hb hl h.c7⟩
theorem cell_blk {w w':World} {b o:Nat} {v:Value} (he:w'.heap[b]? = w.heap[b]?) (h:w.cell? ⟨b,o,none⟩=some v):w'.cell? ⟨b,o,none⟩=some v:=by
 rw [World.cell?_of_block (a:=⟨b,o,none⟩) he]; exact h
theorem BoxA.blk {w w':World} {b:Nat} {a:Pa} {ts ns:Value} (h:BoxA w b a ts ns) (he:w'.heap[b]? = w.heap[b]?):BoxA w' b a ts ns :=
 ⟨cell_blk he h.c0,cell_blk he h.c1,cell_blk he h.c2,cell_blk he h.c3,cell_blk he h.c4,cell_blk he h.c5,cell_blk he h.c6,cell_blk he h.c7⟩
theorem BoxS.blk {w w':World} {b:Nat} {s:Sto} {v:Value} (h:BoxS w b s v) (he:w'.heap[b]? = w.heap[b]?):BoxS w' b s v :=
 ⟨⟨cell_blk he h.f.c0,cell_blk he h.f.c1,cell_blk he h.f.c2,cell_blk he h.f.c3,cell_blk he h.f.c4,cell_blk he h.f.c5,cell_blk he h.f.c6⟩,cell_blk he h.c7,cell_blk he h.c8⟩
theorem RowIs.blk {w w':World} {b:Nat} {e:TypeId} {us:List Value} (h:RowIs w b e us) (he:w'.heap[b]? = w.heap[b]?):RowIs w' b e us:=by
 unfold RowIs at *; rw [he]; exact h
theorem set9_block (w:World) {b g:Nat} (h:g ≠ b) (v0 v1 v2 v3 v4 v5 v6 v7 v8:Value):(((((((((w.setCell ⟨b,0,none⟩ v0).setCell ⟨b,1,none⟩ v1).setCell ⟨b,2,none⟩ v2).setCell ⟨b,3,none⟩ v3).setCell ⟨b,4,none⟩ v4).setCell ⟨b,5,none⟩ v5).setCell ⟨b,6,none⟩ v6).setCell ⟨b,7,none⟩ v7).setCell ⟨b,8,none⟩ v8).heap[g]? = w.heap[g]? := by
 rw [Below.heap_setCell _ ⟨b,8,none⟩ _ _ h,Below.heap_setCell _ ⟨b,7,none⟩ _ _ h,Below.heap_setCell _ ⟨b,6,none⟩ _ _ h,Below.heap_setCell _ ⟨b,5,none⟩ _ _ h,Below.heap_setCell _ ⟨b,4,none⟩ _ _ h,Below.heap_setCell _ ⟨b,3,none⟩ _ _ h,Below.heap_setCell _ ⟨b,2,none⟩ _ _ h,Below.heap_setCell _ ⟨b,1,none⟩ _ _ h,Below.heap_setCell _ ⟨b,0,none⟩ _ _ h]
theorem set4_block (w:World) {b g:Nat} (h:g ≠ b) (v0 v1 v2 v3:Value):((((w.setCell ⟨b,0,none⟩ v0).setCell ⟨b,1,none⟩ v1).setCell ⟨b,2,none⟩ v2).setCell ⟨b,3,none⟩ v3).heap[g]? = w.heap[g]? := by
 rw [Below.heap_setCell _ ⟨b,3,none⟩ _ _ h,Below.heap_setCell _ ⟨b,2,none⟩ _ _ h,Below.heap_setCell _ ⟨b,1,none⟩ _ _ h,Below.heap_setCell _ ⟨b,0,none⟩ _ _ h]
theorem own_set4 {w:World} {B e s n b:Nat} {v:Value} {xs:List Value} (h:w.ownsRow B e s v n xs) (hb:b < B) (v0 v1 v2 v3:Value):((((w.setCell ⟨b,0,none⟩ v0).setCell ⟨b,1,none⟩ v1).setCell ⟨b,2,none⟩ v2).setCell ⟨b,3,none⟩ v3).ownsRow B e s v n xs :=
 ownsRow_setCell_below (ownsRow_setCell_below (ownsRow_setCell_below (ownsRow_setCell_below h hb _) hb _) hb _) hb _
theorem set9_size (w:World) (b:Nat) (v0 v1 v2 v3 v4 v5 v6 v7 v8:Value):(((((((((w.setCell ⟨b,0,none⟩ v0).setCell ⟨b,1,none⟩ v1).setCell ⟨b,2,none⟩ v2).setCell ⟨b,3,none⟩ v3).setCell ⟨b,4,none⟩ v4).setCell ⟨b,5,none⟩ v5).setCell ⟨b,6,none⟩ v6).setCell ⟨b,7,none⟩ v7).setCell ⟨b,8,none⟩ v8).heap.size=w.heap.size :=
 Nat.le_antisymm (by simp) (rc_below9 (Below.refl 0 w) b (Nat.zero_le _) v0 v1 v2 v3 v4 v5 v6 v7 v8).size
def stoL (s:Sto) (v:Value):List Value:=[.string ⟨s.c.host.toArray⟩,.int .i64 s.c.calls,.int .i64 s.c.pubs,.int .i64 s.c.subs,.int .i64 s.c.least,.int .i64 s.c.most,.int .i64 s.c.usual,.int .i64 s.last,v]
def stoZ:List Value:=[.string ⟨#[]⟩,.int .i64 0,.int .i64 0,.int .i64 0,.int .i64 0,.int .i64 0,.int .i64 0,.int .i64 0,.slice none 0 0]
def tdL (t:Td):List Value:=[.int .i64 t.status,.int .i64 t.expires,.string ⟨t.tag.toArray⟩,.bool t.changed]
def tdZ:List Value:=[.int .i64 0,.int .i64 0,.string ⟨#[]⟩,.bool false]
def tdV (t:Td):Value:=.agg #[.int .i64 t.status,.int .i64 t.expires,.string ⟨t.tag.toArray⟩,.bool t.changed]
theorem step_appPb {P:Program} {ops:Array Oper} {o:Oper} {a:Act} {w:World} {K:Act → World → Prop} {Q:Exit → Act → World → Prop} {E:Prop} (hgd:o.guard=none)
  (s x:Operand) (t:TypeId) (ho:o.op=Op.call { callee:=Callee.builtin Builtin.append,args:=#[s,x],argTypes:=#[t,t] }) (B:Nat) (i:TypeInfo)
  (z:Value) (ht:P.underlying t=some (TypeDesc.slice 37)) (hi:P.info? 37=some i) (hz:i.zero=some z) (hsize:i.size=7) (hby:i.bytes=112) (hzs:z.cells.size=7)
  (v:Value) (cs:List PbC) (hsv:a.eval s=v) (hown:OwnPb w B v cs) (va:Value) (ns:List PbC) (hx:a.eval x=va) (hc:∀ d ∈ ns,d.ts.oneCell'=true∧d.ns.oneCell'=true)
  (hat:(va=.slice none 0 0∧ns=[])∨∃ ad cap,va=.slice (some ad) ns.length cap∧∀ (j:Nat) (u:Value),(pbsCells ns)[j]? = some u → w.cell? (ad.add j)=some u)
  (hlen:cs.length+ns.length≤400000) (hB:B≤w.heap.size)
  (h:∀ (v':Value) (w':World),OwnPb w' B v' (cs++ns) → w.grownBy w' v.ownBlock → K (a.put o.dst v') w') :
  if Region.wanted o (yielded ops a.tmps)=true then Oper.wp P o a w K Q else E:=by
 have hw:Region.wanted o (yielded ops a.tmps)=true:=by simp [Region.wanted,hgd]
 rw [if_pos hw]
 rcases hat with ⟨hv,hn⟩ | ⟨ad,cap,hv,hcl⟩
 ·subst hn;rw [hv] at hx;have hrun:=run_append_owned_none (P:=P) (w:=w) B t o.type 37 i 7 ht hi v cs.length (pbsCells cs) hown;unfold Oper.wp
  simp [execOp,ho,resolve,invoke,builtin,hsv,hx,hrun,Result.andThen]
  exact h v w (by rw [List.append_nil]; exact hown) ⟨rfl,rfl,rfl,Nat.le_refl _,fun _ _ _=>rfl⟩
 ·rw [hv] at hx;obtain ⟨v',w',hrun,r1,hgr,_⟩:=run_append_own (P:=P) w B t o.type 37 i z 7 112 ht hi hz hsize hby hzs (by decide) v cs.length (pbsCells cs) hown ad ns.length cap (pbsCells ns) (pbsCells_len ns) hcl
   (by
    intro u hu;unfold pbsCells at hu;obtain ⟨d,hd,hu⟩:=List.mem_flatMap.1 hu
    simp [pbCells] at hu
    rcases hu with rfl | rfl | rfl | rfl | rfl | rfl | rfl <;> first | rfl | exact (hc d hd).1 | exact (hc d hd).2) (by unfold maxLen; omega) (by omega) hB
  unfold Oper.wp
  simp [execOp,ho,resolve,invoke,builtin,hsv,hx,hrun,Result.andThen]
  refine h v' w' ?_ hgr
  unfold OwnPb;rw [pbsCells_app,List.length_append];exact r1
structure KD where
 S:Sto
 sv:Value
 A:Pa
 ts:Value
 ns:Value
 L0:List PbC
 R0:List PbC
 v13:Value
 T:Td
 b3:Nat
 b5:Nat
 b6:Nat
 b7:Nat
 B:Nat
 W0:World
structure KD.Ok (k:KD):Prop where
 h3:k.b3 < k.B
 h5:k.b5 < k.B
 h6:k.b6 < k.B
 h7:k.b7 < k.B
 n63:k.b3 ≠ k.b6
 n65:k.b5 ≠ k.b6
 n67:k.b7 ≠ k.b6
 n73:k.b3 ≠ k.b7
 n75:k.b5 ≠ k.b7
 l6:k.W0.heap.size≤k.b6
 l7:k.W0.heap.size≤k.b7
structure DynD (k:KD) (lA lB l6 l7:Bool) (xA xB:Value) (w:World):Prop where
 bs:BoxS w k.b3 k.S k.sv
 ba:BoxA w k.b5 k.A k.ts k.ns
 bel:Below k.W0.heap.size k.W0 w
 lo:k.B≤w.heap.size
 own0:lA=false → OwnPb w k.B k.v13 k.L0
 ownA:lA=true → OwnPb w k.B xA (k.L0++k.R0)
 eB:lB=true → xB=stoV k.S xA
 r6:RowIs w k.b6 28 (if l6=true then stoL k.S xA else stoZ)
 r7:RowIs w k.b7 48 (if l7=true then tdL k.T else tdZ)
 cB:lB=true → lA=true
 c6:l6=true → lB=true
section
variable {k : KD} {lA lB l6 l7 : Bool} {xA xB : Value} {w w' : World}
theorem DynD.app (h:DynD k lA lB l6 l7 xA xB w) (hk:k.Ok) (h0:lA=false) {v':Value} (ho:OwnPb w' k.B v' (k.L0++k.R0)) (hg:w.grownBy w' k.v13.ownBlock):DynD k true lB l6 l7 v' xB w':=by
 have hr:∀ g,k.v13.ownBlock=some g → k.B≤g:=fun g e=>(World.ownsRow.lt (h.own0 h0) g e).1;have hne:∀ b,b < k.B → some b ≠ k.v13.ownBlock:=fun b hb e=>by have:=hr b e.symm; omega
 have blk:∀ b,b < k.B → w'.heap[b]? = w.heap[b]? := fun b hb=>hg.block b (Nat.lt_of_lt_of_le hb h.lo) (hne b hb)
 have hB0:lB=false:=by
  cases e:lB with
  | false=>rfl
  | true=>have:=h.cB e; rw [h0] at this; cases this
 have h60:l6=false:=by
  cases e:l6 with
  | false=>rfl
  | true=>have:=h.c6 e; rw [hB0] at this; cases this
 have r6:=h.r6;rw [h60] at r6;rw [h60,hB0];refine ⟨h.bs.blk (blk _ hk.h3),h.ba.blk (blk _ hk.h5),h.bel.grown hg h.bel.size (fun g e=>Nat.le_trans (Nat.le_trans hk.l6 (Nat.le_of_lt hk.h6)) (hr g e)),Nat.le_trans h.lo hg.size,fun e=>(by cases e),fun _=>ho,fun e=>(by cases e),RowIs.blk r6 (blk _ hk.h6),RowIs.blk h.r7 (blk _ hk.h7),fun e=>(by cases e),fun e=>(by cases e)⟩
theorem DynD.bld (h:DynD k lA lB l6 l7 xA xB w) (hA:lA=true):DynD k lA true l6 l7 xA (stoV k.S xA) w :=
 ⟨h.bs,h.ba,h.bel,h.lo,h.own0,h.ownA,fun _=>rfl,h.r6,h.r7,fun _=>hA,fun _=>rfl⟩
end
end Go.Proofs.YtbmjodlbkgblpaaGreatDoor
