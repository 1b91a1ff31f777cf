/-
  PsM, PubR, PubV.
-/
import Derived.Test.YteicmbhilambpaaGreatDoorPU11
set_option linter.unusedVariables false
set_option linter.unusedSimpArgs false
set_option maxRecDepth 20000
namespace Go.Proofs.YteicmbhilambpaaGreatDoor
open Go.RowKit Go.Maps Go.WideMaps Sc
def zeroP:PbC:=⟨⟨0,[],[],0,⟨[],[],[]⟩⟩,.slice none 0 0,.slice none 0 0⟩
theorem zeroP_f:SlF zeroP.ts∧SlF zeroP.ns:=⟨.inl ⟨0,0,rfl⟩,.inl ⟨0,0,rfl⟩⟩
theorem zeroPb (w:World):(zeroValue 62).run Tryz.prog w=.ok (pbV zeroP) w:=by kernel_rfl
theorem zeroIp (w:World):(zeroValue 3).run Tryz.prog w=.ok (.int .i64 0) w:=by kernel_rfl
theorem keySp:Keyed Tryz.prog 9:=string_keyed Tryz.underlying9
theorem sp_size (l:List UInt8):(⟨l.toArray⟩:ByteArray).size=l.length:=by simp [ByteArray.size]
def kBp (l:List UInt8):Lit:=.string l
theorem key_strp {l:List UInt8} (h:l.length≤281474976710656):keyOf Tryz.prog 9 (.string ⟨l.toArray⟩)=some (kBp l):=keyOf_string_mk Tryz.underlying9 (by rw [sp_size]; unfold maxLen; omega)
def kNp (c:PbC):Lit:=kBp c.p.tag
def dNp (c:PbC):DataW Unit:=.lit (.int .i64 c.p.num)
def kAp (c:PbC):Lit:=idK c.p.num
structure SmallPb (c:PbC):Prop where
 who:c.p.who.length≤281474976710656
 tag:c.p.tag.length≤281474976710656
 doc:SmallD 140737488355328 c.p.doc
 tl:c.p.doc.tuples.length≤1000000
 nl:c.p.doc.notes.length≤1000000
 num:(Lit.int .i64 c.p.num).wf=true
 f:SlF c.ts∧SlF c.ns
theorem kNp_inj {a b:PbC}:kNp a=kNp b ↔ a.p.tag=b.p.tag:=by
 constructor
 ·intro e; unfold kNp kBp at e; injection e
 ·intro e; unfold kNp; rw [e]
theorem kAp_inj {a b:PbC}:kAp a=kAp b ↔ a.p.num=b.p.num:=by
 constructor
 ·intro e; unfold kAp idK at e; injection e
 ·intro e; unfold kAp; rw [e]
def spL (c:Cf) (last:Int) (mn ma be:Nat):List Value:=[.string ⟨c.host.toArray⟩,.int .i64 c.calls,.int .i64 c.pubs,.int .i64 c.subs,.int .i64 c.least,.int .i64 c.most,.int .i64 c.usual,.int .i64 last,.map (some mn),.map (some ma),.pointer (some ⟨be,0,none⟩)]
structure Sp2 (B bt mn ma be mw:Nat) (w:World) (c:Cf) (last:Int) (l la:List PbC) (r:List Tm):Prop where
 row:RowIs w bt 76 (spL c last mn ma be)
 num:∃ D,w.ownsMap Tryz.prog 9 numP mn l.length D∧MpG kNp dNp l D
 all:∃ D,w.ownsMap Tryz.prog 3 pbE ma la.length D∧MpG kAp pbD la D
 wheel:WWm mw B be w r
 n1:mn ≠ ma
 n2:mn ≠ mw
 n3:ma ≠ mw
 lb:B≤bt
 ln:B≤mn
 lm:B≤ma
structure FrP (B:Nat) (w w':World):Prop where
 below:Below B w w'
 keep:∀ (k:Nat) (cs:Array Value) (e:TypeId) (x:Nat × Nat),w.heap[k]? = some (Obj.cells cs e x) → e ≠ 120 → e ≠ 127 → e ≠ 123 → e ≠ 76 → w'.heap[k]? = some (Obj.cells cs e x)
theorem FrP.refl (B:Nat) (w:World):FrP B w w:=⟨Below.refl _ _,fun _ _ _ _ h _ _ _ _=>h⟩
theorem FrP.trans {B:Nat} {a b c:World} (h:FrP B a b) (k:FrP B b c):FrP B a c:=⟨h.below.trans k.below,fun i cs e x hh n1 n2 n3 n4=>k.keep i cs e x (h.keep i cs e x hh n1 n2 n3 n4) n1 n2 n3 n4⟩
theorem FrP.of {B:Nat} {w w':World} (h:Below w.heap.size w w') (hB:B≤w.heap.size):FrP B w w' :=
 ⟨h.mono hB,fun k cs e x hh _ _ _ _=>by rw [h.block k (Array.getElem?_eq_some_iff.1 hh).1]; exact hh⟩
theorem FrP.drew {B:Nat} {w w':World} (h:FrP B w w'):FrP B w w'.drew:=⟨h.below.drew,h.keep⟩
theorem FrM.frp {m B:Nat} {w w':World} (h:FrM m B w w'):FrP B w w':=⟨h.fr.below,fun k cs e x hh n1 n2 n3 _=>h.fr.keep k cs e x hh n1 n2 n3⟩
theorem FrP.row {B:Nat} {w w':World} {b:Nat} {e:TypeId} {l:List Value} (h:FrP B w w') (hr:RowIs w b e l) (n1:e ≠ 120) (n2:e ≠ 127) (n3:e ≠ 123) (n4:e ≠ 76):RowIs w' b e l:=by
 unfold RowIs at hr ⊢;exact h.keep _ _ _ _ hr n1 n2 n3 n4
theorem FrP.own {B C e s n:Nat} {w w':World} {v:Value} {xs:List Value} (hf:FrP C w w') (h:w.ownsRow B e s v n xs) (n1:e ≠ 120) (n2:e ≠ 127) (n3:e ≠ 123) (n4:e ≠ 76):w'.ownsRow B e s v n xs:=by
 obtain ⟨h1,h2⟩:=h;refine ⟨h1,?_⟩
 rcases h2 with h2 | ⟨g,cap,cur,hv,hg,hh,r⟩
 ·exact Or.inl h2
 ·exact Or.inr ⟨g,cap,cur,hv,hg,hf.keep g _ _ _ hh n1 n2 n3 n4,r⟩
section
variable {B bt mn ma be mw : Nat} {w w' : World} {c : Cf} {last : Int} {l la : List PbC} {r : List Tm}
theorem Sp2.lo (h:Sp2 B bt mn ma be mw w c last l la r):B≤w.heap.size:=h.wheel.lo
theorem Sp2.bt_lt (h:Sp2 B bt mn ma be mw w c last l la r):bt < w.heap.size:=(Array.getElem?_eq_some_iff.1 h.row).1
theorem Sp2.chg {S:Nat → Prop} (h:Sp2 B bt mn ma be mw w c last l la r) (hc:Chg S w w') (hn:∀ k,B≤k → k < w.heap.size → S k → ∃ cs e x,w.heap[k]? = some (Obj.cells cs e x)∧e ≠ 120∧e ≠ 127∧e ≠ 123∧e ≠ 76):Sp2 B bt mn ma be mw w' c last l la r:=by
 have hm:∀ {k:TypeId} {R:Value → Option (DataW Unit × List MemPlace)} {b n:Nat} {D:DataW Unit},w.ownsMap Tryz.prog k R b n D → B≤b → w'.ownsMap Tryz.prog k R b n D:=fun h1 hb=>own_chg h1 hc fun hS=>by
  obtain ⟨cs,e,x,hh,_⟩:=hn _ hb h1.lt hS;exact map_no_row h1 _ _ _ hh
 refine ⟨?_,?_,?_,?_,h.n1,h.n2,h.n3,h.lb,h.ln,h.lm⟩
 ·refine h.row.chg hc fun hS=>?_
  obtain ⟨cs,e,x,hh,_,_,_,n4⟩:=hn _ h.lb h.bt_lt hS
  have:=h.row
  unfold RowIs at this;rw [this] at hh
  simp at hh
  exact n4 hh.2.1.symm
 ·obtain ⟨D,h1,h2⟩:=h.num;exact ⟨D,hm h1 h.ln,h2⟩
 ·obtain ⟨D,h1,h2⟩:=h.all;exact ⟨D,hm h1 h.lm,h2⟩
 ·refine h.wheel.chg (S:=fun k=>S k∧k < w.heap.size) ⟨hc.os,hc.tape,hc.output,hc.size,fun k hk hS=>hc.block k hk fun x=>hS ⟨x,hk⟩⟩ fun k hB hS=>?_
  obtain ⟨cs,e,x,hh,n1,n2,n3,n4⟩:=hn _ hB hS.2 hS.1;refine ⟨fun e'=>?_,fun cs' e' x' hh'=>?_⟩
  ·subst e';obtain ⟨v,f,n,D,hW,_⟩:=h.wheel;exact map_no_row hW.mp _ _ _ hh
  ·rw [hh] at hh'
   simp at hh'
   rw [← hh'.2.1];exact ⟨n1,n2,n3⟩
theorem Sp2.below (h:Sp2 B bt mn ma be mw w c last l la r) (hb:Below w.heap.size w w'):Sp2 B bt mn ma be mw w' c last l la r :=
 h.chg (S:=fun k=>w.heap.size≤k) ⟨hb.os,hb.tape,hb.output,hb.size,fun k _ hn=>hb.block k (by omega)⟩ (fun k _ h1 h2=>by omega)
theorem Sp2.drew (h:Sp2 B bt mn ma be mw w c last l la r):Sp2 B bt mn ma be mw w.drew c last l la r:=h.below (Below.refl _ _).drew
theorem Sp2.new (h:Sp2 B bt mn ma be mw w c last l la r) (o:Obj):Sp2 B bt mn ma be mw (w.alloc o) c last l la r:=h.below ((Below.refl _ _).alloc (Nat.le_refl _) o)
theorem Sp2.put (h:Sp2 B bt mn ma be mw w c last l la r) {b:Nat} {e:TypeId} {us:List Value} (hr:RowIs w b e us) (n1:e ≠ 120) (n2:e ≠ 127) (n3:e ≠ 123) (n4:e ≠ 76) (hc:Chg (fun k=>k=b) w w'):Sp2 B bt mn ma be mw w' c last l la r :=
 h.chg hc fun k _ _ e'=>by subst e'; exact ⟨_,_,_,hr,n1,n2,n3,n4⟩
theorem Sp2.c0 (h:Sp2 B bt mn ma be mw w c last l la r):w.cell? ⟨bt,0,none⟩=some (.string ⟨c.host.toArray⟩):=h.row.cell 0 (by simp [spL])
theorem Sp2.c1 (h:Sp2 B bt mn ma be mw w c last l la r):w.cell? ⟨bt,1,none⟩=some (.int .i64 c.calls):=h.row.cell 1 (by simp [spL])
theorem Sp2.c2 (h:Sp2 B bt mn ma be mw w c last l la r):w.cell? ⟨bt,2,none⟩=some (.int .i64 c.pubs):=h.row.cell 2 (by simp [spL])
theorem Sp2.c3 (h:Sp2 B bt mn ma be mw w c last l la r):w.cell? ⟨bt,3,none⟩=some (.int .i64 c.subs):=h.row.cell 3 (by simp [spL])
theorem Sp2.c4 (h:Sp2 B bt mn ma be mw w c last l la r):w.cell? ⟨bt,4,none⟩=some (.int .i64 c.least):=h.row.cell 4 (by simp [spL])
theorem Sp2.c5 (h:Sp2 B bt mn ma be mw w c last l la r):w.cell? ⟨bt,5,none⟩=some (.int .i64 c.most):=h.row.cell 5 (by simp [spL])
theorem Sp2.c6 (h:Sp2 B bt mn ma be mw w c last l la r):w.cell? ⟨bt,6,none⟩=some (.int .i64 c.usual):=h.row.cell 6 (by simp [spL])
theorem Sp2.c7 (h:Sp2 B bt mn ma be mw w c last l la r):w.cell? ⟨bt,7,none⟩=some (.int .i64 last):=h.row.cell 7 (by simp [spL])
theorem Sp2.c8 (h:Sp2 B bt mn ma be mw w c last l la r):w.cell? ⟨bt,8,none⟩=some (.map (some mn)):=h.row.cell 8 (by simp [spL])
theorem Sp2.c9 (h:Sp2 B bt mn ma be mw w c last l la r):w.cell? ⟨bt,9,none⟩=some (.map (some ma)):=h.row.cell 9 (by simp [spL])
theorem Sp2.c10 (h:Sp2 B bt mn ma be mw w c last l la r):w.cell? ⟨bt,10,none⟩=some (.pointer (some ⟨be,0,none⟩)):=h.row.cell 10 (by simp [spL])
theorem Sp2.f7 (h:Sp2 B bt mn ma be mw w c last l la r):w.frozen? ⟨bt,7,none⟩=false:=h.row.frozen 7
theorem Sp2.lookN (h:Sp2 B bt mn ma be mw w c last l la r) {x:PbC} (hx:x ∈ l) (hs:x.p.tag.length≤281474976710656):(Instr.lookup 72 (.map (some mn)) (.string ⟨x.p.tag.toArray⟩) true).run Tryz.prog w=.ok (.tuple #[.int .i64 x.p.num,.bool true]) w∧(Instr.lookup 72 (.map (some mn)) (.string ⟨x.p.tag.toArray⟩) false).run Tryz.prog w=.ok (.int .i64 x.p.num) w:=by
 obtain ⟨D,h1,h2⟩:=h.num;have e1:Maps.has D (kBp x.p.tag)=true:=(h2.has _).2 ⟨x,hx,rfl⟩;have e2:D.atKey (kBp x.p.tag) (.lit (.int .i64 0))=.lit (.int .i64 x.p.num):=h2.at' x hx _
 constructor
 ·obtain ⟨v,ps,hr,hv⟩:=h1.look_ok keySp Tryz.underlying72 (zeroIp w) (zd:=.lit (.int .i64 0)) (zp:=[]) rfl (key_strp hs);rw [e2] at hv;obtain rfl:=numP_inv hv;rw [hr,e1]
 ·obtain ⟨v,ps,hr,hv⟩:=h1.lookup keySp Tryz.underlying72 (zeroIp w) (zd:=.lit (.int .i64 0)) (zp:=[]) rfl (key_strp hs);rw [e2] at hv;obtain rfl:=numP_inv hv;exact hr
theorem Sp2.lookN_no (h:Sp2 B bt mn ma be mw w c last l la r) {tag:List UInt8} (h1:tag.length≤281474976710656) (hno:∀ x ∈ l,x.p.tag ≠ tag) :
  (Instr.lookup 72 (.map (some mn)) (.string ⟨tag.toArray⟩) true).run Tryz.prog w=.ok (.tuple #[.int .i64 0,.bool false]) w∧(Instr.lookup 72 (.map (some mn)) (.string ⟨tag.toArray⟩) false).run Tryz.prog w=.ok (.int .i64 0) w:=by
 obtain ⟨D,g1,g2⟩:=h.num;have e1:Maps.has D (kBp tag)=false:=g2.hasNot fun x hx e=>hno x hx (by unfold kNp kBp at e; injection e)
 constructor
 ·obtain ⟨v,ps,hr,hv⟩:=g1.look_ok keySp Tryz.underlying72 (zeroIp w) (zd:=.lit (.int .i64 0)) (zp:=[]) rfl (key_strp h1);rw [Maps.atKey_of_not_has e1] at hv;obtain rfl:=numP_inv hv;rw [hr,e1]
 ·obtain ⟨v,ps,hr,hv⟩:=g1.lookup keySp Tryz.underlying72 (zeroIp w) (zd:=.lit (.int .i64 0)) (zp:=[]) rfl (key_strp h1);rw [Maps.atKey_of_not_has e1] at hv;obtain rfl:=numP_inv hv;exact hr
theorem Sp2.lookA (h:Sp2 B bt mn ma be mw w c last l la r) {x:PbC} (hx:x ∈ la) (hs:SmallPb x) :
  (Instr.lookup 73 (.map (some ma)) (.int .i64 x.p.num) true).run Tryz.prog w=.ok (.tuple #[pbV x,.bool true]) w∧(Instr.lookup 73 (.map (some ma)) (.int .i64 x.p.num) false).run Tryz.prog w=.ok (pbV x) w:=by
 obtain ⟨D,h1,h2⟩:=h.all;have e1:Maps.has D (idK x.p.num)=true:=(h2.has _).2 ⟨x,hx,rfl⟩;have e2:∀ z,D.atKey (idK x.p.num) z=pbD x:=fun z=>h2.at' x hx z
 constructor
 ·obtain ⟨v,ps,hr,hv⟩:=h1.look_ok keyI Tryz.underlying73 (zeroPb w) (pbE_mk zeroP_f) (key_int hs.num);rw [e2] at hv;obtain rfl:=pbE_inv hv hs.f;rw [hr,e1]
 ·obtain ⟨v,ps,hr,hv⟩:=h1.lookup keyI Tryz.underlying73 (zeroPb w) (pbE_mk zeroP_f) (key_int hs.num);rw [e2] at hv;obtain rfl:=pbE_inv hv hs.f;exact hr
theorem Sp2.lookA_no (h:Sp2 B bt mn ma be mw w c last l la r) {id:Int} (hwf:(Lit.int .i64 id).wf=true) (hno:∀ x ∈ la,x.p.num ≠ id) :
  (Instr.lookup 73 (.map (some ma)) (.int .i64 id) true).run Tryz.prog w=.ok (.tuple #[pbV zeroP,.bool false]) w:=by
 obtain ⟨D,h1,h2⟩:=h.all;have e1:Maps.has D (idK id)=false:=h2.hasNot fun x hx e=>hno x hx (by unfold kAp idK at e; injection e);obtain ⟨v,ps,hr,hv⟩:=h1.look_ok keyI Tryz.underlying73 (zeroPb w) (pbE_mk zeroP_f) (key_int hwf);rw [Maps.atKey_of_not_has e1] at hv;obtain rfl:=pbE_inv hv zeroP_f;rw [hr,e1]
theorem Sp2.len (h:Sp2 B bt mn ma be mw w c last l la r) (ty:TypeId):(Builtin.len_ #[73] ty #[.map (some ma)]).run Tryz.prog w=.ok (.int .i64 la.length) w:=by
 obtain ⟨D,h1,h2⟩:=h.all;rw [h1.len Tryz.underlying73,h2.size]
theorem grown_ownp {P:Program} {k:TypeId} {R:Value → Option (DataW Unit × List MemPlace)} {b m n:Nat} {D:DataW Unit} (h:w.ownsMap P k R b n D) (hg:w.grownBy w' (some m)) (hne:b ≠ m):w'.ownsMap P k R b n D:=h.kept hg (fun e=>hne (by injection e))
theorem grown_chgp {m:Nat} (hg:w.grownBy w' (some m)):Chg (fun k=>k=m) w w':=⟨hg.os,hg.tape,hg.output,hg.size,fun k hk hn=>hg.block k hk fun e=>hn (by injection e)⟩
theorem map_lt_nep {P:Program} {k:TypeId} {R:Value → Option (DataW Unit × List MemPlace)} {b n g:Nat} {D:DataW Unit} {e:TypeId} {us:List Value} (h:w.ownsMap P k R b n D) (hr:RowIs w g e us):g ≠ b:=fun e'=>by subst e'; exact map_no_row h _ _ _ hr
theorem WWm.turnp {bw m B b n:Nat} {k:TypeId} {P:Program} {R:Value → Option (DataW Unit × List MemPlace)} {D:DataW Unit} {r:List Tm} (h:WWm m B bw w r) (ho:w.ownsMap P k R b n D) (hg:w.grownBy w' (some b)) (hne:b ≠ m):WWm m B bw w' r :=
 h.chg (grown_chgp hg) fun k _ e=>by subst e; exact ⟨hne,fun cs e x hh=>absurd hh (map_no_row ho _ _ _)⟩
theorem Sp2.mapN (h:Sp2 B bt mn ma be mw w c last l la r) {l':List PbC} (hg:w.grownBy w' (some mn)) (hn:∃ D,w'.ownsMap Tryz.prog 9 numP mn l'.length D∧MpG kNp dNp l' D):Sp2 B bt mn ma be mw w' c last l' la r:=by
 obtain ⟨D,h1,h2⟩:=h.num;obtain ⟨E,k1,k2⟩:=h.all;exact ⟨h.row.gr hg (fun e=>map_lt_nep h1 h.row (by injection e with e; exact e.symm)),hn,⟨E,grown_ownp k1 hg (Ne.symm h.n1),k2⟩,h.wheel.turnp h1 hg h.n2,h.n1,h.n2,h.n3,h.lb,h.ln,h.lm⟩
theorem Sp2.mapA (h:Sp2 B bt mn ma be mw w c last l la r) {l':List PbC} (hg:w.grownBy w' (some ma)) (hn:∃ D,w'.ownsMap Tryz.prog 3 pbE ma l'.length D∧MpG kAp pbD l' D):Sp2 B bt mn ma be mw w' c last l l' r:=by
 obtain ⟨D,h1,h2⟩:=h.num;obtain ⟨E,k1,k2⟩:=h.all;exact ⟨h.row.gr hg (fun e=>map_lt_nep k1 h.row (by injection e with e; exact e.symm)),⟨D,grown_ownp h1 hg h.n1,h2⟩,hn,h.wheel.turnp k1 hg h.n3,h.n1,h.n2,h.n3,h.lb,h.ln,h.lm⟩
theorem MpG.perm {α:Type} {kn:α → Lit} {dn:α → DataW Unit} {l l':List α} {D:DataW Unit} (h:MpG kn dn l D) (hp:l'.Perm l):MpG kn dn l' D :=
 ⟨fun k=>by rw [h.has]; constructor <;> rintro ⟨x,hx,e⟩; exact ⟨x,hp.mem_iff.2 hx,e⟩; exact ⟨x,hp.mem_iff.1 hx,e⟩,fun c hc z=>h.at' c (hp.mem_iff.1 hc) z,by rw [h.size,hp.length_eq]⟩
theorem Sp2.permN {l':List PbC} (h:Sp2 B bt mn ma be mw w c last l la r) (hp:l'.Perm l):Sp2 B bt mn ma be mw w c last l' la r:=by
 obtain ⟨D,h1,h2⟩:=h.num;exact ⟨h.row,⟨D,by rw [hp.length_eq]; exact h1,h2.perm hp⟩,h.all,h.wheel,h.n1,h.n2,h.n3,h.lb,h.ln,h.lm⟩
theorem FrP.turn {b:Nat} {k:TypeId} {P:Program} {R:Value → Option (DataW Unit × List MemPlace)} {n:Nat} {D:DataW Unit} (ho:w.ownsMap P k R b n D) (hg:w.grownBy w' (some b)) (hB:B≤b):FrP B w w':=by
 have hlt:=ho.lt;refine ⟨(grown_chgp hg).below (by omega) (fun k e=>by omega),fun k cs e x hh _ _ _ _=>?_⟩
 rw [hg.block k (Array.getElem?_eq_some_iff.1 hh).1 (fun e'=>by injection e' with e'; subst e'; exact map_no_row ho _ _ _ hh)];exact hh
theorem Sp2.addN (h:Sp2 B bt mn ma be mw w c last l la r) {x:PbC} (hs:x.p.tag.length≤281474976710656) (hno:∀ y ∈ l,y.p.tag ≠ x.p.tag) (hn:l.length≤1000000) :
  ∃ w',(Instr.mapUpdate 72 (.map (some mn)) (.string ⟨x.p.tag.toArray⟩) (.int .i64 x.p.num)).run Tryz.prog w=.ok () w'∧Sp2 B bt mn ma be mw w' c last (l++[x]) la r∧FrP B w w':=by
 obtain ⟨D,h1,h2⟩:=h.num;obtain ⟨w',hrun,g1,g2⟩:=h1.update keySp Tryz.underlying72 (by unfold maxLen; omega) (key_strp hs) (show numP (.int .i64 x.p.num)=some (dNp x,[]) from rfl);refine ⟨w',hrun,?_,FrP.turn h1 g2 h.ln⟩
 have hM:MpG kNp dNp (l++[x]) (D.put (kBp x.p.tag) (dNp x)):=h2.add h1.isMap (h1.tidy keySp) (c:=x) (by unfold kNp kBp; trivial) (fun y hy e=>hno y hy (kNp_inj.1 e));have g1':=own_tight g1;rw [hM.size] at g1';exact h.mapN g2 ⟨_,g1',hM⟩
theorem Sp2.addA (h:Sp2 B bt mn ma be mw w c last l la r) {x:PbC} (hs:(Lit.int .i64 x.p.num).wf=true) (hf:SlF x.ts∧SlF x.ns) (hno:∀ y ∈ la,y.p.num ≠ x.p.num) (hn:la.length≤1000000) :
  ∃ w',(Instr.mapUpdate 73 (.map (some ma)) (.int .i64 x.p.num) (pbV x)).run Tryz.prog w=.ok () w'∧Sp2 B bt mn ma be mw w' c last l (la++[x]) r∧FrP B w w':=by
 obtain ⟨D,h1,h2⟩:=h.all;obtain ⟨w',hrun,g1,g2⟩:=h1.update keyI Tryz.underlying73 (by unfold maxLen; omega) (key_int hs) (pbE_mk hf);refine ⟨w',hrun,?_,FrP.turn h1 g2 h.lm⟩
 have hM:MpG kAp pbD (la++[x]) (D.put (idK x.p.num) (pbD x)):=h2.add h1.isMap (h1.tidy keyI) (c:=x) (by unfold kAp; trivial) (fun y hy e=>hno y hy (kAp_inj.1 e));have g1':=own_tight g1;rw [hM.size] at g1';exact h.mapA g2 ⟨_,g1',hM⟩
theorem Sp2.putA (h:Sp2 B bt mn ma be mw w c last l la r) {k:Nat} (hk:k < la.length) {x:PbC} (hs:(Lit.int .i64 x.p.num).wf=true) (hf:SlF x.ts∧SlF x.ns) (he:x.p.num=la[k].p.num) (hr:la.Pairwise fun a b=>a.p.num < b.p.num) (hn:la.length≤1000000) :
  ∃ w',(Instr.mapUpdate 73 (.map (some ma)) (.int .i64 x.p.num) (pbV x)).run Tryz.prog w=.ok () w'∧Sp2 B bt mn ma be mw w' c last l (la.set k x) r∧FrP B w w':=by
 obtain ⟨D,h1,h2⟩:=h.all;obtain ⟨w',hrun,g1,g2⟩:=h1.update keyI Tryz.underlying73 (by unfold maxLen; omega) (key_int hs) (pbE_mk hf);refine ⟨w',hrun,?_,FrP.turn h1 g2 h.lm⟩
 have hM:MpG kAp pbD (la.set k x) (D.put (idK x.p.num) (pbD x)):=h2.set h1.isMap (h1.tidy keyI) hk (c:=x) (by unfold kAp; trivial) (kAp_inj.2 he) (fun j hj hne e=>by
  have hP:=List.pairwise_iff_getElem.1 hr;have e:=kAp_inj.1 e
  rcases Nat.lt_or_gt_of_ne hne with y | y
  ·have:=hP j k hj hk y; omega
  ·have:=hP k j hk hj y; omega)
 have g1':=own_tight g1;rw [hM.size] at g1';exact h.mapA g2 ⟨_,g1',hM⟩
theorem notN_at {l:List PbC} (hr:l.Pairwise fun a b=>a.p.num < b.p.num) {k:Nat} (hk:k < l.length) (j:Nat) (hj:j < l.length):notN l[k].p.num l[j]=true ↔ j ≠ k:=by
 have hP:=List.pairwise_iff_getElem.1 hr;unfold notN;simp only [Bool.not_eq_true',beq_eq_false_iff_ne,ne_eq]
 constructor
 ·rintro h rfl; exact h rfl
 ·intro hne e
  rcases Nat.lt_or_gt_of_ne hne with y | y
  ·have:=hP j k hj hk y; omega
  ·have:=hP k j hk hj y; omega
theorem withoutP {l:List PbC} (hr:l.Pairwise fun a b=>a.p.num < b.p.num) {k:Nat} (hk:k < l.length):(l.filter (notN l[k].p.num)).length+1=l.length∧l.filter (notN l[k].p.num)=l.take k++l.drop (k+1):=filter_oneG hk (notN_at hr hk)
theorem Sp2.dropN (h:Sp2 B bt mn ma be mw w c last l la r) (hr:l.Pairwise fun a b=>a.p.num < b.p.num) (hkey:l.Pairwise fun a b=>a.p.tag ≠ b.p.tag) {k:Nat} (hk:k < l.length) (hs:l[k].p.tag.length≤281474976710656) (ty:TypeId) :
  ∃ w',(Builtin.delete_ #[72,9] ty #[.map (some mn),.string ⟨l[k].p.tag.toArray⟩]).run Tryz.prog w=.ok (.tuple #[]) w'∧Sp2 B bt mn ma be mw w' c last (l.filter (notN l[k].p.num)) la r∧FrP B w w':=by
 obtain ⟨D,h1,h2⟩:=h.num;obtain ⟨w',hrun,g1,g2⟩:=h1.drop keySp Tryz.underlying72 (key_strp hs) ty;refine ⟨w',hrun,?_,FrP.turn h1 g2.grown h.ln⟩
 have hM:MpG kNp dNp (l.filter (notN l[k].p.num)) (D.del (kBp l[k].p.tag)):=h2.del (h1.tidy keySp) (List.getElem_mem hk) (fun x hx=>by
  obtain ⟨j,hj,rfl⟩:=List.mem_iff_getElem.1 hx;rw [notN_at hr hk j hj,ne_eq,ne_eq,kNp_inj];have hP:=List.pairwise_iff_getElem.1 hkey
  constructor
  ·intro hne e
   rcases Nat.lt_or_gt_of_ne hne with x | x
   ·exact hP j k hj hk x e
   ·exact hP k j hk hj x e.symm
  ·rintro e rfl; exact e rfl) (withoutP hr hk).1
 have g1':=own_tight g1;rw [hM.size] at g1';exact h.mapN g2.grown ⟨_,g1',hM⟩
theorem Sp2.dropA (h:Sp2 B bt mn ma be mw w c last l la r) (hr:la.Pairwise fun a b=>a.p.num < b.p.num) {k:Nat} (hk:k < la.length) (hs:(Lit.int .i64 la[k].p.num).wf=true) (ty:TypeId) :
  ∃ w',(Builtin.delete_ #[73,3] ty #[.map (some ma),.int .i64 la[k].p.num]).run Tryz.prog w=.ok (.tuple #[]) w'∧Sp2 B bt mn ma be mw w' c last l (la.filter (notN la[k].p.num)) r∧FrP B w w':=by
 obtain ⟨D,h1,h2⟩:=h.all;obtain ⟨w',hrun,g1,g2⟩:=h1.drop keyI Tryz.underlying73 (key_int hs) ty;refine ⟨w',hrun,?_,FrP.turn h1 g2.grown h.lm⟩
 have hM:MpG kAp pbD (la.filter (notN la[k].p.num)) (D.del (idK la[k].p.num)):=h2.del (h1.tidy keyI) (List.getElem_mem hk) (fun x hx=>by
  rw [ne_eq,kAp_inj]
  simp [notN]) (withoutP hr hk).1
 have g1':=own_tight g1;rw [hM.size] at g1';exact h.mapA g2.grown ⟨_,g1',hM⟩
theorem Sp2.turnW (h:Sp2 B bt mn ma be mw w c last l la r) {r':List Tm} (hw:WWm mw B be w' r') (hf:FrM mw B w w'):Sp2 B bt mn ma be mw w' c last l la r':=by
 obtain ⟨D,h1,h2⟩:=h.num;obtain ⟨E,k1,k2⟩:=h.all;exact ⟨hf.fr.row h.row (by decide) (by decide) (by decide),⟨D,hf.own h1 h.n2,h2⟩,⟨E,hf.own k1 h.n3,k2⟩,hw,h.n1,h.n2,h.n3,h.lb,h.ln,h.lm⟩
theorem FrP.put {b j:Nat} {us:List Value} (hr:RowIs w b 76 us) (hB:B≤b) (v:Value):FrP B w (w.setCell ⟨b,j,none⟩ v):=by
 have hc:Chg (fun k=>k=b) w (w.setCell ⟨b,j,none⟩ v):=(Chg.refl (fun k=>k=b) w).setCell (p:=⟨b,j,none⟩) (fun _=>rfl) v;refine ⟨(Below.refl B w).setCell hB v,fun k cs e x hh _ _ _ n4=>?_⟩
 rw [hc.block k (Array.getElem?_eq_some_iff.1 hh).1]
 ·exact hh
 ·intro e';subst e';unfold RowIs at hr;rw [hr] at hh
  simp at hh
  exact n4 hh.2.1.symm
theorem Sp2.count (h:Sp2 B bt mn ma be mw w c last l la r) (n:Int):Sp2 B bt mn ma be mw (w.setCell ⟨bt,7,none⟩ (.int .i64 n)) c n l la r∧FrP B w (w.setCell ⟨bt,7,none⟩ (.int .i64 n)):=by
 have hc:Chg (fun k=>k=bt) w (w.setCell ⟨bt,7,none⟩ (.int .i64 n)):=(Chg.refl (fun k=>k=bt) w).setCell (p:=⟨bt,7,none⟩) (fun _=>rfl) _;obtain ⟨D,h1,h2⟩:=h.num;obtain ⟨E,k1,k2⟩:=h.all;refine ⟨⟨?_,⟨D,own_chg h1 hc (Ne.symm (map_lt_nep h1 h.row)),h2⟩,⟨E,own_chg k1 hc (Ne.symm (map_lt_nep k1 h.row)),k2⟩,?_,h.n1,h.n2,h.n3,h.lb,h.ln,h.lm⟩,FrP.put h.row h.lb _⟩
 ·have:=h.row.set 7 (.int .i64 n)
  simpa [spL] using this
 ·refine h.wheel.chg hc fun k _ e=>?_
  subst e;refine ⟨fun e=>?_,fun cs e x hh=>?_⟩
  ·subst e;obtain ⟨v,f,n,D,hW,_⟩:=h.wheel;exact map_lt_nep hW.mp h.row rfl
  ·have:=h.row
   unfold RowIs at this;rw [this] at hh
   simp at hh
   rw [← hh.2.1];exact ⟨by decide,by decide,by decide⟩
theorem wmstop_any (h:WWm mw B be w r) {id:Int} (hwf:(Lit.int .i64 id).wf=true) :
  Calls Tryz.prog 50 #[.pointer (some ⟨be,0,none⟩),.int .i64 id] w fun e w'=>e=.returned (.bool (whenT r id).isSome)∧WWm mw B be w' (stopT r id)∧FrM mw B w w':=by
 obtain ⟨v,f,n,D,h,hn⟩:=h;refine (stop_any h hwf (by omega)).mono ?_
 rintro e w' ⟨rfl,v',f',n',D',h',hn',hc⟩;exact ⟨rfl,⟨v',f',n',D',h',by omega⟩,h.frm (hc.mono fun k _ x=>h.ss x)⟩
end
end Go.Proofs.YteicmbhilambpaaGreatDoor
namespace Go.Proofs.YteicmbhilambpaaGreatDoor
open Go.RowKit Sc
theorem infoStrU:(Tryz.prog.info? 9).map (fun i=>(i.zero,i.size,i.bytes))=some (some (.string .empty),1,16):=by kernel_rfl
def askV (a:Pa) (ts ns:Value):Value:=.agg #[.string ⟨a.who.toArray⟩,.string ⟨a.mt.toArray⟩,.int .i64 a.exp,.bool a.has,.string ⟨a.doc.entity.toArray⟩,ts,ns,.string ⟨a.tag.toArray⟩]
theorem RowIs.blk {w w':World} {b:Nat} {e:TypeId} {us:List Value} (h:RowIs w b e us) (he:w'.heap[b]? = w.heap[b]?):RowIs w' b e us:=by
 unfold RowIs at *; rw [he]; exact h
theorem own_set4 {w:World} {B e s n b:Nat} {v:Value} {xs:List Value} (h:w.ownsRow B e s v n xs) (hb:b < B) (v0 v1 v2 v3:Value):((((w.setCell ⟨b,0,none⟩ v0).setCell ⟨b,1,none⟩ v1).setCell ⟨b,2,none⟩ v2).setCell ⟨b,3,none⟩ v3).ownsRow B e s v n xs :=
 ownsRow_setCell_below (ownsRow_setCell_below (ownsRow_setCell_below (ownsRow_setCell_below h hb _) hb _) hb _) hb _
def tdV (t:Td):Value:=.agg #[.int .i64 t.status,.int .i64 t.expires,.string ⟨t.tag.toArray⟩,.bool t.changed]
structure KD where
 S:Sto
 sv:Value
 A:Pa
 ts:Value
 ns:Value
 L0:List PbC
 R0:List PbC
 v13:Value
 T:Td
 b3:Nat
 b5:Nat
 b6:Nat
 b7:Nat
 B:Nat
 W0:World
end Go.Proofs.YteicmbhilambpaaGreatDoor
