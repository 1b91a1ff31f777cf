/-
  OpenPb, CpA, CpB, MpG, CpE, CpD, CpF, InvAny, OpKit, RegCall, RegMem.
-/
import Derived.Test.YtldkidljjbkmbaaGreatDoorPX15
import Derived.DeepKeys4
import Derived.Orders
import Derived.OwnWalk
set_option linter.unusedVariables false
set_option linter.unusedSimpArgs false
set_option maxRecDepth 20000
namespace Go.Proofs.YtldkidljjbkmbaaGreatDoor
open Go.RowKit Go.ChangeShapes Go.WideShapes Go.Deep
theorem SmallT.up {B C:Nat} {t:Tu} (h:SmallT B t) (hBC:B≤C):SmallT C t:=⟨by have:=h.1; omega,by have:=h.2.1; omega,by have:=h.2.2.1; omega,h.2.2.2⟩
theorem SmallD.upB {B C:Nat} {d:Dc} (h:SmallD B d) (hBC:B≤C):SmallD C d:=⟨by have:=h.ent; omega,by have:=h.tl; omega,by have:=h.nl; omega,fun t ht=>(h.ts t ht).up hBC,fun s hs=>by have:=h.ns s hs; omega⟩
theorem pbs_ok {W:World} {cs:List PbC} (h:∀ c ∈ cs,PbGot W c∧SmallD 1048576 c.p.doc):PbsOk W cs :=
 ⟨fun c hc=>⟨(h c hc).1.tus,(h c hc).1.strs⟩,fun c hc=>(h c hc).1.cap,fun c hc=>⟨(h c hc).2.upB (by omega),by have:=(h c hc).2.ent; omega⟩⟩
theorem PbGot.le {W:World} {c:PbC} (h:PbGot W c):c.p.num≤9223372036854775807:=by
 have:=i64_of h.num
 omega
end Go.Proofs.YtldkidljjbkmbaaGreatDoor
namespace Go.Proofs.YtldkidljjbkmbaaGreatDoor
open Go.RowKit Sc
theorem named_take {ts:List Tu} {id:List UInt8} {j:Nat} (hj:j < ts.length) (h1:namedC (ts.take j) id=false) (h2:(ts[j].id==id)=false):namedC (ts.take (j+1)) id=false:=by
 unfold namedC at *;rw [List.take_succ_eq_append_getElem hj,List.any_append,h1]
 simp [h2]
theorem named_yes {ts:List Tu} {id:List UInt8} {j:Nat} (hj:j < ts.length) (h:(ts[j].id==id)=true):namedC ts id=true:=by
 unfold namedC;exact List.any_eq_true.2 ⟨_,List.getElem_mem hj,h⟩
set_option maxHeartbeats 1000000 in
set_option maxRecDepth 100000 in
theorem hasid1_any (t:Tu) (id:List UInt8) (b:Nat) (w:World) (hc:w.cell? ⟨b,0,none⟩=some (.string ⟨id.toArray⟩)) (hb:b < w.heap.size) :
  Calls Tryz.prog 84 #[tuV t,.pointer (some ⟨b,0,none⟩)] w fun e w'=>e=.returned (.bool (t.id==id))∧Below w.heap.size w w':=by
 have b1:Below w.heap.size w (w.alloc (.cells #[.string ⟨t.id.toArray⟩,.bool t.opn,.string ⟨t.contact.toArray⟩,.int .i64 t.prio,.string ⟨t.note.toArray⟩] 48)):=(Below.refl _ w).alloc (Nat.le_refl _) _;have r1:=rc_row5 w (.string ⟨t.id.toArray⟩) (.bool t.opn) (.string ⟨t.contact.toArray⟩) (.int .i64 t.prio) (.string ⟨t.note.toArray⟩) 48;have hc2:=cell_below b1 (show (⟨b,0,none⟩:Addr).block < w.heap.size from hb) hc;have HB:=hid b1;unfold tuV;clear hc b1
 go_enter Tryz.func84,Tryz.ntmps84
 go_upto_region 1 with fail
 generalize World.alloc _ _=w1 at r1 hc2 HB ⊢;obtain ⟨x0,x1,x2,x3,x4,_⟩:=r1.rc5
 cases he:t.id==id
 ·go_wp2;go_ret;exact ⟨by rw [he]; rfl,HB.out⟩
 ·go_wp2;go_ret;exact ⟨by rw [he]; rfl,HB.out⟩
set_option maxHeartbeats 2000000 in
set_option maxRecDepth 100000 in
theorem idxid_any (v:Value) (ts:List Tu) (id:List UInt8) (b:Nat) (w:World) (hz:ts.length≤1000000) (hv:TusAt w v ts) (hc:w.cell? ⟨b,0,none⟩=some (.string ⟨id.toArray⟩)) (hb:b < w.heap.size) :
  Calls Tryz.prog 118 #[v,.func (.func 84) #[] #[.pointer (some ⟨b,0,none⟩)]] w fun e w'=>(∃ i:Int,e=.returned (.int .i64 i)∧decide (0≤i)=namedC ts id)∧Below w.heap.size w w':=by
 obtain ⟨ao,cap,rfl,hat⟩:=hv;have HC:=hid hat;have KH:=hid (fun (u:World) (t:Tu) (hu:Below w.heap.size w u)=>hasid1_any t id b u (cell_below hu (show (⟨b,0,none⟩:Addr).block < w.heap.size from hb) hc) (Nat.lt_of_lt_of_le hb hu.size));obtain ⟨n,hnn⟩:∃ n,n=ts.length:=⟨_,rfl⟩
 rw [← hnn] at hz ⊢;have HN:=hid hnn;unfold tuV at KH;clear hat hnn hc hb
 go_enter Tryz.func118,Tryz.ntmps118
 go_wp2
 go_loopw [8] (fun i wr=>∃ j:Nat,j≤n∧i=.int .i64 j∧Hid (namedC (ts.take j) id=false)∧Hid (Below w.heap.size w wr)) (fun i _=>n - (intOf i).toNat)
 case atStart=>exact ⟨0,Nat.zero_le _,rfl,show _=_ from rfl,Below.refl _ _⟩
 case round =>
  obtain ⟨j,hj,rfl,ha,hb⟩:=hrel;by_cases hlt:j < n
  ·have hlt':(j:Int) < (n:Int):=by omega
   have hjl:j < ts.length:=by rw [← HN.out]; exact hlt
   obtain ⟨ad,hao,hab,c⟩:=HC.out j hjl;subst hao;obtain ⟨c0,c1,c2,c3,c4⟩:=c.below hb.out hab;have h1:=hid (fun h=>named_take (id:=id) hjl ha.out h);have h2:=hid (fun h=>named_yes (id:=id) hjl h);have KHj:=hid (KH.out wr ts[j] hb.out);generalize ts[j]=t at c0 c1 c2 c3 c4 h1 h2 KHj
   cases he:t.id==id
   ·rw [he] at KHj;have h3:=hid (h1.out he);clear h1 h2;go_wp2_with fail
    refine KHj.out.mono ?_
    rintro e w2 ⟨rfl,hb2⟩;have hb3:=hid (hb.out.trans (hb2.mono hb.out.size));clear hb2 c0 c1 c2 c3 c4 KHj;go_wp2;go_roundw
    case rel=>exact ⟨j+1,by omega,by go_num,h3,hb3⟩
    case measure=>simp [intOf]; omega
   ·rw [he] at KHj;have h3:=hid (h2.out he);clear h1 h2;go_wp2_with fail
    refine KHj.out.mono ?_
    rintro e w2 ⟨rfl,hb2⟩;have hb3:=hid (hb.out.trans (hb2.mono hb.out.size));clear hb2 c0 c1 c2 c3 c4 KHj;go_wp2;go_ret;exact ⟨⟨j,rfl,by rw [h3.out]; simp⟩,hb3.out⟩
  ·have hlt':¬ (j:Int) < (n:Int):=by omega
   have h3:=hid (show namedC ts id=false by
    have:=ha.out
    rwa [List.take_of_length_le (by have:=HN.out; omega)] at this)
   go_wp2;go_ret;exact ⟨⟨-1,rfl,by rw [h3.out]; rfl⟩,hb.out⟩
set_option maxHeartbeats 1000000 in
set_option maxRecDepth 100000 in
theorem conid_any (v:Value) (ts:List Tu) (id:List UInt8) (b:Nat) (w:World) (hz:ts.length≤1000000) (hv:TusAt w v ts) (hc:w.cell? ⟨b,0,none⟩=some (.string ⟨id.toArray⟩)) (hb:b < w.heap.size) :
  Calls Tryz.prog 83 #[v,.func (.func 84) #[] #[.pointer (some ⟨b,0,none⟩)]] w fun e w'=>e=.returned (.bool (namedC ts id))∧Below w.heap.size w w':=by
 have K:=hid (idxid_any v ts id b w hz hv hc hb);obtain ⟨ao,cap,rfl,_⟩:=hv;generalize namedC ts id=R at K ⊢;clear hc
 go_enter Tryz.func83,Tryz.ntmps83
 go_wp2_with fail
 refine K.out.mono ?_
 rintro e w2 ⟨⟨i,rfl,hi⟩,hb2⟩;go_wp2;go_ret;exact ⟨rfl,hb2⟩
def whL (ent:List UInt8) (vt vn:Value) (m:Nat):List Value:=[.string ⟨ent.toArray⟩,vt,vn,.map (some m)]
set_option maxHeartbeats 1000000 in
set_option maxRecDepth 100000 in
theorem chasid_any {ent:List UInt8} {vt vn:Value} {m b:Nat} {ts:List Tu} {w:World} (hr:RowIs w b 54 (whL ent vt vn m)) (hz:ts.length≤1000000) (hv:TusAt w vt ts) (id:List UInt8) :
  Calls Tryz.prog 56 #[.pointer (some ⟨b,0,none⟩),.string ⟨id.toArray⟩] w fun e w'=>e=.returned (.bool (namedC ts id))∧Below w.heap.size w w':=by
 have b1:Below w.heap.size w (w.alloc (.cells #[.string ⟨id.toArray⟩] 9)):=(Below.refl _ w).alloc (Nat.le_refl _) _;have r1:RowIs (w.alloc (.cells #[.string ⟨id.toArray⟩] 9)) w.heap.size 9 [.string ⟨id.toArray⟩]:=by unfold RowIs; rw [heap_alloc_new]
 have q1:=hr.below b1 hr.bl;have hv1:=hv.below b1;have HB:=hid b1;obtain ⟨ao,cap,rfl,_⟩:=hv;clear b1 hr;have x1:World.cell? _ ⟨b,1,none⟩=some (.slice ao ts.length cap):=q1.cell 1 (by simp [whL])
 go_enter Tryz.func56,Tryz.ntmps56
 go_upto_region 1 with fail
 have K:=hid (conid_any _ ts id w.heap.size _ hz hv1 (r1.cell 0 (by simp)) r1.bl);generalize World.alloc _ _=w1 at K x1 HB ⊢;clear r1 q1 hv1;go_wp2_with fail
 refine K.out.mono ?_
 rintro e w2 ⟨rfl,hb2⟩;go_wp2;go_ret;exact ⟨rfl,HB.out.trans (hb2.mono HB.out.size)⟩
theorem giveglue (N k:Nat):∃ P1 P2:List UInt8,((⟨#[112]⟩:ByteArray)++(⟨(digL N).toArray⟩:ByteArray)=⟨P1.toArray⟩)∧((⟨P1.toArray⟩:ByteArray)++(⟨#[45]⟩:ByteArray)=⟨P2.toArray⟩)∧((⟨P2.toArray⟩:ByteArray)++(⟨(digL k).toArray⟩:ByteArray)=⟨(candC N k).toArray⟩)∧P1.length=1+(digL N).length∧P2.length=2+(digL N).length:=by
 refine ⟨[112]++digL N,[112]++digL N++[45],?_,?_,?_,by simp; omega,by simp; omega⟩ <;> (apply ByteArray.ext; simp [candC])
theorem clone_listC (l:List UInt8) (w:World) (h:l.length≤281474976710656) :
  Calls Tryz.prog 20 #[.string ⟨l.toArray⟩] w fun e w'=>e=.returned (.string ⟨l.toArray⟩)∧Below w.heap.size w w':=sclone_any ⟨l.toArray⟩ w (by rw [size_list]; omega)
set_option maxHeartbeats 4000000 in
set_option maxRecDepth 100000 in
theorem cfreeid_any {ent:List UInt8} {vt vn:Value} {m b:Nat} {ts:List Tu} {w:World} (hr:RowIs w b 54 (whL ent vt vn m)) (hz:ts.length < 16) (hv:TusAt w vt ts) (num:Int) (h0:0≤num) (h9:num≤9223372036854775807) (own:List UInt8) (ho:own.length≤281474976710656) :
  Calls Tryz.prog 35 #[.pointer (some ⟨b,0,none⟩),.int .i64 num,.string ⟨own.toArray⟩] w fun e w'=>e=.returned (.string ⟨(giveC ts num.toNat 17 1 own).toArray⟩)∧Below w.heap.size w w':=by
 have KH:=hid (fun (u:World) (id:List UInt8) (hu:Below w.heap.size w u)=>chasid_any (hr.below hu hr.bl) (by omega) (hv.below hu) id);have KC:=hid (fun (u:World)=>clone_listC own u ho);have KD:=hid (fun (u:World)=>digits_any num.toNat u (by omega));have KK:=hid (fun (u:World) (k:Nat) (hk:k≤100)=>digits_any k u (by omega));have hN:((num.toNat:Nat):Int)=num:=by omega
 rw [hN] at KD;have HF:=hid (given_free hz num.toNat own);have HL:=hid (show (digL num.toNat).length≤19 from digL_len19 (by omega));generalize num.toNat=N at KD HF HL ⊢;obtain ⟨R,hR⟩:∃ R,R=giveC ts N 17 1 own:=⟨_,rfl⟩
 rw [← hR] at HF ⊢;have HR:=hid hR.symm;clear hr hv hz ho h0 h9 hN hR
 go_enter Tryz.func35,Tryz.ntmps35
 go_wp2_with fail
 refine (KC.out _).mono ?_
 rintro e w1 ⟨rfl,hb1⟩;have HB:=hid hb1;clear hb1 KC;go_wp2
 go_loopw [7,8] (fun i n wr=>∃ (f k:Nat) (id:List UInt8),k+f=18∧1≤k∧i=.string ⟨id.toArray⟩∧n=.int .i64 k∧Hid (giveC ts N f k id=R)∧Hid (Below w.heap.size w wr)) (fun _ n _=>18 - (intOf n).toNat)
 case atStart=>exact ⟨17,1,own,rfl,by omega,rfl,rfl,HR,HB⟩
 case round =>
  clear HB HR;obtain ⟨f,k,id,hkf,hk1,rfl,rfl,HG,HB⟩:=hrel;have KHk:=hid (KH.out wr id HB.out)
  cases hn:namedC ts id
  ·rw [hn] at KHk
   have HE:=hid (show id=R by
    have:=HG.out
    cases f with
    | zero=>exact this
    | succ f=>unfold giveC at this; rw [if_neg (by rw [hn]; simp)] at this; exact this)
   clear HG;go_wp2_with fail
   refine KHk.out.mono ?_
   rintro e w2 ⟨rfl,hb2⟩;go_wp2;go_ret;exact ⟨by rw [HE.out]; rfl,HB.out.trans (hb2.mono HB.out.size)⟩
  ·rw [hn] at KHk
   cases f with
   | zero =>
    exfalso
    have h1:id=R:=HG.out;have h2:=HF.out;rw [← h1,hn] at h2
    cases h2
   | succ f =>
    have HG2:=hid (show giveC ts N f (k+1) (candC N k)=R by
     have:=HG.out
     unfold giveC at this;rw [if_pos hn] at this;exact this)
    obtain ⟨P1,P2,g1,g2,g3,l1,l2⟩:=giveglue N k;have KKk:=hid (fun (u:World)=>KK.out u k (by omega));have l0:=HL.out;have l4:(digL k).length≤19:=digL_len19 (by omega);have t1:=size_list (digL N);have t2:=size_list P1;have t3:=size_list P2;have t4:=size_list (digL k);clear HG;go_wp2_with fail
    refine KHk.out.mono ?_
    rintro e w2 ⟨rfl,hb2⟩;have HB2:=hid (HB.out.trans (hb2.mono HB.out.size));clear hb2 KHk HB;go_wp2_with fail
    refine (KD.out _).mono ?_
    rintro e w3 ⟨rfl,hb3⟩;have HB3:=hid (HB2.out.trans (hb3.mono HB2.out.size));clear hb3 HB2;go_wp2_with fail
    refine (KKk.out _).mono ?_
    rintro e w4 ⟨rfl,hb4⟩;have HB4:=hid (HB3.out.trans (hb4.mono HB3.out.size));clear hb4 HB3;go_wp2;go_roundw
    case rel=>exact ⟨f,k+1,candC N k,by omega,by omega,rfl,by go_num,HG2,HB4⟩
    case measure=>simp [intOf]; omega
end Go.Proofs.YtldkidljjbkmbaaGreatDoor
namespace Go.Proofs.YtldkidljjbkmbaaGreatDoor
open Go.RowKit Go.Maps Go.WideMaps
structure MpG {α:Type} (kn:α → Lit) (dn:α → DataW Unit) (l:List α) (D:DataW Unit):Prop where
 has:∀ k,Maps.has D k=true ↔ ∃ x ∈ l,kn x=k
 at':∀ c ∈ l,∀ z,D.atKey (kn c) z=dn c
 size:Maps.size D=l.length
section
variable {α : Type} {kn : α → Lit} {dn : α → DataW Unit} {l : List α} {D : DataW Unit}
theorem MpG.nil (kn:α → Lit) (dn:α → DataW Unit):MpG kn dn [] (.map []):=⟨fun c=>by simp [Maps.has],fun c hc=>by simp at hc,rfl⟩
theorem MpG.hasNot (h:MpG kn dn l D) {k:Lit} (hno:∀ x ∈ l,kn x ≠ k):Maps.has D k=false:=by
 cases e:Maps.has D k
 ·rfl
 ·obtain ⟨x,hx,ex⟩:=(h.has k).1 e;exact absurd ex (hno x hx)
theorem MpG.add (h:MpG kn dn l D) (hM:IsMap D) (hT:Tidy D) {c:α} (hk:WideAt.IsKeyLit (kn c)) (hno:∀ x ∈ l,kn x ≠ kn c):MpG kn dn (l++[c]) (D.put (kn c) (dn c)):=by
 have hh:=h.hasNot hno;refine ⟨fun y=>?_,fun y hy z=>?_,?_⟩
 ·by_cases e:y=kn c
  ·rw [e,Maps.has_put_same hM hk];simp only [true_iff];exact ⟨c,by simp,rfl⟩
  ·rw [Maps.has_put_other e,h.has]
   constructor
   ·rintro ⟨x,hx,ex⟩; exact ⟨x,by simp [hx],ex⟩
   ·rintro ⟨x,hx,ex⟩
    rcases List.mem_append.1 hx with hx | hx
    ·exact ⟨x,hx,ex⟩
    ·simp at hx; subst hx; exact absurd ex.symm e
 ·rcases List.mem_append.1 hy with hy | hy
  ·rw [Maps.atKey_put_other (hno y hy)]; exact h.at' y hy z
  ·simp at hy; subst hy; exact Maps.atKey_put_same hM hk _ _
 ·rw [Maps.size_put hT,hh,h.size]; simp
end
theorem laidT:laidOutB Tryz.prog=true:=by kernel_rfl
theorem rowTu:(48:TypeId) < Tryz.prog.types.size:=of_decide_eq_true (by kernel_rfl)
theorem wideTu:(match Tryz.prog.underlying 48 with | some (.array _ _) | some (.struct _)=>true | _=>false)=true:=by kernel_rfl
theorem keyTu:Keyed Tryz.prog 48:=Keyed.of_law (deep_law_laid laidT (m:=2) (by omega) rowTu (by kernel_rfl) wideTu)
theorem tu_size (l:List UInt8):(⟨l.toArray⟩:ByteArray).size=l.length:=by simp [ByteArray.size]
def kTu (t:Tu):Lit:=.string (keyBytes [.string t.id,.bool t.opn,.string t.contact,.int .i64 t.prio,.string t.note])
def emE:Value → Option (DataW Unit × List MemPlace)
 | .agg cs=>match cs.toList with
  | []=>some (.agg [],[])
  | _=>none
 | _=>none
def emD (_:Tu):DataW Unit:=.agg []
theorem emE_mk:emE (.agg #[])=some (.agg [],[]):=rfl
structure SmallTu (t:Tu):Prop where
 id:t.id.length≤281474976710656
 contact:t.contact.length≤281474976710656
 note:t.note.length≤281474976710656
 prio:(Lit.int .i64 t.prio).wf=true
theorem key5 {t:Tu} (h:SmallTu t):keyOf Tryz.prog 48 (tuV t)=some (kTu t):=by
 have hk:Tryz.prog.keyType 48=true:=by kernel_rfl
 have hc:Tryz.prog.cellsOf 48=5:=by kernel_rfl
 have hs:Tryz.prog.cellsOf 9=1:=by kernel_rfl
 have hb:Tryz.prog.cellsOf 4=1:=by kernel_rfl
 have hi:Tryz.prog.cellsOf 3=1:=by kernel_rfl
 have ht:∃ n,Tryz.prog.types.size=n+1:=⟨_,rfl⟩
 obtain ⟨n,hn⟩:=ht;have q:∀ (l:List UInt8),l.length≤281474976710656 → (⟨l.toArray⟩:ByteArray).size≤maxLen:=fun l hl=>by rw [tu_size]; unfold maxLen; omega
 have hw:=h.prio;unfold keyOf;rw [Tryz.underlying48,hn]
 simp [hk,Value.formed,Tryz.underlying48,hc,tuV,Program.keyLits,Value.cells,hs,hb,hi,Tryz.underlying9,Tryz.underlying4,Tryz.underlying3,q _ h.id,q _ h.contact,q _ h.note,hw,kTu]
theorem kTu_inj {a b:Tu} (ha:SmallTu a) (hb:SmallTu b):kTu a=kTu b ↔ a=b:=by
 constructor
 ·intro e;have h1:=key5 ha;have h2:=key5 hb;rw [e] at h1
  have:=keyTu.inj h1 h2
  obtain ⟨i,o,c,p,n⟩:=a;obtain ⟨i',o',c',p',n'⟩:=b
  simpa [tuV] using this
 ·intro e; rw [e]
theorem zeroEm (w:World):(zeroValue 70).run Tryz.prog w=.ok (.agg #[]) w:=by kernel_rfl
def TuMap (w:World) (m:Nat) (l:List Tu):Prop:=∃ D,w.ownsMap Tryz.prog 48 emE m l.length D∧MpG kTu emD l D
section
variable {w w' : World} {m : Nat} {l : List Tu} {t : Tu}
theorem emE_any {v:Value} {y:DataW Unit × List MemPlace} (h:emE v=some y):v=.agg #[]:=by
 unfold emE at h
 split at h
 ·rename_i cs
  split at h
  ·rename_i hcs
   have:cs=#[]:=by rw [← Array.toList_inj,hcs]
   rw [this]
  ·cases h
 ·cases h
theorem TuMap.look (h:TuMap w m l) (hl:∀ x ∈ l,SmallTu x) (ht:SmallTu t):(Instr.lookup 52 (.map (some m)) (tuV t) true).run Tryz.prog w=.ok (.tuple #[.agg #[],.bool (decide (t ∈ l))]) w:=by
 obtain ⟨D,h1,h2⟩:=h;obtain ⟨v,ps,hr,hv⟩:=h1.look_ok keyTu Tryz.underlying52 (zeroEm w) (zd:=.agg []) (zp:=[]) rfl (key5 ht);obtain rfl:=emE_any hv;rw [hr]
 have e:Maps.has D (kTu t)=decide (t ∈ l):=by
  by_cases hm:t ∈ l
  ·rw [decide_eq_true hm];exact (h2.has _).2 ⟨t,hm,rfl⟩
  ·rw [decide_eq_false hm];exact h2.hasNot fun x hx ex=>hm (by rw [← (kTu_inj (hl x hx) ht).1 ex]; exact hx)
 rw [e]
theorem TuMap.add (h:TuMap w m l) (hl:∀ x ∈ l,SmallTu x) (ht:SmallTu t) (hno:¬ t ∈ l) (hn:l.length≤1000000) :
  ∃ w',(Instr.mapUpdate 52 (.map (some m)) (tuV t) (.agg #[])).run Tryz.prog w=.ok () w'∧TuMap w' m (l++[t])∧w.grownBy w' (some m):=by
 obtain ⟨D,h1,h2⟩:=h;obtain ⟨w',hrun,g1,g2⟩:=h1.update keyTu Tryz.underlying52 (by unfold maxLen; omega) (key5 ht) emE_mk;refine ⟨w',hrun,?_,g2⟩
 have hM:MpG kTu emD (l++[t]) (D.put (kTu t) (emD t)):=h2.add h1.isMap (h1.tidy keyTu) (c:=t) (by unfold kTu; trivial) (fun y hy e=>hno (by rw [← (kTu_inj (hl y hy) ht).1 e]; exact hy));obtain ⟨es,clock,hb,F,hs,hD⟩:=g1;refine ⟨_,⟨es,clock,hb,F,?_,hD⟩,hM⟩
 rw [← hM.size,show emD t=.agg [] from rfl,hD]
 simp [Maps.size,length_sorted]
end
end Go.Proofs.YtldkidljjbkmbaaGreatDoor
namespace Go.Proofs.YtldkidljjbkmbaaGreatDoor
open Go.RowKit Go.Maps Go.WideMaps Sc
structure FrW (A:Nat) (w w':World):Prop where
 below:Below A w w'
 keep:∀ (k:Nat) (cs:Array Value) (e:TypeId) (x:Nat × Nat),w.heap[k]? = some (Obj.cells cs e x) → e ≠ 54 → e ≠ 48 → e ≠ 9 → w'.heap[k]? = some (Obj.cells cs e x)
theorem FrW.of {A:Nat} {w w':World} (h:Below w.heap.size w w') (hA:A≤w.heap.size):FrW A w w' :=
 ⟨h.mono hA,fun k cs e x hh _ _ _=>by rw [h.block k (Array.getElem?_eq_some_iff.1 hh).1]; exact hh⟩
theorem FrW.trans {A:Nat} {a b c:World} (h:FrW A a b) (k:FrW A b c):FrW A a c:=⟨h.below.trans k.below,fun i cs e x hh n1 n2 n3=>k.keep i cs e x (h.keep i cs e x hh n1 n2 n3) n1 n2 n3⟩
theorem FrW.row {A:Nat} {w w':World} {b:Nat} {e:TypeId} {l:List Value} (h:FrW A w w') (hr:RowIs w b e l) (n1:e ≠ 54) (n2:e ≠ 48) (n3:e ≠ 9):RowIs w' b e l:=by
 unfold RowIs at hr ⊢;exact h.keep _ _ _ _ hr n1 n2 n3
structure WhI (A B b m:Nat) (w:World) (ent:List UInt8) (vt vn:Value) (st:List Tu × List Tu) (ns:List (List UInt8)):Prop where
 row:RowIs w b 54 (whL ent vt vn m)
 tup:OwnU w B vt st.1
 note:Own w B 9 vn (strs ns)
 map:TuMap w m st.2
 lA:A≤b
 lM:A≤m
 lb:b < B
 lm:m < B
 lo:B≤w.heap.size
section
variable {A B b m : Nat} {w w' u : World} {ent : List UInt8} {vt vn vn' vt' : Value} {st st' : List Tu × List Tu} {ns L : List (List UInt8)}
theorem TuMap.below {l:List Tu} (h:TuMap w m l) (hb:Below w.heap.size w w'):TuMap w' m l:=by
 obtain ⟨D,h1,h2⟩:=h;exact ⟨D,h1.kept ⟨hb.os,hb.tape,hb.output,hb.size,fun k hk _=>hb.block k hk⟩ (row:=none) (by simp),h2⟩
theorem TuMap.lt {l:List Tu} (h:TuMap w m l):m < w.heap.size:=by
 obtain ⟨D,h1,_⟩:=h;exact h1.lt
theorem WhI.step (h:WhI A B b m w ent vt vn st ns) (hb:Below w.heap.size w w'):WhI A B b m w' ent vt vn st ns :=
 ⟨h.row.below hb h.row.bl,h.tup.below hb,h.note.below hb,h.map.below hb,h.lA,h.lM,h.lb,h.lm,Nat.le_trans h.lo hb.size⟩
theorem WhI.low (h:WhI A B b m w ent vt vn st ns):A≤w.heap.size:=Nat.le_trans h.lA (Nat.le_trans (Nat.le_of_lt h.lb) h.lo)
theorem row_grown {e:TypeId} {l:List Value} {row:Option Nat} (h:RowIs w b e l) (hg:w.grownBy u row) (hne:row ≠ some b):RowIs u b e l:=by
 unfold RowIs at *;rw [hg.block b (Array.getElem?_eq_some_iff.1 h).1 (fun e=>hne e.symm)]; exact h
theorem WhI.midN (h:WhI A B b m w ent vt vn st ns) (hg:w.grownBy u vn.ownBlock):RowIs u b 54 (whL ent vt vn m) :=
 row_grown h.row hg fun e=>by have:=own_ge h.note b e; have:=h.lb; omega
theorem put_grown (w:World) (b j:Nat) (v:Value):w.grownBy (w.setCell ⟨b,j,none⟩ v) (some b):=by
 have h1:=(Below.refl 0 w).setCell (p:=⟨b,j,none⟩) (Nat.zero_le _) v;exact ⟨h1.os,h1.tape,h1.output,h1.size,fun k _ hne=>Below.heap_setCell _ ⟨b,j,none⟩ _ _ fun e=>hne (by rw [e])⟩
theorem map_ne {l:List Tu} {us:List Value} {e:TypeId} (h:TuMap w m l) (hr:RowIs w b e us):m ≠ b:=by
 obtain ⟨D,⟨es,clock,hb,_⟩,_⟩:=h;intro e;subst e;unfold RowIs at hr;rw [hr] at hb
 cases hb
theorem map_set {l:List Tu} {v:Value} {j:Nat} {us:List Value} (h:TuMap w m l) (hr:RowIs w b 54 us):TuMap (w.setCell ⟨b,j,none⟩ v) m l:=by
 have hne:=map_ne h hr;obtain ⟨D,h1,h2⟩:=h;exact ⟨D,h1.kept (put_grown w b j v) (fun e=>hne (by injection e)),h2⟩
theorem FrW.put {v:Value} {j:Nat} {us:List Value} (hr:RowIs w b 54 us) (hA:A≤b):FrW A w (w.setCell ⟨b,j,none⟩ v):=by
 refine ⟨(Below.refl A w).setCell hA v,fun k cs e x hh n1 _ _=>?_⟩
 rw [Below.heap_setCell _ ⟨b,j,none⟩ _ _ (fun e'=>by
  subst e';unfold RowIs at hr;rw [hr] at hh
  simp at hh
  exact n1 hh.2.1.symm)]
 exact hh
theorem FrW.grown {B' e s n:Nat} {v:Value} {xs:List Value} (ho:w.ownsRow B' e s v n xs) (hg:w.grownBy u v.ownBlock) (he:e=48∨e=9) (hA:A≤B') (hw:A≤w.heap.size):FrW A w u:=by
 refine ⟨((Below.refl w.heap.size w).mono hw).grown hg hw (fun g e=>Nat.le_trans hA (own_ge ho g e)),fun k cs e' x hh n1 n2 n3=>?_⟩
 rw [hg.block k (Array.getElem?_eq_some_iff.1 hh).1]
 ·exact hh
 ·intro e1
  rcases ho.2 with ⟨rfl,_⟩ | ⟨g,cap,cur,rfl,_,hb,_⟩
  ·simp [Value.ownBlock] at e1
  ·have e2:k=g:=by simpa [Value.ownBlock] using e1
   subst e2;rw [hh] at hb
   simp at hb
   rcases he with he | he
   ·exact n2 (hb.2.1.trans he)
   ·exact n3 (hb.2.1.trans he)
theorem WhI.putN (h:WhI A B b m w ent vt vn st ns) (hg:w.grownBy u vn.ownBlock) (ho:Own u B 9 vn' (strs L)) :
  WhI A B b m (u.setCell ⟨b,2,none⟩ vn') ent vt vn' st L∧FrW A w (u.setCell ⟨b,2,none⟩ vn'):=by
 have hm:=h.midN hg;have hlm:=h.map.lt
 have hmap:TuMap u m st.2:=by
  obtain ⟨D,h1,h2⟩:=h.map;exact ⟨D,h1.kept hg (fun e=>by have:=own_ge h.note m e.symm; have:=h.lm; omega),h2⟩
 refine ⟨⟨?_,ownsRow_setCell_below (a:=⟨b,2,none⟩) (World.ownsRow.kept h.tup hg (rows_neP h.note h.tup (by decide))) h.lb _,ownsRow_setCell_below (a:=⟨b,2,none⟩) ho h.lb _,map_set hmap hm,h.lA,h.lM,h.lb,h.lm,?_⟩,(FrW.grown h.note hg (.inr rfl) (Nat.le_trans h.lA (Nat.le_of_lt h.lb)) h.low).trans (FrW.put hm h.lA)⟩
 ·have:=hm.set 2 vn'
  simpa [whL] using this
 ·have h1:=(Below.refl 0 u).setCell (p:=⟨b,2,none⟩) (Nat.zero_le _) vn';exact Nat.le_trans h.lo (Nat.le_trans hg.size h1.size)
end
set_option maxHeartbeats 2000000 in
set_option maxRecDepth 100000 in
theorem sidx_any (v:Value) (xs:List (List UInt8)) (s:List UInt8) (w:World) (hz:xs.length≤1000000) (hv:StrsAt w v xs) :
  Calls Tryz.prog 58 #[v,.string ⟨s.toArray⟩] w fun e w'=>(∃ i:Int,e=.returned (.int .i64 i)∧decide (0≤i)=decide (s ∈ xs))∧Below w.heap.size w w':=by
 obtain ⟨ao,cap,rfl,hat⟩:=hv;have HC:=hid hat;obtain ⟨n,hnn⟩:∃ n,n=xs.length:=⟨_,rfl⟩
 rw [← hnn] at hz ⊢;have HN:=hid hnn;clear hat hnn
 go_enter Tryz.func58,Tryz.ntmps58
 go_wp2
 go_loopw [8] (fun i wr=>∃ j:Nat,j≤n∧i=.int .i64 j∧Hid (¬ s ∈ xs.take j)∧Hid (Below w.heap.size w wr)) (fun i _=>n - (intOf i).toNat)
 case atStart=>exact ⟨0,Nat.zero_le _,rfl,hid (show ¬ s ∈ xs.take 0 by simp),Below.refl _ _⟩
 case round =>
  obtain ⟨j,hj,rfl,ha,hb⟩:=hrel;by_cases hlt:j < n
  ·have hlt':(j:Int) < (n:Int):=by omega
   have hjl:j < xs.length:=by rw [← HN.out]; exact hlt
   obtain ⟨ad,hao,hab,c⟩:=HC.out j hjl;subst hao;have c:=cell_below hb.out (by rw [add_block]; exact hab) c
   have h1:=hid (show xs[j] ≠ s → ¬ s ∈ xs.take (j+1) from fun h hm=>by
    rw [List.take_succ_eq_append_getElem hjl] at hm
    rcases List.mem_append.1 hm with hm | hm
    ·exact ha.out hm
    ·rw [List.mem_singleton] at hm; exact h hm.symm)
   have h2:=hid (show xs[j]=s → s ∈ xs from fun h=>by rw [← h]; exact List.getElem_mem hjl);generalize xs[j]=t at c h1 h2
   have hor:(s==t)=true∨((s==t)=false∧t ≠ s):=by
    by_cases h:s=t
    ·exact .inl (by simp [h])
    ·exact .inr ⟨by simp [h],fun e=>h e.symm⟩
   rcases hor with he | ⟨he,hne⟩
   ·have h3:=hid (h2.out (by simpa using he:s=t).symm);clear h1 h2;go_wp2;go_ret;exact ⟨⟨j,rfl,by rw [decide_eq_true h3.out]; simp⟩,hb.out⟩
   ·have h3:=hid (h1.out hne);clear h1 h2;go_wp2;go_roundw
    case rel=>exact ⟨j+1,by omega,by go_num,h3,hb⟩
    case measure=>simp [intOf]; omega
  ·have hlt':¬ (j:Int) < (n:Int):=by omega
   have h3:=hid (show ¬ s ∈ xs by
    have:=ha.out
    rwa [List.take_of_length_le (by have:=HN.out; omega)] at this)
   go_wp2;go_ret;exact ⟨⟨-1,rfl,by first | (rw [decide_eq_false h3.out]; rfl) | exact ⟨fun h=>by omega,fun h=>absurd h h3.out⟩⟩,hb.out⟩
set_option maxHeartbeats 1000000 in
set_option maxRecDepth 100000 in
theorem scon_any (v:Value) (xs:List (List UInt8)) (s:List UInt8) (w:World) (hz:xs.length≤1000000) (hv:StrsAt w v xs) :
  Calls Tryz.prog 36 #[v,.string ⟨s.toArray⟩] w fun e w'=>e=.returned (.bool (decide (s ∈ xs)))∧Below w.heap.size w w':=by
 have K:=hid (sidx_any v xs s w hz hv);obtain ⟨ao,cap,rfl,_⟩:=hv;generalize decide (s ∈ xs)=R at K ⊢
 go_enter Tryz.func36,Tryz.ntmps36
 go_wp2_with fail
 refine K.out.mono ?_
 rintro e w2 ⟨⟨i,rfl,hi⟩,hb2⟩;go_wp2;go_ret;exact ⟨rfl,hb2⟩
theorem strsAt_own {w:World} {B:Nat} {v:Value} {ps:List (List UInt8)} (h:Own w B 9 v (strs ps)):StrsAt w v ps:=by
 have h0:=h;have e:(strs ps).length=ps.length:=by simp [strs]
 rcases h.2 with ⟨rfl,hn⟩ | ⟨g,cap,cur,rfl,hb,hg,_⟩
 ·rw [e] at hn;exact ⟨none,0,by rw [hn],fun k hk=>by omega⟩
 ·refine ⟨some ⟨g,0,none⟩,cap,by rw [e],fun k hk=>⟨_,rfl,(Array.getElem?_eq_some_iff.1 hg).1,?_⟩⟩
  exact World.ownsRow.cells h0 (g:=g) rfl k _ (by simp [strs,hk])
theorem infoStrC:(Tryz.prog.info? 9).map (fun i=>(i.zero,i.size,i.bytes))=some (some (.string .empty),1,16):=by kernel_rfl
theorem stepN_in {l:List (List UInt8)} {s:List UInt8} (h:s ∈ l∨16≤l.length):stepN l s=l:=by unfold stepN; rw [if_pos h]
theorem stepN_new {l:List (List UInt8)} {s:List UInt8} (h1:¬ s ∈ l) (h2:l.length < 16):stepN l s=l++[s]:=by unfold stepN; rw [if_neg (by rintro (h | h); exact h1 h; omega)]
set_option maxHeartbeats 4000000 in
set_option maxRecDepth 100000 in
theorem caddnote_any {A B b m:Nat} {w:World} {ent:List UInt8} {vt vn:Value} {st:List Tu × List Tu} {ns:List (List UInt8)} (h:WhI A B b m w ent vt vn st ns) (s:List UInt8) (hs:s.length≤281474976710656) (hn:ns.length≤16) :
  Calls Tryz.prog 22 #[.pointer (some ⟨b,0,none⟩),.string ⟨s.toArray⟩] w fun e w'=>e=.returned (.tuple #[])∧∃ vn',WhI A B b m w' ent vt vn' st (stepN ns s)∧FrW A w w':=by
 obtain ⟨i2,hk2,hv0,hv1,hv2⟩:=info_parts infoStrC;have HW:=hid h;have KC:=hid (scon_any vn ns s w (by omega) (strsAt_own h.note));have KN:=hid (fun (u:World)=>clone_listC s u hs);obtain ⟨na,nc,hvn⟩:=own_formP h.note;rw [show (strs ns).length=ns.length by simp [strs]] at hvn;subst hvn;have x2:w.cell? ⟨b,2,none⟩=some (.slice na ns.length nc):=h.row.cell 2 (by simp [whL]);clear h;by_cases hf:ns.length < 16
 ·have hf':(ns.length:Int) < 16:=by omega
  by_cases hm:s ∈ ns
  ·rw [decide_eq_true hm] at KC;rw [stepN_in (.inl hm)];clear hm
   go_enter Tryz.func22,Tryz.ntmps22
   go_wp2_with fail
   refine KC.out.mono ?_
   rintro e w2 ⟨rfl,hb2⟩;have HW2:=hid (And.intro (HW.out.step hb2) (FrW.of hb2 HW.out.low));clear hb2 HW x2 KC;go_wp2
   go_end0
   exact ⟨rfl,_,HW2.out.1,HW2.out.2⟩
  ·rw [decide_eq_false hm] at KC;rw [stepN_new hm hf];clear hm
   go_enter Tryz.func22,Tryz.ntmps22
   go_wp2_with fail
   refine KC.out.mono ?_
   rintro e w2 ⟨rfl,hb2⟩;have HI:=hid (HW.out.step (hb2.trans ((Below.refl _ w2).drew.mono hb2.size)));have HF:=hid (FrW.of (hb2.trans ((Below.refl _ w2).drew.mono hb2.size)) HW.out.low);have r2:w2.cell? ⟨b,2,none⟩=some (.slice na ns.length nc):=(HW.out.step hb2).row.cell 2 (by simp [whL]);have q2:w2.drew.cell? ⟨b,2,none⟩=some (.slice na ns.length nc):=HI.out.row.cell 2 (by simp [whL]);have g2:=HI.out.row.frozen 2;clear hb2 x2 KC HW
   go_upto_region 1 with fail
   go_region_law (first
    | (go_simp; go_at_call 20; refine (KN.out _).mono ?_; rintro e w6 ⟨rfl,hb6⟩; have HF:=hid (HF.out.trans (FrW.of hb6 HI.out.low)); have HI:=hid (HI.out.step hb6); clear hb6 r2 q2 g2; have q2:w6.cell? ⟨b,2,none⟩=some (.slice na ns.length nc):=HI.out.row.cell 2 (by simp [whL]); have g2:=HI.out.row.frozen 2; have HJ:=hid (HI.out.step ((Below.refl _ w6).alloc (Nat.le_refl _) (.cells #[.string ⟨s.toArray⟩] 9))); have m2:(w6.alloc (.cells #[.string ⟨s.toArray⟩] 9)).cell? ⟨b,2,none⟩=some (.slice na ns.length nc):=HJ.out.row.cell 2 (by simp [whL]))
    | (refine step_appS rfl (.tmp 26) (.tmp 29) 26 rfl B 9 i2 _ 16 Tryz.underlying26 hk2 hv0 hv1 hv2 rfl _ (strs ns) (by first | rfl | simp [Act.eval,Act.put]) (by exact HJ.out.note) ⟨_,0,none⟩ 1 1 [.string ⟨s.toArray⟩] rfl rfl (by intro j2 u2 hj2; exact one_new _ _ _ j2 u2 hj2) (by intro u hu; simp at hu; subst hu; rfl) (by simp [strs]; unfold maxLen; omega) (by simp [strs]; omega) HJ.out.lo ?_; intro v7 w7 ho7 hb7; have HP:=hid (HJ.out.putN hb7 (vn':=v7) (L:=ns++[s]) (by simpa [strs] using ho7)); have y2:w7.cell? ⟨b,2,none⟩=some (.slice na ns.length nc):=(HJ.out.midN hb7).cell 2 (by simp [whL]); have z2:=(HJ.out.midN hb7).frozen 2; obtain ⟨xa,xk,e7⟩:=own_formP ho7; rw [show (strs ns++[Value.string ⟨s.toArray⟩]).length=ns.length+1 by simp [strs]] at e7; subst e7; clear ho7 hb7))
   all_goals (
    have HFF:=hid (HF.out.trans ((FrW.of ((Below.refl _ _).alloc (Nat.le_refl _) (.cells #[.string ⟨s.toArray⟩] 9)) HI.out.low).trans HP.out.2));have HPP:=hid HP.out.1;clear HP HF HI HJ;generalize World.setCell _ _ _=W8 at HPP HFF ⊢;go_wp2
    go_end0
    exact ⟨rfl,_,HPP.out,HFF.out⟩)
 ·have hf':¬ (ns.length:Int) < 16:=by omega
  rw [stepN_in (.inr (by omega))];clear hf
  go_enter Tryz.func22,Tryz.ntmps22
  go_wp2
  go_end0
  exact ⟨rfl,⟨_,HW.out⟩,FrW.of (Below.refl _ _) HW.out.low⟩
end Go.Proofs.YtldkidljjbkmbaaGreatDoor
namespace Go.Proofs.YtldkidljjbkmbaaGreatDoor
section
variable {P : Program} {md : Region.Mode} {ops : Array Oper} {Q : Exit → Act → World → Prop}
theorem count_set {L:Array Bool} {i:Nat} (h:L.getD i true=false):(L.setIfInBounds i true).toList.count false+1=L.toList.count false:=by
 have hi:i < L.size:=by
  rcases Nat.lt_or_ge i L.size with h1 | h1
  ·exact h1
  ·rw [Array.getD_eq_getD_getElem?,Array.getElem?_eq_none h1] at h; simp at h
 have hv:L.toList[i]'(by simpa using hi)=false:=by
  rw [Array.getD_eq_getD_getElem?,Array.getElem?_eq_getElem hi] at h
  simpa using h
 have hm:false ∈ L.toList:=by rw [← hv]; exact List.getElem_mem _
 have hc:0 < L.toList.count false:=List.count_pos_iff.2 hm;rw [Array.toList_setIfInBounds,List.count_set (by simpa using hi),hv];have a1:(if (false==false)=true then (1:Nat) else 0)=1:=by decide
 have a2:(if (true==false)=true then (1:Nat) else 0)=0:=by decide
 rw [a1,a2];omega
theorem wpAny_inv (Inv:Array Bool → Act → World → Prop)
  (hend:∀ L a w,L.size=ops.size → Region.ready md ops L=[] → Inv L a w → Q .normal a w)
  (hstep:∀ L a w i,L.size=ops.size → i ∈ Region.ready md ops L → Inv L a w → wpOp P ops Q i (Inv (L.setIfInBounds i true)) a w) :
  ∀ (f:Nat) (L:Array Bool) (a:Act) (w:World),L.size=ops.size → L.toList.count false≤f → Inv L a w → wpAny P md ops Q f L a w:=by
 intro f
 induction f with
 | zero =>
  intro L a w hs hc hI
  have hr:Region.ready md ops L=[]:=by
   apply List.eq_nil_iff_forall_not_mem.2
   intro i hi
   have:=count_set (mem_ready.1 hi).1
   omega
  exact ⟨hr,hend L a w hs hr hI⟩
 | succ f ih =>
  intro L a w hs hc hI;refine ⟨fun hr=>hend L a w hs hr hI,fun i hi=>?_⟩
  refine wpOp_mono (fun a' w' k=>ih _ a' w' (by simpa using hs) ?_ k) (hstep L a w i hs hi hI)
  have:=count_set (mem_ready.1 hi).1
  omega
def lowB (md:Region.Mode) (ops:Array Oper):Bool:=(List.range ops.size).all fun j=>match ops[j]? with
 | some o=>o.after.all fun e=>!Region.binds md e || decide (e.on < j)
 | none=>false
theorem all_listed (hl:lowB md ops=true) {L:Array Bool} (hs:L.size=ops.size) (hr:Region.ready md ops L=[]):∀ j,j < ops.size → L.getD j false=true:=by
 intro j
 induction j using Nat.strongRecOn with
 | _ j ih =>
  intro hj;have h1:=List.all_eq_true.1 hl j (List.mem_range.2 hj);have ho:ops[j]? = some ops[j]:=Array.getElem?_eq_getElem hj;rw [ho] at h1;simp only at h1
  cases e:L[j]? with
  | none=>rw [Array.getElem?_eq_none_iff] at e; omega
  | some b =>
   cases b with
   | true=>rw [Array.getD_eq_getD_getElem?,e]; rfl
   | false =>
    exfalso
    have:j ∈ Region.ready md ops L:=by
     rw [mem_ready];refine ⟨by rw [Array.getD_eq_getD_getElem?,e]; rfl,ops[j],ho,fun x hx hb=>?_⟩
     have h2:=Array.all_eq_true_iff_forall_mem.1 h1 x hx;simp only [hb,Bool.not_true,Bool.false_or,decide_eq_true_eq] at h2;exact ih x.on h2 (by omega)
    rw [hr] at this
    cases this
theorem wp_region_inv {id:Nat} {a:Act} {w:World} (hm:P.follows .mixedOrders=true) (Inv:Array Bool → Act → World → Prop) (h0:Inv (Array.replicate ops.size false) a { w with drawn:=w.drawn+1 })
  (hend:∀ L a w,L.size=ops.size → Region.ready .any ops L=[] → Inv L a w → Q .normal a w)
  (hstep:∀ L a w i,L.size=ops.size → i ∈ Region.ready .any ops L → Inv L a w → wpOp P ops Q i (Inv (L.setIfInBounds i true)) a w):(Code.region id ops true).wp P Q a w :=
 wp_region_any hm (wpAny_inv Inv hend hstep ops.size _ a _ (by simp) (by simp) h0)
theorem wpOp_val {i:Nat} {o:Oper} {K:Act → World → Prop} {a:Act} {w w':World} {v:Value} (ho:ops[i]? = some o) (hg:o.guard=none) (hr:(execOp a.eval o).run P w=.ok (.value v) w') (h:K (a.put o.dst v) w'):wpOp P ops Q i K a w:=by
 unfold wpOp;rw [ho]
 simp only
 have hw:Region.wanted o (yielded ops a.tmps)=true:=by simp [Region.wanted,hg]
 rw [if_pos hw];refine Or.inl ?_
 unfold Oper.wp;rw [hr];exact h
theorem wpOp_of {i:Nat} {o:Oper} {K:Act → World → Prop} {a:Act} {w:World} (ho:ops[i]? = some o) {E:Prop} (h:if Region.wanted o (yielded ops a.tmps)=true then Oper.wp P o a w K Q else E) (hg:o.guard=none):wpOp P ops Q i K a w:=by
 unfold wpOp;rw [ho]
 simp only
 have hw:Region.wanted o (yielded ops a.tmps)=true:=by simp [Region.wanted,hg]
 rw [if_pos hw] at h ⊢;exact Or.inl h
theorem eval_put_ne {a:Act} {d s:Nat} {v:Value} (h:s ≠ d):(a.put (some d) v).eval (.tmp s)=a.eval (.tmp s):=by
 simp [Act.put,Act.eval,Array.getD_eq_getD_getElem?,Array.getElem?_setIfInBounds,Ne.symm h]
theorem eval_put_same {a:Act} {d:Nat} {v:Value} (h:d < a.tmps.size):(a.put (some d) v).eval (.tmp d)=v:=by
 simp [Act.put,Act.eval,Array.getD_eq_getD_getElem?,Array.getElem?_setIfInBounds,h]
theorem put_size (a:Act) (d:Option Nat) (v:Value):(a.put d v).tmps.size=a.tmps.size:=by
 cases d <;> simp [Act.put]
theorem put_defers (a:Act) (d:Option Nat) (v:Value):(a.put d v).defers=a.defers:=by
 cases d <;> simp [Act.put]
theorem getD_set_ne {L:Array Bool} {i j:Nat} (h:j ≠ i):(L.setIfInBounds i true).getD j false=L.getD j false:=by
 simp [Array.getD_eq_getD_getElem?,Array.getElem?_setIfInBounds,Ne.symm h]
theorem getD_set_same {L:Array Bool} {i:Nat} (h:i < L.size):(L.setIfInBounds i true).getD i false=true:=by
 simp [Array.getD_eq_getD_getElem?,Array.getElem?_setIfInBounds,h]
end
end Go.Proofs.YtldkidljjbkmbaaGreatDoor
namespace Go.Proofs.YtldkidljjbkmbaaGreatDoor
open Go.RowKit
def OpIs (ops:Array Oper) (i:Nat) (d:Option Nat) (op:Op):Prop:=∃ o,ops[i]? = some o∧o.guard=none∧o.dst=d∧o.op=op
def Waits (ops:Array Oper) (i j:Nat):Prop:=∃ o,ops[i]? = some o∧∃ e ∈ o.after,Region.binds .any e=true∧e.on=j
section
variable {P : Program} {ops : Array Oper} {Q : Exit → Act → World → Prop} {L : Array Bool} {a : Act} {w : World} {i j d : Nat} {K : Act → World → Prop}
theorem Waits.on (h:Waits ops i j) (hi:i ∈ Region.ready .any ops L):L.getD j false=true:=by
 obtain ⟨o,ho,e,he,hb,rfl⟩:=h;obtain ⟨_,o',ho',hall⟩:=mem_ready.1 hi;rw [ho] at ho'
 injection ho' with e'
 subst e';exact hall e he hb
theorem OpIs.val {op:Op} (h:OpIs ops i (some d) op) {v:Value} {w':World} (hr:∀ o:Oper,o.op=op → (execOp a.eval o).run P w=.ok (.value v) w') (hK:K (a.put (some d) v) w'):wpOp P ops Q i K a w:=by
 obtain ⟨o,ho,hg,hd,hop⟩:=h;refine wpOp_val ho hg (hr o hop) ?_
 rw [hd]; exact hK
theorem OpIs.skip {op:Op} (h:OpIs ops i none op) {w':World} (hr:∀ o:Oper,o.op=op → (execOp a.eval o).run P w=.ok .skip w') (hK:K a w'):wpOp P ops Q i K a w:=by
 obtain ⟨o,ho,hg,hd,hop⟩:=h;unfold wpOp;rw [ho]
 simp only
 have hw:Region.wanted o (yielded ops a.tmps)=true:=by simp [Region.wanted,hg]
 rw [if_pos hw];refine Or.inl ?_
 unfold Oper.wp;rw [hr o hop,Oper.upon_skip,hd];exact hK
end
theorem OpIs.enter {P:Program} {ops:Array Oper} {Q:Exit → Act → World → Prop} {i d:Nat} {K:Act → World → Prop} {a:Act} {w:World} {f:FuncId} {ags:Array Operand} {ts:Array TypeId} (h:OpIs ops i (some d) (.call { callee:=.value (.func f),args:=ags,argTypes:=ts })) {vals:Array Value} (hv:ags.map a.eval=vals) (hf:∀ (xs:Array Value) (u:World),(callFunc f xs).run P u=.ok (.enter f xs) u)
  (hC:Calls P f vals w fun e w'=>∃ v,e=.returned v∧K (a.put (some d) v) w'):wpOp P ops Q i K a w:=by
 obtain ⟨o,ho,hg,hd,hop⟩:=h;unfold wpOp;rw [ho]
 simp only
 have hw:Region.wanted o (yielded ops a.tmps)=true:=by simp [Region.wanted,hg]
 rw [if_pos hw];refine Or.inl ?_
 unfold Oper.wp
 have hr:(execOp a.eval o).run P w=.ok (.enter f vals) w:=by
  have e1:a.eval (.func f)=.func (.func f) #[] #[]:=rfl
  simp [execOp,hop,resolve,invoke,e1,hv,Result.andThen,Deferred.ofValue,hf]
 rw [hr,Oper.upon_enter];refine hC.mono ?_
 rintro e w' ⟨v,rfl,hK⟩
 simp only
 rw [hd];exact hK
structure MP where
 a0:Act
 lo:Nat
 hi:Nat
 n:Nat
 k:Nat
 W:World
 D:Nat → Nat
 R:Nat → Value → World → Prop
structure Outs (p:MP) (a0 a:Act):Prop where
 sz:a.tmps.size=p.n
 df:a.defers=[]
 out:∀ s,s < p.lo∨p.hi≤s → a.eval (.tmp s)=a0.eval (.tmp s)
structure MI (p:MP) (ops:Array Oper) (L:Array Bool) (a:Act) (w:World):Prop where
 o:Outs p p.a0 a
 bel:Below p.W.heap.size p.W w
 val:∀ i,i < p.k → L.getD i false=true → p.R i (a.eval (.tmp (p.D i))) w
 dn:∀ i j,Waits ops i j → L.getD i false=true → L.getD j false=true
theorem Outs.put {p:MP} {a0 a:Act} (h:Outs p a0 a) (d:Nat) (v:Value) (hlo:p.lo≤d) (hhi:d < p.hi):Outs p a0 (a.put (some d) v) :=
 ⟨by rw [put_size]; exact h.sz,by rw [put_defers]; exact h.df,fun s hs=>by rw [eval_put_ne (by omega)]; exact h.out s hs⟩
theorem Outs.fin {p:MP} {a0 a:Act} (h:Outs p a0 a) (h0:a0.tmps.size=p.n) (hle:p.lo≤p.hi) (hn:p.hi≤p.n):∃ us:List Value,us.length=p.hi - p.lo∧a=⟨(a0.tmps.toList.take p.lo++(us++a0.tmps.toList.drop p.hi)).toArray,[]⟩:=by
 have key:∀ s,s < p.lo∨p.hi≤s → a.tmps.toList[s]? = a0.tmps.toList[s]? := fun s hs=>by
  have e:=h.out s hs;by_cases hlt:s < p.n
  ·have l1:s < a.tmps.size:=by rw [h.sz]; exact hlt
   have l2:s < a0.tmps.size:=by rw [h0]; exact hlt
   simp [Act.eval,Array.getD_eq_getD_getElem?,l1,l2] at e
   simp [l1,l2,e]
  ·rw [List.getElem?_eq_none (by simp; rw [h.sz]; omega),List.getElem?_eq_none (by simp; rw [h0]; omega)]
 refine ⟨(a.tmps.toList.take p.hi).drop p.lo,by simp [h.sz]; omega,?_⟩
 have e1:a0.tmps.toList.take p.lo=a.tmps.toList.take p.lo:=by
  apply List.ext_getElem?
  intro s;rw [List.getElem?_take,List.getElem?_take]
  split
  ·exact (key s (.inl ‹_›)).symm
  ·rfl
 have e2:a0.tmps.toList.drop p.hi=a.tmps.toList.drop p.hi:=by
  apply List.ext_getElem?
  intro s;rw [List.getElem?_drop,List.getElem?_drop];exact (key _ (.inr (by omega))).symm
 have e3:a.tmps.toList=a.tmps.toList.take p.lo++((a.tmps.toList.take p.hi).drop p.lo++a.tmps.toList.drop p.hi):=by
  have:=List.take_append_drop p.lo (a.tmps.toList.take p.hi)
  rw [← List.append_assoc];rw [List.take_take,Nat.min_eq_left hle] at this;rw [this,List.take_append_drop]
 rw [e1,e2,← e3];obtain ⟨tm,df⟩:=a
 have:=h.df
 simp only at this;subst this
 rfl
section
variable {p : MP} {ops : Array Oper} {L : Array Bool} {a : Act} {w w' : World}
theorem ready_nots {i:Nat} (hi:i ∈ Region.ready .any ops L):L.getD i false=false∧i < ops.size:=by
 refine ⟨?_,?_⟩
 ·have:=(mem_ready.1 hi).1
  rw [Array.getD_eq_getD_getElem?] at this ⊢
  cases e:L[i]? with
  | none=>rw [e] at this; simp at this
  | some b=>rw [e] at this; simpa using this
 ·obtain ⟨_,o,ho,_⟩:=mem_ready.1 hi;exact (Array.getElem?_eq_some_iff.1 ho).1
theorem down_set {i:Nat} (hi:i ∈ Region.ready .any ops L) (hs:L.size=ops.size) (h:∀ i j,Waits ops i j → L.getD i false=true → L.getD j false=true) :
  ∀ x y,Waits ops x y → (L.setIfInBounds i true).getD x false=true → (L.setIfInBounds i true).getD y false=true:=by
 intro x y hxy hx;have hil:=(ready_nots hi).2
 have up:∀ y,L.getD y false=true → (L.setIfInBounds i true).getD y false=true:=fun y hy=>by
  by_cases e:y=i
  ·subst e; exact getD_set_same (by rw [hs]; exact hil)
  ·rw [getD_set_ne e]; exact hy
 by_cases e:x=i
 ·subst e; exact up y (hxy.on hi)
 ·rw [getD_set_ne e] at hx; exact up y (h x y hxy hx)
theorem MI.put (h:MI p ops L a w) (hs:L.size=ops.size) (i:Nat) (hi:i ∈ Region.ready .any ops L) (d:Nat) (hD:p.D i=d) (hinj:∀ j,j < p.k → j ≠ i → p.D j ≠ d) (hlo:p.lo≤d) (hhi:d < p.hi) (hn:p.hi≤p.n)
  (hst:∀ j v,j < p.k → p.R j v w → p.R j v w') (v:Value) (hb:Below w.heap.size w w') (hR:p.R i v w'):MI p ops (L.setIfInBounds i true) (a.put (some d) v) w':=by
 refine ⟨h.o.put d v hlo hhi,h.bel.trans (hb.mono h.bel.size),fun j hj hl=>?_,down_set hi hs h.dn⟩
 by_cases e:j=i
 ·subst e;rw [hD,eval_put_same (by rw [h.o.sz]; omega)]; exact hR
 ·rw [getD_set_ne e] at hl;rw [eval_put_ne (hinj j hj e)];exact hst j _ hj (h.val j hj hl)
end
def waitsB (ops:Array Oper) (i j:Nat):Bool:=match ops[i]? with
 | some o=>o.after.any fun e=>Region.binds .any e && decide (e.on=j)
 | none=>false
end Go.Proofs.YtldkidljjbkmbaaGreatDoor
