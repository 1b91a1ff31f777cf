/-
  PtK, PtL, OpenPa, WPubNobody.
-/
import Derived.Test.YteicmbhilambpaaGreatDoorPU03
import Derived.Test.YteicmbhilambpaaGreatDoorPU27
set_option linter.unusedVariables false
set_option linter.unusedSimpArgs false
set_option maxRecDepth 20000
namespace Go.Proofs.YteicmbhilambpaaGreatDoor
open Go.RowKit Go.Maps Go.WideMaps Sc
def NoTabP (w:World) (p:Option Addr):Prop:=p=none∨∃ b,p=some ⟨b,0,none⟩∧b < w.heap.size∧w.cell? ⟨b,9,none⟩=some (.map none)
theorem NoTabP.below {w w':World} {p:Option Addr} (h:NoTabP w p) (hb:Below w.heap.size w w'):NoTabP w' p:=by
 rcases h with rfl | ⟨b,rfl,hlt,hc⟩
 ·exact .inl rfl
 ·exact .inr ⟨b,rfl,Nat.lt_of_lt_of_le hlt hb.size,by rw [hb.cell hlt]; exact hc⟩
set_option maxHeartbeats 1000000 in
set_option maxRecDepth 100000 in
theorem pmade_no (w:World) {p:Option Addr} (h:NoTabP w p):Calls Tryz.prog 34 #[.pointer p] w fun e w'=>e=.returned (.bool false)∧w'=w:=by
 have q61:=neqPm
 rcases h with rfl | ⟨b,rfl,hlt,hc⟩
 ·go_enter Tryz.func34,Tryz.ntmps34
  go_wp2;go_ret;exact ⟨rfl,rfl⟩
 ·go_enter Tryz.func34,Tryz.ntmps34
  go_wp2;go_ret;exact ⟨rfl,rfl⟩
set_option maxHeartbeats 1000000 in
set_option maxRecDepth 100000 in
theorem pexp_no (w:World) {p:Option Addr} (h:NoTabP w p) (now:Int):Calls Tryz.prog 16 #[.pointer p,.int .i64 now] w fun e w'=>e=.returned (.slice none 0 0)∧w'=w:=by
 have K:=hid (pmade_no w h);clear h
 go_enter Tryz.func16,Tryz.ntmps16
 go_wp2_with (go_at_call 34; refine K.out.mono ?_; rintro e w2 ⟨rfl,hw2⟩; rw [hw2]; clear hw2)
 go_ret;exact ⟨rfl,rfl⟩
set_option maxHeartbeats 1000000 in
set_option maxRecDepth 100000 in
theorem plive_no (w:World) {p:Option Addr} (h:NoTabP w p) (who:List UInt8):Calls Tryz.prog 22 #[.pointer p,.string ⟨who.toArray⟩] w fun e w'=>e=.returned (.slice none 0 0)∧w'=w:=by
 have K:=hid (pmade_no w h);clear h
 go_enter Tryz.func22,Tryz.ntmps22
 go_wp2_with (go_at_call 34; refine K.out.mono ?_; rintro e w2 ⟨rfl,hw2⟩; rw [hw2]; clear hw2)
 go_ret;exact ⟨rfl,rfl⟩
set_option maxHeartbeats 1000000 in
set_option maxRecDepth 100000 in
theorem plen_no (w:World) {p:Option Addr} (h:NoTabP w p):Calls Tryz.prog 24 #[.pointer p] w fun e w'=>e=.returned (.int .i64 0)∧w'=w:=by
 have K:=hid (pmade_no w h);clear h
 go_enter Tryz.func24,Tryz.ntmps24
 go_wp2_with (go_at_call 34; refine K.out.mono ?_; rintro e w2 ⟨rfl,hw2⟩; rw [hw2]; clear hw2)
 go_ret;exact ⟨rfl,rfl⟩
theorem two_rows (w:World) (a:Pa) (ts ns:Value) {e1 e2:TypeId} {W:World} (hW:W=(w.alloc (.cells #[.string ⟨a.who.toArray⟩,.string ⟨a.mt.toArray⟩,.int .i64 a.exp,.bool a.has,.string ⟨a.doc.entity.toArray⟩,ts,ns,.string ⟨a.tag.toArray⟩] e1)).alloc (.cells #[.int .i64 0,.int .i64 0,.string ⟨#[]⟩,.bool false] e2)) :
  RowIs W (w.heap.size+1) e2 [.int .i64 0,.int .i64 0,.string ⟨#[]⟩,.bool false]∧Below w.heap.size w W:=by
 have b1:Below w.heap.size w (w.alloc (.cells #[.string ⟨a.who.toArray⟩,.string ⟨a.mt.toArray⟩,.int .i64 a.exp,.bool a.has,.string ⟨a.doc.entity.toArray⟩,ts,ns,.string ⟨a.tag.toArray⟩] e1)):=(Below.refl _ w).alloc (Nat.le_refl _) _;have z1:(w.alloc (.cells #[.string ⟨a.who.toArray⟩,.string ⟨a.mt.toArray⟩,.int .i64 a.exp,.bool a.has,.string ⟨a.doc.entity.toArray⟩,ts,ns,.string ⟨a.tag.toArray⟩] e1)).heap.size=w.heap.size+1:=by simp
 rw [hW];generalize w.alloc _=w1 at b1 z1 ⊢;have r6:=rc_row4 w1 (.int .i64 0) (.int .i64 0) (.string ⟨#[]⟩) (.bool false) e2;rw [z1] at r6;exact ⟨r6,b1.alloc b1.size _⟩
set_option maxHeartbeats 1000000 in
set_option maxRecDepth 100000 in
theorem pdo_no (w:World) {p:Option Addr} (h:NoTabP w p) (now:Int) (a:Pa) (ts ns:Value):Calls Tryz.prog 40 #[.pointer p,.int .i64 now,askV a ts ns] w fun e w'=>e=.returned (.tuple #[tdV noTd,.int .i64 3])∧Below w.heap.size w w':=by
 have K:=hid (fun (u:World) (hb:Below w.heap.size w u)=>pmade_no u (h.below hb));clear h;obtain ⟨W,hW⟩:∃ W,W=(w.alloc (.cells #[.string ⟨a.who.toArray⟩,.string ⟨a.mt.toArray⟩,.int .i64 a.exp,.bool a.has,.string ⟨a.doc.entity.toArray⟩,ts,ns,.string ⟨a.tag.toArray⟩] 95)).alloc (.cells #[.int .i64 0,.int .i64 0,.string ⟨#[]⟩,.bool false] 92):=⟨_,rfl⟩
 obtain ⟨r6,hb⟩:=two_rows w a ts ns hW;have KW:=hid (K.out W hb);have KEEP:=hid (And.intro (rc_store4 r6 (.int .i64 0) (.int .i64 0) (.string ⟨#[]⟩) (.bool false)).rc4 (rc_below4 hb (w.heap.size+1) (by omega) (.int .i64 0) (.int .i64 0) (.string ⟨#[]⟩) (.bool false)));obtain ⟨z0,z1,z2,z3,f0,f1,f2,f3⟩:=r6.rc4;clear K r6 hb
 go_enter Tryz.func40,Tryz.ntmps40
 unfold askV
 go_upto_region 1 with fail
 rw [← hW];clear hW;go_wp2_with (go_at_call 34; refine KW.out.mono ?_; rintro e w2 ⟨rfl,hw2⟩; rw [hw2]; clear hw2)
 generalize World.setCell _ _ _=wA at KEEP ⊢;obtain ⟨⟨d0,d1,d2,d3,_,_,_,_⟩,hbA⟩:=KEEP.out
 try simp only [Exit.inBlock,Exit.then]
 refine bodyPost_ret (v:=.tuple #[.agg #[.int .i64 0,.int .i64 0,.string ⟨#[]⟩,.bool false],.int .i64 3]) (by simp [results,Tryz.results40,go_sem,d0,d1,d2,d3]; try rfl) rfl ?_
 exact ⟨rfl,hbA⟩
set_option maxHeartbeats 4000000 in
set_option maxRecDepth 100000 in
theorem does16_no (w:World) {p:Option Addr} (h:NoTabP w p) (now:Int) (a:Pa) (ts ns:Value) :
  Calls Tryz.prog 18 #[.pointer p,.int .i64 now,askV a ts ns] w fun e w'=>e=.returned (.tuple #[tdV noTd,.int .i64 3])∧Below w.heap.size w w':=by
 have K:=hid (fun (u:World) (hb:Below w.heap.size w u)=>pdo_no u (h.below hb) now a ts ns);clear h;have r5:RowIs (w.alloc (.cells #[.string ⟨a.who.toArray⟩,.string ⟨a.mt.toArray⟩,.int .i64 a.exp,.bool a.has,.string ⟨a.doc.entity.toArray⟩,ts,ns,.string ⟨a.tag.toArray⟩] 37)) w.heap.size 37 (pskL a ts ns):=by unfold RowIs; rw [heap_alloc_new]; rfl
 have b1:Below w.heap.size w (w.alloc (.cells #[.string ⟨a.who.toArray⟩,.string ⟨a.mt.toArray⟩,.int .i64 a.exp,.bool a.has,.string ⟨a.doc.entity.toArray⟩,ts,ns,.string ⟨a.tag.toArray⟩] 37)):=(Below.refl _ w).alloc (Nat.le_refl _) _;have z1:(w.alloc (.cells #[.string ⟨a.who.toArray⟩,.string ⟨a.mt.toArray⟩,.int .i64 a.exp,.bool a.has,.string ⟨a.doc.entity.toArray⟩,ts,ns,.string ⟨a.tag.toArray⟩] 37)).heap.size=w.heap.size+1:=by simp
 have HB:Hid (∃ W:World,W=(w.alloc (.cells #[.string ⟨a.who.toArray⟩,.string ⟨a.mt.toArray⟩,.int .i64 a.exp,.bool a.has,.string ⟨a.doc.entity.toArray⟩,ts,ns,.string ⟨a.tag.toArray⟩] 37)).alloc (.cells #[.int .i64 0,.int .i64 0,.string ⟨#[]⟩,.bool false] 46)∧RowIs W w.heap.size 37 (pskL a ts ns)∧RowIs W (w.heap.size+1) 46 [.int .i64 0,.int .i64 0,.string ⟨#[]⟩,.bool false]∧Below w.heap.size w W):=by
  generalize w.alloc _=w1 at r5 b1 z1 ⊢;have r6:=rc_row4 w1 (.int .i64 0) (.int .i64 0) (.string ⟨#[]⟩) (.bool false) 46;have b2:Below w1.heap.size w1 (w1.alloc (.cells #[.int .i64 0,.int .i64 0,.string ⟨#[]⟩,.bool false] 46)):=(Below.refl _ w1).alloc (Nat.le_refl _) _;rw [z1] at r6;exact ⟨_,rfl,r5.below b2 r5.bl,r6,b1.trans (b2.mono b1.size)⟩
 clear r5 b1 z1;obtain ⟨W,hW,q5,q6,qb⟩:=HB.out;have HQ:=hid (And.intro q5 (And.intro q6 qb));clear HB;obtain ⟨a0,a1,a2,a3,a4,a5,a6,a7⟩:=bgA_ofR q5;clear q5 q6 qb
 go_enter Tryz.func18,Tryz.ntmps18
 unfold askV
 go_upto_region 1 with fail
 rw [← hW];clear hW;have KD:=hid (K.out W HQ.out.2.2);unfold askV tdV noTd at KD;simp only at KD;clear K;go_wp2_with fail
 refine KD.out.mono ?_
 rintro e w4 ⟨rfl,hb4⟩;have q6:=RowIs.below HQ.out.2.1 hb4 HQ.out.2.1.bl;have hF:=hid (HQ.out.2.2.trans (hb4.mono HQ.out.2.2.size));have q6s:=q6.bl;have r8:=rc_row4 w4 (.int .i64 0) (.int .i64 0) (.string ⟨#[]⟩) (.bool false) 92;have b8:Below w4.heap.size w4 (w4.alloc (.cells #[.int .i64 0,.int .i64 0,.string ⟨#[]⟩,.bool false] 92)):=(Below.refl _ w4).alloc (Nat.le_refl _) _;clear hb4 KD HQ a0 a1 a2 a3 a4 a5 a6 a7;have Q:=hid (And.intro q6 (And.intro r8 b8));clear q6 r8 b8
 go_upto_region 2 with fail
 generalize World.alloc _ _=w5 at Q ⊢;obtain ⟨q6,r8,b8⟩:=Q.out;have p6:=q6.below b8 q6.bl;obtain ⟨c0,c1,c2,c3,_,_,_,_⟩:=r8.rc4;obtain ⟨_,_,_,_,f0,f1,f2,f3⟩:=p6.rc4;have KEEP:=hid (And.intro ((rc_store4 p6 (.int .i64 0) (.int .i64 0) (.string ⟨#[]⟩) (.bool false)).rc4) (rc_below4 (hF.out.trans (b8.mono hF.out.size)) (w.heap.size+1) (by omega) (.int .i64 0) (.int .i64 0) (.string ⟨#[]⟩) (.bool false)));clear q6 r8 b8 p6 Q hF;go_wp2;generalize World.setCell _ _ _=wA at KEEP ⊢;obtain ⟨⟨d0,d1,d2,d3,_,_,_,_⟩,hFA⟩:=KEEP.out
 try simp only [Exit.inBlock,Exit.then]
 refine bodyPost_ret (v:=.tuple #[.agg #[.int .i64 0,.int .i64 0,.string ⟨#[]⟩,.bool false],.int .i64 3]) (by simp [results,Tryz.results18,go_sem,d0,d1,d2,d3]; try rfl) rfl ?_
 exact ⟨rfl,hFA⟩
end Go.Proofs.YteicmbhilambpaaGreatDoor
namespace Go.Proofs.YteicmbhilambpaaGreatDoor
open Go.RowKit Go.ChangeShapes Go.WideShapes Go.Deep
def acpV (x:AcP):Value:=.agg #[.bool x.expire,.int .i64 x.now,.string ⟨x.a.who.toArray⟩,.string ⟨x.a.mt.toArray⟩,.int .i64 x.a.exp,.bool x.a.has,.string ⟨x.a.doc.entity.toArray⟩,x.ts,x.ns,.string ⟨x.a.tag.toArray⟩]
section
variable {H : Type} {enc : TypeId × Value → H} {W : World} {sp : Nat → Bool}
def AcpIn (B:Nat) (W:World) (v:Value):Prop:=∃ x:AcP,v=acpV x∧DocPa W x.a.doc x.ts x.ns∧SmallPa B x.a∧(Lit.int .i64 x.now).wf=true
theorem pact_said {B:Nat} {r:Reach} {b0:Nat} {v:Value} {d:DataW H} {p:List MemPlace} (hv:Value.okWide Tryz.prog W r b0 39 v) (h:DataW.Trod enc Tryz.prog W 0 sp true 39 v d p)
  (hz:∀ n ∈ d.weights Tryz.prog 39,n≤B):AcpIn B W v:=by
 obtain ⟨cs,rfl,hsz⟩:=okWide_struct Tryz.underlying39 hv;obtain ⟨fuel,hf0⟩:=h;obtain ⟨x,hc,hat,hd,hw,he,hn⟩:=open_acp hf0;obtain ⟨l⟩:=cs;simp only [Value.cells] at hc;refine ⟨x,?_,hat,acD_said hd hw he hz,hn⟩
 simp only [acpV]
 congr 1
 apply Array.toList_inj.1
 rw [hc]; rfl
end
end Go.Proofs.YteicmbhilambpaaGreatDoor
namespace Go.Proofs.YteicmbhilambpaaGreatDoor.pubNobody
open Go.RowKit Go.Maps Go.WideMaps Sc
def zS:List Value:=[.string ⟨#[]⟩,.int .i64 0,.int .i64 0,.int .i64 0,.int .i64 0,.int .i64 0,.int .i64 0,.int .i64 0,.map none,.map none,.pointer none]
def objAc (x:AcP):Obj:=.cells #[.bool x.expire,.int .i64 x.now,.string ⟨x.a.who.toArray⟩,.string ⟨x.a.mt.toArray⟩,.int .i64 x.a.exp,.bool x.a.has,.string ⟨x.a.doc.entity.toArray⟩,x.ts,x.ns,.string ⟨x.a.tag.toArray⟩] 39
def acL (x:AcP):List Value:=[.bool x.expire,.int .i64 x.now,.string ⟨x.a.who.toArray⟩,.string ⟨x.a.mt.toArray⟩,.int .i64 x.a.exp,.bool x.a.has,.string ⟨x.a.doc.entity.toArray⟩,x.ts,x.ns,.string ⟨x.a.tag.toArray⟩]
structure AcA (u:World) (b:Nat) (x:AcP):Prop where
 c1:u.cell? ⟨b,1,none⟩=some (.int .i64 x.now)
 c2:u.cell? ⟨b,2,none⟩=some (.string ⟨x.a.who.toArray⟩)
 c3:u.cell? ⟨b,3,none⟩=some (.string ⟨x.a.mt.toArray⟩)
 c4:u.cell? ⟨b,4,none⟩=some (.int .i64 x.a.exp)
 c5:u.cell? ⟨b,5,none⟩=some (.bool x.a.has)
 c6:u.cell? ⟨b,6,none⟩=some (.string ⟨x.a.doc.entity.toArray⟩)
 c7:u.cell? ⟨b,7,none⟩=some x.ts
 c8:u.cell? ⟨b,8,none⟩=some x.ns
 c9:u.cell? ⟨b,9,none⟩=some (.string ⟨x.a.tag.toArray⟩)
theorem acA_of {u:World} {b:Nat} {x:AcP} (h:RowIs u b 39 (acL x)):AcA u b x :=
 ⟨h.cell 1 (by simp [acL]),h.cell 2 (by simp [acL]),h.cell 3 (by simp [acL]),h.cell 4 (by simp [acL]),h.cell 5 (by simp [acL]),h.cell 6 (by simp [acL]),h.cell 7 (by simp [acL]),h.cell 8 (by simp [acL]),h.cell 9 (by simp [acL])⟩
set_option maxHeartbeats 2000000 in
set_option maxRecDepth 100000 in
theorem law_walk (w:World) (v0:Value) (k0:AcpIn 140737488351232 w v0) :
  Calls Tryz.prog 8 #[v0] w fun e w'=>e=.returned (.bool true)∧Below w.heap.size w w':=by
 obtain ⟨a,rfl,ka⟩:=k0;have ra:RowIs (w.alloc (objAc a)) w.heap.size 39 (acL a):=by unfold RowIs; rw [heap_alloc_new]; rfl
 have hb1:Below w.heap.size w (w.alloc (objAc a)):=(Below.refl _ w).alloc (Nat.le_refl _) _;have l1:=ra.bl;generalize hw1:w.alloc (objAc a)=w1 at ra hb1 l1;obtain ⟨o1,ho1⟩:∃ o,o=Obj.cells #[.string ⟨#[]⟩,.int .i64 0,.int .i64 0,.int .i64 0,.int .i64 0,.int .i64 0,.int .i64 0,.int .i64 0,.map none,.map none,.pointer none] 76:=⟨_,rfl⟩
 have hR1:RowIs (w1.alloc o1) w1.heap.size 76 zS:=by unfold RowIs; rw [heap_alloc_new,ho1]; rfl
 have hb2:Below w1.heap.size w1 (w1.alloc o1):=(Below.refl _ w1).alloc (Nat.le_refl _) _;have l2:=hR1.bl;have ra2:=ra.below hb2 l1;have hB2:=hb1.trans (hb2.mono hb1.size);rw [ho1] at hR1 hb2 l2 ra2 hB2;generalize hw2:w1.alloc (Obj.cells #[.string ⟨#[]⟩,.int .i64 0,.int .i64 0,.int .i64 0,.int .i64 0,.int .i64 0,.int .i64 0,.int .i64 0,.map none,.map none,.pointer none] 76)=w2 at hR1 hb2 l2 ra2 hB2;obtain ⟨o2,ho2⟩:∃ o,o=Obj.cells #[.pointer none,.pointer (some ⟨w1.heap.size,0,none⟩)] 25:=⟨_,rfl⟩
 have hR2:RowIs (w2.alloc o2) w2.heap.size 25 [.pointer none,.pointer (some ⟨w1.heap.size,0,none⟩)]:=by unfold RowIs; rw [heap_alloc_new,ho2]
 have hb3:Below w2.heap.size w2 (w2.alloc o2):=(Below.refl _ w2).alloc (Nat.le_refl _) _;have HA:=hid (ra2.below hb3 ra2.bl);have HR1:=hid (hR1.below hb3 l2);have HR2:=hid hR2;have HB:=hid (hB2.trans (hb3.mono hB2.size));rw [ho2] at HA HR1 HR2 HB;clear hR1 hR2 hB2 hb1 hb2 hb3 ra ra2 ho1 ho2 ka;unfold objAc at hw1
 go_enter Tryz.func8,Tryz.ntmps8
 unfold acpV;go_wp2;generalize World.alloc _ _=W at HR1 HR2 HB HA ⊢
 go_loopw [11] (fun i wr=>∃ k:Nat,k≤2∧i=.int .i64 k∧Hid (RowIs wr w.heap.size 39 (acL a))∧Hid (RowIs wr w1.heap.size 76 zS)∧Hid (RowIs wr w2.heap.size 25 [.pointer none,.pointer (some ⟨w1.heap.size,0,none⟩)])∧Hid (Below w.heap.size w wr)) (fun i _=>2 - (intOf i).toNat)
 case atStart=>exact ⟨0,by omega,rfl,HA,HR1,HR2,HB⟩
 case round =>
  clear HR1 HR2 HB HA;obtain ⟨k,hk,rfl,HA,HR1,HR2,HB⟩:=hrel;by_cases hlt:k < 2
  ·have hlt':(k:Int) < 2:=by omega
   have r0:=HA.out.bl;have r1:=HR1.out.bl;have r2:=HR2.out.bl
   obtain ⟨p,hp,hnob⟩:∃ p,wr.cell? ⟨w2.heap.size,k,none⟩=some (.pointer p)∧NoTabP wr p:=by
    rcases (show k=0∨k=1 by omega) with rfl | rfl
    ·exact ⟨_,HR2.out.cell 0 (by simp),.inl rfl⟩
    ·exact ⟨_,HR2.out.cell 1 (by simp),.inr ⟨_,rfl,r1,HR1.out.cell 9 (by simp [zS])⟩⟩
   have K1:=hid (does16_no wr hnob a.now a.a a.ts a.ns);unfold askV tdV noTd at K1;simp only at K1;obtain ⟨x1,x2,x3,x4,x5,x6,x7,x8,x9⟩:=acA_of HA.out;have HNB:=hid hnob;clear hnob;go_wp2_with fail
   refine K1.out.mono ?_
   rintro e w3 ⟨rfl,hb3⟩;have b4:Below w3.heap.size w3 (w3.alloc (.cells #[.int .i64 0,.int .i64 0,.string ⟨#[]⟩,.bool false] 46)):=(Below.refl _ w3).alloc (Nat.le_refl _) _;have RT:=hid (rc_row4 w3 (.int .i64 0) (.int .i64 0) (.string ⟨#[]⟩) (.bool false) 46);have bb:=hid (hb3.trans (b4.mono hb3.size));clear hb3 b4 x1 x2 x3 x4 x5 x6 x7 x8 x9 K1
   go_upto_region 5 with fail
   generalize w3.heap.size=g at RT ⊢;generalize World.alloc _ _=w4 at RT bb ⊢;have N3:=HNB.out.below bb.out;have K2:=hid (fun now=>pexp_no w4 N3 now);have K3:=hid (fun who=>plive_no w4 N3 who);have K5:=hid (plen_no w4 N3);have A3:=hid (HA.out.below bb.out r0);have R13:=hid (HR1.out.below bb.out r1);have R23:=hid (HR2.out.below bb.out r2);have B3:=hid (HB.out.trans (bb.out.mono HB.out.size));obtain ⟨y1,y2,y3,y4,y5,y6,y7,y8,y9⟩:=acA_of A3.out;obtain ⟨t0,t1,t2,t3,_,_,_,_⟩:=RT.out.rc4;clear HNB N3 HA HR1 HR2 HB hp
   go_wp2_with (first
    | (go_at_call 16; refine (K2.out _).mono ?_; rintro e wx ⟨rfl,hwx⟩; rw [hwx]; clear hwx)
    | (go_at_call 22; refine (K3.out _).mono ?_; rintro e wx ⟨rfl,hwx⟩; rw [hwx]; clear hwx)
    | (go_at_call 24; refine K5.out.mono ?_; rintro e wx ⟨rfl,hwx⟩; rw [hwx]; clear hwx))
   go_roundw
   case rel=>exact ⟨k+1,by omega,by go_num,A3,R13,R23,B3⟩
   case measure=>simp [intOf]; omega
  ·obtain rfl:k=2:=by omega
   clear HR1 HR2 hlt HA;go_wp2_with fail
   refine (awake16_any _).mono ?_
   rintro e w9 ⟨rfl,hw9⟩;go_wp2;go_ret;exact ⟨rfl,HB.out.trans (hw9.mono HB.out.size)⟩
end Go.Proofs.YteicmbhilambpaaGreatDoor.pubNobody
