/-
  PtA, PtB, PtC, PtH, PtI, PtJ.
-/
import Derived.Test.YteicmbhilambpaaGreatDoorPU25
import Derived.Shelf.Sort.Plain
import Derived.Shelf.Slices.CompactS
import Derived.Shelf.Slices.In.SortNone
import Derived.Shelf.SlicesG.Cmp
import Derived.Shelf.SlSortCmp.WholeK
import Derived.Shelf.SlGeneric
import Derived.Test.YteicmbhilambpaaGreatDoorProg
import Derived.Sort.OwnSorted
set_option linter.unusedVariables false
set_option linter.unusedSimpArgs false
set_option maxRecDepth 20000
namespace Go.Proofs.YteicmbhilambpaaGreatDoor
open Go.RowKit Go.Maps Go.WideMaps Sc
section
variable {B bt : Nat} {w u u' : World} {s s' : Sto} {a : Pa} {ts ns : Value} {now : Int}
set_option maxHeartbeats 4000000 in
set_option maxRecDepth 100000 in
theorem pdo_g1c (h:TabP B bt w s) (hn:decide (now < 0)=false) (hm:decide (549755813888 < now)=false) (ht:a.tag.length≤140737488355328) (hx:nextB s a.tag=true) {m0:UInt8} {mr:List UInt8} (hmt:a.mt=m0 :: mr) (hh:a.has=true) (hsm:SmallD 140737488355328 a.doc) (hen:a.doc.entity.length+4≤1048576) (hcp:CapTu ts) (hts:∀ u,Below B w u → TusAt u ts a.doc.tuples∧StrsAt u ns a.doc.notes) {cd:Int} (hc:checkD a.doc=cd) (hc0:(cd != 0)=false) {s1:Sto} {td:Td} (hgo:∀ u,Below B w u → TabP B bt u s → Calls Tryz.prog 59 #[.pointer (some ⟨bt,0,none⟩),.int .i64 now,askV a ts ns] u fun e w'=>e=.returned (tdV td)∧TabP B bt w' s1∧FrP B u w') :
  Calls Tryz.prog 40 #[.pointer (some ⟨bt,0,none⟩),.int .i64 now,askV a ts ns] w fun e w'=>e=.returned (.tuple #[tdV td,.int .i64 0])∧TabP B bt w' s1∧FrP B w w':=by
 have HH:=hid hh;clear hh;have HM:=hid hmt;clear hmt;have hB:=h.lo;have HI:=hid (DoF.start (a:=a) (ts:=ts) (ns:=ns) h);clear h
 go_enter Tryz.func40,Tryz.ntmps40
 unfold askV
 go_upto_region 1 with fail
 generalize World.alloc (World.alloc _ _) _=W at HI ⊢;obtain ⟨a0,a1,a2,a3,a4,a5,a6,a7⟩:=bgA_of HI.out.ask;obtain ⟨z0,z1,z2,z3,f0,f1,f2,f3⟩:=HI.out.td.rc4;have KM:=hid HI.out.tab.made;go_wp2_with fail
 refine KM.out.mono ?_
 rintro e w2 ⟨rfl,hw2⟩;rw [hw2];clear hw2 KM w2;have KT:=hid (HI.out.tab.next (tag:=a.tag) ht);rw [hx] at KT;go_wp2_with fail
 refine KT.out.mono ?_
 rintro e w3 ⟨rfl,hw3⟩;rw [hw3];clear hw3 KT w3;have KC:=hid (pcheck_any a.doc ts ns W hsm hen hcp (hts _ HI.out.fr.below).1 (hts _ HI.out.fr.below).2);unfold docV at KC;rw [hc] at KC;have hh:=HH.out;rw [hh] at a3;go_wp2_with fail
 refine KC.out.mono ?_
 rintro e w4 ⟨rfl,hb4⟩;replace HI:=hid (HI.out.step hb4);clear KC hb4;clear a0 a1 a2 a3 a4 a5 a6 a7 z0 z1 z2 z3 f0 f1 f2 f3;obtain ⟨a0,a1,a2,a3,a4,a5,a6,a7⟩:=bgA_of HI.out.ask;obtain ⟨z0,z1,z2,z3,f0,f1,f2,f3⟩:=HI.out.td.rc4;rw [hh] at a3;have hmt:=HM.out;rw [hmt] at a1;have KG:=hid (hgo _ HI.out.fr.below HI.out.tab);unfold askV at KG;rw [hmt,HH.out] at KG;go_wp2_with fail
 refine KG.out.mono ?_
 rintro e w5 ⟨rfl,hT5,hF5⟩;replace HI:=hid (HI.out.did hT5 hF5);clear a0 a1 a2 a3 a4 a5 a6 a7 z0 z1 z2 z3 f0 f1 f2 f3 hT5 hF5 KG;obtain ⟨z0,z1,z2,z3,f0,f1,f2,f3⟩:=HI.out.td.rc4;have KEEP:=hid (HI.out.keep hB (.int .i64 td.status) (.int .i64 td.expires) (.string ⟨td.tag.toArray⟩) (.bool td.changed));unfold tdV;go_wp2;generalize World.setCell _ _ _=wA at KEEP ⊢;obtain ⟨⟨d0,d1,d2,d3,_,_,_,_⟩,hFA,hTA⟩:=KEEP.out
 try simp only [Exit.inBlock,Exit.then]
 refine bodyPost_ret (v:=.tuple #[.agg #[.int .i64 td.status,.int .i64 td.expires,.string ⟨td.tag.toArray⟩,.bool td.changed],.int .i64 0]) (by simp [results,Tryz.results40,go_sem,d0,d1,d2,d3]; try rfl) rfl ?_
 exact ⟨rfl,hTA,hFA⟩
end
theorem doS_bad {s:Sto} {now:Int} {a:Pa} (hb:badA s now a=true):doS s now a=(s,noTd,1):=by unfold doS; rw [if_pos hb]
theorem doS_code {s:Sto} {now:Int} {a:Pa} (hb:badA s now a=false):(doS s now a).2.2=0:=by
 unfold doS;rw [if_neg (by rw [hb]; simp)]
 repeat' split
 all_goals rfl
section
variable {B bt : Nat} {w w' : World} {s : Sto} {a : Pa} {ts ns : Value} {now : Int}
theorem pdo_any (h:TabP B bt w s) (hs:SmA a) (ht:a.tag.length≤140737488355328) (hl9:s.last≤1000000000)
  (hd:a.has=true → a.doc.entity.length+4≤1048576∧CapTu ts∧∀ u,Below B w u → TusAt u ts a.doc.tuples∧StrsAt u ns a.doc.notes) :
  Calls Tryz.prog 40 #[.pointer (some ⟨bt,0,none⟩),.int .i64 now,askV a ts ns] w fun e w'=>e=.returned (.tuple #[tdV (doS s now a).2.1,.int .i64 (doS s now a).2.2])∧TabP B bt w' (doS s now a).1∧FrP B w w':=by
 have hbn:=badA_next s now a
 have hgb:badA s now a=false → a.mt=[] → ∀ u,Below B w u → TabP B bt u s → Calls Tryz.prog 58 #[.pointer (some ⟨bt,0,none⟩),.int .i64 now,askV a ts ns] u fun e w'=>e=.returned (tdV (doS s now a).2.1)∧TabP B bt w' (doS s now a).1∧FrP B u w' :=
  fun hb hm u hu hT=>pbegin_did hT hs hb hm hl9 fun hh u' hu'=>(hd hh).2.2 u' (hu.trans hu')
 have hgc:badA s now a=false → a.mt ≠ [] → ∀ u,Below B w u → TabP B bt u s → Calls Tryz.prog 59 #[.pointer (some ⟨bt,0,none⟩),.int .i64 now,askV a ts ns] u fun e w'=>e=.returned (tdV (doS s now a).2.1)∧TabP B bt w' (doS s now a).1∧FrP B u w' :=
  fun hb hm u hu hT=>pchange_did hT hs hb hm fun hh u' hu'=>(hd hh).2.2 u' (hu.trans hu')
 cases h1:decide (now < 0) with
 | true =>
  rw [h1] at hbn;rw [doS_bad (show badA s now a=true by rw [hbn]; rfl)];exact pdo_b1 h h1
 | false =>
  cases h2:decide (549755813888 < now) with
  | true =>
   rw [h1,h2] at hbn;rw [doS_bad (show badA s now a=true by rw [hbn]; rfl)];exact pdo_b2 h h1 h2
  | false =>
   cases h3:nextB s a.tag with
   | false =>
    rw [h1,h2,h3] at hbn;rw [doS_bad (show badA s now a=true by rw [hbn]; rfl)];exact pdo_b3 h h1 h2 ht h3
   | true =>
    cases hh:a.has with
    | false =>
     rw [h1,h2,h3,hh] at hbn;have hb:badA s now a=false:=by rw [hbn]; rfl
     rw [doS_code hb]
     cases hm:a.mt with
     | nil=>exact pdo_g0b h h1 h2 ht h3 hm hh (hgb hb hm)
     | cons m0 mr=>exact pdo_g0c h h1 h2 ht h3 hm hh (hgc hb (by rw [hm]; simp))
    | true =>
     obtain ⟨hen,hcp,hts⟩:=hd hh;by_cases hc:checkD a.doc=0
     ·rw [h1,h2,h3,hh,decide_eq_true hc] at hbn;have hb:badA s now a=false:=by rw [hbn]; rfl
      rw [doS_code hb]
      cases hm:a.mt with
      | nil=>exact pdo_g1b h h1 h2 ht h3 hm hh hs.doc hen hcp hts hc rfl (hgb hb hm)
      | cons m0 mr=>exact pdo_g1c h h1 h2 ht h3 hm hh hs.doc hen hcp hts hc rfl (hgc hb (by rw [hm]; simp))
     ·rw [h1,h2,h3,hh,decide_eq_false hc] at hbn;rw [doS_bad (show badA s now a=true by rw [hbn]; rfl)];exact pdo_b4 h h1 h2 ht h3 hh rfl (by simpa using hc) hs.doc hen hcp hts
end
theorem makeNp (u:World):(Instr.makeMap 72 none).run Tryz.prog u=.ok (.map (some u.heap.size)) (u.alloc (.map #[] 0)):=by kernel_rfl
theorem makeAp (u:World):(Instr.makeMap 73 none).run Tryz.prog u=.ok (.map (some u.heap.size)) (u.alloc (.map #[] 0)):=by kernel_rfl
theorem HQ.lowerp {bw m B B':Nat} {v:Value} {w:World} {f:Nat → It} {n:Nat} (h:HQ bw m B v w f n) (hB:B'≤B):HQ bw m B' v w f n :=
 ⟨h.wheel,sv_mono h.own hB,h.item,h.inj,fun i hi=>Nat.le_trans hB (h.lo i hi)⟩
theorem WWm.lowerp {m bw B B':Nat} {w:World} {l:List Tm} (h:WWm m B bw w l) (hB:B'≤B):WWm m B' bw w l:=by
 obtain ⟨v,f,n,D,h,h4⟩:=h;exact ⟨v,f,n,D,⟨h.q.lowerp hB,h.k,h.mp,h.has,h.at',h.size,Nat.le_trans hB h.wlo,Nat.le_trans hB h.mlo,h.wf⟩,h4⟩
structure NewN (B:Nat) (u:World) (mn:Nat):Prop where
 lo:B≤mn
 own:u.ownsMap Tryz.prog 9 numP mn 0 (.map [])
theorem NewN.new {B mn:Nat} {u:World} (hk:mn=u.heap.size) (hB:B≤u.heap.size):NewN B (u.alloc (.map #[] 0)) mn:=⟨by omega,by rw [hk]; exact World.ownsMap_made u _ _ _⟩
theorem NewN.alloc {B mn:Nat} {u:World} (h:NewN B u mn) (o:Obj):NewN B (u.alloc o) mn:=⟨h.lo,h.own.alloc o⟩
structure NewA (B:Nat) (u:World) (ma:Nat):Prop where
 lo:B≤ma
 own:u.ownsMap Tryz.prog 3 pbE ma 0 (.map [])
theorem NewA.new {B mn:Nat} {u:World} (hk:mn=u.heap.size) (hB:B≤u.heap.size):NewA B (u.alloc (.map #[] 0)) mn:=⟨by omega,by rw [hk]; exact World.ownsMap_made u _ _ _⟩
theorem NewA.alloc {B mn:Nat} {u:World} (h:NewA B u mn) (o:Obj):NewA B (u.alloc o) mn:=⟨h.lo,h.own.alloc o⟩
theorem WWm.new1 {B be mw:Nat} {u:World} (hk:mw=u.heap.size) (hb:be=mw+1) (hB:B≤u.heap.size):WWm mw B be ((u.alloc (.map #[] 0)).alloc (.cells #[.slice none 0 0,.map (some mw)] 120)) []:=by
 subst hb hk;exact (WWm.begin u).lowerp hB
theorem WWm.alloc1 {B be mw:Nat} {u:World} (h:WWm mw B be u []) (o:Obj):WWm mw B be (u.alloc o) [] :=
 h.chg (S:=fun _=>False) (chg_below ((Below.refl _ u).alloc (Nat.le_refl _) o)) fun _ _ x=>x.elim
theorem pnew_fin {B b mn ma be mw:Nat} {u:World} {c:Cf} (hr:rightC c=true) (h1:NewN B u mn) (h2:NewA B u ma) (h3:WWm mw B be u []) (hb:b=u.heap.size) (n1:mn ≠ ma) (n2:mn ≠ mw) (n3:ma ≠ mw) (hB:B≤u.heap.size) :
  TabP B b (u.alloc (.cells #[.string ⟨#[]⟩,.int .i64 c.calls,.int .i64 c.pubs,.int .i64 c.subs,.int .i64 c.least,.int .i64 c.most,.int .i64 c.usual,.int .i64 0,.map (some mn),.map (some ma),.pointer (some ⟨be,0,none⟩)] 76)).drew ⟨c,0,[]⟩:=by
 generalize hO:(Obj.cells _ 76)=O;have hbl:Below u.heap.size u (u.alloc O).drew:=((Below.refl _ u).alloc (Nat.le_refl _) O).drew;have bel:∀ {k:TypeId} {R:Value → Option (DataW Unit × List MemPlace)} {b n:Nat} {D:DataW Unit},u.ownsMap Tryz.prog k R b n D → (u.alloc O).drew.ownsMap Tryz.prog k R b n D:=fun h=>own_chg h (chg_below (S:=fun _=>False) hbl) (fun x=>x);refine ⟨hr,StOK.nil hr,mn,ma,be,mw,[],[],rfl,fun x hx=>by simp at hx,fun x hx=>by simp at hx,⟨?_,⟨_,bel h1.own,MpG.nil _ _⟩,⟨_,bel h2.own,MpG.nil _ _⟩,?_,n1,n2,n3,by omega,h1.lo,h2.lo⟩,List.Perm.refl _⟩
 ·show RowIs (u.alloc O) b 76 _
  unfold RowIs;rw [hb,heap_alloc_new,← hO]
  rfl
 ·exact h3.chg (S:=fun _=>False) (chg_below hbl) fun _ _ x=>x.elim
theorem belowA {a w:World} (h:Below a.heap.size a w) (o:Obj):Below a.heap.size a (w.alloc o):=h.alloc h.size o
set_option maxHeartbeats 1000000 in
set_option maxRecDepth 100000 in
theorem pnew_ok (w:World) (c:Cf) (hr:rightC c=true) :
  Calls Tryz.prog 30 #[cfV c] w fun e w'=>∃ b,e=.returned (.tuple #[.pointer (some ⟨b,0,none⟩),.int .i64 0])∧TabP w.heap.size b w' ⟨c,0,[]⟩∧Below w.heap.size w w':=by
 have mN:=makeNp;have mA:=makeAp;have KN:=hid (fun (u:World)=>wmnew_any u);have KR:=hid (fun (u:World)=>pright_any c u);rw [hr] at KR;have HR:=hid hr;clear hr;have r1:=rp_row7 w (.string ⟨c.host.toArray⟩) (.int .i64 c.calls) (.int .i64 c.pubs) (.int .i64 c.subs) (.int .i64 c.least) (.int .i64 c.most) (.int .i64 c.usual) 23;have b1:Below w.heap.size w (w.alloc (.cells #[.string ⟨c.host.toArray⟩,.int .i64 c.calls,.int .i64 c.pubs,.int .i64 c.subs,.int .i64 c.least,.int .i64 c.most,.int .i64 c.usual] 23)):=(Below.refl _ w).alloc (Nat.le_refl _) _;unfold cfV at KR ⊢
 go_enter Tryz.func30,Tryz.ntmps30
 go_upto_region 1 with fail
 generalize World.alloc _ _=w1 at r1 b1 ⊢;obtain ⟨x0,x1,x2,x3,x4,x5,x6,_,_,_,_,_,_,_⟩:=r1.rp7;go_wp2_with fail
 refine (KR.out _).mono ?_
 rintro e w2 ⟨rfl,hb2⟩;have r2:=r1.below hb2 r1.bl;have b2:=b1.trans (hb2.mono b1.size);clear x0 x1 x2 x3 x4 x5 x6 r1 b1 hb2;obtain ⟨_,_,_,_,_,_,_,y0,y1,y2,y3,y4,y5,y6⟩:=r2.rp7;have r3:RowIs (w2.setCell ⟨w.heap.size,0,none⟩ (.string ⟨#[]⟩)) w.heap.size 23 [.string ⟨#[]⟩,.int .i64 c.calls,.int .i64 c.pubs,.int .i64 c.subs,.int .i64 c.least,.int .i64 c.most,.int .i64 c.usual]:=by simpa using r2.set 0 (.string ⟨#[]⟩)
 have b3:=b2.setCell (Nat.le_refl _) (p:=⟨w.heap.size,0,none⟩) (.string ⟨#[]⟩)
 go_upto_region 4 with fail
 clear y0 y1 y2 y3 y4 y5 y6 r2 b2;generalize World.setCell _ _ _=w3 at r3 b3 ⊢;obtain ⟨x0,x1,x2,x3,x4,x5,x6,_,_,_,_,_,_,_⟩:=(show RowIs w3.drew w.heap.size 23 [_,_,_,_,_,_,_] from r3).rp7;have H3:=hid (And.intro r3 b3);clear r3 b3;have HROW:=hid (fun (u:World) (hb:Below w3.heap.size w3 u)=>RowIs.rp7 (RowIs.below H3.out.1 hb H3.out.1.bl))
 go_region_held3 (fun w'=>w'.cell? ⟨w.heap.size,0,none⟩=some (.string ⟨#[]⟩)∧w'.cell? ⟨w.heap.size,1,none⟩=some (.int .i64 c.calls)∧w'.cell? ⟨w.heap.size,2,none⟩=some (.int .i64 c.pubs)∧w'.cell? ⟨w.heap.size,3,none⟩=some (.int .i64 c.subs)∧w'.cell? ⟨w.heap.size,4,none⟩=some (.int .i64 c.least)∧w'.cell? ⟨w.heap.size,5,none⟩=some (.int .i64 c.most)∧w'.cell? ⟨w.heap.size,6,none⟩=some (.int .i64 c.usual)) (first | ((try (refine ⟨?_,?_,?_,?_,?_,?_,?_⟩)) <;> first | exact (HROW.out _ (by (repeat (first | assumption | exact Below.refl _ _ | refine Below.drew ?_ | refine belowA ?_ _)))).1 | exact (HROW.out _ (by (repeat (first | assumption | exact Below.refl _ _ | refine Below.drew ?_ | refine belowA ?_ _)))).2 | exact (HROW.out _ (by (repeat (first | assumption | exact Below.refl _ _ | refine Below.drew ?_ | refine belowA ?_ _)))).3 | exact (HROW.out _ (by (repeat (first | assumption | exact Below.refl _ _ | refine Below.drew ?_ | refine belowA ?_ _)))).4 | exact (HROW.out _ (by (repeat (first | assumption | exact Below.refl _ _ | refine Below.drew ?_ | refine belowA ?_ _)))).5 | exact (HROW.out _ (by (repeat (first | assumption | exact Below.refl _ _ | refine Below.drew ?_ | refine belowA ?_ _)))).6 | exact (HROW.out _ (by (repeat (first | assumption | exact Below.refl _ _ | refine Below.drew ?_ | refine belowA ?_ _)))).7 | go_keep)) (first
  | (go_at_call 47; refine (KN.out _).mono ?_; rintro e w9 ⟨rfl,hw9⟩; clear KN x0 x1 x2 x3 x4 x5 x6; have hb9:Below w3.heap.size w3 w9:=(by rw [hw9]; (repeat (first | assumption | exact Below.refl _ _ | refine Below.drew ?_ | refine belowA ?_ _))); obtain ⟨x0,x1,x2,x3,x4,x5,x6,_,_,_,_,_,_,_⟩:=HROW.out _ hb9))
 all_goals (
  have hB3:=H3.out.2.size;clear x0 x1 x2 x3 x4 x5 x6 HROW KR;go_wp2;go_ret2;have hBel:∀ u,Below w3.heap.size w3 u → Below w.heap.size w u:=fun u hu=>H3.out.2.trans (hu.mono hB3);refine ⟨_,rfl,?_,hBel _ (by (repeat (first | assumption | exact Below.refl _ _ | refine Below.drew ?_ | refine belowA ?_ _)))⟩
  first
   | exact pnew_fin (mw:=w3.heap.size) HR.out (by (repeat (first | exact NewN.new (by first | rfl | (simp; done) | fail) (by first | omega | (simp; omega) | fail) | exact NewA.new (by first | rfl | (simp; done) | fail) (by first | omega | (simp; omega) | fail) | exact WWm.new1 (by first | rfl | (simp; done) | fail) (by first | rfl | omega | fail) (by first | omega | (simp; omega) | fail) | refine NewN.alloc ?_ _ | refine NewA.alloc ?_ _ | refine WWm.alloc1 ?_ _))) (by (repeat (first | exact NewN.new (by first | rfl | (simp; done) | fail) (by first | omega | (simp; omega) | fail) | exact NewA.new (by first | rfl | (simp; done) | fail) (by first | omega | (simp; omega) | fail) | exact WWm.new1 (by first | rfl | (simp; done) | fail) (by first | rfl | omega | fail) (by first | omega | (simp; omega) | fail) | refine NewN.alloc ?_ _ | refine NewA.alloc ?_ _ | refine WWm.alloc1 ?_ _))) (by (repeat (first | exact NewN.new (by first | rfl | (simp; done) | fail) (by first | omega | (simp; omega) | fail) | exact NewA.new (by first | rfl | (simp; done) | fail) (by first | omega | (simp; omega) | fail) | exact WWm.new1 (by first | rfl | (simp; done) | fail) (by first | rfl | omega | fail) (by first | omega | (simp; omega) | fail) | refine NewN.alloc ?_ _ | refine NewA.alloc ?_ _ | refine WWm.alloc1 ?_ _))) (by simp) (by omega) (by omega) (by omega) (by simp; omega)
   | exact pnew_fin (mw:=w3.heap.size+1) HR.out (by (repeat (first | exact NewN.new (by first | rfl | (simp; done) | fail) (by first | omega | (simp; omega) | fail) | exact NewA.new (by first | rfl | (simp; done) | fail) (by first | omega | (simp; omega) | fail) | exact WWm.new1 (by first | rfl | (simp; done) | fail) (by first | rfl | omega | fail) (by first | omega | (simp; omega) | fail) | refine NewN.alloc ?_ _ | refine NewA.alloc ?_ _ | refine WWm.alloc1 ?_ _))) (by (repeat (first | exact NewN.new (by first | rfl | (simp; done) | fail) (by first | omega | (simp; omega) | fail) | exact NewA.new (by first | rfl | (simp; done) | fail) (by first | omega | (simp; omega) | fail) | exact WWm.new1 (by first | rfl | (simp; done) | fail) (by first | rfl | omega | fail) (by first | omega | (simp; omega) | fail) | refine NewN.alloc ?_ _ | refine NewA.alloc ?_ _ | refine WWm.alloc1 ?_ _))) (by (repeat (first | exact NewN.new (by first | rfl | (simp; done) | fail) (by first | omega | (simp; omega) | fail) | exact NewA.new (by first | rfl | (simp; done) | fail) (by first | omega | (simp; omega) | fail) | exact WWm.new1 (by first | rfl | (simp; done) | fail) (by first | rfl | omega | fail) (by first | omega | (simp; omega) | fail) | refine NewN.alloc ?_ _ | refine NewA.alloc ?_ _ | refine WWm.alloc1 ?_ _))) (by simp) (by omega) (by omega) (by omega) (by simp; omega)
   | exact pnew_fin (mw:=w3.heap.size+1+1) HR.out (by (repeat (first | exact NewN.new (by first | rfl | (simp; done) | fail) (by first | omega | (simp; omega) | fail) | exact NewA.new (by first | rfl | (simp; done) | fail) (by first | omega | (simp; omega) | fail) | exact WWm.new1 (by first | rfl | (simp; done) | fail) (by first | rfl | omega | fail) (by first | omega | (simp; omega) | fail) | refine NewN.alloc ?_ _ | refine NewA.alloc ?_ _ | refine WWm.alloc1 ?_ _))) (by (repeat (first | exact NewN.new (by first | rfl | (simp; done) | fail) (by first | omega | (simp; omega) | fail) | exact NewA.new (by first | rfl | (simp; done) | fail) (by first | omega | (simp; omega) | fail) | exact WWm.new1 (by first | rfl | (simp; done) | fail) (by first | rfl | omega | fail) (by first | omega | (simp; omega) | fail) | refine NewN.alloc ?_ _ | refine NewA.alloc ?_ _ | refine WWm.alloc1 ?_ _))) (by (repeat (first | exact NewN.new (by first | rfl | (simp; done) | fail) (by first | omega | (simp; omega) | fail) | exact NewA.new (by first | rfl | (simp; done) | fail) (by first | omega | (simp; omega) | fail) | exact WWm.new1 (by first | rfl | (simp; done) | fail) (by first | rfl | omega | fail) (by first | omega | (simp; omega) | fail) | refine NewN.alloc ?_ _ | refine NewA.alloc ?_ _ | refine WWm.alloc1 ?_ _))) (by simp) (by omega) (by omega) (by omega) (by simp; omega)
   | fail)
set_option maxHeartbeats 1000000 in
set_option maxRecDepth 100000 in
theorem begun16_ok (w:World) (c:Cf) (hr:rightC c=true) :
  Calls Tryz.prog 9 #[cfV c] w fun e w'=>∃ b,e=.returned (.pointer (some ⟨b,0,none⟩))∧TabP w.heap.size b w' ⟨c,0,[]⟩∧Below w.heap.size w w':=by
 have KN:=hid (fun (u:World)=>pnew_ok u c hr);have r1:=rp_row7 w (.string ⟨c.host.toArray⟩) (.int .i64 c.calls) (.int .i64 c.pubs) (.int .i64 c.subs) (.int .i64 c.least) (.int .i64 c.most) (.int .i64 c.usual) 23;have b1:Below w.heap.size w (w.alloc (.cells #[.string ⟨c.host.toArray⟩,.int .i64 c.calls,.int .i64 c.pubs,.int .i64 c.subs,.int .i64 c.least,.int .i64 c.most,.int .i64 c.usual] 23)):=(Below.refl _ w).alloc (Nat.le_refl _) _;unfold cfV at KN ⊢
 go_enter Tryz.func9,Tryz.ntmps9
 go_upto_region 1 with fail
 generalize World.alloc _ _=w1 at r1 b1 ⊢;obtain ⟨x0,x1,x2,x3,x4,x5,x6,_,_,_,_,_,_,_⟩:=r1.rp7;go_wp2_with fail
 refine (KN.out _).mono ?_
 rintro e w2 ⟨b,rfl,hT,hb2⟩;have HT:=hid (And.intro hT hb2);clear hT hb2 x0 x1 x2 x3 x4 x5 x6;go_wp2;go_ret;have hT:=HT.out.1;obtain ⟨mn,ma,be,mw,cs,r,e1,h2,h3,h4,h5⟩:=hT.has;refine ⟨_,rfl,⟨hT.right,hT.ok,mn,ma,be,mw,cs,r,e1,h2,fun x hx=>?_,?_,h5⟩,b1.trans (HT.out.2.mono b1.size)⟩
 ·exact ⟨own_lower (h3 x hx).1 b1.size,own_lower (h3 x hx).2 b1.size⟩
 ·exact ⟨h4.row,h4.num,h4.all,h4.wheel.lowerp b1.size,h4.n1,h4.n2,h4.n3,Nat.le_trans b1.size h4.lb,Nat.le_trans b1.size h4.ln,Nat.le_trans b1.size h4.lm⟩
theorem bgA_ofR {w u:World} {a:Pa} {ts ns:Value} (h:RowIs u w.heap.size 37 (pskL a ts ns)):BgA w u a ts ns :=
 ⟨h.cell 0 (by simp [pskL]),h.cell 1 (by simp [pskL]),h.cell 2 (by simp [pskL]),h.cell 3 (by simp [pskL]),h.cell 4 (by simp [pskL]),h.cell 5 (by simp [pskL]),h.cell 6 (by simp [pskL]),h.cell 7 (by simp [pskL])⟩
section
variable {B bt : Nat} {w u u' : World} {s s' : Sto} {a : Pa} {ts ns : Value} {now : Int}
theorem TabP.putR {b:Nat} {us:List Value} (h:TabP B bt u s) (hr:RowIs u b 46 us) (hc:Chg (fun k=>k=b) u u'):TabP B bt u' s:=by
 obtain ⟨mn,ma,be,mw,cs,r,h1,h2,h3,h4,h5⟩:=h.has;exact ⟨h.right,h.ok,mn,ma,be,mw,cs,r,h1,h2,fun x hx=>⟨own_chgP (h3 x hx).1 hc hr (by decide),own_chgP (h3 x hx).2 hc hr (by decide)⟩,h4.put hr (by decide) (by decide) (by decide) (by decide) hc,h5⟩
set_option maxHeartbeats 4000000 in
set_option maxRecDepth 100000 in
theorem does16_any (h:TabP B bt w s) (hs:SmA a) (ht:a.tag.length≤140737488355328) (hl9:s.last≤1000000000)
  (hd:a.has=true → a.doc.entity.length+4≤1048576∧CapTu ts∧∀ u,Below B w u → TusAt u ts a.doc.tuples∧StrsAt u ns a.doc.notes) :
  Calls Tryz.prog 18 #[.pointer (some ⟨bt,0,none⟩),.int .i64 now,askV a ts ns] w fun e w'=>e=.returned (.tuple #[tdV (doS s now a).2.1,.int .i64 (doS s now a).2.2])∧TabP B bt w' (doS s now a).1∧FrP B w w':=by
 have hB:=h.lo;have K:=hid (fun (u:World) (hu:TabP B bt u s) (hb:Below B w u)=>pdo_any hu hs ht hl9 (now:=now) (a:=a) (ts:=ts) (ns:=ns) fun hh=>⟨(hd hh).1,(hd hh).2.1,fun u' hu'=>(hd hh).2.2 u' (hb.trans hu')⟩);generalize doS s now a=R at K ⊢;obtain ⟨s1,⟨st,ex,tg,ch⟩,er⟩:=R;simp only at K ⊢;have r5:RowIs (w.alloc (.cells #[.string ⟨a.who.toArray⟩,.string ⟨a.mt.toArray⟩,.int .i64 a.exp,.bool a.has,.string ⟨a.doc.entity.toArray⟩,ts,ns,.string ⟨a.tag.toArray⟩] 37)) w.heap.size 37 (pskL a ts ns):=by unfold RowIs; rw [heap_alloc_new]; rfl
 have b1:Below w.heap.size w (w.alloc (.cells #[.string ⟨a.who.toArray⟩,.string ⟨a.mt.toArray⟩,.int .i64 a.exp,.bool a.has,.string ⟨a.doc.entity.toArray⟩,ts,ns,.string ⟨a.tag.toArray⟩] 37)):=(Below.refl _ w).alloc (Nat.le_refl _) _;have z1:(w.alloc (.cells #[.string ⟨a.who.toArray⟩,.string ⟨a.mt.toArray⟩,.int .i64 a.exp,.bool a.has,.string ⟨a.doc.entity.toArray⟩,ts,ns,.string ⟨a.tag.toArray⟩] 37)).heap.size=w.heap.size+1:=by simp
 have HB:Hid (∃ W:World,W=(w.alloc (.cells #[.string ⟨a.who.toArray⟩,.string ⟨a.mt.toArray⟩,.int .i64 a.exp,.bool a.has,.string ⟨a.doc.entity.toArray⟩,ts,ns,.string ⟨a.tag.toArray⟩] 37)).alloc (.cells #[.int .i64 0,.int .i64 0,.string ⟨#[]⟩,.bool false] 46)∧RowIs W w.heap.size 37 (pskL a ts ns)∧RowIs W (w.heap.size+1) 46 [.int .i64 0,.int .i64 0,.string ⟨#[]⟩,.bool false]∧Below w.heap.size w W):=by
  generalize w.alloc _=w1 at r5 b1 z1 ⊢;have r6:=rc_row4 w1 (.int .i64 0) (.int .i64 0) (.string ⟨#[]⟩) (.bool false) 46;have b2:Below w1.heap.size w1 (w1.alloc (.cells #[.int .i64 0,.int .i64 0,.string ⟨#[]⟩,.bool false] 46)):=(Below.refl _ w1).alloc (Nat.le_refl _) _;rw [z1] at r6;exact ⟨_,rfl,r5.below b2 r5.bl,r6,b1.trans (b2.mono b1.size)⟩
 clear r5 b1 z1;obtain ⟨W,hW,q5,q6,qb⟩:=HB.out;have HT:=hid (h.below qb);have HQ:=hid (And.intro q5 (And.intro q6 qb));clear HB h hs hd;obtain ⟨a0,a1,a2,a3,a4,a5,a6,a7⟩:=bgA_ofR q5;clear q5 q6 qb
 go_enter Tryz.func18,Tryz.ntmps18
 unfold askV
 go_upto_region 1 with fail
 rw [← hW];clear hW;have KD:=hid (K.out W HT.out (HQ.out.2.2.mono hB));unfold askV tdV at KD;clear K HT;go_wp2_with fail
 refine KD.out.mono ?_
 rintro e w4 ⟨rfl,hT4,hF4⟩;have q6:=hF4.row HQ.out.2.1 (by decide) (by decide) (by decide) (by decide);have hF:=hid (((FrP.of HQ.out.2.2 hB):FrP B w W).trans hF4);have hT:=hid hT4;have q6s:=q6.bl;have r8:=rc_row4 w4 (.int .i64 st) (.int .i64 ex) (.string ⟨tg.toArray⟩) (.bool ch) 92;have b8:Below w4.heap.size w4 (w4.alloc (.cells #[.int .i64 st,.int .i64 ex,.string ⟨tg.toArray⟩,.bool ch] 92)):=(Below.refl _ w4).alloc (Nat.le_refl _) _;clear hT4 hF4 KD HQ a0 a1 a2 a3 a4 a5 a6 a7;have Q:=hid (And.intro q6 (And.intro r8 b8));clear q6 r8 b8
 go_upto_region 2 with fail
 generalize World.alloc _ _=w5 at Q ⊢;obtain ⟨q6,r8,b8⟩:=Q.out;have p6:=q6.below b8 q6.bl;obtain ⟨c0,c1,c2,c3,_,_,_,_⟩:=r8.rc4;obtain ⟨_,_,_,_,f0,f1,f2,f3⟩:=p6.rc4;have T5:=hT.out.below b8;have KEEP:=hid (And.intro ((rc_store4 p6 (.int .i64 st) (.int .i64 ex) (.string ⟨tg.toArray⟩) (.bool ch)).rc4) (And.intro (T5.putR p6 (chg4 w5 (w.heap.size+1) (.int .i64 st) (.int .i64 ex) (.string ⟨tg.toArray⟩) (.bool ch))) (((((hF.out.trans (FrP.of b8 hT.out.lo)).setn hB (show w.heap.size≤w.heap.size+1 by omega) (j:=0) (.int .i64 st)).setn hB (show w.heap.size≤w.heap.size+1 by omega) (j:=1) (.int .i64 ex)).setn hB (show w.heap.size≤w.heap.size+1 by omega) (j:=2) (.string ⟨tg.toArray⟩)).setn hB (show w.heap.size≤w.heap.size+1 by omega) (j:=3) (.bool ch))));clear q6 r8 b8 p6 T5 Q hT hF;go_wp2;generalize World.setCell _ _ _=wA at KEEP ⊢;obtain ⟨⟨d0,d1,d2,d3,_,_,_,_⟩,hTA,hFA⟩:=KEEP.out
 try simp only [Exit.inBlock,Exit.then]
 refine bodyPost_ret (v:=.tuple #[.agg #[.int .i64 st,.int .i64 ex,.string ⟨tg.toArray⟩,.bool ch],.int .i64 er]) (by simp [results,Tryz.results18,go_sem,d0,d1,d2,d3]; try rfl) rfl ?_
 exact ⟨rfl,hTA,hFA⟩
end
set_option maxHeartbeats 1000000 in
set_option maxRecDepth 100000 in
theorem plain16_any (w:World) (k:Int) :
  Calls Tryz.prog 28 #[.int .i64 k] w fun e w'=>e=.returned (cfV (plainC k))∧Below w.heap.size w w':=by
 have r1:=rp_row7 w (.string ⟨#[]⟩) (.int .i64 0) (.int .i64 0) (.int .i64 0) (.int .i64 0) (.int .i64 0) (.int .i64 0) 23;have b1:Below w.heap.size w (w.alloc (.cells #[.string ⟨#[]⟩,.int .i64 0,.int .i64 0,.int .i64 0,.int .i64 0,.int .i64 0,.int .i64 0] 23)):=(Below.refl _ w).alloc (Nat.le_refl _) _
 go_enter Tryz.func28,Tryz.ntmps28
 go_upto_region 1 with fail
 generalize World.alloc _ _=w1 at r1 b1 ⊢;obtain ⟨_,_,_,_,_,_,_,y0,y1,y2,y3,y4,y5,y6⟩:=r1.rp7;have KEEP:=hid (And.intro (rp_store7 r1 (.string ⟨#[]⟩) (.int .i64 1) (.int .i64 k) (.int .i64 1) (.int .i64 60) (.int .i64 3600) (.int .i64 600)) (rp_below7 b1 w.heap.size (Nat.le_refl _) (.string ⟨#[]⟩) (.int .i64 1) (.int .i64 k) (.int .i64 1) (.int .i64 60) (.int .i64 3600) (.int .i64 600)));clear r1 b1;go_wp2;generalize World.setCell _ _ _=wA at KEEP ⊢;obtain ⟨hrA,hbA⟩:=KEEP.out;obtain ⟨d0,d1,d2,d3,d4,d5,d6,_,_,_,_,_,_,_⟩:=hrA.rp7
 try simp only [Exit.inBlock,Exit.then]
 refine bodyPost_ret (v:=.agg #[.string ⟨#[]⟩,.int .i64 1,.int .i64 k,.int .i64 1,.int .i64 60,.int .i64 3600,.int .i64 600]) (by simp [results,Tryz.results28,go_sem,d0,d1,d2,d3,d4,d5,d6]; try rfl) rfl ?_
 exact ⟨rfl,hbA⟩
set_option maxHeartbeats 1000000 in
set_option maxRecDepth 100000 in
theorem doc16_any (w:World) (who:List UInt8) :
  Calls Tryz.prog 29 #[.string ⟨who.toArray⟩] w fun e w'=>e=.returned (docV ⟨who,[],[]⟩ (.slice none 0 0) (.slice none 0 0))∧Below w.heap.size w w':=by
 have r1:=rc_row3 w (.string ⟨#[]⟩) (.slice none 0 0) (.slice none 0 0) 35;have b1:Below w.heap.size w (w.alloc (.cells #[.string ⟨#[]⟩,.slice none 0 0,.slice none 0 0] 35)):=(Below.refl _ w).alloc (Nat.le_refl _) _
 go_enter Tryz.func29,Tryz.ntmps29
 go_upto_region 1 with fail
 generalize World.alloc _ _=w1 at r1 b1 ⊢;obtain ⟨_,_,_,y0,y1,y2⟩:=r1.rc3;have KEEP:=hid (And.intro (rc_store3 r1 (.string ⟨who.toArray⟩) (.slice none 0 0) (.slice none 0 0)) (rc_below3 b1 w.heap.size (Nat.le_refl _) (.string ⟨who.toArray⟩) (.slice none 0 0) (.slice none 0 0)));clear r1 b1;go_wp2;generalize World.setCell _ _ _=wA at KEEP ⊢;obtain ⟨hrA,hbA⟩:=KEEP.out;obtain ⟨d0,d1,d2,_,_,_⟩:=hrA.rc3
 try simp only [Exit.inBlock,Exit.then]
 refine bodyPost_ret (v:=.agg #[.string ⟨who.toArray⟩,.slice none 0 0,.slice none 0 0]) (by simp [results,Tryz.results29,go_sem,d0,d1,d2]; try rfl) rfl ?_
 exact ⟨rfl,hbA⟩
theorem awk_1:doS ⟨plainC 1,0,[]⟩ 0 ⟨[97,64,98],[],30,true,⟨[97,64,98],[],[]⟩,[120]⟩=(⟨plainC 1,0,[]⟩,⟨423,60,[],false⟩,0):=by kernel_rfl
theorem awk_2:doS ⟨plainC 1,0,[]⟩ 0 ⟨[97,64,98],[],-1,true,⟨[97,64,98],[],[]⟩,[120]⟩=(⟨plainC 1,1,[⟨1,[97,64,98],[120],6000,⟨[97,64,98],[],[]⟩⟩]⟩,⟨200,600,[120],true⟩,0):=by kernel_rfl
theorem awk_3:doS ⟨plainC 1,1,[⟨1,[97,64,98],[120],6000,⟨[97,64,98],[],[]⟩⟩]⟩ 0 ⟨[97,64,98],[120],0,false,⟨[],[],[]⟩,[121]⟩=(⟨plainC 1,1,[]⟩,⟨200,0,[121],true⟩,0):=by kernel_rfl
theorem awk_4:doS ⟨plainC 1,1,[]⟩ 0 ⟨[97,64,98],[120],0,false,⟨[],[],[]⟩,[122]⟩=(⟨plainC 1,1,[]⟩,⟨412,0,[],false⟩,0):=by kernel_rfl
theorem smD_nil (who:List UInt8) (h:who.length≤140737488355328):SmallD 140737488355328 ⟨who,[],[]⟩:=⟨h,by simp,by simp,by simp,by simp⟩
theorem capT_nil:CapTu (.slice none 0 0):=fun a n c e=>by injection e; omega
theorem told_row (w:World) {B bt:Nat} {s:Sto} (h:TabP B bt w s) (v0 v1 v2 v3:Value):TabP B bt (w.alloc (.cells #[v0,v1,v2,v3] 46)) s∧RowIs (w.alloc (.cells #[v0,v1,v2,v3] 46)) w.heap.size 46 [v0,v1,v2,v3]∧Below w.heap.size w (w.alloc (.cells #[v0,v1,v2,v3] 46)) :=
 ⟨h.below ((Below.refl _ w).alloc (Nat.le_refl _) _),rc_row4 w v0 v1 v2 v3 _,(Below.refl _ w).alloc (Nat.le_refl _) _⟩
set_option maxHeartbeats 4000000 in
set_option maxRecDepth 100000 in
theorem awake16_any (w:World):Calls Tryz.prog 12 #[] w fun e w'=>e=.returned (.bool true)∧Below w.heap.size w w':=by
 have sA1:SmA ⟨[97,64,98],[],30,true,⟨[97,64,98],[],[]⟩,[120]⟩:=⟨by decide,by decide,by decide,smD_nil _ (by decide),by decide,by decide⟩
 have sA2:SmA ⟨[97,64,98],[],-1,true,⟨[97,64,98],[],[]⟩,[120]⟩:=⟨by decide,by decide,by decide,smD_nil _ (by decide),by decide,by decide⟩
 have sA3:SmA ⟨[97,64,98],[120],0,false,⟨[],[],[]⟩,[121]⟩:=⟨by decide,by decide,by decide,smD_nil _ (by decide),by decide,by decide⟩
 have sA4:SmA ⟨[97,64,98],[120],0,false,⟨[],[],[]⟩,[122]⟩:=⟨by decide,by decide,by decide,smD_nil _ (by decide),by decide,by decide⟩
 have D1:Hid (∀ (B bt:Nat) (u:World),TabP B bt u ⟨plainC 1,0,[]⟩ → Calls Tryz.prog 18 #[.pointer (some ⟨bt,0,none⟩),.int .i64 0,askV ⟨[97,64,98],[],30,true,⟨[97,64,98],[],[]⟩,[120]⟩ (.slice none 0 0) (.slice none 0 0)] u fun e w'=>e=.returned (.tuple #[tdV ⟨423,60,[],false⟩,.int .i64 0])∧TabP B bt w' ⟨plainC 1,0,[]⟩∧FrP B u w'):=fun B bt u hu=>by
  have:=does16_any hu sA1 (by decide) (by decide) (now:=0) (ts:=.slice none 0 0) (ns:=.slice none 0 0) (fun _=>⟨by decide,capT_nil,fun _ _=>⟨⟨none,0,rfl,fun k hk=>by simp at hk⟩,⟨none,0,rfl,fun k hk=>by simp at hk⟩⟩⟩)
  rw [awk_1] at this;exact this
 have D2:Hid (∀ (B bt:Nat) (u:World),TabP B bt u ⟨plainC 1,0,[]⟩ → Calls Tryz.prog 18 #[.pointer (some ⟨bt,0,none⟩),.int .i64 0,askV ⟨[97,64,98],[],-1,true,⟨[97,64,98],[],[]⟩,[120]⟩ (.slice none 0 0) (.slice none 0 0)] u fun e w'=>e=.returned (.tuple #[tdV ⟨200,600,[120],true⟩,.int .i64 0])∧TabP B bt w' ⟨plainC 1,1,[⟨1,[97,64,98],[120],6000,⟨[97,64,98],[],[]⟩⟩]⟩∧FrP B u w'):=fun B bt u hu=>by
  have:=does16_any hu sA2 (by decide) (by decide) (now:=0) (ts:=.slice none 0 0) (ns:=.slice none 0 0) (fun _=>⟨by decide,capT_nil,fun _ _=>⟨⟨none,0,rfl,fun k hk=>by simp at hk⟩,⟨none,0,rfl,fun k hk=>by simp at hk⟩⟩⟩)
  rw [awk_2] at this;exact this
 have D3:Hid (∀ (B bt:Nat) (u:World),TabP B bt u ⟨plainC 1,1,[⟨1,[97,64,98],[120],6000,⟨[97,64,98],[],[]⟩⟩]⟩ → Calls Tryz.prog 18 #[.pointer (some ⟨bt,0,none⟩),.int .i64 0,askV ⟨[97,64,98],[120],0,false,⟨[],[],[]⟩,[121]⟩ (.slice none 0 0) (.slice none 0 0)] u fun e w'=>e=.returned (.tuple #[tdV ⟨200,0,[121],true⟩,.int .i64 0])∧TabP B bt w' ⟨plainC 1,1,[]⟩∧FrP B u w'):=fun B bt u hu=>by
  have:=does16_any hu sA3 (by decide) (by decide) (now:=0) (ts:=.slice none 0 0) (ns:=.slice none 0 0) (fun h=>by cases h)
  rw [awk_3] at this;exact this
 have D4:Hid (∀ (B bt:Nat) (u:World),TabP B bt u ⟨plainC 1,1,[]⟩ → Calls Tryz.prog 18 #[.pointer (some ⟨bt,0,none⟩),.int .i64 0,askV ⟨[97,64,98],[120],0,false,⟨[],[],[]⟩,[122]⟩ (.slice none 0 0) (.slice none 0 0)] u fun e w'=>e=.returned (.tuple #[tdV ⟨412,0,[],false⟩,.int .i64 0])∧TabP B bt w' ⟨plainC 1,1,[]⟩∧FrP B u w'):=fun B bt u hu=>by
  have:=does16_any hu sA4 (by decide) (by decide) (now:=0) (ts:=.slice none 0 0) (ns:=.slice none 0 0) (fun h=>by cases h)
  rw [awk_4] at this;exact this
 clear sA1 sA2 sA3 sA4;unfold askV tdV at D1 D2 D3 D4;have KP:=hid (fun (u:World)=>plain16_any u 1);have KB:=hid (fun (u:World)=>begun16_ok u (plainC 1) (plain_right (by decide) (by decide)));unfold cfV plainC at KP KB;have KO:=hid (fun (u:World)=>doc16_any u [97,64,98]);unfold docV at KO
 go_enter Tryz.func12,Tryz.ntmps12
 go_wp2_with fail
 refine (KP.out _).mono ?_
 rintro e w1 ⟨rfl,hb1⟩;go_wp2_with fail
 refine (KB.out _).mono ?_
 rintro e w2 ⟨bt,rfl,hT2,hb2⟩;have hB:w.heap.size≤w1.heap.size:=hb1.size;have bel:=hid (hb1.trans (hb2.mono hB));clear hb1 hb2;go_wp2_with fail
 refine (KO.out _).mono ?_
 rintro e u1 ⟨rfl,hb1⟩;have T1:=hT2.below hb1;have bel:=hid (bel.out.trans (hb1.mono bel.out.size));clear hb1;go_wp2_with fail
 refine (D1.out _ _ _ T1).mono ?_
 rintro e w4 ⟨rfl,hT4,hF4⟩;have bel:=hid (bel.out.trans (hF4.below.mono hB));have X:=told_row w4 hT4 (.int .i64 423) (.int .i64 60) (.string ⟨#[]⟩) (.bool false);have R1:=hid X.2.1;have TT1:=X.1;have bel:=hid (bel.out.trans (X.2.2.mono bel.out.size));clear X hT4 hF4 D1
 go_upto_region 5 with fail
 generalize w4.heap.size=g1 at R1 ⊢;generalize World.alloc _ _=v1 at R1 TT1 bel ⊢;go_wp2_with fail
 refine (KO.out _).mono ?_
 rintro e u2 ⟨rfl,hb2⟩;have T2:=TT1.below hb2;have bel:=hid (bel.out.trans (hb2.mono bel.out.size));have R1:=hid (R1.out.below hb2 R1.out.bl);clear hb2;go_wp2_with fail
 refine (D2.out _ _ _ T2).mono ?_
 rintro e w5 ⟨rfl,hT5,hF5⟩;have bel:=hid (bel.out.trans (hF5.below.mono hB));have R1:=hid (hF5.row R1.out (by decide) (by decide) (by decide) (by decide));have X:=told_row w5 hT5 (.int .i64 200) (.int .i64 600) (.string ⟨#[120]⟩) (.bool true);have R1:=hid (R1.out.below X.2.2 R1.out.bl);have R2:=hid X.2.1;have TT2:=X.1;have bel:=hid (bel.out.trans (X.2.2.mono bel.out.size));clear X hT5 hF5 D2
 go_upto_region 6 with fail
 generalize w5.heap.size=g2 at R2 ⊢;generalize World.alloc _ _=v2 at R1 R2 TT2 bel ⊢;go_wp2_with fail
 refine (D3.out _ _ _ TT2).mono ?_
 rintro e w6 ⟨rfl,hT6,hF6⟩;have bel:=hid (bel.out.trans (hF6.below.mono hB));have R1:=hid (hF6.row R1.out (by decide) (by decide) (by decide) (by decide));have R2:=hid (hF6.row R2.out (by decide) (by decide) (by decide) (by decide));have X:=told_row w6 hT6 (.int .i64 200) (.int .i64 0) (.string ⟨#[121]⟩) (.bool true);have R1:=hid (R1.out.below X.2.2 R1.out.bl);have R2:=hid (R2.out.below X.2.2 R2.out.bl);have R3:=hid X.2.1;have TT3:=X.1;have bel:=hid (bel.out.trans (X.2.2.mono bel.out.size));clear X hT6 hF6 D3
 go_upto_region 7 with fail
 generalize w6.heap.size=g3 at R3 ⊢;generalize World.alloc _ _=v3 at R1 R2 R3 TT3 bel ⊢;go_wp2_with fail
 refine (D4.out _ _ _ TT3).mono ?_
 rintro e w7 ⟨rfl,hT7,hF7⟩;have bel:=hid (bel.out.trans (hF7.below.mono hB));have R1:=hid (hF7.row R1.out (by decide) (by decide) (by decide) (by decide));have R2:=hid (hF7.row R2.out (by decide) (by decide) (by decide) (by decide));have R3:=hid (hF7.row R3.out (by decide) (by decide) (by decide) (by decide));have X:=told_row w7 hT7 (.int .i64 412) (.int .i64 0) (.string ⟨#[]⟩) (.bool false);have R1:=hid (R1.out.below X.2.2 R1.out.bl);have R2:=hid (R2.out.below X.2.2 R2.out.bl);have R3:=hid (R3.out.below X.2.2 R3.out.bl);have R4:=hid X.2.1;have TT4:=X.1;have bel:=hid (bel.out.trans (X.2.2.mono bel.out.size));clear X hT7 hF7 D4
 go_upto_region 8 with fail
 generalize w7.heap.size=g4 at R4 ⊢;generalize World.alloc _ _=v4 at R1 R2 R3 R4 TT4 bel ⊢;obtain ⟨p0,p1,p2,p3,_,_,_,_⟩:=R1.out.rc4;obtain ⟨q0,q1,q2,q3,_,_,_,_⟩:=R2.out.rc4;obtain ⟨r0,r1,r2,r3,_,_,_,_⟩:=R3.out.rc4;obtain ⟨s0,s1,s2,s3,_,_,_,_⟩:=R4.out.rc4;go_wp2;go_ret;exact ⟨rfl,bel.out⟩
end Go.Proofs.YteicmbhilambpaaGreatDoor
