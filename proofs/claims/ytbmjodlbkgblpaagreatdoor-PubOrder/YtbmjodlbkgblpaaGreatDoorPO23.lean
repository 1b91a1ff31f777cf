/-
  PtC, PShelf, PtH, PtI, PtJ, PubW.
-/
import Derived.Test.YtbmjodlbkgblpaaGreatDoorPO22
import Derived.Shelf.Sort.Plain
import Derived.Shelf.Slices.CompactS
import Derived.Shelf.Slices.In.SortNone
import Derived.Shelf.SlicesG.Cmp
import Derived.Shelf.SlSortCmp.WholeK
import Derived.Shelf.SlGeneric
import Derived.Test.YtbmjodlbkgblpaaGreatDoorProg
import Derived.Sort.OwnSorted
set_option linter.unusedVariables false
set_option linter.unusedSimpArgs false
set_option maxRecDepth 20000
namespace Go.Proofs.YtbmjodlbkgblpaaGreatDoor
open Go.RowKit Go.Maps Go.WideMaps Sc
set_option maxHeartbeats 1000000 in
set_option maxRecDepth 100000 in
theorem pnew_ok (w:World) (c:Cf) (hr:rightC c=true) :
  Calls Tryz.prog 18 #[cfV c] w fun e w'=>∃ b,e=.returned (.tuple #[.pointer (some ⟨b,0,none⟩),.int .i64 0])∧TabP w.heap.size b w' ⟨c,0,[]⟩∧Below w.heap.size w w':=by
 have mN:=makeNp;have mA:=makeAp;have KN:=hid (fun (u:World)=>wmnew_any u);have KR:=hid (fun (u:World)=>pright_any c u);rw [hr] at KR;have HR:=hid hr;clear hr;have r1:=rp_row7 w (.string ⟨c.host.toArray⟩) (.int .i64 c.calls) (.int .i64 c.pubs) (.int .i64 c.subs) (.int .i64 c.least) (.int .i64 c.most) (.int .i64 c.usual) 25;have b1:Below w.heap.size w (w.alloc (.cells #[.string ⟨c.host.toArray⟩,.int .i64 c.calls,.int .i64 c.pubs,.int .i64 c.subs,.int .i64 c.least,.int .i64 c.most,.int .i64 c.usual] 25)):=(Below.refl _ w).alloc (Nat.le_refl _) _;unfold cfV at KR ⊢
 go_enter Tryz.func18,Tryz.ntmps18
 go_upto_region 1 with fail
 generalize World.alloc _ _=w1 at r1 b1 ⊢;obtain ⟨x0,x1,x2,x3,x4,x5,x6,_,_,_,_,_,_,_⟩:=r1.rp7;go_wp2_with fail
 refine (KR.out _).mono ?_
 rintro e w2 ⟨rfl,hb2⟩;have r2:=r1.below hb2 r1.bl;have b2:=b1.trans (hb2.mono b1.size);clear x0 x1 x2 x3 x4 x5 x6 r1 b1 hb2;obtain ⟨_,_,_,_,_,_,_,y0,y1,y2,y3,y4,y5,y6⟩:=r2.rp7;have r3:RowIs (w2.setCell ⟨w.heap.size,0,none⟩ (.string ⟨#[]⟩)) w.heap.size 25 [.string ⟨#[]⟩,.int .i64 c.calls,.int .i64 c.pubs,.int .i64 c.subs,.int .i64 c.least,.int .i64 c.most,.int .i64 c.usual]:=by simpa using r2.set 0 (.string ⟨#[]⟩)
 have b3:=b2.setCell (Nat.le_refl _) (p:=⟨w.heap.size,0,none⟩) (.string ⟨#[]⟩)
 go_upto_region 4 with fail
 clear y0 y1 y2 y3 y4 y5 y6 r2 b2;generalize World.setCell _ _ _=w3 at r3 b3 ⊢;obtain ⟨x0,x1,x2,x3,x4,x5,x6,_,_,_,_,_,_,_⟩:=(show RowIs w3.drew w.heap.size 25 [_,_,_,_,_,_,_] from r3).rp7;have H3:=hid (And.intro r3 b3);clear r3 b3;have HROW:=hid (fun (u:World) (hb:Below w3.heap.size w3 u)=>RowIs.rp7 (RowIs.below H3.out.1 hb H3.out.1.bl))
 go_region_held3 (fun w'=>w'.cell? ⟨w.heap.size,0,none⟩=some (.string ⟨#[]⟩)∧w'.cell? ⟨w.heap.size,1,none⟩=some (.int .i64 c.calls)∧w'.cell? ⟨w.heap.size,2,none⟩=some (.int .i64 c.pubs)∧w'.cell? ⟨w.heap.size,3,none⟩=some (.int .i64 c.subs)∧w'.cell? ⟨w.heap.size,4,none⟩=some (.int .i64 c.least)∧w'.cell? ⟨w.heap.size,5,none⟩=some (.int .i64 c.most)∧w'.cell? ⟨w.heap.size,6,none⟩=some (.int .i64 c.usual)) (first | ((try (refine ⟨?_,?_,?_,?_,?_,?_,?_⟩)) <;> first | exact (HROW.out _ (by (repeat (first | assumption | exact Below.refl _ _ | refine Below.drew ?_ | refine belowA ?_ _)))).1 | exact (HROW.out _ (by (repeat (first | assumption | exact Below.refl _ _ | refine Below.drew ?_ | refine belowA ?_ _)))).2 | exact (HROW.out _ (by (repeat (first | assumption | exact Below.refl _ _ | refine Below.drew ?_ | refine belowA ?_ _)))).3 | exact (HROW.out _ (by (repeat (first | assumption | exact Below.refl _ _ | refine Below.drew ?_ | refine belowA ?_ _)))).4 | exact (HROW.out _ (by (repeat (first | assumption | exact Below.refl _ _ | refine Below.drew ?_ | refine belowA ?_ _)))).5 | exact (HROW.out _ (by (repeat (first | assumption | exact Below.refl _ _ | refine Below.drew ?_ | refine belowA ?_ _)))).6 | exact (HROW.out _ (by (repeat (first | assumption | exact Below.refl _ _ | refine Below.drew ?_ | refine belowA ?_ _)))).7 | go_keep)) (first
  | (go_at_call 30; refine (KN.out _).mono ?_; rintro e w9 ⟨rfl,hw9⟩; clear KN x0 x1 x2 x3 x4 x5 x6; have hb9:Below w3.heap.size w3 w9:=(by rw [hw9]; (repeat (first | assumption | exact Below.refl _ _ | refine Below.drew ?_ | refine belowA ?_ _))); obtain ⟨x0,x1,x2,x3,x4,x5,x6,_,_,_,_,_,_,_⟩:=HROW.out _ hb9))
 all_goals (
  have hB3:=H3.out.2.size;clear x0 x1 x2 x3 x4 x5 x6 HROW KR;go_wp2;go_ret2;have hBel:∀ u,Below w3.heap.size w3 u → Below w.heap.size w u:=fun u hu=>H3.out.2.trans (hu.mono hB3);refine ⟨_,rfl,?_,hBel _ (by (repeat (first | assumption | exact Below.refl _ _ | refine Below.drew ?_ | refine belowA ?_ _)))⟩
  first
   | exact pnew_fin (mw:=w3.heap.size) HR.out (by (repeat (first | exact NewN.new (by first | rfl | (simp; done) | fail) (by first | omega | (simp; omega) | fail) | exact NewA.new (by first | rfl | (simp; done) | fail) (by first | omega | (simp; omega) | fail) | exact WWm.new1 (by first | rfl | (simp; done) | fail) (by first | rfl | omega | fail) (by first | omega | (simp; omega) | fail) | refine NewN.alloc ?_ _ | refine NewA.alloc ?_ _ | refine WWm.alloc1 ?_ _))) (by (repeat (first | exact NewN.new (by first | rfl | (simp; done) | fail) (by first | omega | (simp; omega) | fail) | exact NewA.new (by first | rfl | (simp; done) | fail) (by first | omega | (simp; omega) | fail) | exact WWm.new1 (by first | rfl | (simp; done) | fail) (by first | rfl | omega | fail) (by first | omega | (simp; omega) | fail) | refine NewN.alloc ?_ _ | refine NewA.alloc ?_ _ | refine WWm.alloc1 ?_ _))) (by (repeat (first | exact NewN.new (by first | rfl | (simp; done) | fail) (by first | omega | (simp; omega) | fail) | exact NewA.new (by first | rfl | (simp; done) | fail) (by first | omega | (simp; omega) | fail) | exact WWm.new1 (by first | rfl | (simp; done) | fail) (by first | rfl | omega | fail) (by first | omega | (simp; omega) | fail) | refine NewN.alloc ?_ _ | refine NewA.alloc ?_ _ | refine WWm.alloc1 ?_ _))) (by simp) (by omega) (by omega) (by omega) (by simp; omega)
   | exact pnew_fin (mw:=w3.heap.size+1) HR.out (by (repeat (first | exact NewN.new (by first | rfl | (simp; done) | fail) (by first | omega | (simp; omega) | fail) | exact NewA.new (by first | rfl | (simp; done) | fail) (by first | omega | (simp; omega) | fail) | exact WWm.new1 (by first | rfl | (simp; done) | fail) (by first | rfl | omega | fail) (by first | omega | (simp; omega) | fail) | refine NewN.alloc ?_ _ | refine NewA.alloc ?_ _ | refine WWm.alloc1 ?_ _))) (by (repeat (first | exact NewN.new (by first | rfl | (simp; done) | fail) (by first | omega | (simp; omega) | fail) | exact NewA.new (by first | rfl | (simp; done) | fail) (by first | omega | (simp; omega) | fail) | exact WWm.new1 (by first | rfl | (simp; done) | fail) (by first | rfl | omega | fail) (by first | omega | (simp; omega) | fail) | refine NewN.alloc ?_ _ | refine NewA.alloc ?_ _ | refine WWm.alloc1 ?_ _))) (by (repeat (first | exact NewN.new (by first | rfl | (simp; done) | fail) (by first | omega | (simp; omega) | fail) | exact NewA.new (by first | rfl | (simp; done) | fail) (by first | omega | (simp; omega) | fail) | exact WWm.new1 (by first | rfl | (simp; done) | fail) (by first | rfl | omega | fail) (by first | omega | (simp; omega) | fail) | refine NewN.alloc ?_ _ | refine NewA.alloc ?_ _ | refine WWm.alloc1 ?_ _))) (by simp) (by omega) (by omega) (by omega) (by simp; omega)
   | exact pnew_fin (mw:=w3.heap.size+1+1) HR.out (by (repeat (first | exact NewN.new (by first | rfl | (simp; done) | fail) (by first | omega | (simp; omega) | fail) | exact NewA.new (by first | rfl | (simp; done) | fail) (by first | omega | (simp; omega) | fail) | exact WWm.new1 (by first | rfl | (simp; done) | fail) (by first | rfl | omega | fail) (by first | omega | (simp; omega) | fail) | refine NewN.alloc ?_ _ | refine NewA.alloc ?_ _ | refine WWm.alloc1 ?_ _))) (by (repeat (first | exact NewN.new (by first | rfl | (simp; done) | fail) (by first | omega | (simp; omega) | fail) | exact NewA.new (by first | rfl | (simp; done) | fail) (by first | omega | (simp; omega) | fail) | exact WWm.new1 (by first | rfl | (simp; done) | fail) (by first | rfl | omega | fail) (by first | omega | (simp; omega) | fail) | refine NewN.alloc ?_ _ | refine NewA.alloc ?_ _ | refine WWm.alloc1 ?_ _))) (by (repeat (first | exact NewN.new (by first | rfl | (simp; done) | fail) (by first | omega | (simp; omega) | fail) | exact NewA.new (by first | rfl | (simp; done) | fail) (by first | omega | (simp; omega) | fail) | exact WWm.new1 (by first | rfl | (simp; done) | fail) (by first | rfl | omega | fail) (by first | omega | (simp; omega) | fail) | refine NewN.alloc ?_ _ | refine NewA.alloc ?_ _ | refine WWm.alloc1 ?_ _))) (by simp) (by omega) (by omega) (by omega) (by simp; omega)
   | fail)
end Go.Proofs.YtbmjodlbkgblpaaGreatDoor
namespace Go.Proofs.YtbmjodlbkgblpaaGreatDoor
open Go.Shelf
def laysSlC25_f45_ren:Go.Shelf.Ren:=⟨fun | 5=>16 | 7=>28 | n=>n,fun | 22=>3 | 3=>3 | 4=>4 | n=>n,fun | n=>n⟩
theorem laysSlC25_f45:Go.Proofs.SlLaysC2.n5 Tryz.prog laysSlC25_f45_ren:={
 mixed:=by kernel_rfl
 f5:=⟨Tryz.f16.name,by decide,Tryz.func16.trans (congrArg some (by kernel_rfl))⟩
 f7:=⟨Tryz.f28.name,by decide,Tryz.func28.trans (congrArg some (by kernel_rfl))⟩
 t3:=Tryz.underlying3
 a3:=Tryz.isAgg3
 z3:=Tryz.sizeOf3
 v3:=Tryz.zeroValue3
 t4:=Tryz.underlying4
 a4:=Tryz.isAgg4
 z4:=Tryz.sizeOf4
 v4:=Tryz.zeroValue4
 t22:=Tryz.underlying3
 a22:=Tryz.isAgg3
 z22:=Tryz.sizeOf3
 v22:=Tryz.zeroValue3 }
open Go.Lib in
theorem cmp_Compare_int (x y:Int) (w:World) :
  Calls Tryz.prog 16 #[.int .i64 x,.int .i64 y] w fun e w'=>e=.returned (.int .i64 (Lib.compareInt x y))∧w'=w:=AnyG.cmp_Compare_int laysSlC25_f45 x y w
def sortFn_ren:Go.Shelf.Ren:=⟨fun | 6=>14 | 15=>27 | 14=>26 | 28=>49 | 29=>50 | 20=>41 | 21=>42 | 22=>43 | 23=>44 | 24=>45 | 25=>46 | 26=>47 | 27=>48 | 46=>68 | 47=>69 | 48=>70 | 49=>71 | 50=>72 | 57=>92 | n=>n,fun | 22=>26 | 24=>37 | 25=>61 | 3=>3 | 39=>79 | 0=>0 | 53=>99 | 55=>101 | 4=>4 | 46=>93 | 45=>92 | 50=>73 | 5=>5 | 9=>9 | 66=>126 | 70=>130 | 76=>150 | 77=>151 | n=>n,fun | n=>n⟩
theorem sortFn:Go.Proofs.SlLaysF0.n6 Tryz.prog sortFn_ren:={
 mixed:=by kernel_rfl
 f6:=⟨Tryz.f14.name,by decide,Tryz.func14.trans (congrArg some (by kernel_rfl))⟩
 f14:=⟨Tryz.f26.name,by decide,Tryz.func26.trans (congrArg some (by kernel_rfl))⟩
 f15:=Tryz.func27.trans (congrArg some (by kernel_rfl))
 f20:=⟨Tryz.f41.name,by decide,Tryz.func41.trans (congrArg some (by kernel_rfl))⟩
 f21:=⟨Tryz.f42.name,by decide,Tryz.func42.trans (congrArg some (by kernel_rfl))⟩
 f22:=⟨Tryz.f43.name,by decide,Tryz.func43.trans (congrArg some (by kernel_rfl))⟩
 f23:=⟨Tryz.f44.name,by decide,Tryz.func44.trans (congrArg some (by kernel_rfl))⟩
 f24:=⟨Tryz.f45.name,by decide,Tryz.func45.trans (congrArg some (by kernel_rfl))⟩
 f25:=⟨Tryz.f46.name,by decide,Tryz.func46.trans (congrArg some (by kernel_rfl))⟩
 f26:=⟨Tryz.f47.name,by decide,Tryz.func47.trans (congrArg some (by kernel_rfl))⟩
 f27:=⟨Tryz.f48.name,by decide,Tryz.func48.trans (congrArg some (by kernel_rfl))⟩
 f28:=Tryz.func49.trans (congrArg some (by kernel_rfl))
 f29:=Tryz.func50.trans (congrArg some (by kernel_rfl))
 f46:=⟨Tryz.f68.name,by decide,Tryz.func68.trans (congrArg some (by kernel_rfl))⟩
 f47:=Tryz.func69.trans (congrArg some (by kernel_rfl))
 f48:=Tryz.func70.trans (congrArg some (by kernel_rfl))
 f49:=⟨Tryz.f71.name,by decide,Tryz.func71.trans (congrArg some (by kernel_rfl))⟩
 f50:=⟨Tryz.f72.name,by decide,Tryz.func72.trans (congrArg some (by kernel_rfl))⟩
 f57:=⟨Tryz.f92.name,by decide,Tryz.func92.trans (congrArg some (by kernel_rfl))⟩
 t0:=Tryz.underlying0
 a0:=Tryz.isAgg0
 z0:=Tryz.sizeOf0
 v0:=Tryz.zeroValue0
 t3:=Tryz.underlying3
 a3:=Tryz.isAgg3
 z3:=Tryz.sizeOf3
 v3:=Tryz.zeroValue3
 t4:=Tryz.underlying4
 a4:=Tryz.isAgg4
 z4:=Tryz.sizeOf4
 v4:=Tryz.zeroValue4
 t5:=Tryz.underlying5
 a5:=Tryz.isAgg5
 z5:=Tryz.sizeOf5
 v5:=Tryz.zeroValue5
 t9:=Tryz.underlying9
 a9:=Tryz.isAgg9
 z9:=Tryz.sizeOf9
 v9:=Tryz.zeroValue9
 t22:=Tryz.underlying26
 a22:=Tryz.isAgg26
 z22:=Tryz.sizeOf26
 v22:=Tryz.zeroValue26
 t25:=Tryz.underlying61
 a25:=Tryz.isAgg61
 z25:=Tryz.sizeOf61
 v25:=Tryz.zeroValue61
 t39:=Tryz.underlying79
 a39:=Tryz.isAgg79
 z39:=Tryz.sizeOf79
 v39:=Tryz.zeroValue79
 t45:=Tryz.underlying92
 a45:=Tryz.isAgg92
 z45:=Tryz.sizeOf92
 v45:=Tryz.zeroValue92
 t46:=Tryz.underlying93
 a46:=Tryz.isAgg93
 z46:=Tryz.sizeOf93
 v46:=Tryz.zeroValue93
 t50:=Tryz.underlying73
 a50:=Tryz.isAgg73
 z50:=Tryz.sizeOf73
 v50:=Tryz.zeroValue73
 t53:=Tryz.underlying99
 a53:=Tryz.isAgg99
 z53:=Tryz.sizeOf99
 v53:=Tryz.zeroValue99
 t55:=Tryz.underlying101
 a55:=Tryz.isAgg101
 z55:=Tryz.sizeOf101
 v55:=Tryz.zeroValue101
 t66:=Tryz.underlying126
 a66:=Tryz.isAgg126
 z66:=Tryz.sizeOf126
 v66:=Tryz.zeroValue126
 t70:=Tryz.underlying130
 a70:=Tryz.isAgg130
 z70:=Tryz.sizeOf130
 v70:=Tryz.zeroValue130
 t76:=Tryz.underlying150
 a76:=Tryz.isAgg150
 z76:=Tryz.sizeOf150
 v76:=Tryz.zeroValue150
 t77:=Tryz.underlying151
 a77:=Tryz.isAgg151
 z77:=Tryz.sizeOf151
 v77:=Tryz.zeroValue151 }
end Go.Proofs.YtbmjodlbkgblpaaGreatDoor
namespace Go.Proofs.YtbmjodlbkgblpaaGreatDoor
open Go.RowKit Go.Maps Go.WideMaps Sc
set_option maxHeartbeats 1000000 in
set_option maxRecDepth 100000 in
theorem begun16_ok (w:World) (c:Cf) (hr:rightC c=true) :
  Calls Tryz.prog 7 #[cfV c] w fun e w'=>∃ b,e=.returned (.pointer (some ⟨b,0,none⟩))∧TabP w.heap.size b w' ⟨c,0,[]⟩∧Below w.heap.size w w':=by
 have KN:=hid (fun (u:World)=>pnew_ok u c hr);have r1:=rp_row7 w (.string ⟨c.host.toArray⟩) (.int .i64 c.calls) (.int .i64 c.pubs) (.int .i64 c.subs) (.int .i64 c.least) (.int .i64 c.most) (.int .i64 c.usual) 25;have b1:Below w.heap.size w (w.alloc (.cells #[.string ⟨c.host.toArray⟩,.int .i64 c.calls,.int .i64 c.pubs,.int .i64 c.subs,.int .i64 c.least,.int .i64 c.most,.int .i64 c.usual] 25)):=(Below.refl _ w).alloc (Nat.le_refl _) _;unfold cfV at KN ⊢
 go_enter Tryz.func7,Tryz.ntmps7
 go_upto_region 1 with fail
 generalize World.alloc _ _=w1 at r1 b1 ⊢;obtain ⟨x0,x1,x2,x3,x4,x5,x6,_,_,_,_,_,_,_⟩:=r1.rp7;go_wp2_with fail
 refine (KN.out _).mono ?_
 rintro e w2 ⟨b,rfl,hT,hb2⟩;have HT:=hid (And.intro hT hb2);clear hT hb2 x0 x1 x2 x3 x4 x5 x6;go_wp2;go_ret;have hT:=HT.out.1;obtain ⟨mn,ma,be,mw,cs,r,e1,h2,h3,h4,h5⟩:=hT.has;refine ⟨_,rfl,⟨hT.right,hT.ok,mn,ma,be,mw,cs,r,e1,h2,fun x hx=>?_,?_,h5⟩,b1.trans (HT.out.2.mono b1.size)⟩
 ·exact ⟨own_lower (h3 x hx).1 b1.size,own_lower (h3 x hx).2 b1.size⟩
 ·exact ⟨h4.row,h4.num,h4.all,h4.wheel.lowerp b1.size,h4.n1,h4.n2,h4.n3,Nat.le_trans b1.size h4.lb,Nat.le_trans b1.size h4.ln,Nat.le_trans b1.size h4.lm⟩
theorem bgA_ofR {w u:World} {a:Pa} {ts ns:Value} (h:RowIs u w.heap.size 44 (pskL a ts ns)):BgA w u a ts ns :=
 ⟨h.cell 0 (by simp [pskL]),h.cell 1 (by simp [pskL]),h.cell 2 (by simp [pskL]),h.cell 3 (by simp [pskL]),h.cell 4 (by simp [pskL]),h.cell 5 (by simp [pskL]),h.cell 6 (by simp [pskL]),h.cell 7 (by simp [pskL])⟩
section
variable {B bt : Nat} {w u u' : World} {s s' : Sto} {a : Pa} {ts ns : Value} {now : Int}
theorem TabP.putR {b:Nat} {us:List Value} (h:TabP B bt u s) (hr:RowIs u b 48 us) (hc:Chg (fun k=>k=b) u u'):TabP B bt u' s:=by
 obtain ⟨mn,ma,be,mw,cs,r,h1,h2,h3,h4,h5⟩:=h.has;exact ⟨h.right,h.ok,mn,ma,be,mw,cs,r,h1,h2,fun x hx=>⟨own_chgP (h3 x hx).1 hc hr (by decide),own_chgP (h3 x hx).2 hc hr (by decide)⟩,h4.put hr (by decide) (by decide) (by decide) (by decide) hc,h5⟩
set_option maxHeartbeats 4000000 in
set_option maxRecDepth 100000 in
theorem does16_any (h:TabP B bt w s) (hs:SmA a) (ht:a.tag.length≤140737488355328) (hl9:s.last≤1000000000)
  (hd:a.has=true → a.doc.entity.length+4≤1048576∧CapTu ts∧∀ u,Below B w u → TusAt u ts a.doc.tuples∧StrsAt u ns a.doc.notes) :
  Calls Tryz.prog 10 #[.pointer (some ⟨bt,0,none⟩),.int .i64 now,askV a ts ns] w fun e w'=>e=.returned (.tuple #[tdV (doS s now a).2.1,.int .i64 (doS s now a).2.2])∧TabP B bt w' (doS s now a).1∧FrP B w w':=by
 have hB:=h.lo;have K:=hid (fun (u:World) (hu:TabP B bt u s) (hb:Below B w u)=>pdo_any hu hs ht hl9 (now:=now) (a:=a) (ts:=ts) (ns:=ns) fun hh=>⟨(hd hh).1,(hd hh).2.1,fun u' hu'=>(hd hh).2.2 u' (hb.trans hu')⟩);generalize doS s now a=R at K ⊢;obtain ⟨s1,⟨st,ex,tg,ch⟩,er⟩:=R;simp only at K ⊢;have r5:RowIs (w.alloc (.cells #[.string ⟨a.who.toArray⟩,.string ⟨a.mt.toArray⟩,.int .i64 a.exp,.bool a.has,.string ⟨a.doc.entity.toArray⟩,ts,ns,.string ⟨a.tag.toArray⟩] 44)) w.heap.size 44 (pskL a ts ns):=by unfold RowIs; rw [heap_alloc_new]; rfl
 have b1:Below w.heap.size w (w.alloc (.cells #[.string ⟨a.who.toArray⟩,.string ⟨a.mt.toArray⟩,.int .i64 a.exp,.bool a.has,.string ⟨a.doc.entity.toArray⟩,ts,ns,.string ⟨a.tag.toArray⟩] 44)):=(Below.refl _ w).alloc (Nat.le_refl _) _;have z1:(w.alloc (.cells #[.string ⟨a.who.toArray⟩,.string ⟨a.mt.toArray⟩,.int .i64 a.exp,.bool a.has,.string ⟨a.doc.entity.toArray⟩,ts,ns,.string ⟨a.tag.toArray⟩] 44)).heap.size=w.heap.size+1:=by simp
 have HB:Hid (∃ W:World,W=(w.alloc (.cells #[.string ⟨a.who.toArray⟩,.string ⟨a.mt.toArray⟩,.int .i64 a.exp,.bool a.has,.string ⟨a.doc.entity.toArray⟩,ts,ns,.string ⟨a.tag.toArray⟩] 44)).alloc (.cells #[.int .i64 0,.int .i64 0,.string ⟨#[]⟩,.bool false] 48)∧RowIs W w.heap.size 44 (pskL a ts ns)∧RowIs W (w.heap.size+1) 48 [.int .i64 0,.int .i64 0,.string ⟨#[]⟩,.bool false]∧Below w.heap.size w W):=by
  generalize w.alloc _=w1 at r5 b1 z1 ⊢;have r6:=rc_row4 w1 (.int .i64 0) (.int .i64 0) (.string ⟨#[]⟩) (.bool false) 48;have b2:Below w1.heap.size w1 (w1.alloc (.cells #[.int .i64 0,.int .i64 0,.string ⟨#[]⟩,.bool false] 48)):=(Below.refl _ w1).alloc (Nat.le_refl _) _;rw [z1] at r6;exact ⟨_,rfl,r5.below b2 r5.bl,r6,b1.trans (b2.mono b1.size)⟩
 clear r5 b1 z1;obtain ⟨W,hW,q5,q6,qb⟩:=HB.out;have HT:=hid (h.below qb);have HQ:=hid (And.intro q5 (And.intro q6 qb));clear HB h hs hd;obtain ⟨a0,a1,a2,a3,a4,a5,a6,a7⟩:=bgA_ofR q5;clear q5 q6 qb
 go_enter Tryz.func10,Tryz.ntmps10
 unfold askV
 go_upto_region 1 with fail
 rw [← hW];clear hW;have KD:=hid (K.out W HT.out (HQ.out.2.2.mono hB));unfold askV tdV at KD;clear K HT;go_wp2_with fail
 refine KD.out.mono ?_
 rintro e w4 ⟨rfl,hT4,hF4⟩;have q6:=hF4.row HQ.out.2.1 (by decide) (by decide) (by decide) (by decide);have hF:=hid (((FrP.of HQ.out.2.2 hB):FrP B w W).trans hF4);have hT:=hid hT4;have q6s:=q6.bl;have r8:=rc_row4 w4 (.int .i64 st) (.int .i64 ex) (.string ⟨tg.toArray⟩) (.bool ch) 66;have b8:Below w4.heap.size w4 (w4.alloc (.cells #[.int .i64 st,.int .i64 ex,.string ⟨tg.toArray⟩,.bool ch] 66)):=(Below.refl _ w4).alloc (Nat.le_refl _) _;clear hT4 hF4 KD HQ a0 a1 a2 a3 a4 a5 a6 a7;have Q:=hid (And.intro q6 (And.intro r8 b8));clear q6 r8 b8
 go_upto_region 2 with fail
 generalize World.alloc _ _=w5 at Q ⊢;obtain ⟨q6,r8,b8⟩:=Q.out;have p6:=q6.below b8 q6.bl;obtain ⟨c0,c1,c2,c3,_,_,_,_⟩:=r8.rc4;obtain ⟨_,_,_,_,f0,f1,f2,f3⟩:=p6.rc4;have T5:=hT.out.below b8;have KEEP:=hid (And.intro ((rc_store4 p6 (.int .i64 st) (.int .i64 ex) (.string ⟨tg.toArray⟩) (.bool ch)).rc4) (And.intro (T5.putR p6 (chg4 w5 (w.heap.size+1) (.int .i64 st) (.int .i64 ex) (.string ⟨tg.toArray⟩) (.bool ch))) (((((hF.out.trans (FrP.of b8 hT.out.lo)).setn hB (show w.heap.size≤w.heap.size+1 by omega) (j:=0) (.int .i64 st)).setn hB (show w.heap.size≤w.heap.size+1 by omega) (j:=1) (.int .i64 ex)).setn hB (show w.heap.size≤w.heap.size+1 by omega) (j:=2) (.string ⟨tg.toArray⟩)).setn hB (show w.heap.size≤w.heap.size+1 by omega) (j:=3) (.bool ch))));clear q6 r8 b8 p6 T5 Q hT hF;go_wp2;generalize World.setCell _ _ _=wA at KEEP ⊢;obtain ⟨⟨d0,d1,d2,d3,_,_,_,_⟩,hTA,hFA⟩:=KEEP.out
 try simp only [Exit.inBlock,Exit.then]
 refine bodyPost_ret (v:=.tuple #[.agg #[.int .i64 st,.int .i64 ex,.string ⟨tg.toArray⟩,.bool ch],.int .i64 er]) (by simp [results,Tryz.results10,go_sem,d0,d1,d2,d3]; try rfl) rfl ?_
 exact ⟨rfl,hTA,hFA⟩
end
set_option maxHeartbeats 1000000 in
set_option maxRecDepth 100000 in
theorem plain16_any (w:World) (k:Int) :
  Calls Tryz.prog 8 #[.int .i64 k] w fun e w'=>e=.returned (cfV (plainC k))∧Below w.heap.size w w':=by
 have r1:=rp_row7 w (.string ⟨#[]⟩) (.int .i64 0) (.int .i64 0) (.int .i64 0) (.int .i64 0) (.int .i64 0) (.int .i64 0) 25;have b1:Below w.heap.size w (w.alloc (.cells #[.string ⟨#[]⟩,.int .i64 0,.int .i64 0,.int .i64 0,.int .i64 0,.int .i64 0,.int .i64 0] 25)):=(Below.refl _ w).alloc (Nat.le_refl _) _
 go_enter Tryz.func8,Tryz.ntmps8
 go_upto_region 1 with fail
 generalize World.alloc _ _=w1 at r1 b1 ⊢;obtain ⟨_,_,_,_,_,_,_,y0,y1,y2,y3,y4,y5,y6⟩:=r1.rp7;have KEEP:=hid (And.intro (rp_store7 r1 (.string ⟨#[]⟩) (.int .i64 1) (.int .i64 k) (.int .i64 1) (.int .i64 60) (.int .i64 3600) (.int .i64 600)) (rp_below7 b1 w.heap.size (Nat.le_refl _) (.string ⟨#[]⟩) (.int .i64 1) (.int .i64 k) (.int .i64 1) (.int .i64 60) (.int .i64 3600) (.int .i64 600)));clear r1 b1;go_wp2;generalize World.setCell _ _ _=wA at KEEP ⊢;obtain ⟨hrA,hbA⟩:=KEEP.out;obtain ⟨d0,d1,d2,d3,d4,d5,d6,_,_,_,_,_,_,_⟩:=hrA.rp7
 try simp only [Exit.inBlock,Exit.then]
 refine bodyPost_ret (v:=.agg #[.string ⟨#[]⟩,.int .i64 1,.int .i64 k,.int .i64 1,.int .i64 60,.int .i64 3600,.int .i64 600]) (by simp [results,Tryz.results8,go_sem,d0,d1,d2,d3,d4,d5,d6]; try rfl) rfl ?_
 exact ⟨rfl,hbA⟩
set_option maxHeartbeats 1000000 in
set_option maxRecDepth 100000 in
theorem doc16_any (w:World) (who:List UInt8) :
  Calls Tryz.prog 17 #[.string ⟨who.toArray⟩] w fun e w'=>e=.returned (docV ⟨who,[],[]⟩ (.slice none 0 0) (.slice none 0 0))∧Below w.heap.size w w':=by
 have r1:=rc_row3 w (.string ⟨#[]⟩) (.slice none 0 0) (.slice none 0 0) 35;have b1:Below w.heap.size w (w.alloc (.cells #[.string ⟨#[]⟩,.slice none 0 0,.slice none 0 0] 35)):=(Below.refl _ w).alloc (Nat.le_refl _) _
 go_enter Tryz.func17,Tryz.ntmps17
 go_upto_region 1 with fail
 generalize World.alloc _ _=w1 at r1 b1 ⊢;obtain ⟨_,_,_,y0,y1,y2⟩:=r1.rc3;have KEEP:=hid (And.intro (rc_store3 r1 (.string ⟨who.toArray⟩) (.slice none 0 0) (.slice none 0 0)) (rc_below3 b1 w.heap.size (Nat.le_refl _) (.string ⟨who.toArray⟩) (.slice none 0 0) (.slice none 0 0)));clear r1 b1;go_wp2;generalize World.setCell _ _ _=wA at KEEP ⊢;obtain ⟨hrA,hbA⟩:=KEEP.out;obtain ⟨d0,d1,d2,_,_,_⟩:=hrA.rc3
 try simp only [Exit.inBlock,Exit.then]
 refine bodyPost_ret (v:=.agg #[.string ⟨who.toArray⟩,.slice none 0 0,.slice none 0 0]) (by simp [results,Tryz.results17,go_sem,d0,d1,d2]; try rfl) rfl ?_
 exact ⟨rfl,hbA⟩
def smallA (a:Pa):Bool:=decide (a.doc.tuples.length≤40) && decide (a.doc.notes.length≤40) && decide (a.doc.entity.length≤500)
set_option maxHeartbeats 1000000 in
set_option maxRecDepth 100000 in
theorem small16_any (w:World) (a:Pa) {ta na:Option Addr} {tc nc:Nat} (h1:a.doc.entity.length≤281474976710656) :
  Calls Tryz.prog 9 #[askV a (.slice ta a.doc.tuples.length tc) (.slice na a.doc.notes.length nc)] w fun e w'=>e=.returned (.bool (smallA a))∧Below w.heap.size w w':=by
 have r5:RowIs (w.alloc (.cells #[.string ⟨a.who.toArray⟩,.string ⟨a.mt.toArray⟩,.int .i64 a.exp,.bool a.has,.string ⟨a.doc.entity.toArray⟩,.slice ta a.doc.tuples.length tc,.slice na a.doc.notes.length nc,.string ⟨a.tag.toArray⟩] 44)) w.heap.size 44 (pskL a (.slice ta a.doc.tuples.length tc) (.slice na a.doc.notes.length nc)):=by unfold RowIs; rw [heap_alloc_new]; rfl
 have b1:Below w.heap.size w (w.alloc (.cells #[.string ⟨a.who.toArray⟩,.string ⟨a.mt.toArray⟩,.int .i64 a.exp,.bool a.has,.string ⟨a.doc.entity.toArray⟩,.slice ta a.doc.tuples.length tc,.slice na a.doc.notes.length nc,.string ⟨a.tag.toArray⟩] 44)):=(Below.refl _ w).alloc (Nat.le_refl _) _;unfold smallA
 cases k1:decide (a.doc.tuples.length≤40) <;> cases k2:decide (a.doc.notes.length≤40) <;> cases k3:decide (a.doc.entity.length≤500)
 all_goals (
  have j1:=k1;have j2:=k2;have j3:=k3;simp only [decide_eq_true_eq,decide_eq_false_iff_not] at j1 j2 j3;have i1:decide ((a.doc.tuples.length:Int)≤40)=decide (a.doc.tuples.length≤40):=by rw [decide_eq_decide]; omega
  have i2:decide ((a.doc.notes.length:Int)≤40)=decide (a.doc.notes.length≤40):=by rw [decide_eq_decide]; omega
  have i3:decide ((a.doc.entity.length:Int)≤500)=decide (a.doc.entity.length≤500):=by rw [decide_eq_decide]; omega
  rw [k1] at i1;rw [k2] at i2;rw [k3] at i3;clear k1 k2 k3
  go_enter Tryz.func9,Tryz.ntmps9
  unfold askV
  go_upto_region 1 with fail
  generalize World.alloc _ _=w1 at r5 b1 ⊢;obtain ⟨a0,a1,a2,a3,a4,a5,a6,a7⟩:=bgA_ofR r5;go_wp2;go_ret;exact ⟨by simp,b1⟩)
theorem awk_1:doS ⟨plainC 1,0,[]⟩ 0 ⟨[97,64,98],[],30,true,⟨[97,64,98],[],[]⟩,[120]⟩=(⟨plainC 1,0,[]⟩,⟨423,60,[],false⟩,0):=by kernel_rfl
theorem awk_2:doS ⟨plainC 1,0,[]⟩ 0 ⟨[97,64,98],[],-1,true,⟨[97,64,98],[],[]⟩,[120]⟩=(⟨plainC 1,1,[⟨1,[97,64,98],[120],6000,⟨[97,64,98],[],[]⟩⟩]⟩,⟨200,600,[120],true⟩,0):=by kernel_rfl
theorem awk_3:doS ⟨plainC 1,1,[⟨1,[97,64,98],[120],6000,⟨[97,64,98],[],[]⟩⟩]⟩ 0 ⟨[97,64,98],[120],0,false,⟨[],[],[]⟩,[121]⟩=(⟨plainC 1,1,[]⟩,⟨200,0,[121],true⟩,0):=by kernel_rfl
theorem awk_4:doS ⟨plainC 1,1,[]⟩ 0 ⟨[97,64,98],[120],0,false,⟨[],[],[]⟩,[122]⟩=(⟨plainC 1,1,[]⟩,⟨412,0,[],false⟩,0):=by kernel_rfl
theorem smD_nil (who:List UInt8) (h:who.length≤140737488355328):SmallD 140737488355328 ⟨who,[],[]⟩:=⟨h,by simp,by simp,by simp,by simp⟩
theorem capT_nil:CapTu (.slice none 0 0):=fun a n c e=>by injection e; omega
theorem told_row (w:World) {B bt:Nat} {s:Sto} (h:TabP B bt w s) (v0 v1 v2 v3:Value):TabP B bt (w.alloc (.cells #[v0,v1,v2,v3] 48)) s∧RowIs (w.alloc (.cells #[v0,v1,v2,v3] 48)) w.heap.size 48 [v0,v1,v2,v3]∧Below w.heap.size w (w.alloc (.cells #[v0,v1,v2,v3] 48)) :=
 ⟨h.below ((Below.refl _ w).alloc (Nat.le_refl _) _),rc_row4 w v0 v1 v2 v3 _,(Below.refl _ w).alloc (Nat.le_refl _) _⟩
set_option maxHeartbeats 4000000 in
set_option maxRecDepth 100000 in
theorem awake16_any (w:World):Calls Tryz.prog 6 #[] w fun e w'=>e=.returned (.bool true)∧Below w.heap.size w w':=by
 have sA1:SmA ⟨[97,64,98],[],30,true,⟨[97,64,98],[],[]⟩,[120]⟩:=⟨by decide,by decide,by decide,smD_nil _ (by decide),by decide,by decide⟩
 have sA2:SmA ⟨[97,64,98],[],-1,true,⟨[97,64,98],[],[]⟩,[120]⟩:=⟨by decide,by decide,by decide,smD_nil _ (by decide),by decide,by decide⟩
 have sA3:SmA ⟨[97,64,98],[120],0,false,⟨[],[],[]⟩,[121]⟩:=⟨by decide,by decide,by decide,smD_nil _ (by decide),by decide,by decide⟩
 have sA4:SmA ⟨[97,64,98],[120],0,false,⟨[],[],[]⟩,[122]⟩:=⟨by decide,by decide,by decide,smD_nil _ (by decide),by decide,by decide⟩
 have D1:Hid (∀ (B bt:Nat) (u:World),TabP B bt u ⟨plainC 1,0,[]⟩ → Calls Tryz.prog 10 #[.pointer (some ⟨bt,0,none⟩),.int .i64 0,askV ⟨[97,64,98],[],30,true,⟨[97,64,98],[],[]⟩,[120]⟩ (.slice none 0 0) (.slice none 0 0)] u fun e w'=>e=.returned (.tuple #[tdV ⟨423,60,[],false⟩,.int .i64 0])∧TabP B bt w' ⟨plainC 1,0,[]⟩∧FrP B u w'):=fun B bt u hu=>by
  have:=does16_any hu sA1 (by decide) (by decide) (now:=0) (ts:=.slice none 0 0) (ns:=.slice none 0 0) (fun _=>⟨by decide,capT_nil,fun _ _=>⟨⟨none,0,rfl,fun k hk=>by simp at hk⟩,⟨none,0,rfl,fun k hk=>by simp at hk⟩⟩⟩)
  rw [awk_1] at this;exact this
 have D2:Hid (∀ (B bt:Nat) (u:World),TabP B bt u ⟨plainC 1,0,[]⟩ → Calls Tryz.prog 10 #[.pointer (some ⟨bt,0,none⟩),.int .i64 0,askV ⟨[97,64,98],[],-1,true,⟨[97,64,98],[],[]⟩,[120]⟩ (.slice none 0 0) (.slice none 0 0)] u fun e w'=>e=.returned (.tuple #[tdV ⟨200,600,[120],true⟩,.int .i64 0])∧TabP B bt w' ⟨plainC 1,1,[⟨1,[97,64,98],[120],6000,⟨[97,64,98],[],[]⟩⟩]⟩∧FrP B u w'):=fun B bt u hu=>by
  have:=does16_any hu sA2 (by decide) (by decide) (now:=0) (ts:=.slice none 0 0) (ns:=.slice none 0 0) (fun _=>⟨by decide,capT_nil,fun _ _=>⟨⟨none,0,rfl,fun k hk=>by simp at hk⟩,⟨none,0,rfl,fun k hk=>by simp at hk⟩⟩⟩)
  rw [awk_2] at this;exact this
 have D3:Hid (∀ (B bt:Nat) (u:World),TabP B bt u ⟨plainC 1,1,[⟨1,[97,64,98],[120],6000,⟨[97,64,98],[],[]⟩⟩]⟩ → Calls Tryz.prog 10 #[.pointer (some ⟨bt,0,none⟩),.int .i64 0,askV ⟨[97,64,98],[120],0,false,⟨[],[],[]⟩,[121]⟩ (.slice none 0 0) (.slice none 0 0)] u fun e w'=>e=.returned (.tuple #[tdV ⟨200,0,[121],true⟩,.int .i64 0])∧TabP B bt w' ⟨plainC 1,1,[]⟩∧FrP B u w'):=fun B bt u hu=>by
  have:=does16_any hu sA3 (by decide) (by decide) (now:=0) (ts:=.slice none 0 0) (ns:=.slice none 0 0) (fun h=>by cases h)
  rw [awk_3] at this;exact this
 have D4:Hid (∀ (B bt:Nat) (u:World),TabP B bt u ⟨plainC 1,1,[]⟩ → Calls Tryz.prog 10 #[.pointer (some ⟨bt,0,none⟩),.int .i64 0,askV ⟨[97,64,98],[120],0,false,⟨[],[],[]⟩,[122]⟩ (.slice none 0 0) (.slice none 0 0)] u fun e w'=>e=.returned (.tuple #[tdV ⟨412,0,[],false⟩,.int .i64 0])∧TabP B bt w' ⟨plainC 1,1,[]⟩∧FrP B u w'):=fun B bt u hu=>by
  have:=does16_any hu sA4 (by decide) (by decide) (now:=0) (ts:=.slice none 0 0) (ns:=.slice none 0 0) (fun h=>by cases h)
  rw [awk_4] at this;exact this
 clear sA1 sA2 sA3 sA4;unfold askV tdV at D1 D2 D3 D4;have KP:=hid (fun (u:World)=>plain16_any u 1);have KB:=hid (fun (u:World)=>begun16_ok u (plainC 1) (plain_right (by decide) (by decide)));unfold cfV plainC at KP KB;have KO:=hid (fun (u:World)=>doc16_any u [97,64,98]);unfold docV at KO
 go_enter Tryz.func6,Tryz.ntmps6
 go_wp2_with fail
 refine (KP.out _).mono ?_
 rintro e w1 ⟨rfl,hb1⟩;go_wp2_with fail
 refine (KB.out _).mono ?_
 rintro e w2 ⟨bt,rfl,hT2,hb2⟩;have hB:w.heap.size≤w1.heap.size:=hb1.size;have bel:=hid (hb1.trans (hb2.mono hB));clear hb1 hb2;go_wp2_with fail
 refine (KO.out _).mono ?_
 rintro e u1 ⟨rfl,hb1⟩;have T1:=hT2.below hb1;have bel:=hid (bel.out.trans (hb1.mono bel.out.size));clear hb1;go_wp2_with fail
 refine (D1.out _ _ _ T1).mono ?_
 rintro e w4 ⟨rfl,hT4,hF4⟩;have bel:=hid (bel.out.trans (hF4.below.mono hB));have X:=told_row w4 hT4 (.int .i64 423) (.int .i64 60) (.string ⟨#[]⟩) (.bool false);have R1:=hid X.2.1;have TT1:=X.1;have bel:=hid (bel.out.trans (X.2.2.mono bel.out.size));clear X hT4 hF4 D1
 go_upto_region 5 with fail
 generalize w4.heap.size=g1 at R1 ⊢;generalize World.alloc _ _=v1 at R1 TT1 bel ⊢;go_wp2_with fail
 refine (KO.out _).mono ?_
 rintro e u2 ⟨rfl,hb2⟩;have T2:=TT1.below hb2;have bel:=hid (bel.out.trans (hb2.mono bel.out.size));have R1:=hid (R1.out.below hb2 R1.out.bl);clear hb2;go_wp2_with fail
 refine (D2.out _ _ _ T2).mono ?_
 rintro e w5 ⟨rfl,hT5,hF5⟩;have bel:=hid (bel.out.trans (hF5.below.mono hB));have R1:=hid (hF5.row R1.out (by decide) (by decide) (by decide) (by decide));have X:=told_row w5 hT5 (.int .i64 200) (.int .i64 600) (.string ⟨#[120]⟩) (.bool true);have R1:=hid (R1.out.below X.2.2 R1.out.bl);have R2:=hid X.2.1;have TT2:=X.1;have bel:=hid (bel.out.trans (X.2.2.mono bel.out.size));clear X hT5 hF5 D2
 go_upto_region 6 with fail
 generalize w5.heap.size=g2 at R2 ⊢;generalize World.alloc _ _=v2 at R1 R2 TT2 bel ⊢;go_wp2_with fail
 refine (D3.out _ _ _ TT2).mono ?_
 rintro e w6 ⟨rfl,hT6,hF6⟩;have bel:=hid (bel.out.trans (hF6.below.mono hB));have R1:=hid (hF6.row R1.out (by decide) (by decide) (by decide) (by decide));have R2:=hid (hF6.row R2.out (by decide) (by decide) (by decide) (by decide));have X:=told_row w6 hT6 (.int .i64 200) (.int .i64 0) (.string ⟨#[121]⟩) (.bool true);have R1:=hid (R1.out.below X.2.2 R1.out.bl);have R2:=hid (R2.out.below X.2.2 R2.out.bl);have R3:=hid X.2.1;have TT3:=X.1;have bel:=hid (bel.out.trans (X.2.2.mono bel.out.size));clear X hT6 hF6 D3
 go_upto_region 7 with fail
 generalize w6.heap.size=g3 at R3 ⊢;generalize World.alloc _ _=v3 at R1 R2 R3 TT3 bel ⊢;go_wp2_with fail
 refine (D4.out _ _ _ TT3).mono ?_
 rintro e w7 ⟨rfl,hT7,hF7⟩;have bel:=hid (bel.out.trans (hF7.below.mono hB));have R1:=hid (hF7.row R1.out (by decide) (by decide) (by decide) (by decide));have R2:=hid (hF7.row R2.out (by decide) (by decide) (by decide) (by decide));have R3:=hid (hF7.row R3.out (by decide) (by decide) (by decide) (by decide));have X:=told_row w7 hT7 (.int .i64 412) (.int .i64 0) (.string ⟨#[]⟩) (.bool false);have R1:=hid (R1.out.below X.2.2 R1.out.bl);have R2:=hid (R2.out.below X.2.2 R2.out.bl);have R3:=hid (R3.out.below X.2.2 R3.out.bl);have R4:=hid X.2.1;have TT4:=X.1;have bel:=hid (bel.out.trans (X.2.2.mono bel.out.size));clear X hT7 hF7 D4
 go_upto_region 8 with fail
 generalize w7.heap.size=g4 at R4 ⊢;generalize World.alloc _ _=v4 at R1 R2 R3 R4 TT4 bel ⊢;obtain ⟨p0,p1,p2,p3,_,_,_,_⟩:=R1.out.rc4;obtain ⟨q0,q1,q2,q3,_,_,_,_⟩:=R2.out.rc4;obtain ⟨r0,r1,r2,r3,_,_,_,_⟩:=R3.out.rc4;obtain ⟨s0,s1,s2,s3,_,_,_,_⟩:=R4.out.rc4;go_wp2;go_ret;exact ⟨rfl,bel.out⟩
end Go.Proofs.YtbmjodlbkgblpaaGreatDoor
namespace Go.Proofs.YtbmjodlbkgblpaaGreatDoor
open Go.RowKit Sc
theorem followsU:Tryz.prog.follows .mixedOrders=true:=by kernel_rfl
structure RC where
 iA:Nat
 iB:Nat
 i6:Nat
 i7:Nat
 iZ:Nat
 dA:Nat
 dB:Nat
 lo:Nat
 hi:Nat
 a0:Act
 T:List (Nat × Nat × Value)
structure RC.Ok (c:RC):Prop where
 r0:8 < c.lo
 r1:c.hi≤208
 r2:c.lo≤c.dA∧c.dA < c.hi
 r3:c.lo≤c.dB∧c.dB < c.hi
 r4:c.dA ≠ c.dB
 r5:c.iA ≠ c.iB∧c.iA ≠ c.i6∧c.iA ≠ c.i7∧c.iA ≠ c.iZ
 r6:c.iB ≠ c.i6∧c.iB ≠ c.i7∧c.iB ≠ c.iZ
 r7:c.i6 ≠ c.i7∧c.i6 ≠ c.iZ∧c.i7 ≠ c.iZ
 r8:∀ e ∈ c.T,(e.1 ≠ c.iA∧e.1 ≠ c.iB∧e.1 ≠ c.i6∧e.1 ≠ c.i7∧e.1 ≠ c.iZ)∧e.2.1 ≠ c.dA∧e.2.1 ≠ c.dB∧e.2.1 ≠ 8
structure InvD (k:KD) (c:RC) (L:Array Bool) (a:Act) (w:World):Prop where
 sz:a.tmps.size=208
 df:a.defers=[]
 out:∀ s,(s < c.lo∨c.hi≤s) → s ≠ 8 → a.eval (.tmp s)=c.a0.eval (.tmp s)
 t8:L.getD c.iZ false=true → a.eval (.tmp 8)=.int .i64 0
 tab:TabOk c.T L a
 dyn:DynD k (L.getD c.iA false) (L.getD c.iB false) (L.getD c.i6 false) (L.getD c.i7 false) (a.eval (.tmp c.dA)) (a.eval (.tmp c.dB)) w
section
variable {k : KD} {c : RC} {L : Array Bool} {a : Act} {w w' : World}
theorem InvD.quiet (h:InvD k c L a w) (hc:c.Ok) (i d:Nat) (v:Value) (hi:i ≠ c.iA∧i ≠ c.iB∧i ≠ c.i6∧i ≠ c.i7∧i ≠ c.iZ) (hd:c.lo≤d∧d < c.hi∧d ≠ c.dA∧d ≠ c.dB)
  (hT:∀ e ∈ c.T,(e.2.1=d∧e.2.2=v)∨(e.1 ≠ i∧e.2.1 ≠ d)):InvD k c (L.setIfInBounds i true) (a.put (some d) v) w:=by
 obtain ⟨i1,i2,i3,i4,i5⟩:=hi;obtain ⟨d1,d2,d3,d4⟩:=hd;have r0:=hc.r0;have r1:=hc.r1;refine ⟨by rw [put_size]; exact h.sz,by rw [put_defers]; exact h.df,fun s hs h8=>by rw [eval_put_ne (by omega)]; exact h.out s hs h8,fun hl=>?_,h.tab.put (by rw [h.sz]; omega) hT,?_⟩
 ·rw [getD_set_ne (Ne.symm i5)] at hl;rw [eval_put_ne (by omega)]; exact h.t8 hl
 ·rw [getD_set_ne (Ne.symm i1),getD_set_ne (Ne.symm i2),getD_set_ne (Ne.symm i3),getD_set_ne (Ne.symm i4),eval_put_ne (Ne.symm d3),eval_put_ne (Ne.symm d4)];exact h.dyn
theorem InvD.sA (h:InvD k c L a w) (hk:k.Ok) (hc:c.Ok) (hL:c.iA < L.size) (h0:L.getD c.iA false=false) {v':Value} (ho:OwnPb w' k.B v' (k.L0++k.R0)) (hg:w.grownBy w' k.v13.ownBlock):InvD k c (L.setIfInBounds c.iA true) (a.put (some c.dA) v') w':=by
 obtain ⟨i2,i3,i4,i5⟩:=hc.r5;have r0:=hc.r0;have r1:=hc.r1;have r2:=hc.r2;refine ⟨by rw [put_size]; exact h.sz,by rw [put_defers]; exact h.df,fun s hs h8=>by rw [eval_put_ne (by omega)]; exact h.out s hs h8,fun hl=>?_,h.tab.put (by rw [h.sz]; omega) (fun e he=>.inr ⟨(hc.r8 e he).1.1,(hc.r8 e he).2.1⟩),?_⟩
 ·rw [getD_set_ne (Ne.symm i5)] at hl;rw [eval_put_ne (by omega)]; exact h.t8 hl
 ·rw [getD_set_same hL,getD_set_ne (Ne.symm i2),getD_set_ne (Ne.symm i3),getD_set_ne (Ne.symm i4),eval_put_same (by rw [h.sz]; omega),eval_put_ne (Ne.symm hc.r4)];exact h.dyn.app hk h0 ho hg
theorem InvD.sB (h:InvD k c L a w) (hc:c.Ok) (hL:c.iB < L.size) (hA:L.getD c.iA false=true):InvD k c (L.setIfInBounds c.iB true) (a.put (some c.dB) (stoV k.S (a.eval (.tmp c.dA)))) w:=by
 obtain ⟨i3,i4,i5⟩:=hc.r6;have r0:=hc.r0;have r1:=hc.r1;have r2:=hc.r3;refine ⟨by rw [put_size]; exact h.sz,by rw [put_defers]; exact h.df,fun s hs h8=>by rw [eval_put_ne (by omega)]; exact h.out s hs h8,fun hl=>?_,h.tab.put (by rw [h.sz]; omega) (fun e he=>.inr ⟨(hc.r8 e he).1.2.1,(hc.r8 e he).2.2.1⟩),?_⟩
 ·rw [getD_set_ne (Ne.symm i5)] at hl;rw [eval_put_ne (by omega)]; exact h.t8 hl
 ·rw [getD_set_same hL,getD_set_ne hc.r5.1,getD_set_ne (Ne.symm i3),getD_set_ne (Ne.symm i4),eval_put_same (by rw [h.sz]; omega),eval_put_ne hc.r4];exact h.dyn.bld hA
theorem InvD.s6 (h:InvD k c L a w) (hk:k.Ok) (hc:c.Ok) (hL:c.i6 < L.size) (hB:L.getD c.iB false=true) (h0:L.getD c.i6 false=false):InvD k c (L.setIfInBounds c.i6 true) a ((((((((((w.setCell ⟨k.b6,0,none⟩ (.string ⟨k.S.c.host.toArray⟩)).setCell ⟨k.b6,1,none⟩ (.int .i64 k.S.c.calls)).setCell ⟨k.b6,2,none⟩ (.int .i64 k.S.c.pubs)).setCell ⟨k.b6,3,none⟩ (.int .i64 k.S.c.subs)).setCell ⟨k.b6,4,none⟩ (.int .i64 k.S.c.least)).setCell ⟨k.b6,5,none⟩ (.int .i64 k.S.c.most)).setCell ⟨k.b6,6,none⟩ (.int .i64 k.S.c.usual)).setCell ⟨k.b6,7,none⟩ (.int .i64 k.S.last)).setCell ⟨k.b6,8,none⟩ (a.eval (.tmp c.dA)))):=by
 refine ⟨h.sz,h.df,h.out,fun hl=>h.t8 (by rwa [getD_set_ne (Ne.symm hc.r7.2.1)] at hl),h.tab.skip (fun e he=>(hc.r8 e he).1.2.2.1),?_⟩
 rw [getD_set_same hL,getD_set_ne hc.r5.2.1,getD_set_ne hc.r6.1,getD_set_ne (Ne.symm hc.r7.1)];exact h.dyn.s6 hk hB h0
theorem InvD.s7 (h:InvD k c L a w) (hk:k.Ok) (hc:c.Ok) (hL:c.i7 < L.size) (h0:L.getD c.i7 false=false):InvD k c (L.setIfInBounds c.i7 true) a ((((w.setCell ⟨k.b7,0,none⟩ (.int .i64 k.T.status)).setCell ⟨k.b7,1,none⟩ (.int .i64 k.T.expires)).setCell ⟨k.b7,2,none⟩ (.string ⟨k.T.tag.toArray⟩)).setCell ⟨k.b7,3,none⟩ (.bool k.T.changed)):=by
 refine ⟨h.sz,h.df,h.out,fun hl=>h.t8 (by rwa [getD_set_ne (Ne.symm hc.r7.2.2)] at hl),h.tab.skip (fun e he=>(hc.r8 e he).1.2.2.2.1),?_⟩
 rw [getD_set_same hL,getD_set_ne hc.r5.2.2.1,getD_set_ne hc.r6.2.1,getD_set_ne hc.r7.1];exact h.dyn.s7 hk h0
theorem InvD.sZ (h:InvD k c L a w) (hc:c.Ok):InvD k c (L.setIfInBounds c.iZ true) (a.put (some 8) (.int .i64 0)) w:=by
 have r0:=hc.r0;have r2:=hc.r2;have r3:=hc.r3;refine ⟨by rw [put_size]; exact h.sz,by rw [put_defers]; exact h.df,fun s hs h8=>by rw [eval_put_ne h8]; exact h.out s hs h8,fun _=>eval_put_same (by rw [h.sz]; decide),h.tab.put (by rw [h.sz]; decide) (fun e he=>.inr ⟨(hc.r8 e he).1.2.2.2.2,(hc.r8 e he).2.2.2⟩),?_⟩
 rw [getD_set_ne hc.r5.2.2.2,getD_set_ne hc.r6.2.2,getD_set_ne hc.r7.2.1,getD_set_ne hc.r7.2.2,eval_put_ne (by omega),eval_put_ne (by omega)];exact h.dyn
end
def pbEnd (ad:Addr) (n cap i:Nat):Value:=.slice (if cap=i+1 then some ad else some (ad.add ((i+1) * 7))) (n - (i+1)) (cap - (i+1))
structure r20Ops (ops:Array Oper):Prop where
 sz:ops.size=18
 p0:OpIs ops 0 (some 153) (.fieldAddr 28 (.tmp 3) 0)
 p1:OpIs ops 1 (some 154) (.load 25 (.tmp 153))
 p2:OpIs ops 2 (some 155) (.fieldAddr 28 (.tmp 3) 1)
 p3:OpIs ops 3 (some 156) (.load 3 (.tmp 155))
 p4:OpIs ops 4 (some 157) (.move (.tmp 13))
 p5:OpIs ops 5 (some 158) (.fieldAddr 28 (.tmp 3) 2)
 p6:OpIs ops 6 (some 159) (.load 26 (.tmp 158))
 p7:OpIs ops 7 (some 160) (.move (.tmp 11))
 p8:OpIs ops 8 (some 161) (.binOp .add 3 (.tmp 160) (.const (.int .i64 1)) 3)
 p9:OpIs ops 9 (some 162) (.slice 26 (.tmp 159) (some (.tmp 161)) none none)
 p10:OpIs ops 10 (some 163) (.call { callee:=.builtin .append,args:=#[.tmp 157,.tmp 162],argTypes:=#[26,26] })
 p11:OpIs ops 11 (some 164) (.build 28 #[(0,.tmp 154),(1,.tmp 156),(2,.tmp 163)])
 p12:OpIs ops 12 (some 165) (.fieldAddr 44 (.tmp 5) 5)
 p13:OpIs ops 13 (some 166) (.load 9 (.tmp 165))
 p14:OpIs ops 14 (some 167) (.build 48 #[(0,.const (.int .i64 200)),(2,.tmp 166),(3,.const (.bool true))])
 p15:OpIs ops 15 none (.store 28 (.tmp 6) (.tmp 164))
 p16:OpIs ops 16 none (.store 48 (.tmp 7) (.tmp 167))
 p17:OpIs ops 17 (some 8) (.assign (.const (.int .i64 0)))
 w1_0:Waits ops 1 0
 w3_2:Waits ops 3 2
 w6_5:Waits ops 6 5
 w8_7:Waits ops 8 7
 w9_6:Waits ops 9 6
 w9_8:Waits ops 9 8
 w13_12:Waits ops 13 12
 w14_13:Waits ops 14 13
 w10_4:Waits ops 10 4
 w10_9:Waits ops 10 9
 w11_1:Waits ops 11 1
 w11_3:Waits ops 11 3
 w11_10:Waits ops 11 10
 w15_11:Waits ops 15 11
 w16_14:Waits ops 16 14
def r20T (k:KD) (n cap i:Nat) (ad:Addr) (nn:Int):List (Nat × Nat × Value) :=
 [(0,153,.pointer (some ⟨k.b3,0,none⟩)),(1,154,cfV k.S.c),(2,155,.pointer (some ⟨k.b3,7,none⟩)),(3,156,.int .i64 k.S.last),(4,157,k.v13),(5,158,.pointer (some ⟨k.b3,8,none⟩)),(6,159,.slice (some ad) n cap),(7,160,.int .i64 (i:Int)),(8,161,.int .i64 ((i:Int)+1)),(9,162,pbEnd ad n cap i),(12,165,.pointer (some ⟨k.b5,7,none⟩)),(13,166,.string ⟨k.A.tag.toArray⟩),(14,167,tdV ⟨200,0,k.A.tag,true⟩)]
def r20C (k:KD) (n cap i:Nat) (ad:Addr) (nn:Int) (a0:Act):RC:=⟨10,11,15,16,17,163,164,153,168,a0,r20T k n cap i ad nn⟩
end Go.Proofs.YtbmjodlbkgblpaaGreatDoor
