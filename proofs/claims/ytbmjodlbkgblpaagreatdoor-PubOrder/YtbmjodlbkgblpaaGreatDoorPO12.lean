/-
  PsV, PsW, PsX.
-/
import Derived.Test.YtbmjodlbkgblpaaGreatDoorPO11
import Derived.Deep.RegionHeld3
set_option linter.unusedVariables false
set_option linter.unusedSimpArgs false
set_option maxRecDepth 20000
namespace Go.Proofs.YtbmjodlbkgblpaaGreatDoor
open Go.RowKit Go.Maps Go.WideMaps Sc
section
variable {B bt mn ma be mw : Nat} {w u u' : World} {c : Cf} {last : Int} {l : List PbC} {r : List Tm} {a : Pa} {ts ns : Value}
set_option maxHeartbeats 4000000 in
set_option maxRecDepth 100000 in
theorem pbeg_400 (h:Sp2 B bt mn ma be mw w c last l l r) {now:Int} {n:Int} (hs1:(secC c a.exp).1=n) (hs2:(secC c a.exp).2=true) (hh:a.has=false) :
  Calls Tryz.prog 33 #[.pointer (some ⟨bt,0,none⟩),.int .i64 now,askV a ts ns] w fun e w'=>e=.returned (tdV ⟨400,0,[],false⟩)∧Below w.heap.size w w':=by
 have HH:=hid hh;clear hh;have HI:=hid (BgF.start (a:=a) (ts:=ts) (ns:=ns) h);clear h
 go_enter Tryz.func33,Tryz.ntmps33
 unfold askV
 go_upto_region 1 with fail
 generalize World.alloc (World.alloc _ _) _=W at HI ⊢;have hh:=HH.out;have HD:=hid (HI.out.step (Below.refl _ W).drew);obtain ⟨a0,a1,a2,a3,a4,a5,a6,a7⟩:=bgA_of HI.out.ask;obtain ⟨x0,x1,x2,x3,x4,x5,x6⟩:=HI.out.cfg;obtain ⟨z0,z1,z2,z3,f0,f1,f2,f3⟩:=HI.out.td.rc4;obtain ⟨a0d,a1d,a2d,a3d,a4d,a5d,a6d,a7d⟩:=bgA_of HD.out.ask;obtain ⟨x0d,x1d,x2d,x3d,x4d,x5d,x6d⟩:=HD.out.cfg;obtain ⟨z0d,z1d,z2d,z3d,f0d,f1d,f2d,f3d⟩:=HD.out.td.rc4;have KS:=hid (fun (u:World)=>psec_any c a.exp u);rw [hs1,hs2] at KS;unfold cfV at KS
 go_region_law (go_simp; go_at_call 57; refine (KS.out _).mono ?_; rintro e w3 ⟨rfl,hb3⟩; replace HI:=hid (HD.out.step hb3); clear hb3)
 all_goals (
  clear a0 a1 a2 a3 a4 a5 a6 a7 x0 x1 x2 x3 x4 x5 x6 z0 z1 z2 z3 f0 f1 f2 f3;obtain ⟨a0,a1,a2,a3,a4,a5,a6,a7⟩:=bgA_of HI.out.ask;obtain ⟨x0,x1,x2,x3,x4,x5,x6⟩:=HI.out.cfg;obtain ⟨z0,z1,z2,z3,f0,f1,f2,f3⟩:=HI.out.td.rc4;rw [hh] at a3;have KEEP:=hid (HI.out.keep (.int .i64 400) (.int .i64 0) (.string ⟨#[]⟩) (.bool false));go_wp2;generalize World.setCell _ _ _=wA at KEEP ⊢;obtain ⟨⟨d0,d1,d2,d3,_,_,_,_⟩,hbA⟩:=KEEP.out
  try simp only [Exit.inBlock,Exit.then]
  refine bodyPost_ret (v:=.agg #[.int .i64 400,.int .i64 0,.string ⟨#[]⟩,.bool false]) (by simp [results,Tryz.results33,go_sem,d0,d1,d2,d3]; try rfl) rfl ?_
  exact ⟨rfl,hbA⟩)
set_option maxHeartbeats 4000000 in
set_option maxRecDepth 100000 in
theorem pbeg_400b (h:Sp2 B bt mn ma be mw w c last l l r) {now:Int} {n:Int} (hs1:(secC c a.exp).1=n) (hs2:(secC c a.exp).2=true) (hh:a.has=true) (hn0:(n==0)=true) :
  Calls Tryz.prog 33 #[.pointer (some ⟨bt,0,none⟩),.int .i64 now,askV a ts ns] w fun e w'=>e=.returned (tdV ⟨400,0,[],false⟩)∧Below w.heap.size w w':=by
 have HH:=hid hh;clear hh;have HI:=hid (BgF.start (a:=a) (ts:=ts) (ns:=ns) h);clear h
 go_enter Tryz.func33,Tryz.ntmps33
 unfold askV
 go_upto_region 1 with fail
 generalize World.alloc (World.alloc _ _) _=W at HI ⊢;have hh:=HH.out;have HD:=hid (HI.out.step (Below.refl _ W).drew);obtain ⟨a0,a1,a2,a3,a4,a5,a6,a7⟩:=bgA_of HI.out.ask;obtain ⟨x0,x1,x2,x3,x4,x5,x6⟩:=HI.out.cfg;obtain ⟨z0,z1,z2,z3,f0,f1,f2,f3⟩:=HI.out.td.rc4;obtain ⟨a0d,a1d,a2d,a3d,a4d,a5d,a6d,a7d⟩:=bgA_of HD.out.ask;obtain ⟨x0d,x1d,x2d,x3d,x4d,x5d,x6d⟩:=HD.out.cfg;obtain ⟨z0d,z1d,z2d,z3d,f0d,f1d,f2d,f3d⟩:=HD.out.td.rc4;have KS:=hid (fun (u:World)=>psec_any c a.exp u);rw [hs1,hs2] at KS;unfold cfV at KS
 go_region_law (go_simp; go_at_call 57; refine (KS.out _).mono ?_; rintro e w3 ⟨rfl,hb3⟩; replace HI:=hid (HD.out.step hb3); clear hb3)
 all_goals (
  clear a0 a1 a2 a3 a4 a5 a6 a7 x0 x1 x2 x3 x4 x5 x6 z0 z1 z2 z3 f0 f1 f2 f3;obtain ⟨a0,a1,a2,a3,a4,a5,a6,a7⟩:=bgA_of HI.out.ask;obtain ⟨x0,x1,x2,x3,x4,x5,x6⟩:=HI.out.cfg;obtain ⟨z0,z1,z2,z3,f0,f1,f2,f3⟩:=HI.out.td.rc4;rw [hh] at a3;have KEEP:=hid (HI.out.keep (.int .i64 400) (.int .i64 0) (.string ⟨#[]⟩) (.bool false));go_wp2;generalize World.setCell _ _ _=wA at KEEP ⊢;obtain ⟨⟨d0,d1,d2,d3,_,_,_,_⟩,hbA⟩:=KEEP.out
  try simp only [Exit.inBlock,Exit.then]
  refine bodyPost_ret (v:=.agg #[.int .i64 400,.int .i64 0,.string ⟨#[]⟩,.bool false]) (by simp [results,Tryz.results33,go_sem,d0,d1,d2,d3]; try rfl) rfl ?_
  exact ⟨rfl,hbA⟩)
set_option maxHeartbeats 4000000 in
set_option maxRecDepth 100000 in
theorem pbeg_503 (h:Sp2 B bt mn ma be mw w c last l l r) {now:Int} {n:Int} (hs1:(secC c a.exp).1=n) (hs2:(secC c a.exp).2=true) (hh:a.has=true) (hn0:(n==0)=false) (h6:c.pubs≤(l.length:Int)) :
  Calls Tryz.prog 33 #[.pointer (some ⟨bt,0,none⟩),.int .i64 now,askV a ts ns] w fun e w'=>e=.returned (tdV ⟨503,0,[],false⟩)∧Below w.heap.size w w':=by
 have HH:=hid hh;clear hh;have HI:=hid (BgF.start (a:=a) (ts:=ts) (ns:=ns) h);clear h
 go_enter Tryz.func33,Tryz.ntmps33
 unfold askV
 go_upto_region 1 with fail
 generalize World.alloc (World.alloc _ _) _=W at HI ⊢;have hh:=HH.out;have h6d:decide (c.pubs≤(l.length:Int))=true:=decide_eq_true h6;have h7d:decide ((l.length:Int) < c.pubs)=false:=decide_eq_false (by omega);clear h6;have HD:=hid (HI.out.step (Below.refl _ W).drew);obtain ⟨a0,a1,a2,a3,a4,a5,a6,a7⟩:=bgA_of HI.out.ask;obtain ⟨x0,x1,x2,x3,x4,x5,x6⟩:=HI.out.cfg;obtain ⟨z0,z1,z2,z3,f0,f1,f2,f3⟩:=HI.out.td.rc4;obtain ⟨a0d,a1d,a2d,a3d,a4d,a5d,a6d,a7d⟩:=bgA_of HD.out.ask;obtain ⟨x0d,x1d,x2d,x3d,x4d,x5d,x6d⟩:=HD.out.cfg;obtain ⟨z0d,z1d,z2d,z3d,f0d,f1d,f2d,f3d⟩:=HD.out.td.rc4;have KS:=hid (fun (u:World)=>psec_any c a.exp u);rw [hs1,hs2] at KS;unfold cfV at KS
 go_region_law (go_simp; go_at_call 57; refine (KS.out _).mono ?_; rintro e w3 ⟨rfl,hb3⟩; replace HI:=hid (HD.out.step hb3); clear hb3)
 all_goals (
  clear a0 a1 a2 a3 a4 a5 a6 a7 x0 x1 x2 x3 x4 x5 x6 z0 z1 z2 z3 f0 f1 f2 f3;obtain ⟨a0,a1,a2,a3,a4,a5,a6,a7⟩:=bgA_of HI.out.ask;obtain ⟨x0,x1,x2,x3,x4,x5,x6⟩:=HI.out.cfg;obtain ⟨z0,z1,z2,z3,f0,f1,f2,f3⟩:=HI.out.td.rc4;rw [hh] at a3;have KL:=hid (plen_any HI.out.sp)
  go_upto_region 6 with fail
  have HE:=hid (HI.out.step (Below.refl _ _).drew);obtain ⟨a0e,a1e,a2e,a3e,a4e,a5e,a6e,a7e⟩:=bgA_of HE.out.ask;obtain ⟨x0e,x1e,x2e,x3e,x4e,x5e,x6e⟩:=HE.out.cfg;obtain ⟨z0e,z1e,z2e,z3e,f0e,f1e,f2e,f3e⟩:=HE.out.td.rc4;have KLe:=hid (plen_any HE.out.sp)
  go_region_law (go_simp; go_at_call 59; refine KLe.out.mono ?_; rintro e w5 ⟨rfl,hw5⟩; rw [hw5]; clear hw5)
  all_goals (
   clear a0e a1e a2e a3e a4e a5e a6e a7e x0e x1e x2e x3e x4e x5e x6e z0e z1e z2e z3e f0e f1e f2e f3e;have KEEP:=hid (HI.out.keep (.int .i64 503) (.int .i64 0) (.string ⟨#[]⟩) (.bool false));go_wp2;generalize World.setCell _ _ _=wA at KEEP ⊢;obtain ⟨⟨d0,d1,d2,d3,_,_,_,_⟩,hbA⟩:=KEEP.out
   try simp only [Exit.inBlock,Exit.then]
   refine bodyPost_ret (v:=.agg #[.int .i64 503,.int .i64 0,.string ⟨#[]⟩,.bool false]) (by simp [results,Tryz.results33,go_sem,d0,d1,d2,d3]; try rfl) rfl ?_
   first | exact ⟨rfl,hbA⟩ | exact ⟨rfl,hbA.drew⟩))
end
theorem FrP.setn {B:Nat} {w u:World} (h:FrP B w u) (hB:B≤w.heap.size) {b j:Nat} (hb:w.heap.size≤b) (v:Value):FrP B w (u.setCell ⟨b,j,none⟩ v) :=
 ⟨h.below.setCell (Nat.le_trans hB hb) v,fun k cs e x hh n1 n2 n3 n4=>by
  have hk:=(Array.getElem?_eq_some_iff.1 hh).1;rw [Below.heap_setCell _ ⟨b,j,none⟩ _ _ (show k ≠ b by omega)];exact h.keep k cs e x hh n1 n2 n3 n4⟩
theorem own_slF {w:World} {B e s n:Nat} {v:Value} {xs:List Value} (h:w.ownsRow B e s v n xs):SlF v:=by
 rcases h.2 with ⟨rfl,hn⟩ | ⟨g,cap,cur,rfl,_⟩
 ·exact .inl ⟨0,0,rfl⟩
 ·exact .inr ⟨_,_,_,rfl⟩
theorem FrP.ownU {C D:Nat} {w w':World} {v:Value} {ts:List Tu} (hf:FrP C w w') (h:OwnU w D v ts):OwnU w' D v ts:=hf.own h (by decide) (by decide) (by decide) (by decide)
theorem FrP.ownS {C D:Nat} {w w':World} {v:Value} {xs:List Value} (hf:FrP C w w') (h:Own w D 9 v xs):Own w' D 9 v xs:=hf.own h (by decide) (by decide) (by decide) (by decide)
structure BgG (B bt mn ma be mw:Nat) (c:Cf) (last:Int) (l la:List PbC) (r:List Tm) (a:Pa) (ts ns:Value) (w u:World):Prop where
 ask:RowIs u w.heap.size 69 (pskL a ts ns)
 td:RowIs u (w.heap.size+1) 66 [.int .i64 0,.int .i64 0,.string ⟨#[]⟩,.bool false]
 fr:FrP B w u
 sp:Sp2 B bt mn ma be mw u c last l la r
section
variable {B bt mn ma be mw : Nat} {w u u' : World} {c : Cf} {last : Int} {l la l' la' : List PbC} {r r' : List Tm} {a : Pa} {ts ns : Value}
theorem BgG.step (h:BgG B bt mn ma be mw c last l la r a ts ns w u) (hb:Below u.heap.size u u'):BgG B bt mn ma be mw c last l la r a ts ns w u' :=
 ⟨h.ask.below hb h.ask.bl,h.td.below hb h.td.bl,h.fr.trans (FrP.of hb h.sp.lo),h.sp.below hb⟩
theorem BgG.turn {last':Int} (h:BgG B bt mn ma be mw c last l la r a ts ns w u) (hf:FrP B u u') (hs:Sp2 B bt mn ma be mw u' c last' l' la' r'):BgG B bt mn ma be mw c last' l' la' r' a ts ns w u' :=
 ⟨hf.row h.ask (by decide) (by decide) (by decide) (by decide),hf.row h.td (by decide) (by decide) (by decide) (by decide),h.fr.trans hf,hs⟩
theorem BgG.of (h:BgF B bt mn ma be mw c last l r a ts ns w u) (hB:B≤w.heap.size):BgG B bt mn ma be mw c last l l r a ts ns w u:=⟨h.ask,h.td,FrP.of h.bel hB,h.sp⟩
theorem BgG.cfg (h:BgG B bt mn ma be mw c last l la r a ts ns w u):BoxF u bt c:=⟨h.sp.c0,h.sp.c1,h.sp.c2,h.sp.c3,h.sp.c4,h.sp.c5,h.sp.c6⟩
theorem BgG.keep (h:BgG B bt mn ma be mw c last l la r a ts ns w u) (hB:B≤w.heap.size) (v0 v1 v2 v3:Value):RowC4 ((((u.setCell ⟨w.heap.size+1,0,none⟩ v0).setCell ⟨w.heap.size+1,1,none⟩ v1).setCell ⟨w.heap.size+1,2,none⟩ v2).setCell ⟨w.heap.size+1,3,none⟩ v3) (w.heap.size+1) v0 v1 v2 v3∧FrP B w ((((u.setCell ⟨w.heap.size+1,0,none⟩ v0).setCell ⟨w.heap.size+1,1,none⟩ v1).setCell ⟨w.heap.size+1,2,none⟩ v2).setCell ⟨w.heap.size+1,3,none⟩ v3)∧Sp2 B bt mn ma be mw ((((u.setCell ⟨w.heap.size+1,0,none⟩ v0).setCell ⟨w.heap.size+1,1,none⟩ v1).setCell ⟨w.heap.size+1,2,none⟩ v2).setCell ⟨w.heap.size+1,3,none⟩ v3) c last l la r :=
 ⟨(rc_store4 h.td v0 v1 v2 v3).rc4,(((h.fr.setn hB (by omega) _).setn hB (by omega) _).setn hB (by omega) _).setn hB (by omega) _,h.sp.put h.td (by decide) (by decide) (by decide) (by decide) (chg4 u (w.heap.size+1) v0 v1 v2 v3)⟩
set_option maxHeartbeats 4000000 in
set_option maxRecDepth 100000 in
theorem pbeg_200 (h:Sp2 B bt mn ma be mw w c last l l r) {now:Int} {n:Int} (hs1:(secC c a.exp).1=n) (hs2:(secC c a.exp).2=true) (hh:a.has=true) (hn0:(n==0)=false) (h6:¬ c.pubs≤(l.length:Int)) (hl0:0≤last) (hl9:last≤1000000000) (htag:a.tag.length≤281474976710656) (hwho:a.who.length≤281474976710656) (hno:∀ y ∈ l,y.p.tag ≠ a.tag) (hnx:∀ y ∈ l,y.p.num ≠ last+1) (h0:0≤n) (h9:n≤2147483647) (w0:0≤now) (w9:now≤549755813888) (hrl:r.length < 4096) (hl:l.length≤1000000) (hsm:SmallD 140737488355328 a.doc) (htl:a.doc.tuples.length≤1000000) (hnl:a.doc.notes.length≤1000000) (hts:∀ u,Below B w u → TusAt u ts a.doc.tuples∧StrsAt u ns a.doc.notes)  :
  Calls Tryz.prog 33 #[.pointer (some ⟨bt,0,none⟩),.int .i64 now,askV a ts ns] w fun e w'=>e=.returned (tdV ⟨200,n,a.tag,true⟩)∧∃ ts2 ns2,Sp2 B bt mn ma be mw w' c (last+1) (l++[⟨⟨last+1,a.who,a.tag,now+10 * n,a.doc⟩,ts2,ns2⟩]) (l++[⟨⟨last+1,a.who,a.tag,now+10 * n,a.doc⟩,ts2,ns2⟩]) (setT r (last+1) (now+10 * n))∧FrP B w w'∧OwnU w' w.heap.size ts2 a.doc.tuples∧Own w' w.heap.size 9 ns2 (strs a.doc.notes):=by
 have HH:=hid hh;clear hh;have hB:=h.lo;have wr1:IntKind.i64.wrap (last+1)=last+1:=by rw [IntKind.wrap_i64]; omega
 have hwf:(Lit.int .i64 (last+1)).wf=true:=by simp [Lit.wf,IntKind.min,IntKind.max,IntKind.signed,IntKind.bits]; omega
 have h6d:decide (c.pubs≤(l.length:Int))=false:=decide_eq_false h6;have h7d:decide ((l.length:Int) < c.pubs)=true:=decide_eq_true (by omega);have K1:=hid (fun (u:World)=>clonep a.who u hwho);have K4:=hid (fun (u:World)=>clonep a.tag u htag);have KD:=hid (fun (u:World) (hu:FrP B w u)=>pcopydoc_any a.doc ts ns u hsm htl hnl (hts u hu.below).1 (hts u hu.below).2);have KK:=hid (fun (u:World) (t2 n2:Value) (hf:SlF t2∧SlF n2) (hu:Sp2 B bt mn ma be mw u c (last+1) l l r)=>pkeep_new hu (now:=now) (n:=n) (x:=⟨⟨last+1,a.who,[],0,a.doc⟩,t2,n2⟩) (tag:=a.tag) htag hwf (by simp only; omega) hf hno hnx hl h0 h9 w0 w9 hrl);clear h6 hno hnx hts hsm h0 h9 w0 w9 hl0 hl9 hwf htl hnl;have HI:=hid (BgF.start (a:=a) (ts:=ts) (ns:=ns) h);clear h
 go_enter Tryz.func33,Tryz.ntmps33
 unfold askV
 go_upto_region 1 with fail
 generalize World.alloc (World.alloc _ _) _=W at HI ⊢;have hh:=HH.out;have HD:=hid (HI.out.step (Below.refl _ W).drew);obtain ⟨a0,a1,a2,a3,a4,a5,a6,a7⟩:=bgA_of HI.out.ask;obtain ⟨x0,x1,x2,x3,x4,x5,x6⟩:=HI.out.cfg;obtain ⟨z0,z1,z2,z3,f0,f1,f2,f3⟩:=HI.out.td.rc4;obtain ⟨a0d,a1d,a2d,a3d,a4d,a5d,a6d,a7d⟩:=bgA_of HD.out.ask;obtain ⟨x0d,x1d,x2d,x3d,x4d,x5d,x6d⟩:=HD.out.cfg;obtain ⟨z0d,z1d,z2d,z3d,f0d,f1d,f2d,f3d⟩:=HD.out.td.rc4;have KS:=hid (fun (u:World)=>psec_any c a.exp u);rw [hs1,hs2] at KS;unfold cfV at KS
 go_region_law (go_simp; go_at_call 57; refine (KS.out _).mono ?_; rintro e w3 ⟨rfl,hb3⟩; replace HI:=hid (HD.out.step hb3); clear hb3)
 all_goals (
  clear a0 a1 a2 a3 a4 a5 a6 a7 x0 x1 x2 x3 x4 x5 x6 z0 z1 z2 z3 f0 f1 f2 f3;obtain ⟨a0,a1,a2,a3,a4,a5,a6,a7⟩:=bgA_of HI.out.ask;obtain ⟨x0,x1,x2,x3,x4,x5,x6⟩:=HI.out.cfg;obtain ⟨z0,z1,z2,z3,f0,f1,f2,f3⟩:=HI.out.td.rc4;rw [hh] at a3
  go_upto_region 6 with fail
  have HE:=hid (HI.out.step (Below.refl _ _).drew);obtain ⟨a0e,a1e,a2e,a3e,a4e,a5e,a6e,a7e⟩:=bgA_of HE.out.ask;obtain ⟨x0e,x1e,x2e,x3e,x4e,x5e,x6e⟩:=HE.out.cfg;obtain ⟨z0e,z1e,z2e,z3e,f0e,f1e,f2e,f3e⟩:=HE.out.td.rc4;have KLe:=hid (plen_any HE.out.sp)
  go_region_law (go_simp; go_at_call 59; refine KLe.out.mono ?_; rintro e w5 ⟨rfl,hw5⟩; rw [hw5]; clear hw5)
  all_goals (
   have HI0:=HI;clear a0 a1 a2 a3 a4 a5 a6 a7 x0 x1 x2 x3 x4 x5 x6 z0 z1 z2 z3 f0 f1 f2 f3 a0e a1e a2e a3e a4e a5e a6e a7e x0e x1e x2e x3e x4e x5e x6e z0e z1e z2e z3e f0e f1e f2e f3e HI KLe;have h7:=HE.out.sp.c7;have g7:=HE.out.sp.f7;have k7:=HI0.out.sp.c7;have j7:=HI0.out.sp.f7
   go_upto_region 9 with fail
   have G4:=hid ((BgG.of HI0.out hB).turn (HI0.out.sp.count (last+1)).2 (HI0.out.sp.count (last+1)).1);clear h7 g7 k7 j7 HE HI0;generalize World.setCell _ _ _=w4 at G4 ⊢;have G5:=hid (G4.out.step (Below.refl _ w4).drew);have G6:=hid (G4.out.step (Below.refl _ w4).drew.drew);obtain ⟨a0e,a1e,a2e,a3e,a4e,a5e,a6e,a7e⟩:=bgA_of G6.out.ask;have x7e:=G6.out.sp.c7;clear G4 G5
   go_region_held3 (fun w'=>w'.cell? ⟨bt,7,none⟩=some (.int .i64 (last+1))∧w'.cell? ⟨w.heap.size,0,none⟩=some (.string ⟨a.who.toArray⟩)∧w'.cell? ⟨w.heap.size,4,none⟩=some (.string ⟨a.doc.entity.toArray⟩)∧w'.cell? ⟨w.heap.size,5,none⟩=some ts∧w'.cell? ⟨w.heap.size,6,none⟩=some ns∧w'.cell? ⟨w.heap.size,7,none⟩=some (.string ⟨a.tag.toArray⟩)) (go_keep) (first
    | (go_at_call 24; refine (K1.out _).mono ?_; rintro e w5 ⟨rfl,hb5⟩; have G6:=hid (G6.out.step hb5); clear hb5 K1; clear a0e a1e a2e a3e a4e a5e a6e a7e x7e; obtain ⟨a0e,a1e,a2e,a3e,a4e,a5e,a6e,a7e⟩:=bgA_of G6.out.ask; have x7e:=G6.out.sp.c7)
    | (go_at_call 25; refine (KD.out _ G6.out.fr).mono ?_; rintro e w6 ⟨t2,n2,rfl,ho6,hn6,hb6⟩; have hw5:=G6.out.td.bl; have G6:=hid (G6.out.step hb6); clear hb6 KD; clear a0e a1e a2e a3e a4e a5e a6e a7e x7e; obtain ⟨a0e,a1e,a2e,a3e,a4e,a5e,a6e,a7e⟩:=bgA_of G6.out.ask; have x7e:=G6.out.sp.c7; obtain ⟨xa,xk,e5⟩:=ho6.form; obtain ⟨ya,yk,e6⟩:=own_formP hn6; rw [show (strs a.doc.notes).length=a.doc.notes.length by simp [strs]] at e6; subst e5 e6; unfold docV; have HO:=hid (And.intro ho6 hn6); have HF:=hid (And.intro (own_slF ho6) (own_slF hn6)); have HW5:=hid hw5; have hWL:=hid (show w.heap.size≤_ from Nat.le_trans (Nat.le_succ _) (Nat.le_of_lt hw5)); clear ho6 hn6 hw5)
    | (have K3:=KK.out _ _ _ HF.out G6.out.sp; unfold pbV at K3; simp only at K3; go_at_call 60; refine K3.mono ?_; rintro e w7 ⟨rfl,hS7,hF7⟩; have hB6:=G6.out.fr.below.size; have G6:=hid (G6.out.turn hF7 hS7); have HO:=hid (And.intro (hF7.ownU HO.out.1) (hF7.ownS HO.out.2)); clear hS7 hF7 K3 KK; clear a0e a1e a2e a3e a4e a5e a6e a7e x7e; obtain ⟨a0e,a1e,a2e,a3e,a4e,a5e,a6e,a7e⟩:=bgA_of G6.out.ask; have x7e:=G6.out.sp.c7))
   all_goals (
    go_wp2_with fail
    refine (K4.out _).mono ?_
    rintro e w8 ⟨rfl,hb8⟩;have HT:=hid (G6.out.step hb8);have HO:=hid (And.intro (HO.out.1.below hb8) (HO.out.2.below hb8));clear a0e a1e a2e a3e a4e a5e a6e a7e x7e hb8;obtain ⟨z0,z1,z2,z3,f0,f1,f2,f3⟩:=HT.out.td.rc4;have KEEP:=hid (And.intro (HT.out.keep hB (.int .i64 200) (.int .i64 n) (.string ⟨a.tag.toArray⟩) (.bool true)) (And.intro (own_set4 HO.out.1 HW5.out (.int .i64 200) (.int .i64 n) (.string ⟨a.tag.toArray⟩) (.bool true)) (own_set4 HO.out.2 HW5.out (.int .i64 200) (.int .i64 n) (.string ⟨a.tag.toArray⟩) (.bool true))));go_wp2;generalize World.setCell _ _ _=wA at KEEP ⊢;obtain ⟨⟨⟨d0,d1,d2,d3,_,_,_,_⟩,hFA,hSA⟩,hO1,hO2⟩:=KEEP.out
    try simp only [Exit.inBlock,Exit.then]
    refine bodyPost_ret (v:=.agg #[.int .i64 200,.int .i64 n,.string ⟨a.tag.toArray⟩,.bool true]) (by simp [results,Tryz.results33,go_sem,d0,d1,d2,d3]; try rfl) rfl ?_
    exact ⟨rfl,_,_,hSA,hFA,own_lower hO1 hWL.out,own_lower hO2 hWL.out⟩)))
end
def pbL (x:PbC):List Value:=[.int .i64 x.p.num,.string ⟨x.p.who.toArray⟩,.string ⟨x.p.tag.toArray⟩,.int .i64 x.p.til,.string ⟨x.p.doc.entity.toArray⟩,x.ts,x.ns]
structure ChF (B bt mn ma be mw:Nat) (c:Cf) (last:Int) (l la:List PbC) (r:List Tm) (a:Pa) (ts ns:Value) (x:PbC) (pb:Nat) (w u:World):Prop where
 g:BgG B bt mn ma be mw c last l la r a ts ns w u
 pv:RowIs u pb 37 (pbL x)
 lt:w.heap.size+1 < pb
section
variable {B bt mn ma be mw : Nat} {w u u' : World} {c : Cf} {last : Int} {l la l' la' : List PbC} {r r' : List Tm} {a : Pa} {ts ns : Value} {x : PbC} {pb : Nat}
theorem ChF.new (x:PbC) (h:BgG B bt mn ma be mw c last l la r a ts ns w u):ChF B bt mn ma be mw c last l la r a ts ns x u.heap.size w (u.alloc (.cells #[.int .i64 x.p.num,.string ⟨x.p.who.toArray⟩,.string ⟨x.p.tag.toArray⟩,.int .i64 x.p.til,.string ⟨x.p.doc.entity.toArray⟩,x.ts,x.ns] 37)) :=
 ⟨h.step ((Below.refl _ u).alloc (Nat.le_refl _) _),rp_row7 u _ _ _ _ _ _ _ _,h.td.bl⟩
theorem ChF.step (h:ChF B bt mn ma be mw c last l la r a ts ns x pb w u) (hb:Below u.heap.size u u'):ChF B bt mn ma be mw c last l la r a ts ns x pb w u' :=
 ⟨h.g.step hb,h.pv.below hb h.pv.bl,h.lt⟩
theorem ChF.turn {last':Int} (h:ChF B bt mn ma be mw c last l la r a ts ns x pb w u) (hf:FrP B u u') (hs:Sp2 B bt mn ma be mw u' c last' l' la' r'):ChF B bt mn ma be mw c last' l' la' r' a ts ns x pb w u' :=
 ⟨h.g.turn hf hs,hf.row h.pv (by decide) (by decide) (by decide) (by decide),h.lt⟩
theorem ChF.doc (h:ChF B bt mn ma be mw c last l la r a ts ns x pb w u) (hB:B≤w.heap.size) (d:Dc) (t2 n2:Value):ChF B bt mn ma be mw c last l la r a ts ns ⟨⟨x.p.num,x.p.who,x.p.tag,x.p.til,d⟩,t2,n2⟩ pb w (((u.setCell ⟨pb,4,none⟩ (.string ⟨d.entity.toArray⟩)).setCell ⟨pb,5,none⟩ t2).setCell ⟨pb,6,none⟩ n2):=by
 have hlt:=h.lt;have c0:=(Chg.refl (fun k=>k=pb) u).setCell (p:=⟨pb,4,none⟩) (fun _=>rfl) (.string ⟨d.entity.toArray⟩);have c1:=c0.setCell (p:=⟨pb,5,none⟩) (fun _=>rfl) t2;have c2:=c1.setCell (p:=⟨pb,6,none⟩) (fun _=>rfl) n2
 have hr:RowIs (((u.setCell ⟨pb,4,none⟩ (.string ⟨d.entity.toArray⟩)).setCell ⟨pb,5,none⟩ t2).setCell ⟨pb,6,none⟩ n2) pb 37 (pbL ⟨⟨x.p.num,x.p.who,x.p.tag,x.p.til,d⟩,t2,n2⟩):=by
  have:=((h.pv.set 4 (.string ⟨d.entity.toArray⟩)).set 5 t2).set 6 n2
  simpa [pbL] using this
 exact ⟨⟨h.g.ask.chg c2 (by omega),h.g.td.chg c2 (by omega),((h.g.fr.setn hB (by omega) _).setn hB (by omega) _).setn hB (by omega) _,h.g.sp.put h.pv (by decide) (by decide) (by decide) (by decide) c2⟩,hr,hlt⟩
structure ChA (w u:World) (pb bt:Nat) (a:Pa) (ts ns:Value) (x:PbC) (c:Cf) (last:Int) (mn ma be:Nat):Prop where
 a0:u.cell? ⟨w.heap.size,0,none⟩=some (.string ⟨a.who.toArray⟩)
 a1:u.cell? ⟨w.heap.size,1,none⟩=some (.string ⟨a.mt.toArray⟩)
 a2:u.cell? ⟨w.heap.size,2,none⟩=some (.int .i64 a.exp)
 a3:u.cell? ⟨w.heap.size,3,none⟩=some (.bool a.has)
 a4:u.cell? ⟨w.heap.size,4,none⟩=some (.string ⟨a.doc.entity.toArray⟩)
 a5:u.cell? ⟨w.heap.size,5,none⟩=some ts
 a6:u.cell? ⟨w.heap.size,6,none⟩=some ns
 a7:u.cell? ⟨w.heap.size,7,none⟩=some (.string ⟨a.tag.toArray⟩)
 x0:u.cell? ⟨bt,0,none⟩=some (.string ⟨c.host.toArray⟩)
 x1:u.cell? ⟨bt,1,none⟩=some (.int .i64 c.calls)
 x2:u.cell? ⟨bt,2,none⟩=some (.int .i64 c.pubs)
 x3:u.cell? ⟨bt,3,none⟩=some (.int .i64 c.subs)
 x4:u.cell? ⟨bt,4,none⟩=some (.int .i64 c.least)
 x5:u.cell? ⟨bt,5,none⟩=some (.int .i64 c.most)
 x6:u.cell? ⟨bt,6,none⟩=some (.int .i64 c.usual)
 x8:u.cell? ⟨bt,8,none⟩=some (.map (some mn))
 p0:u.cell? ⟨pb,0,none⟩=some (.int .i64 x.p.num)
 p1:u.cell? ⟨pb,1,none⟩=some (.string ⟨x.p.who.toArray⟩)
 p2:u.cell? ⟨pb,2,none⟩=some (.string ⟨x.p.tag.toArray⟩)
 p3:u.cell? ⟨pb,3,none⟩=some (.int .i64 x.p.til)
 p4:u.cell? ⟨pb,4,none⟩=some (.string ⟨x.p.doc.entity.toArray⟩)
 p5:u.cell? ⟨pb,5,none⟩=some x.ts
 p6:u.cell? ⟨pb,6,none⟩=some x.ns
theorem ChF.all (h:ChF B bt mn ma be mw c last l la r a ts ns x pb w u):ChA w u pb bt a ts ns x c last mn ma be:=by
 obtain ⟨a0,a1,a2,a3,a4,a5,a6,a7⟩:=bgA_of h.g.ask;obtain ⟨x0,x1,x2,x3,x4,x5,x6⟩:=h.g.cfg;obtain ⟨p0,p1,p2,p3,p4,p5,p6,_,_,_,_,_,_,_⟩:=(show RowIs u pb 37 [_,_,_,_,_,_,_] from h.pv).rp7;exact ⟨a0,a1,a2,a3,a4,a5,a6,a7,x0,x1,x2,x3,x4,x5,x6,h.g.sp.c8,p0,p1,p2,p3,p4,p5,p6⟩
set_option maxHeartbeats 4000000 in
set_option maxRecDepth 100000 in
theorem pchg_412 (h:Sp2 B bt mn ma be mw w c last l l r) {now:Int} {ok:Bool} (hfx:SlF x.ts∧SlF x.ns) (hF:∀ u,Sp2 B bt mn ma be mw u c last l l r → Calls Tryz.prog 61 #[.pointer (some ⟨bt,0,none⟩),.string ⟨a.who.toArray⟩,.string ⟨a.mt.toArray⟩] u fun e u'=>e=.returned (.tuple #[pbV x,.bool ok])∧Below u.heap.size u u') (hok:ok=false) :
  Calls Tryz.prog 34 #[.pointer (some ⟨bt,0,none⟩),.int .i64 now,askV a ts ns] w fun e w'=>e=.returned (tdV ⟨412,0,[],false⟩)∧Sp2 B bt mn ma be mw w' c last l l r∧FrP B w w':=by
 subst hok;obtain ⟨ta,tn,tc,na,nn,nc,e1,e2⟩:=pb_oneP hfx;obtain ⟨xp,xts,xns⟩:=x;simp only at e1 e2;subst e1 e2;have hB:=h.lo;have HFX:=hid hfx;clear hfx;have KF:=hid hF;unfold pbV at KF
 try simp only at KF
 clear hF;have HI:=hid (BgG.of (BgF.start (a:=a) (ts:=ts) (ns:=ns) h) hB);clear h
 go_enter Tryz.func34,Tryz.ntmps34
 unfold askV
 go_upto_region 1 with fail
 generalize World.alloc (World.alloc _ _) _=W at HI ⊢;obtain ⟨a0,a1,a2,a3,a4,a5,a6,a7⟩:=bgA_of HI.out.ask;go_wp2_with fail
 refine (KF.out _ HI.out.sp).mono ?_
 rintro e w3 ⟨rfl,hb3⟩;have HN:=hid (ChF.new ⟨xp,.slice ta tn tc,.slice na nn nc⟩ (HI.out.step hb3));clear a0 a1 a2 a3 a4 a5 a6 a7 HI KF hb3
 try simp only at HN
 go_upto_region 2 with fail
 generalize World.alloc _ _=W5 at HN ⊢;generalize w3.heap.size=pb at HN ⊢;obtain ⟨a0,a1,a2,a3,a4,a5,a6,a7,x0,x1,x2,x3,x4,x5,x6,x8,p0,p1,p2,p3,p4,p5,p6⟩:=HN.out.all;obtain ⟨z0,z1,z2,z3,f0,f1,f2,f3⟩:=HN.out.g.td.rc4;have KEEP:=hid (HN.out.g.keep hB (.int .i64 412) (.int .i64 0) (.string ⟨#[]⟩) (.bool false));go_wp2;generalize World.setCell _ _ _=wA at KEEP ⊢;obtain ⟨⟨d0,d1,d2,d3,_,_,_,_⟩,hFA,hSA⟩:=KEEP.out
 try simp only [Exit.inBlock,Exit.then]
 refine bodyPost_ret (v:=.agg #[.int .i64 412,.int .i64 0,.string ⟨#[]⟩,.bool false]) (by simp [results,Tryz.results34,go_sem,d0,d1,d2,d3]; try rfl) rfl ?_
 exact ⟨rfl,hSA,hFA⟩
set_option maxHeartbeats 4000000 in
set_option maxRecDepth 100000 in
theorem pchg_423 (h:Sp2 B bt mn ma be mw w c last l l r) {now:Int} {ok:Bool} (hfx:SlF x.ts∧SlF x.ns) (hF:∀ u,Sp2 B bt mn ma be mw u c last l l r → Calls Tryz.prog 61 #[.pointer (some ⟨bt,0,none⟩),.string ⟨a.who.toArray⟩,.string ⟨a.mt.toArray⟩] u fun e u'=>e=.returned (.tuple #[pbV x,.bool ok])∧Below u.heap.size u u') (hok:ok=true) {n:Int} (hs1:(secC c a.exp).1=n) (hs2:(secC c a.exp).2=false) :
  Calls Tryz.prog 34 #[.pointer (some ⟨bt,0,none⟩),.int .i64 now,askV a ts ns] w fun e w'=>e=.returned (tdV ⟨423,c.least,[],false⟩)∧Sp2 B bt mn ma be mw w' c last l l r∧FrP B w w':=by
 subst hok;obtain ⟨ta,tn,tc,na,nn,nc,e1,e2⟩:=pb_oneP hfx;obtain ⟨xp,xts,xns⟩:=x;simp only at e1 e2;subst e1 e2;have hB:=h.lo;have HFX:=hid hfx;clear hfx;have KF:=hid hF;unfold pbV at KF
 try simp only at KF
 clear hF;have HI:=hid (BgG.of (BgF.start (a:=a) (ts:=ts) (ns:=ns) h) hB);clear h
 go_enter Tryz.func34,Tryz.ntmps34
 unfold askV
 go_upto_region 1 with fail
 generalize World.alloc (World.alloc _ _) _=W at HI ⊢;obtain ⟨a0,a1,a2,a3,a4,a5,a6,a7⟩:=bgA_of HI.out.ask;go_wp2_with fail
 refine (KF.out _ HI.out.sp).mono ?_
 rintro e w3 ⟨rfl,hb3⟩;have HN:=hid (ChF.new ⟨xp,.slice ta tn tc,.slice na nn nc⟩ (HI.out.step hb3));clear a0 a1 a2 a3 a4 a5 a6 a7 HI KF hb3
 try simp only at HN
 go_upto_region 2 with fail
 generalize World.alloc _ _=W5 at HN ⊢;generalize w3.heap.size=pb at HN ⊢;obtain ⟨a0,a1,a2,a3,a4,a5,a6,a7,x0,x1,x2,x3,x4,x5,x6,x8,p0,p1,p2,p3,p4,p5,p6⟩:=HN.out.all;obtain ⟨z0,z1,z2,z3,f0,f1,f2,f3⟩:=HN.out.g.td.rc4;have HD:=hid (HN.out.step (Below.refl _ W5).drew);obtain ⟨a0d,a1d,a2d,a3d,a4d,a5d,a6d,a7d,x0d,x1d,x2d,x3d,x4d,x5d,x6d,x8d,p0d,p1d,p2d,p3d,p4d,p5d,p6d⟩:=HD.out.all;obtain ⟨z0d,z1d,z2d,z3d,f0d,f1d,f2d,f3d⟩:=HD.out.g.td.rc4;have KS:=hid (fun (u:World)=>psec_any c a.exp u);rw [hs1,hs2] at KS;unfold cfV at KS
 go_upto_region 4 with fail
 go_region_law (go_simp; go_at_call 57; refine (KS.out _).mono ?_; rintro e w4 ⟨rfl,hb4⟩; replace HN:=hid (HD.out.step hb4); clear hb4)
 all_goals (
  clear a0 a1 a2 a3 a4 a5 a6 a7 x0 x1 x2 x3 x4 x5 x6 x8 p0 p1 p2 p3 p4 p5 p6 z0 z1 z2 z3 f0 f1 f2 f3;have KB:=hid (pbrief_any HN.out.g.sp);go_wp2_with fail
  refine KB.out.mono ?_
  rintro e w6 ⟨rfl,hb6⟩;replace HN:=hid (HN.out.step hb6);unfold tdV;clear hb6;obtain ⟨a0,a1,a2,a3,a4,a5,a6,a7,x0,x1,x2,x3,x4,x5,x6,x8,p0,p1,p2,p3,p4,p5,p6⟩:=HN.out.all;obtain ⟨z0,z1,z2,z3,f0,f1,f2,f3⟩:=HN.out.g.td.rc4;have KEEP:=hid (HN.out.g.keep hB (.int .i64 423) (.int .i64 c.least) (.string ⟨#[]⟩) (.bool false));go_wp2;generalize World.setCell _ _ _=wA at KEEP ⊢;obtain ⟨⟨d0,d1,d2,d3,_,_,_,_⟩,hFA,hSA⟩:=KEEP.out
  try simp only [Exit.inBlock,Exit.then]
  refine bodyPost_ret (v:=.agg #[.int .i64 423,.int .i64 c.least,.string ⟨#[]⟩,.bool false]) (by simp [results,Tryz.results34,go_sem,d0,d1,d2,d3]; try rfl) rfl ?_
  exact ⟨rfl,hSA,hFA⟩)
set_option maxHeartbeats 4000000 in
set_option maxRecDepth 100000 in
theorem pchg_400 (h:Sp2 B bt mn ma be mw w c last l l r) {now:Int} {ok:Bool} (hfx:SlF x.ts∧SlF x.ns) (hF:∀ u,Sp2 B bt mn ma be mw u c last l l r → Calls Tryz.prog 61 #[.pointer (some ⟨bt,0,none⟩),.string ⟨a.who.toArray⟩,.string ⟨a.mt.toArray⟩] u fun e u'=>e=.returned (.tuple #[pbV x,.bool ok])∧Below u.heap.size u u') (hok:ok=true) {n:Int} (hs1:(secC c a.exp).1=n) (hs2:(secC c a.exp).2=true) (hn0:(n==0)=true) (hh:a.has=true) :
  Calls Tryz.prog 34 #[.pointer (some ⟨bt,0,none⟩),.int .i64 now,askV a ts ns] w fun e w'=>e=.returned (tdV ⟨400,0,[],false⟩)∧Sp2 B bt mn ma be mw w' c last l l r∧FrP B w w':=by
 have HH:=hid hh;clear hh;subst hok;obtain ⟨ta,tn,tc,na,nn,nc,e1,e2⟩:=pb_oneP hfx;obtain ⟨xp,xts,xns⟩:=x;simp only at e1 e2;subst e1 e2;have hB:=h.lo;have HFX:=hid hfx;clear hfx;have KF:=hid hF;unfold pbV at KF
 try simp only at KF
 clear hF;have HI:=hid (BgG.of (BgF.start (a:=a) (ts:=ts) (ns:=ns) h) hB);clear h
 go_enter Tryz.func34,Tryz.ntmps34
 unfold askV
 go_upto_region 1 with fail
 generalize World.alloc (World.alloc _ _) _=W at HI ⊢;obtain ⟨a0,a1,a2,a3,a4,a5,a6,a7⟩:=bgA_of HI.out.ask;go_wp2_with fail
 refine (KF.out _ HI.out.sp).mono ?_
 rintro e w3 ⟨rfl,hb3⟩;have HN:=hid (ChF.new ⟨xp,.slice ta tn tc,.slice na nn nc⟩ (HI.out.step hb3));clear a0 a1 a2 a3 a4 a5 a6 a7 HI KF hb3
 try simp only at HN
 go_upto_region 2 with fail
 generalize World.alloc _ _=W5 at HN ⊢;generalize w3.heap.size=pb at HN ⊢;obtain ⟨a0,a1,a2,a3,a4,a5,a6,a7,x0,x1,x2,x3,x4,x5,x6,x8,p0,p1,p2,p3,p4,p5,p6⟩:=HN.out.all;obtain ⟨z0,z1,z2,z3,f0,f1,f2,f3⟩:=HN.out.g.td.rc4;have HD:=hid (HN.out.step (Below.refl _ W5).drew);obtain ⟨a0d,a1d,a2d,a3d,a4d,a5d,a6d,a7d,x0d,x1d,x2d,x3d,x4d,x5d,x6d,x8d,p0d,p1d,p2d,p3d,p4d,p5d,p6d⟩:=HD.out.all;obtain ⟨z0d,z1d,z2d,z3d,f0d,f1d,f2d,f3d⟩:=HD.out.g.td.rc4;have KS:=hid (fun (u:World)=>psec_any c a.exp u);rw [hs1,hs2] at KS;unfold cfV at KS
 go_upto_region 4 with fail
 go_region_law (go_simp; go_at_call 57; refine (KS.out _).mono ?_; rintro e w4 ⟨rfl,hb4⟩; replace HN:=hid (HD.out.step hb4); clear hb4)
 all_goals (
  have hh:=HH.out;clear a0 a1 a2 a3 a4 a5 a6 a7 x0 x1 x2 x3 x4 x5 x6 x8 p0 p1 p2 p3 p4 p5 p6 z0 z1 z2 z3 f0 f1 f2 f3;obtain ⟨a0,a1,a2,a3,a4,a5,a6,a7,x0,x1,x2,x3,x4,x5,x6,x8,p0,p1,p2,p3,p4,p5,p6⟩:=HN.out.all;obtain ⟨z0,z1,z2,z3,f0,f1,f2,f3⟩:=HN.out.g.td.rc4;rw [hh] at a3;have KEEP:=hid (HN.out.g.keep hB (.int .i64 400) (.int .i64 0) (.string ⟨#[]⟩) (.bool false));go_wp2;generalize World.setCell _ _ _=wA at KEEP ⊢;obtain ⟨⟨d0,d1,d2,d3,_,_,_,_⟩,hFA,hSA⟩:=KEEP.out
  try simp only [Exit.inBlock,Exit.then]
  refine bodyPost_ret (v:=.agg #[.int .i64 400,.int .i64 0,.string ⟨#[]⟩,.bool false]) (by simp [results,Tryz.results34,go_sem,d0,d1,d2,d3]; try rfl) rfl ?_
  exact ⟨rfl,hSA,hFA⟩)
set_option maxHeartbeats 4000000 in
set_option maxRecDepth 100000 in
theorem pchg_end (h:Sp2 B bt mn ma be mw w c last l l r) {now:Int} {ok:Bool} (hfx:SlF x.ts∧SlF x.ns) (hF:∀ u,Sp2 B bt mn ma be mw u c last l l r → Calls Tryz.prog 61 #[.pointer (some ⟨bt,0,none⟩),.string ⟨a.who.toArray⟩,.string ⟨a.mt.toArray⟩] u fun e u'=>e=.returned (.tuple #[pbV x,.bool ok])∧Below u.heap.size u u') (hok:ok=true) {n:Int} (hs1:(secC c a.exp).1=n) (hs2:(secC c a.exp).2=true) (hn0:(n==0)=true) (hh:a.has=false) (htag:a.tag.length≤281474976710656) {l1:List PbC} {r1:List Tm} (hE:∀ u,Sp2 B bt mn ma be mw u c last l l r → Calls Tryz.prog 62 #[.pointer (some ⟨bt,0,none⟩),.int .i64 x.p.num] u fun e u'=>e=.returned (.tuple #[])∧(Sp2 B bt mn ma be mw u' c last l1 l1 r1∧FrP B u u')) :
  Calls Tryz.prog 34 #[.pointer (some ⟨bt,0,none⟩),.int .i64 now,askV a ts ns] w fun e w'=>e=.returned (tdV ⟨200,0,a.tag,true⟩)∧Sp2 B bt mn ma be mw w' c last l1 l1 r1∧FrP B w w':=by
 have HH:=hid hh;clear hh;have K4:=hid (fun (u:World)=>clonep a.tag u htag);have KE:=hid hE;clear htag hE;subst hok;obtain ⟨ta,tn,tc,na,nn,nc,e1,e2⟩:=pb_oneP hfx;obtain ⟨xp,xts,xns⟩:=x;simp only at e1 e2;subst e1 e2;have hB:=h.lo;have HFX:=hid hfx;clear hfx;have KF:=hid hF;unfold pbV at KF
 try simp only at KF
 clear hF;have HI:=hid (BgG.of (BgF.start (a:=a) (ts:=ts) (ns:=ns) h) hB);clear h
 go_enter Tryz.func34,Tryz.ntmps34
 unfold askV
 go_upto_region 1 with fail
 generalize World.alloc (World.alloc _ _) _=W at HI ⊢;obtain ⟨a0,a1,a2,a3,a4,a5,a6,a7⟩:=bgA_of HI.out.ask;go_wp2_with fail
 refine (KF.out _ HI.out.sp).mono ?_
 rintro e w3 ⟨rfl,hb3⟩;have HN:=hid (ChF.new ⟨xp,.slice ta tn tc,.slice na nn nc⟩ (HI.out.step hb3));clear a0 a1 a2 a3 a4 a5 a6 a7 HI KF hb3
 try simp only at HN
 go_upto_region 2 with fail
 generalize World.alloc _ _=W5 at HN ⊢;generalize w3.heap.size=pb at HN ⊢;have KE:=hid KE.out;obtain ⟨a0,a1,a2,a3,a4,a5,a6,a7,x0,x1,x2,x3,x4,x5,x6,x8,p0,p1,p2,p3,p4,p5,p6⟩:=HN.out.all;obtain ⟨z0,z1,z2,z3,f0,f1,f2,f3⟩:=HN.out.g.td.rc4;have HD:=hid (HN.out.step (Below.refl _ W5).drew);obtain ⟨a0d,a1d,a2d,a3d,a4d,a5d,a6d,a7d,x0d,x1d,x2d,x3d,x4d,x5d,x6d,x8d,p0d,p1d,p2d,p3d,p4d,p5d,p6d⟩:=HD.out.all;obtain ⟨z0d,z1d,z2d,z3d,f0d,f1d,f2d,f3d⟩:=HD.out.g.td.rc4;have KS:=hid (fun (u:World)=>psec_any c a.exp u);rw [hs1,hs2] at KS;unfold cfV at KS
 go_upto_region 4 with fail
 go_region_law (go_simp; go_at_call 57; refine (KS.out _).mono ?_; rintro e w4 ⟨rfl,hb4⟩; replace HN:=hid (HD.out.step hb4); clear hb4)
 all_goals (
  have hh:=HH.out;clear a0 a1 a2 a3 a4 a5 a6 a7 x0 x1 x2 x3 x4 x5 x6 x8 p0 p1 p2 p3 p4 p5 p6 z0 z1 z2 z3 f0 f1 f2 f3;obtain ⟨a0,a1,a2,a3,a4,a5,a6,a7,x0,x1,x2,x3,x4,x5,x6,x8,p0,p1,p2,p3,p4,p5,p6⟩:=HN.out.all;obtain ⟨z0,z1,z2,z3,f0,f1,f2,f3⟩:=HN.out.g.td.rc4;rw [hh] at a3;go_wp2_with fail
  refine (KE.out _ HN.out.g.sp).mono ?_
  rintro e w6 ⟨rfl,hS6,hF6⟩;replace HN:=hid (HN.out.turn hF6 hS6);clear a0 a1 a2 a3 a4 a5 a6 a7 x0 x1 x2 x3 x4 x5 x6 x8 p0 p1 p2 p3 p4 p5 p6 z0 z1 z2 z3 f0 f1 f2 f3 hS6 hF6;obtain ⟨a0,a1,a2,a3,a4,a5,a6,a7⟩:=bgA_of HN.out.g.ask;go_wp2_with fail
  refine (K4.out _).mono ?_
  rintro e w7 ⟨rfl,hb7⟩;replace HN:=hid (HN.out.step hb7);clear hb7 a0 a1 a2 a3 a4 a5 a6 a7;obtain ⟨z0,z1,z2,z3,f0,f1,f2,f3⟩:=HN.out.g.td.rc4;have KEEP:=hid (HN.out.g.keep hB (.int .i64 200) (.int .i64 0) (.string ⟨a.tag.toArray⟩) (.bool true));go_wp2;generalize World.setCell _ _ _=wA at KEEP ⊢;obtain ⟨⟨d0,d1,d2,d3,_,_,_,_⟩,hFA,hSA⟩:=KEEP.out
  try simp only [Exit.inBlock,Exit.then]
  refine bodyPost_ret (v:=.agg #[.int .i64 200,.int .i64 0,.string ⟨a.tag.toArray⟩,.bool true]) (by simp [results,Tryz.results34,go_sem,d0,d1,d2,d3]; try rfl) rfl ?_
  exact ⟨rfl,hSA,hFA⟩)
set_option maxHeartbeats 4000000 in
set_option maxRecDepth 100000 in
theorem pchg_on0 (h:Sp2 B bt mn ma be mw w c last l l r) {now:Int} {ok:Bool} (hfx:SlF x.ts∧SlF x.ns) (hF:∀ u,Sp2 B bt mn ma be mw u c last l l r → Calls Tryz.prog 61 #[.pointer (some ⟨bt,0,none⟩),.string ⟨a.who.toArray⟩,.string ⟨a.mt.toArray⟩] u fun e u'=>e=.returned (.tuple #[pbV x,.bool ok])∧Below u.heap.size u u') (hok:ok=true) {n:Int} (hs1:(secC c a.exp).1=n) (hs2:(secC c a.exp).2=true) (hn0:(n==0)=false) (hh:a.has=false) (htag:a.tag.length≤281474976710656) {l1:List PbC} (hD:∀ u,Sp2 B bt mn ma be mw u c last l l r → ∃ u',(Builtin.delete_ #[53,9] 0 #[.map (some mn),.string ⟨x.p.tag.toArray⟩]).run Tryz.prog u=.ok (.tuple #[]) u'∧Sp2 B bt mn ma be mw u' c last l1 l r∧FrP B u u') {L2:List PbC} {r2:List Tm} (hK:∀ u,Sp2 B bt mn ma be mw u c last l1 l r → Calls Tryz.prog 60 #[.pointer (some ⟨bt,0,none⟩),.int .i64 now,.int .i64 n,.string ⟨a.tag.toArray⟩,pbV x] u fun e u'=>e=.returned (.tuple #[])∧(Sp2 B bt mn ma be mw u' c last L2 L2 r2∧FrP B u u')) :
  Calls Tryz.prog 34 #[.pointer (some ⟨bt,0,none⟩),.int .i64 now,askV a ts ns] w fun e w'=>e=.returned (tdV ⟨200,n,a.tag,false⟩)∧Sp2 B bt mn ma be mw w' c last L2 L2 r2∧FrP B w w':=by
 have HH:=hid hh;clear hh;have K4:=hid (fun (u:World)=>clonep a.tag u htag);have HDEL:=hid hD;have KK:=hid hK;clear htag hD hK;subst hok;obtain ⟨ta,tn,tc,na,nn,nc,e1,e2⟩:=pb_oneP hfx;obtain ⟨xp,xts,xns⟩:=x;simp only at e1 e2;subst e1 e2;have hB:=h.lo;have HFX:=hid hfx;clear hfx;have KF:=hid hF;unfold pbV at KF
 try simp only at KF
 clear hF;have HI:=hid (BgG.of (BgF.start (a:=a) (ts:=ts) (ns:=ns) h) hB);clear h
 go_enter Tryz.func34,Tryz.ntmps34
 unfold askV
 go_upto_region 1 with fail
 generalize World.alloc (World.alloc _ _) _=W at HI ⊢;obtain ⟨a0,a1,a2,a3,a4,a5,a6,a7⟩:=bgA_of HI.out.ask;go_wp2_with fail
 refine (KF.out _ HI.out.sp).mono ?_
 rintro e w3 ⟨rfl,hb3⟩;have HN:=hid (ChF.new ⟨xp,.slice ta tn tc,.slice na nn nc⟩ (HI.out.step hb3));clear a0 a1 a2 a3 a4 a5 a6 a7 HI KF hb3
 try simp only at HN
 go_upto_region 2 with fail
 generalize World.alloc _ _=W5 at HN ⊢;generalize w3.heap.size=pb at HN ⊢;have KK:=hid KK.out;unfold pbV at KK
 try simp only at KK
 obtain ⟨a0,a1,a2,a3,a4,a5,a6,a7,x0,x1,x2,x3,x4,x5,x6,x8,p0,p1,p2,p3,p4,p5,p6⟩:=HN.out.all;obtain ⟨z0,z1,z2,z3,f0,f1,f2,f3⟩:=HN.out.g.td.rc4;have HD:=hid (HN.out.step (Below.refl _ W5).drew);obtain ⟨a0d,a1d,a2d,a3d,a4d,a5d,a6d,a7d,x0d,x1d,x2d,x3d,x4d,x5d,x6d,x8d,p0d,p1d,p2d,p3d,p4d,p5d,p6d⟩:=HD.out.all;obtain ⟨z0d,z1d,z2d,z3d,f0d,f1d,f2d,f3d⟩:=HD.out.g.td.rc4;have KS:=hid (fun (u:World)=>psec_any c a.exp u);rw [hs1,hs2] at KS;unfold cfV at KS
 go_upto_region 4 with fail
 go_region_law (go_simp; go_at_call 57; refine (KS.out _).mono ?_; rintro e w4 ⟨rfl,hb4⟩; replace HN:=hid (HD.out.step hb4); clear hb4)
 all_goals (
  have HD2:=HN.out.step (Below.refl _ _).drew;obtain ⟨w5,hrun5,S5,F5⟩:=HDEL.out _ HD2.g.sp;have HX:=hid HD2;have HN:=hid (HD2.turn F5 S5);clear HD2 S5 F5;obtain ⟨a0g,a1g,a2g,a3g,a4g,a5g,a6g,a7g,x0g,x1g,x2g,x3g,x4g,x5g,x6g,x8g,p0g,p1g,p2g,p3g,p4g,p5g,p6g⟩:=HX.out.all;obtain ⟨z0g,z1g,z2g,z3g,f0g,f1g,f2g,f3g⟩:=HX.out.g.td.rc4;have hh:=HH.out;clear a0 a1 a2 a3 a4 a5 a6 a7 x0 x1 x2 x3 x4 x5 x6 x8 p0 p1 p2 p3 p4 p5 p6 z0 z1 z2 z3 f0 f1 f2 f3
  go_upto_region 12 with fail
  go_region
  all_goals (
   obtain ⟨a0,a1,a2,a3,a4,a5,a6,a7,x0,x1,x2,x3,x4,x5,x6,x8,p0,p1,p2,p3,p4,p5,p6⟩:=HN.out.all;obtain ⟨z0,z1,z2,z3,f0,f1,f2,f3⟩:=HN.out.g.td.rc4;rw [hh] at a3;go_wp2_with fail
   refine (KK.out _ HN.out.g.sp).mono ?_
   rintro e w6 ⟨rfl,hS6,hF6⟩;replace HN:=hid (HN.out.turn hF6 hS6);clear a0 a1 a2 a3 a4 a5 a6 a7 x0 x1 x2 x3 x4 x5 x6 x8 p0 p1 p2 p3 p4 p5 p6 z0 z1 z2 z3 f0 f1 f2 f3 hS6 hF6;obtain ⟨a0,a1,a2,a3,a4,a5,a6,a7,x0,x1,x2,x3,x4,x5,x6,x8,p0,p1,p2,p3,p4,p5,p6⟩:=HN.out.all;obtain ⟨z0,z1,z2,z3,f0,f1,f2,f3⟩:=HN.out.g.td.rc4;rw [hh] at a3
   go_upto_region 16 with fail
   have HT:=hid (HN.out.step (Below.refl _ _).drew);clear a0 a1 a2 a3 a4 a5 a6 a7 x0 x1 x2 x3 x4 x5 x6 x8 p0 p1 p2 p3 p4 p5 p6 z0 z1 z2 z3 f0 f1 f2 f3;obtain ⟨a0t,a1t,a2t,a3t,a4t,a5t,a6t,a7t,x0t,x1t,x2t,x3t,x4t,x5t,x6t,x8t,p0t,p1t,p2t,p3t,p4t,p5t,p6t⟩:=HT.out.all;obtain ⟨z0t,z1t,z2t,z3t,f0t,f1t,f2t,f3t⟩:=HT.out.g.td.rc4;rw [hh] at a3t
   go_region_law (go_simp; go_at_call 24; refine (K4.out _).mono ?_; rintro e w8 ⟨rfl,hb8⟩; have HN:=hid (HT.out.step hb8); have KEEP:=hid (HN.out.g.keep hB (.int .i64 200) (.int .i64 n) (.string ⟨a.tag.toArray⟩) (.bool false)); clear hb8 K4 a0t a1t a2t a3t a4t a5t a6t a7t x0t x1t x2t x3t x4t x5t x6t x8t p0t p1t p2t p3t p4t p5t p6t z0t z1t z2t z3t f0t f1t f2t f3t; obtain ⟨a0,a1,a2,a3,a4,a5,a6,a7,x0,x1,x2,x3,x4,x5,x6,x8,p0,p1,p2,p3,p4,p5,p6⟩:=HN.out.all; obtain ⟨z0,z1,z2,z3,f0,f1,f2,f3⟩:=HN.out.g.td.rc4; rw [hh] at a3)
   all_goals (
    go_wp2;generalize World.setCell _ _ _=wA at KEEP ⊢;obtain ⟨⟨d0,d1,d2,d3,_,_,_,_⟩,hFA,hSA⟩:=KEEP.out
    try simp only [Exit.inBlock,Exit.then]
    refine bodyPost_ret (v:=.agg #[.int .i64 200,.int .i64 n,.string ⟨a.tag.toArray⟩,.bool false]) (by simp [results,Tryz.results34,go_sem,d0,d1,d2,d3]; try rfl) rfl ?_
    exact ⟨rfl,hSA,hFA⟩)))
end
end Go.Proofs.YtbmjodlbkgblpaaGreatDoor
