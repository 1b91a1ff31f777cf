/-
  PubDo8, PubDo9, OpenPa.
-/
import Derived.Test.YtbmjodlbkgblpaaGreatDoorPO26
import Derived.Test.YtbmjodlbkgblpaaGreatDoorPO27
import Derived.Test.YtbmjodlbkgblpaaGreatDoorPO28
set_option linter.unusedVariables false
set_option linter.unusedSimpArgs false
set_option maxRecDepth 20000
namespace Go.Proofs.YtbmjodlbkgblpaaGreatDoor
open Go.RowKit Sc
set_option maxHeartbeats 8000000 in
set_option maxRecDepth 100000 in
theorem rdo16_goes0 {w:World} {v:Value} {s:Sto} {cs:List PbC} (h:PbsAt w v cs) (hd:DocsAt w cs) (hs:s.l=pbsL cs) (hn:cs.length≤1000000) (now:Int) (a:Pa) (ts ns:Value) (htg:a.tag.length≤140737488355328)
  (ht:a.has=true → TusAt w ts a.doc.tuples∧StrsAt w ns a.doc.notes) (hsm:a.has=true → SmallD 140737488355328 a.doc) (hen:a.has=true → a.doc.entity.length+4≤1048576)
  (d0:decide (now < 0)=false) (d1:decide (549755813888 < now)=false) (htok:tokenB a.tag=true) (hpl:decide (0≤placeP (pbsL cs) a.tag)=false) (hh:a.has=false) (n:Int) (hs1:(secC s.c a.exp).1=n) (hs2:(secC s.c a.exp).2=true) (hmt:a.mt.isEmpty=false) (k:Nat) (hk:k < cs.length) (hpk:placeP (pbsL cs) a.mt=(k:Int)) (hwho:(cs[k].p.who==a.who)=true)  (hn0:(n==0)=false) (hn100:cs.length≤100000) (hn1:0≤n) (hn9:n≤2147483647) (hw0:0≤now) (hw9:now≤549755813888) :
  Calls Tryz.prog 11 #[stoV s v,.int .i64 now,askV a ts ns] w fun e w'=>DoRes (⟨s.c,s.last,s.l.modify k (fun p=>goP p now n a)⟩,⟨200,n,a.tag,a.has⟩,0) v cs a ts ns w e w':=by
 have HF:=hid (frD_new w s v a ts ns);have HHH:=hid hh;have HP:=hid h;have HD:=hid hd;have HS:=hid hs;have HT:=hid ht;have HSM:=hid hsm;have HEN:=hid hen;obtain ⟨va,vc,rfl⟩:=h.form;obtain ⟨ao,cap,hv,hcp,hat⟩:=HP.out
 injection hv with e1 e2 e3
 obtain ⟨ad,had,hab,hcel⟩:=hat k hk;rw [had] at e1;subst e1;have hkn:(k:Int) < (cs.length:Int):=by omega
 have hk0:decide ((k:Int) < 0)=false:=decide_eq_false (by omega);obtain ⟨c,hc⟩:∃ c,c=cs[k]:=⟨_,rfl⟩
 rw [← hc] at hcel hwho;have CEL:=hid (fun W' (hb:Below w.heap.size w W')=>(hcel.below hb hab).seven)
 have HALL:Hid (∀ j (hj:j < cs.length),PbAt w ad j cs[j]):=fun j hj=>by
  obtain ⟨ad2,h2,_,h3⟩:=hat j hj;rw [had] at h2
  injection h2 with h2
  subst h2;exact h3
 have HCP:Hid (cs.length≤vc):=by rw [e3]; exact hcp
 have HAB:=hid hab;have HCK:=hid hc;clear hat hcel hc e2 e3 hcp had;clear h hd hs ht hsm hen hh
 go_enter Tryz.func11,Tryz.ntmps11
 unfold stoV askV;unfold objS objA at HF
 go_upto_region 1 with fail
 generalize World.alloc _ _=W at HF ⊢;have hh:=HHH.out;obtain ⟨⟨⟨x0,x1,x2,x3,x4,x5,x6⟩,x7,x8⟩,⟨y0,y1,y2,y3,y4,y5,y6,y7⟩,r6,r7,hbel,l3,l5,l6,l7,o6,o7⟩:=HF.out;obtain ⟨z0,z1,z2,z3,z4,z5,z6,z7,z8,f0,f1,f2,f3,f4,f5,f6,f7,f8⟩:=RowIs.rc9 r6;obtain ⟨q0,q1,q2,q3,g0,g1,g2,g3⟩:=RowIs.rc4 r7;clear hbel r6 r7 l3 l5 l6 l7 o6 o7;rw [hh] at y3;obtain ⟨c0,c1,c2,c3,c4,c5,c6⟩:=CEL.out _ HF.out.bel;go_wp2_with fail
 refine (reftoken_list a.tag _ htg).mono ?_
 rintro e w1 ⟨rfl,hw1⟩;rw [hw1];clear hw1 w1;rw [htok];go_wp2_with fail
 refine (rplace16_any (s:=s) (HP.out.below HF.out.bel) a.tag hn).mono ?_
 rintro e w1 ⟨rfl,hw1⟩;have HF:=hid (HF.out.below hw1);clear x0 x1 x2 x3 x4 x5 x6 x7 x8 y0 y1 y2 y3 y4 y5 y6 y7 z0 z1 z2 z3 z4 z5 z6 z7 z8 f0 f1 f2 f3 f4 f5 f6 f7 f8 q0 q1 q2 q3 g0 g1 g2 g3 c0 c1 c2 c3 c4 c5 c6 hw1;obtain ⟨⟨⟨x0,x1,x2,x3,x4,x5,x6⟩,x7,x8⟩,⟨y0,y1,y2,y3,y4,y5,y6,y7⟩,r6,r7,hbel,l3,l5,l6,l7,o6,o7⟩:=HF.out;obtain ⟨z0,z1,z2,z3,z4,z5,z6,z7,z8,f0,f1,f2,f3,f4,f5,f6,f7,f8⟩:=RowIs.rc9 r6;obtain ⟨q0,q1,q2,q3,g0,g1,g2,g3⟩:=RowIs.rc4 r7;clear hbel r6 r7 l3 l5 l6 l7 o6 o7;rw [hh] at y3;obtain ⟨c0,c1,c2,c3,c4,c5,c6⟩:=CEL.out _ HF.out.bel;go_wp2_with fail
 refine (rsec16_any s.c a.exp _).mono ?_
 rintro e w1 ⟨rfl,hw1⟩;have HF:=hid (HF.out.below hw1);clear x0 x1 x2 x3 x4 x5 x6 x7 x8 y0 y1 y2 y3 y4 y5 y6 y7 z0 z1 z2 z3 z4 z5 z6 z7 z8 f0 f1 f2 f3 f4 f5 f6 f7 f8 q0 q1 q2 q3 g0 g1 g2 g3 c0 c1 c2 c3 c4 c5 c6 hw1;rw [hs1,hs2];obtain ⟨⟨⟨x0,x1,x2,x3,x4,x5,x6⟩,x7,x8⟩,⟨y0,y1,y2,y3,y4,y5,y6,y7⟩,r6,r7,hbel,l3,l5,l6,l7,o6,o7⟩:=HF.out;obtain ⟨z0,z1,z2,z3,z4,z5,z6,z7,z8,f0,f1,f2,f3,f4,f5,f6,f7,f8⟩:=RowIs.rc9 r6;obtain ⟨q0,q1,q2,q3,g0,g1,g2,g3⟩:=RowIs.rc4 r7;clear hbel r6 r7 l3 l5 l6 l7 o6 o7;rw [hh] at y3;obtain ⟨c0,c1,c2,c3,c4,c5,c6⟩:=CEL.out _ HF.out.bel;go_wp2_with fail
 refine (rplace16_any (s:=s) (HP.out.below HF.out.bel) a.mt hn).mono ?_
 rintro e w1 ⟨rfl,hw1⟩;have HF:=hid (HF.out.below hw1);clear x0 x1 x2 x3 x4 x5 x6 x7 x8 y0 y1 y2 y3 y4 y5 y6 y7 z0 z1 z2 z3 z4 z5 z6 z7 z8 f0 f1 f2 f3 f4 f5 f6 f7 f8 q0 q1 q2 q3 g0 g1 g2 g3 c0 c1 c2 c3 c4 c5 c6 hw1;rw [hpk];obtain ⟨⟨⟨x0,x1,x2,x3,x4,x5,x6⟩,x7,x8⟩,⟨y0,y1,y2,y3,y4,y5,y6,y7⟩,r6,r7,hbel,l3,l5,l6,l7,o6,o7⟩:=HF.out;obtain ⟨z0,z1,z2,z3,z4,z5,z6,z7,z8,f0,f1,f2,f3,f4,f5,f6,f7,f8⟩:=RowIs.rc9 r6;obtain ⟨q0,q1,q2,q3,g0,g1,g2,g3⟩:=RowIs.rc4 r7;clear hbel r6 r7 l3 l5 l6 l7 o6 o7;rw [hh] at y3;obtain ⟨c0,c1,c2,c3,c4,c5,c6⟩:=CEL.out _ HF.out.bel;go_wp2
 go_quiet (fail)
 have HF:=hid (HF.out.below (below_drewN _ nq));clear x0 x1 x2 x3 x4 x5 x6 x7 x8 y0 y1 y2 y3 y4 y5 y6 y7 z0 z1 z2 z3 z4 z5 z6 z7 z8 f0 f1 f2 f3 f4 f5 f6 f7 f8 q0 q1 q2 q3 g0 g1 g2 g3 c0 c1 c2 c3 c4 c5 c6;generalize World.drewN _ nq=W2 at HF ⊢;obtain ⟨⟨⟨x0,x1,x2,x3,x4,x5,x6⟩,x7,x8⟩,⟨y0,y1,y2,y3,y4,y5,y6,y7⟩,r6,r7,hbel,l3,l5,l6,l7,o6,o7⟩:=HF.out;obtain ⟨z0,z1,z2,z3,z4,z5,z6,z7,z8,f0,f1,f2,f3,f4,f5,f6,f7,f8⟩:=RowIs.rc9 r6;obtain ⟨q0,q1,q2,q3,g0,g1,g2,g3⟩:=RowIs.rc4 r7;clear hbel r6 r7 l3 l5 l6 l7 o6 o7;rw [hh] at y3;obtain ⟨c0,c1,c2,c3,c4,c5,c6⟩:=CEL.out _ HF.out.bel;obtain ⟨i0,hif,hz0,hz1,hz2⟩:=info_parts infoPub;have hkc:(k:Int)≤(vc:Int):=by have:=HCP.out; omega
 have hkc2:k≤vc:=by have:=HCP.out; omega
 have wr2:IntKind.i64.wrap (10 * n)=10 * n:=by rw [IntKind.wrap_i64]; omega
 have wr3:IntKind.i64.wrap (now+10 * n)=now+10 * n:=by rw [IntKind.wrap_i64]; omega
 go_upto_region 18 with fail
 have x8e:=(HF.out.below ((Below.refl _ W2).alloc (Nat.le_refl _) (.cells #[] 37))).bs.c8;have OE:=OwnPb.empty W2 W2.heap.size (Nat.le_refl _);have HNW:Hid (∀ (j:Nat) (x:Value),(pbsCells (cs.take k))[j]? = some x → (W2.alloc (.cells #[] 37)).cell? (ad.add j)=some x):=fun j x hj=>pbs_head (Nat.le_of_lt hk) HAB.out HALL.out _ (HF.out.bel.alloc HF.out.bel.size _) j x hj
 go_upto_region 21 with (at_builtin; refine wp_appPb _ rfl (.tmp 145) (.tmp 149) 26 rfl W2.heap.size i0 _ Tryz.underlying26 hif hz0 hz1 hz2 rfl _ [] rfl OE ad _ (cs.take k) k (by rw [List.length_take]; omega) (fun d hd=>HD.out.one d (List.mem_of_mem_take hd)) rfl HNW.out (by simp) (by rw [List.length_take]; omega) (by simp) ?_; intro v3 W3 hown3 hb3)
 have hb23:=((Below.refl _ W2).alloc (Nat.le_refl _) _).trans hb3;have HFa:=hid (HF.out.below hb23);have O3:=hid (show OwnPb W3 W2.heap.size v3 (cs.take k) from by rw [List.nil_append] at hown3; exact hown3);have HB23:=hid hb23;clear hown3 hb3 hb23 OE HNW x8e x0 x1 x2 x3 x4 x5 x6 x7 x8 y0 y1 y2 y3 y4 y5 y6 y7 z0 z1 z2 z3 z4 z5 z6 z7 z8 f0 f1 f2 f3 f4 f5 f6 f7 f8 q0 q1 q2 q3 g0 g1 g2 g3 c0 c1 c2 c3 c4 c5 c6;obtain ⟨⟨⟨x0,x1,x2,x3,x4,x5,x6⟩,x7,x8⟩,⟨y0,y1,y2,y3,y4,y5,y6,y7⟩,r6,r7,hbel,l3,l5,l6,l7,o6,o7⟩:=HFa.out;obtain ⟨z0,z1,z2,z3,z4,z5,z6,z7,z8,f0,f1,f2,f3,f4,f5,f6,f7,f8⟩:=RowIs.rc9 r6;obtain ⟨q0,q1,q2,q3,g0,g1,g2,g3⟩:=RowIs.rc4 r7;clear hbel r6 r7 l3 l5 l6 l7 o6 o7;rw [hh] at y3;obtain ⟨c0,c1,c2,c3,c4,c5,c6⟩:=CEL.out _ HFa.out.bel;obtain ⟨cta,ctc,hct⟩:∃ x y,c.ts=.slice x c.p.doc.tuples.length y:=by rw [HCK.out]; obtain ⟨x,y,e,_⟩:=(HD.out _ (List.getElem_mem hk)).1; exact ⟨x,y,e⟩
 obtain ⟨cna,cnc,hcn⟩:∃ x y,c.ns=.slice x c.p.doc.notes.length y:=by rw [HCK.out]; obtain ⟨x,y,e,_⟩:=(HD.out _ (List.getElem_mem hk)).2; exact ⟨x,y,e⟩
 rw [hct] at c5;rw [hcn] at c6;have HCT:=hid hct;have HCN:=hid hcn;clear hct hcn;have y3e:=fun o=>(HFa.out.below ((Below.refl _ W3).alloc (Nat.le_refl _) o)).ba.c3;simp only [hh] at y3e;have y4e:=fun o=>(HFa.out.below ((Below.refl _ W3).alloc (Nat.le_refl _) o)).ba.c4;have y5e:=fun o=>(HFa.out.below ((Below.refl _ W3).alloc (Nat.le_refl _) o)).ba.c5;have y6e:=fun o=>(HFa.out.below ((Below.refl _ W3).alloc (Nat.le_refl _) o)).ba.c6;have y7e:=fun o=>(HFa.out.below ((Below.refl _ W3).alloc (Nat.le_refl _) o)).ba.c7;have HLT:Hid ((cs.take k).length≤100000):=hid (by rw [List.length_take]; omega)
 go_upto_region 26 with (at_builtin; refine wp_appPb _ rfl (.tmp 186) (.tmp 188) 26 rfl W2.heap.size i0 _ Tryz.underlying26 hif hz0 hz1 hz2 rfl _ (cs.take k) rfl ((O3.out.alloc _).alloc _) ⟨_,0,none⟩ 1 [(⟨⟨c.p.num,c.p.who,a.tag,now+10 * n,c.p.doc⟩,.slice cta c.p.doc.tuples.length ctc,.slice cna c.p.doc.notes.length cnc⟩:PbC)] 1 rfl (fun d hd=>by simp at hd; subst hd; exact ⟨rfl,rfl⟩) rfl (pb_new _ (⟨⟨c.p.num,c.p.who,a.tag,now+10 * n,c.p.doc⟩,.slice cta c.p.doc.tuples.length ctc,.slice cna c.p.doc.notes.length cnc⟩:PbC) _ (by simp)) HLT.out (by simp) (Nat.le_trans HB23.out.size (by simp; omega)) ?_; intro v5 W5 hown5 hb5)
 have hb25:=(HB23.out.trans ((((Below.refl _ W3).alloc (Nat.le_refl _) _).alloc (by simp) _).mono HB23.out.size)).trans hb5;have HFb:=hid (HF.out.below hb25);have HO3:=hid (show OwnPb W5.drew W2.heap.size v5 (cs.take k++[(⟨⟨c.p.num,c.p.who,a.tag,now+10 * n,c.p.doc⟩,.slice cta c.p.doc.tuples.length ctc,.slice cna c.p.doc.notes.length cnc⟩:PbC)]) from hown5);have HLO:=hid (show W2.heap.size≤W5.drew.heap.size from hb25.size);have HLL:=hid (show (cs.take k++[(⟨⟨c.p.num,c.p.who,a.tag,now+10 * n,c.p.doc⟩,.slice cta c.p.doc.tuples.length ctc,.slice cna c.p.doc.notes.length cnc⟩:PbC)]).length≤100000 by rw [List.length_append,List.length_take,List.length_singleton]; omega);have HRR:=hid (show (cs.drop (k+1)).length≤100000 by rw [List.length_drop]; omega);have F:FrD w s (.slice (some ad) cs.length vc) a ts ns w.heap.size (w.heap.size+1) (w.heap.size+1+1) (w.heap.size+1+1+1) W5.drew:=HFb.out.below (Below.refl _ W5).drew;have e3:=HF.out.l3;have e5:=HF.out.l5;have e6:=HF.out.l6;have e7:=HF.out.l7;clear x0 x1 x2 x3 x4 x5 x6 x7 x8 y0 y1 y2 y3 y4 y5 y6 y7 z0 z1 z2 z3 z4 z5 z6 z7 z8 f0 f1 f2 f3 f4 f5 f6 f7 f8 q0 q1 q2 q3 g0 g1 g2 g3 c0 c1 c2 c3 c4 c5 c6 y3e y4e y5e y6e y7e HF HFa HFb hown5 hb5 hb25 O3 HB23 HLT;refine r26_region ⟨rfl,⟨_,rfl,rfl,rfl,rfl⟩,⟨_,rfl,rfl,rfl,rfl⟩,⟨_,rfl,rfl,rfl,rfl⟩,⟨_,rfl,rfl,rfl,rfl⟩,⟨_,rfl,rfl,rfl,rfl⟩,⟨_,rfl,rfl,rfl,rfl⟩,⟨_,rfl,rfl,rfl,rfl⟩,⟨_,rfl,rfl,rfl,rfl⟩,⟨_,rfl,rfl,rfl,rfl⟩,⟨_,rfl,rfl,rfl,rfl⟩,⟨_,rfl,rfl,rfl,rfl⟩,⟨_,rfl,rfl,rfl,rfl⟩,⟨_,rfl,rfl,rfl,rfl⟩,⟨_,rfl,rfl,rfl,rfl⟩,⟨_,rfl,rfl,rfl,rfl⟩,⟨_,rfl,rfl,rfl,rfl⟩,⟨_,rfl,rfl,rfl,rfl⟩,⟨_,rfl,rfl,rfl,rfl⟩,⟨_,rfl,rfl,rfl,rfl⟩,⟨_,rfl,rfl,rfl,rfl⟩,⟨_,rfl,rfl,rfl,rfl⟩,waits_of (by kernel_rfl),waits_of (by kernel_rfl),waits_of (by kernel_rfl),waits_of (by kernel_rfl),waits_of (by kernel_rfl),waits_of (by kernel_rfl),waits_of (by kernel_rfl),waits_of (by kernel_rfl),waits_of (by kernel_rfl),waits_of (by kernel_rfl),waits_of (by kernel_rfl),waits_of (by kernel_rfl),waits_of (by kernel_rfl),waits_of (by kernel_rfl),waits_of (by kernel_rfl),waits_of (by kernel_rfl),waits_of (by kernel_rfl),waits_of (by kernel_rfl)⟩ (by kernel_rfl) (k:=⟨s,(.slice (some ad) cs.length vc),a,ts,ns,(cs.take k++[(⟨⟨c.p.num,c.p.who,a.tag,now+10 * n,c.p.doc⟩,.slice cta c.p.doc.tuples.length ctc,.slice cna c.p.doc.notes.length cnc⟩:PbC)]),cs.drop (k+1),v5,⟨200,n,a.tag,a.has⟩,w.heap.size,w.heap.size+1,w.heap.size+1+1,w.heap.size+1+1+1,W2.heap.size,w⟩) ⟨e3,e5,e6,e7,(by dsimp only; omega),(by dsimp only; omega),(by dsimp only; omega),(by dsimp only; omega),(by dsimp only; omega),(by dsimp only; omega),(by dsimp only; omega)⟩ _ W5 cs.length vc k ad n rfl rfl (fun _ _=>⟨F.bs,F.ba,F.bel,HLO.out,fun _=>HO3.out,fun e=>(by cases e),fun e=>(by cases e),F.r6,F.r7,fun e=>(by cases e),fun e=>(by cases e)⟩) rfl rfl rfl rfl rfl rfl rfl rfl hk HCP.out hn100 HLL.out HRR.out rfl (fun d hd=>HD.out.one d (List.mem_of_mem_drop hd)) (pbs_end hk HAB.out HALL.out HCP.out) ?_
 intro us u x y hus dd;obtain ⟨r0,r1,r2,r3,r4,r5,r6,r7,r8,r9,r10,r11,r12,r13,r14,r15,r16,r17,rfl⟩:=list18U hus;have HR:=hid (And.intro dd.r6 (And.intro dd.r7 (And.intro (dd.ownA rfl) dd.lo)));have HU:=hid dd.bel;have hWW:=hid (Nat.le_trans (show w.heap.size≤w.heap.size+1 by omega) (Nat.le_of_lt e5));clear hus dd F e3 e5 e6 e7 HLO HO3 HLL HRR;simp only [List.set_cons_succ,List.set_cons_zero,List.take_succ_cons,List.take_zero,List.drop_succ_cons,List.drop_zero,List.cons_append,List.nil_append];go_wp2;obtain ⟨R6,R7,O11,_⟩:=HR.out;replace R6:RowIs u (w.heap.size+1+1) 28 (stoL s x):=R6;replace R7:RowIs u (w.heap.size+1+1+1) 48 (tdL ⟨200,n,a.tag,a.has⟩):=R7;rw [hh] at R7;obtain ⟨e0,e1,e2,e3,e4,e5,e6,e7,e8,_,_,_,_,_,_,_,_,_⟩:=RowIs.rc9 R6;obtain ⟨t0,t1,t2,t3,_,_,_,_⟩:=RowIs.rc4 R7
 try simp only at e0 e1 e2 e3 e4 e5 e6 e7 t0 t1 t2 t3
 try simp only [Exit.inBlock,Exit.then]
 refine bodyPost_ret (v:=.tuple #[.agg #[.string ⟨s.c.host.toArray⟩,.int .i64 s.c.calls,.int .i64 s.c.pubs,.int .i64 s.c.subs,.int .i64 s.c.least,.int .i64 s.c.most,.int .i64 s.c.usual,.int .i64 s.last,x],.agg #[.int .i64 200,.int .i64 n,.string ⟨(a.tag:List UInt8).toArray⟩,.bool false],.int .i64 0]) (by simp [results,Tryz.results11,go_sem,e0,e1,e2,e3,e4,e5,e6,e7,e8,t0,t1,t2,t3]; try rfl) rfl ?_
 exact ⟨x,cs.take k++[(⟨⟨c.p.num,c.p.who,a.tag,now+10 * n,c.p.doc⟩,.slice cta c.p.doc.tuples.length ctc,.slice cna c.p.doc.notes.length cnc⟩:PbC)]++cs.drop (k+1),rfl,.inr (ownPb_mono O11 hWW.out),fun W h1 h2=>((h1.sub fun d hd=>List.mem_of_mem_take hd).app (fun d hd=>by simp at hd; subst hd; exact (by have:=h1 cs[k] (List.getElem_mem hk); rw [← HCK.out,HCT.out,HCN.out] at this; exact this))).app (h1.sub fun d hd=>List.mem_of_mem_drop hd),by rw [HS.out,pbsL_modify cs k hk now n a ts ns]; simp [pbsL,goC,goP,hh,← HCK.out],HU.out⟩
set_option maxHeartbeats 8000000 in
set_option maxRecDepth 100000 in
theorem rdo16_goes1 {w:World} {v:Value} {s:Sto} {cs:List PbC} (h:PbsAt w v cs) (hd:DocsAt w cs) (hs:s.l=pbsL cs) (hn:cs.length≤1000000) (now:Int) (a:Pa) (ts ns:Value) (htg:a.tag.length≤140737488355328)
  (ht:a.has=true → TusAt w ts a.doc.tuples∧StrsAt w ns a.doc.notes) (hsm:a.has=true → SmallD 140737488355328 a.doc) (hen:a.has=true → a.doc.entity.length+4≤1048576)
  (d0:decide (now < 0)=false) (d1:decide (549755813888 < now)=false) (htok:tokenB a.tag=true) (hpl:decide (0≤placeP (pbsL cs) a.tag)=false) (hh:a.has=true) (hck:(checkD a.doc != 0)=false) (n:Int) (hs1:(secC s.c a.exp).1=n) (hs2:(secC s.c a.exp).2=true) (hmt:a.mt.isEmpty=false) (k:Nat) (hk:k < cs.length) (hpk:placeP (pbsL cs) a.mt=(k:Int)) (hwho:(cs[k].p.who==a.who)=true)  (hn0:(n==0)=false) (hn100:cs.length≤100000) (hn1:0≤n) (hn9:n≤2147483647) (hw0:0≤now) (hw9:now≤549755813888) :
  Calls Tryz.prog 11 #[stoV s v,.int .i64 now,askV a ts ns] w fun e w'=>DoRes (⟨s.c,s.last,s.l.modify k (fun p=>goP p now n a)⟩,⟨200,n,a.tag,a.has⟩,0) v cs a ts ns w e w':=by
 have HF:=hid (frD_new w s v a ts ns);have HHH:=hid hh;have HP:=hid h;have HD:=hid hd;have HS:=hid hs;have HT:=hid ht;have HSM:=hid hsm;have HEN:=hid hen;obtain ⟨va,vc,rfl⟩:=h.form;have HTS:Hid (∃ ta tc,ts=.slice ta a.doc.tuples.length tc):=by obtain ⟨x,y,e,_⟩:=(ht hh).1; exact ⟨x,y,e⟩
 have HNS:Hid (∃ na nc,ns=.slice na a.doc.notes.length nc):=by obtain ⟨x,y,e,_⟩:=(ht hh).2; exact ⟨x,y,e⟩
 obtain ⟨ao,cap,hv,hcp,hat⟩:=HP.out
 injection hv with e1 e2 e3
 obtain ⟨ad,had,hab,hcel⟩:=hat k hk;rw [had] at e1;subst e1;have hkn:(k:Int) < (cs.length:Int):=by omega
 have hk0:decide ((k:Int) < 0)=false:=decide_eq_false (by omega);obtain ⟨c,hc⟩:∃ c,c=cs[k]:=⟨_,rfl⟩
 rw [← hc] at hcel hwho;have CEL:=hid (fun W' (hb:Below w.heap.size w W')=>(hcel.below hb hab).seven)
 have HALL:Hid (∀ j (hj:j < cs.length),PbAt w ad j cs[j]):=fun j hj=>by
  obtain ⟨ad2,h2,_,h3⟩:=hat j hj;rw [had] at h2
  injection h2 with h2
  subst h2;exact h3
 have HCP:Hid (cs.length≤vc):=by rw [e3]; exact hcp
 have HAB:=hid hab;have HCK:=hid hc;clear hat hcel hc e2 e3 hcp had;clear h hd hs ht hsm hen hh
 go_enter Tryz.func11,Tryz.ntmps11
 unfold stoV askV;unfold objS objA at HF
 go_upto_region 1 with fail
 generalize World.alloc _ _=W at HF ⊢;have hh:=HHH.out;obtain ⟨⟨⟨x0,x1,x2,x3,x4,x5,x6⟩,x7,x8⟩,⟨y0,y1,y2,y3,y4,y5,y6,y7⟩,r6,r7,hbel,l3,l5,l6,l7,o6,o7⟩:=HF.out;obtain ⟨z0,z1,z2,z3,z4,z5,z6,z7,z8,f0,f1,f2,f3,f4,f5,f6,f7,f8⟩:=RowIs.rc9 r6;obtain ⟨q0,q1,q2,q3,g0,g1,g2,g3⟩:=RowIs.rc4 r7;clear hbel r6 r7 l3 l5 l6 l7 o6 o7;rw [hh] at y3;obtain ⟨c0,c1,c2,c3,c4,c5,c6⟩:=CEL.out _ HF.out.bel;go_wp2_with fail
 refine (reftoken_list a.tag _ htg).mono ?_
 rintro e w1 ⟨rfl,hw1⟩;rw [hw1];clear hw1 w1;rw [htok];go_wp2_with fail
 refine (rplace16_any (s:=s) (HP.out.below HF.out.bel) a.tag hn).mono ?_
 rintro e w1 ⟨rfl,hw1⟩;have HF:=hid (HF.out.below hw1);clear x0 x1 x2 x3 x4 x5 x6 x7 x8 y0 y1 y2 y3 y4 y5 y6 y7 z0 z1 z2 z3 z4 z5 z6 z7 z8 f0 f1 f2 f3 f4 f5 f6 f7 f8 q0 q1 q2 q3 g0 g1 g2 g3 c0 c1 c2 c3 c4 c5 c6 hw1;obtain ⟨⟨⟨x0,x1,x2,x3,x4,x5,x6⟩,x7,x8⟩,⟨y0,y1,y2,y3,y4,y5,y6,y7⟩,r6,r7,hbel,l3,l5,l6,l7,o6,o7⟩:=HF.out;obtain ⟨z0,z1,z2,z3,z4,z5,z6,z7,z8,f0,f1,f2,f3,f4,f5,f6,f7,f8⟩:=RowIs.rc9 r6;obtain ⟨q0,q1,q2,q3,g0,g1,g2,g3⟩:=RowIs.rc4 r7;clear hbel r6 r7 l3 l5 l6 l7 o6 o7;rw [hh] at y3;obtain ⟨c0,c1,c2,c3,c4,c5,c6⟩:=CEL.out _ HF.out.bel;go_wp2_with fail
 refine (rcheck14_any a.doc ts ns _ (HSM.out hh) (HEN.out hh) ((HT.out hh).1.below HF.out.bel) ((HT.out hh).2.below HF.out.bel)).mono ?_
 rintro e w1 ⟨rfl,hw1⟩;have HF:=hid (HF.out.below hw1);clear x0 x1 x2 x3 x4 x5 x6 x7 x8 y0 y1 y2 y3 y4 y5 y6 y7 z0 z1 z2 z3 z4 z5 z6 z7 z8 f0 f1 f2 f3 f4 f5 f6 f7 f8 q0 q1 q2 q3 g0 g1 g2 g3 c0 c1 c2 c3 c4 c5 c6 hw1;obtain ⟨⟨⟨x0,x1,x2,x3,x4,x5,x6⟩,x7,x8⟩,⟨y0,y1,y2,y3,y4,y5,y6,y7⟩,r6,r7,hbel,l3,l5,l6,l7,o6,o7⟩:=HF.out;obtain ⟨z0,z1,z2,z3,z4,z5,z6,z7,z8,f0,f1,f2,f3,f4,f5,f6,f7,f8⟩:=RowIs.rc9 r6;obtain ⟨q0,q1,q2,q3,g0,g1,g2,g3⟩:=RowIs.rc4 r7;clear hbel r6 r7 l3 l5 l6 l7 o6 o7;rw [hh] at y3;obtain ⟨c0,c1,c2,c3,c4,c5,c6⟩:=CEL.out _ HF.out.bel;go_wp2_with fail
 refine (rsec16_any s.c a.exp _).mono ?_
 rintro e w1 ⟨rfl,hw1⟩;have HF:=hid (HF.out.below hw1);clear x0 x1 x2 x3 x4 x5 x6 x7 x8 y0 y1 y2 y3 y4 y5 y6 y7 z0 z1 z2 z3 z4 z5 z6 z7 z8 f0 f1 f2 f3 f4 f5 f6 f7 f8 q0 q1 q2 q3 g0 g1 g2 g3 c0 c1 c2 c3 c4 c5 c6 hw1;rw [hs1,hs2];obtain ⟨⟨⟨x0,x1,x2,x3,x4,x5,x6⟩,x7,x8⟩,⟨y0,y1,y2,y3,y4,y5,y6,y7⟩,r6,r7,hbel,l3,l5,l6,l7,o6,o7⟩:=HF.out;obtain ⟨z0,z1,z2,z3,z4,z5,z6,z7,z8,f0,f1,f2,f3,f4,f5,f6,f7,f8⟩:=RowIs.rc9 r6;obtain ⟨q0,q1,q2,q3,g0,g1,g2,g3⟩:=RowIs.rc4 r7;clear hbel r6 r7 l3 l5 l6 l7 o6 o7;rw [hh] at y3;obtain ⟨c0,c1,c2,c3,c4,c5,c6⟩:=CEL.out _ HF.out.bel;go_wp2_with fail
 refine (rplace16_any (s:=s) (HP.out.below HF.out.bel) a.mt hn).mono ?_
 rintro e w1 ⟨rfl,hw1⟩;have HF:=hid (HF.out.below hw1);clear x0 x1 x2 x3 x4 x5 x6 x7 x8 y0 y1 y2 y3 y4 y5 y6 y7 z0 z1 z2 z3 z4 z5 z6 z7 z8 f0 f1 f2 f3 f4 f5 f6 f7 f8 q0 q1 q2 q3 g0 g1 g2 g3 c0 c1 c2 c3 c4 c5 c6 hw1;rw [hpk];obtain ⟨⟨⟨x0,x1,x2,x3,x4,x5,x6⟩,x7,x8⟩,⟨y0,y1,y2,y3,y4,y5,y6,y7⟩,r6,r7,hbel,l3,l5,l6,l7,o6,o7⟩:=HF.out;obtain ⟨z0,z1,z2,z3,z4,z5,z6,z7,z8,f0,f1,f2,f3,f4,f5,f6,f7,f8⟩:=RowIs.rc9 r6;obtain ⟨q0,q1,q2,q3,g0,g1,g2,g3⟩:=RowIs.rc4 r7;clear hbel r6 r7 l3 l5 l6 l7 o6 o7;rw [hh] at y3;obtain ⟨c0,c1,c2,c3,c4,c5,c6⟩:=CEL.out _ HF.out.bel;go_wp2
 go_quiet (fail)
 have HF:=hid (HF.out.below (below_drewN _ nq));clear x0 x1 x2 x3 x4 x5 x6 x7 x8 y0 y1 y2 y3 y4 y5 y6 y7 z0 z1 z2 z3 z4 z5 z6 z7 z8 f0 f1 f2 f3 f4 f5 f6 f7 f8 q0 q1 q2 q3 g0 g1 g2 g3 c0 c1 c2 c3 c4 c5 c6;generalize World.drewN _ nq=W2 at HF ⊢;obtain ⟨⟨⟨x0,x1,x2,x3,x4,x5,x6⟩,x7,x8⟩,⟨y0,y1,y2,y3,y4,y5,y6,y7⟩,r6,r7,hbel,l3,l5,l6,l7,o6,o7⟩:=HF.out;obtain ⟨z0,z1,z2,z3,z4,z5,z6,z7,z8,f0,f1,f2,f3,f4,f5,f6,f7,f8⟩:=RowIs.rc9 r6;obtain ⟨q0,q1,q2,q3,g0,g1,g2,g3⟩:=RowIs.rc4 r7;clear hbel r6 r7 l3 l5 l6 l7 o6 o7;rw [hh] at y3;obtain ⟨c0,c1,c2,c3,c4,c5,c6⟩:=CEL.out _ HF.out.bel;obtain ⟨i0,hif,hz0,hz1,hz2⟩:=info_parts infoPub;have hkc:(k:Int)≤(vc:Int):=by have:=HCP.out; omega
 have hkc2:k≤vc:=by have:=HCP.out; omega
 have wr2:IntKind.i64.wrap (10 * n)=10 * n:=by rw [IntKind.wrap_i64]; omega
 have wr3:IntKind.i64.wrap (now+10 * n)=now+10 * n:=by rw [IntKind.wrap_i64]; omega
 go_upto_region 18 with fail
 have x8e:=(HF.out.below ((Below.refl _ W2).alloc (Nat.le_refl _) (.cells #[] 37))).bs.c8;have OE:=OwnPb.empty W2 W2.heap.size (Nat.le_refl _);have HNW:Hid (∀ (j:Nat) (x:Value),(pbsCells (cs.take k))[j]? = some x → (W2.alloc (.cells #[] 37)).cell? (ad.add j)=some x):=fun j x hj=>pbs_head (Nat.le_of_lt hk) HAB.out HALL.out _ (HF.out.bel.alloc HF.out.bel.size _) j x hj
 go_upto_region 21 with (at_builtin; refine wp_appPb _ rfl (.tmp 145) (.tmp 149) 26 rfl W2.heap.size i0 _ Tryz.underlying26 hif hz0 hz1 hz2 rfl _ [] rfl OE ad _ (cs.take k) k (by rw [List.length_take]; omega) (fun d hd=>HD.out.one d (List.mem_of_mem_take hd)) rfl HNW.out (by simp) (by rw [List.length_take]; omega) (by simp) ?_; intro v3 W3 hown3 hb3)
 have hb23:=((Below.refl _ W2).alloc (Nat.le_refl _) _).trans hb3;have HFa:=hid (HF.out.below hb23);have O3:=hid (show OwnPb W3 W2.heap.size v3 (cs.take k) from by rw [List.nil_append] at hown3; exact hown3);have HB23:=hid hb23;clear hown3 hb3 hb23 OE HNW x8e x0 x1 x2 x3 x4 x5 x6 x7 x8 y0 y1 y2 y3 y4 y5 y6 y7 z0 z1 z2 z3 z4 z5 z6 z7 z8 f0 f1 f2 f3 f4 f5 f6 f7 f8 q0 q1 q2 q3 g0 g1 g2 g3 c0 c1 c2 c3 c4 c5 c6;obtain ⟨⟨⟨x0,x1,x2,x3,x4,x5,x6⟩,x7,x8⟩,⟨y0,y1,y2,y3,y4,y5,y6,y7⟩,r6,r7,hbel,l3,l5,l6,l7,o6,o7⟩:=HFa.out;obtain ⟨z0,z1,z2,z3,z4,z5,z6,z7,z8,f0,f1,f2,f3,f4,f5,f6,f7,f8⟩:=RowIs.rc9 r6;obtain ⟨q0,q1,q2,q3,g0,g1,g2,g3⟩:=RowIs.rc4 r7;clear hbel r6 r7 l3 l5 l6 l7 o6 o7;rw [hh] at y3;obtain ⟨c0,c1,c2,c3,c4,c5,c6⟩:=CEL.out _ HFa.out.bel;obtain ⟨cta,ctc,hct⟩:∃ x y,c.ts=.slice x c.p.doc.tuples.length y:=by rw [HCK.out]; obtain ⟨x,y,e,_⟩:=(HD.out _ (List.getElem_mem hk)).1; exact ⟨x,y,e⟩
 obtain ⟨cna,cnc,hcn⟩:∃ x y,c.ns=.slice x c.p.doc.notes.length y:=by rw [HCK.out]; obtain ⟨x,y,e,_⟩:=(HD.out _ (List.getElem_mem hk)).2; exact ⟨x,y,e⟩
 rw [hct] at c5;rw [hcn] at c6;have HCT:=hid hct;have HCN:=hid hcn;clear hct hcn;obtain ⟨ta,tc,hta⟩:=HTS.out;obtain ⟨na,nc,hna⟩:=HNS.out;subst hta;subst hna;have y3e:=fun o=>(HFa.out.below ((Below.refl _ W3).alloc (Nat.le_refl _) o)).ba.c3;simp only [hh] at y3e;have y4e:=fun o=>(HFa.out.below ((Below.refl _ W3).alloc (Nat.le_refl _) o)).ba.c4;have y5e:=fun o=>(HFa.out.below ((Below.refl _ W3).alloc (Nat.le_refl _) o)).ba.c5;have y6e:=fun o=>(HFa.out.below ((Below.refl _ W3).alloc (Nat.le_refl _) o)).ba.c6;have y7e:=fun o=>(HFa.out.below ((Below.refl _ W3).alloc (Nat.le_refl _) o)).ba.c7;have HLT:Hid ((cs.take k).length≤100000):=hid (by rw [List.length_take]; omega)
 go_upto_region 26 with (at_builtin; refine wp_appPb _ rfl (.tmp 186) (.tmp 188) 26 rfl W2.heap.size i0 _ Tryz.underlying26 hif hz0 hz1 hz2 rfl _ (cs.take k) rfl ((O3.out.alloc _).alloc _) ⟨_,0,none⟩ 1 [(⟨⟨c.p.num,c.p.who,a.tag,now+10 * n,a.doc⟩,.slice ta a.doc.tuples.length tc,.slice na a.doc.notes.length nc⟩:PbC)] 1 rfl (fun d hd=>by simp at hd; subst hd; exact ⟨rfl,rfl⟩) rfl (pb_new _ (⟨⟨c.p.num,c.p.who,a.tag,now+10 * n,a.doc⟩,.slice ta a.doc.tuples.length tc,.slice na a.doc.notes.length nc⟩:PbC) _ (by simp)) HLT.out (by simp) (Nat.le_trans HB23.out.size (by simp; omega)) ?_; intro v5 W5 hown5 hb5)
 have hb25:=(HB23.out.trans ((((Below.refl _ W3).alloc (Nat.le_refl _) _).alloc (by simp) _).mono HB23.out.size)).trans hb5;have HFb:=hid (HF.out.below hb25);have HO3:=hid (show OwnPb W5.drew W2.heap.size v5 (cs.take k++[(⟨⟨c.p.num,c.p.who,a.tag,now+10 * n,a.doc⟩,.slice ta a.doc.tuples.length tc,.slice na a.doc.notes.length nc⟩:PbC)]) from hown5);have HLO:=hid (show W2.heap.size≤W5.drew.heap.size from hb25.size);have HLL:=hid (show (cs.take k++[(⟨⟨c.p.num,c.p.who,a.tag,now+10 * n,a.doc⟩,.slice ta a.doc.tuples.length tc,.slice na a.doc.notes.length nc⟩:PbC)]).length≤100000 by rw [List.length_append,List.length_take,List.length_singleton]; omega);have HRR:=hid (show (cs.drop (k+1)).length≤100000 by rw [List.length_drop]; omega);have F:FrD w s (.slice (some ad) cs.length vc) a (.slice ta a.doc.tuples.length tc) (.slice na a.doc.notes.length nc) w.heap.size (w.heap.size+1) (w.heap.size+1+1) (w.heap.size+1+1+1) W5.drew:=HFb.out.below (Below.refl _ W5).drew;have e3:=HF.out.l3;have e5:=HF.out.l5;have e6:=HF.out.l6;have e7:=HF.out.l7;clear x0 x1 x2 x3 x4 x5 x6 x7 x8 y0 y1 y2 y3 y4 y5 y6 y7 z0 z1 z2 z3 z4 z5 z6 z7 z8 f0 f1 f2 f3 f4 f5 f6 f7 f8 q0 q1 q2 q3 g0 g1 g2 g3 c0 c1 c2 c3 c4 c5 c6 y3e y4e y5e y6e y7e HF HFa HFb hown5 hb5 hb25 O3 HB23 HLT;refine r26_region ⟨rfl,⟨_,rfl,rfl,rfl,rfl⟩,⟨_,rfl,rfl,rfl,rfl⟩,⟨_,rfl,rfl,rfl,rfl⟩,⟨_,rfl,rfl,rfl,rfl⟩,⟨_,rfl,rfl,rfl,rfl⟩,⟨_,rfl,rfl,rfl,rfl⟩,⟨_,rfl,rfl,rfl,rfl⟩,⟨_,rfl,rfl,rfl,rfl⟩,⟨_,rfl,rfl,rfl,rfl⟩,⟨_,rfl,rfl,rfl,rfl⟩,⟨_,rfl,rfl,rfl,rfl⟩,⟨_,rfl,rfl,rfl,rfl⟩,⟨_,rfl,rfl,rfl,rfl⟩,⟨_,rfl,rfl,rfl,rfl⟩,⟨_,rfl,rfl,rfl,rfl⟩,⟨_,rfl,rfl,rfl,rfl⟩,⟨_,rfl,rfl,rfl,rfl⟩,⟨_,rfl,rfl,rfl,rfl⟩,⟨_,rfl,rfl,rfl,rfl⟩,⟨_,rfl,rfl,rfl,rfl⟩,⟨_,rfl,rfl,rfl,rfl⟩,waits_of (by kernel_rfl),waits_of (by kernel_rfl),waits_of (by kernel_rfl),waits_of (by kernel_rfl),waits_of (by kernel_rfl),waits_of (by kernel_rfl),waits_of (by kernel_rfl),waits_of (by kernel_rfl),waits_of (by kernel_rfl),waits_of (by kernel_rfl),waits_of (by kernel_rfl),waits_of (by kernel_rfl),waits_of (by kernel_rfl),waits_of (by kernel_rfl),waits_of (by kernel_rfl),waits_of (by kernel_rfl),waits_of (by kernel_rfl),waits_of (by kernel_rfl)⟩ (by kernel_rfl) (k:=⟨s,(.slice (some ad) cs.length vc),a,(.slice ta a.doc.tuples.length tc),(.slice na a.doc.notes.length nc),(cs.take k++[(⟨⟨c.p.num,c.p.who,a.tag,now+10 * n,a.doc⟩,.slice ta a.doc.tuples.length tc,.slice na a.doc.notes.length nc⟩:PbC)]),cs.drop (k+1),v5,⟨200,n,a.tag,a.has⟩,w.heap.size,w.heap.size+1,w.heap.size+1+1,w.heap.size+1+1+1,W2.heap.size,w⟩) ⟨e3,e5,e6,e7,(by dsimp only; omega),(by dsimp only; omega),(by dsimp only; omega),(by dsimp only; omega),(by dsimp only; omega),(by dsimp only; omega),(by dsimp only; omega)⟩ _ W5 cs.length vc k ad n rfl rfl (fun _ _=>⟨F.bs,F.ba,F.bel,HLO.out,fun _=>HO3.out,fun e=>(by cases e),fun e=>(by cases e),F.r6,F.r7,fun e=>(by cases e),fun e=>(by cases e)⟩) rfl rfl rfl rfl rfl rfl rfl rfl hk HCP.out hn100 HLL.out HRR.out rfl (fun d hd=>HD.out.one d (List.mem_of_mem_drop hd)) (pbs_end hk HAB.out HALL.out HCP.out) ?_
 intro us u x y hus dd;obtain ⟨r0,r1,r2,r3,r4,r5,r6,r7,r8,r9,r10,r11,r12,r13,r14,r15,r16,r17,rfl⟩:=list18U hus;have HR:=hid (And.intro dd.r6 (And.intro dd.r7 (And.intro (dd.ownA rfl) dd.lo)));have HU:=hid dd.bel;have hWW:=hid (Nat.le_trans (show w.heap.size≤w.heap.size+1 by omega) (Nat.le_of_lt e5));clear hus dd F e3 e5 e6 e7 HLO HO3 HLL HRR;simp only [List.set_cons_succ,List.set_cons_zero,List.take_succ_cons,List.take_zero,List.drop_succ_cons,List.drop_zero,List.cons_append,List.nil_append];go_wp2;obtain ⟨R6,R7,O11,_⟩:=HR.out;replace R6:RowIs u (w.heap.size+1+1) 28 (stoL s x):=R6;replace R7:RowIs u (w.heap.size+1+1+1) 48 (tdL ⟨200,n,a.tag,a.has⟩):=R7;rw [hh] at R7;obtain ⟨e0,e1,e2,e3,e4,e5,e6,e7,e8,_,_,_,_,_,_,_,_,_⟩:=RowIs.rc9 R6;obtain ⟨t0,t1,t2,t3,_,_,_,_⟩:=RowIs.rc4 R7
 try simp only at e0 e1 e2 e3 e4 e5 e6 e7 t0 t1 t2 t3
 try simp only [Exit.inBlock,Exit.then]
 refine bodyPost_ret (v:=.tuple #[.agg #[.string ⟨s.c.host.toArray⟩,.int .i64 s.c.calls,.int .i64 s.c.pubs,.int .i64 s.c.subs,.int .i64 s.c.least,.int .i64 s.c.most,.int .i64 s.c.usual,.int .i64 s.last,x],.agg #[.int .i64 200,.int .i64 n,.string ⟨(a.tag:List UInt8).toArray⟩,.bool true],.int .i64 0]) (by simp [results,Tryz.results11,go_sem,e0,e1,e2,e3,e4,e5,e6,e7,e8,t0,t1,t2,t3]; try rfl) rfl ?_
 exact ⟨x,cs.take k++[(⟨⟨c.p.num,c.p.who,a.tag,now+10 * n,a.doc⟩,.slice ta a.doc.tuples.length tc,.slice na a.doc.notes.length nc⟩:PbC)]++cs.drop (k+1),rfl,.inr (ownPb_mono O11 hWW.out),fun W h1 h2=>((h1.sub fun d hd=>List.mem_of_mem_take hd).app (fun d hd=>by simp at hd; subst hd; exact h2 hh)).app (h1.sub fun d hd=>List.mem_of_mem_drop hd),by rw [HS.out,pbsL_modify cs k hk now n a (.slice ta a.doc.tuples.length tc) (.slice na a.doc.notes.length nc)]; simp [pbsL,goC,goP,hh,← HCK.out],HU.out⟩
theorem OwnPb.zero {w:World} {B:Nat} {v:Value} {cs:List PbC} (h:OwnPb w B v cs):cs=[] → v=.slice none 0 0∨∃ ad cap,v=.slice (some ad) 0 cap:=by
 intro e;subst e
 rcases h.2 with ⟨rfl,_⟩ | ⟨g,cap,cur,rfl,_⟩
 ·exact .inl rfl
 ·exact .inr ⟨_,cap,rfl⟩
set_option maxHeartbeats 1000000 in
theorem rdo16_any {w:World} {B0:Nat} {v:Value} {s:Sto} {cs:List PbC} (ho:OwnPb w B0 v cs) (hd:DocsAt w cs) (hs:s.l=pbsL cs) (hn100:cs.length≤100000) (hr:rightC s.c=true) (hl0:0≤s.last) (hl9:s.last≤1000000000) (now:Int) (a:Pa) (ts ns:Value) (htg:a.tag.length≤140737488355328)
  (ht:a.has=true → TusAt w ts a.doc.tuples∧StrsAt w ns a.doc.notes) (hsm:a.has=true → SmallD 140737488355328 a.doc) (hen:a.has=true → a.doc.entity.length+4≤1048576) :
  Calls Tryz.prog 11 #[stoV s v,.int .i64 now,askV a ts ns] w fun e w'=>DoRes (doS s now a) v cs a ts ns w e w':=by
 obtain ⟨sc,last,l⟩:=s;simp only at hs hr hl0 hl9;subst hs;have h:=ho.pbsAt;have hz:=ho.zero;have hn:cs.length≤1000000:=by omega
 obtain ⟨hr1,hr2⟩:=secC_rng hr a.exp;by_cases q0:now < 0
 ·exact rdo16_one h hd rfl now a ts ns (by unfold badA; rw [decide_eq_true q0]; rfl) q0
 have d0:decide (now < 0)=false:=decide_eq_false q0;by_cases q1:549755813888 < now
 ·rw [doS_badY (by unfold badA; rw [d0,decide_eq_true q1]; rfl)];exact rdo16_b2 h hd rfl hn now a ts ns htg ht hsm hen d0 (decide_eq_true q1)
 have d1:decide (549755813888 < now)=false:=decide_eq_false q1
 cases htok:tokenB a.tag
 ·rw [doS_badY (by unfold badA; rw [d0,d1,htok]; rfl)];exact rdo16_b3 h hd rfl hn now a ts ns htg ht hsm hen d0 d1 htok
 by_cases q2:0≤placeP (pbsL cs) a.tag
 ·rw [doS_badY (by unfold badA; rw [d0,d1,htok,decide_eq_true q2]; rfl)];exact rdo16_b4 h hd rfl hn now a ts ns htg ht hsm hen d0 d1 htok (decide_eq_true q2)
 have hpl:decide (0≤placeP (pbsL cs) a.tag)=false:=decide_eq_false q2
 cases hh:a.has
 ·have h1:badA ⟨sc,last,pbsL cs⟩ now a=false:=by unfold badA; rw [d0,d1,htok,hpl,hh]; rfl
  cases hmt:a.mt.isEmpty
  ·have h4:a.mt ≠ []:=by intro e; rw [e] at hmt; cases hmt
   rcases idx_two (pbsL cs) a.mt with ⟨i1,i2,i3⟩ | ⟨k,hk0,i1,i2,i3,_⟩
   ·rw [doS_none h1 (none_yes h4 i3)];exact rdo16_w412a0 h hd rfl hn now a ts ns htg ht hsm hen d0 d1 htok hpl hh _ _ rfl rfl hmt (decide_eq_true (by rw [i2]; decide))
   ·have hk:k < cs.length:=by rw [← pbsL_len]; exact hk0
    have hwk:(pbsL cs)[k].who=cs[k].p.who:=by simp [pbsL]
    cases hw:(cs[k].p.who==a.who)
    ·rw [doS_none h1 (none_other (k:=k) h4 hk0 i1 (by rw [hwk]; simpa using hw))];exact rdo16_w412b0 h hd rfl hn now a ts ns htg ht hsm hen d0 d1 htok hpl hh _ _ rfl rfl hmt k hk i2 hw
    ·have h2:noneP ⟨sc,last,pbsL cs⟩ a=false:=none_no (k:=k) hk0 i1 i2 (by rw [hwk]; simpa using hw)
     cases h3:(secC sc a.exp).2
     ·rw [doS_short h1 h2 h3];exact rdo16_w423b0 h hd rfl hn now a ts ns htg ht hsm hen d0 d1 htok hpl hh _ rfl h3 hmt k hk i2 hw
     ·by_cases q4:(secC sc a.exp).1=0
      ·rw [doS_stop h1 h2 h3 h4 (by rw [hh]; simp) q4,i1];exact rdo16_stop h hd rfl hn now a ts ns htg ht hsm hen d0 d1 htok hpl hh _ rfl h3 hmt k hk i2 hw (by simpa using q4) hn100
      ·rw [doS_goes h1 h2 h3 h4 (by rw [hh]; simp) q4,i1];exact rdo16_goes0 h hd rfl hn now a ts ns htg ht hsm hen d0 d1 htok hpl hh _ rfl h3 hmt k hk i2 hw (by simpa using q4) hn100 hr1 hr2 (by omega) (by omega)
  ·have h4:a.mt=[]:=by simpa using hmt
   have h2:noneP ⟨sc,last,pbsL cs⟩ a=false:=by unfold noneP; rw [hmt]; rfl
   cases h3:(secC sc a.exp).2
   ·rw [doS_short h1 h2 h3];exact rdo16_w4230 h hd rfl hn now a ts ns htg ht hsm hen d0 d1 htok hpl hh _ rfl h3 hmt
   ·rw [doS_400 h1 h2 h3 h4 (.inl hh)];exact rdo16_w400a0 h hd rfl hn now a ts ns htg ht hsm hen d0 d1 htok hpl hh _ rfl h3 hmt
 ·by_cases q3:checkD a.doc=0
  ·have h1:badA ⟨sc,last,pbsL cs⟩ now a=false:=by unfold badA; rw [d0,d1,htok,hpl,hh,decide_eq_true q3]; rfl
   have hck:(checkD a.doc != 0)=false:=by rw [q3]; rfl
   cases hmt:a.mt.isEmpty
   ·have h4:a.mt ≠ []:=by intro e; rw [e] at hmt; cases hmt
    rcases idx_two (pbsL cs) a.mt with ⟨i1,i2,i3⟩ | ⟨k,hk0,i1,i2,i3,_⟩
    ·rw [doS_none h1 (none_yes h4 i3)];exact rdo16_w412a1 h hd rfl hn now a ts ns htg ht hsm hen d0 d1 htok hpl hh hck _ _ rfl rfl hmt (decide_eq_true (by rw [i2]; decide))
    ·have hk:k < cs.length:=by rw [← pbsL_len]; exact hk0
     have hwk:(pbsL cs)[k].who=cs[k].p.who:=by simp [pbsL]
     cases hw:(cs[k].p.who==a.who)
     ·rw [doS_none h1 (none_other (k:=k) h4 hk0 i1 (by rw [hwk]; simpa using hw))];exact rdo16_w412b1 h hd rfl hn now a ts ns htg ht hsm hen d0 d1 htok hpl hh hck _ _ rfl rfl hmt k hk i2 hw
     ·have h2:noneP ⟨sc,last,pbsL cs⟩ a=false:=none_no (k:=k) hk0 i1 i2 (by rw [hwk]; simpa using hw)
      cases h3:(secC sc a.exp).2
      ·rw [doS_short h1 h2 h3];exact rdo16_w423b1 h hd rfl hn now a ts ns htg ht hsm hen d0 d1 htok hpl hh hck _ rfl h3 hmt k hk i2 hw
      ·by_cases q4:(secC sc a.exp).1=0
       ·rw [doS_400b h1 h2 h3 h4 ⟨hh,q4⟩];exact rdo16_w400b h hd rfl hn now a ts ns htg ht hsm hen d0 d1 htok hpl hh hck _ rfl h3 hmt (by simpa using q4) k hk i2 hw
       ·rw [doS_goes h1 h2 h3 h4 (fun x=>q4 x.2) q4,i1];exact rdo16_goes1 h hd rfl hn now a ts ns htg ht hsm hen d0 d1 htok hpl hh hck _ rfl h3 hmt k hk i2 hw (by simpa using q4) hn100 hr1 hr2 (by omega) (by omega)
   ·have h4:a.mt=[]:=by simpa using hmt
    have h2:noneP ⟨sc,last,pbsL cs⟩ a=false:=by unfold noneP; rw [hmt]; rfl
    cases h3:(secC sc a.exp).2
    ·rw [doS_short h1 h2 h3];exact rdo16_w4231 h hd rfl hn now a ts ns htg ht hsm hen d0 d1 htok hpl hh hck _ rfl h3 hmt
    ·by_cases q4:(secC sc a.exp).1=0
     ·rw [doS_400 h1 h2 h3 h4 (.inr q4)];exact rdo16_w400a1 h hd rfl hn now a ts ns htg ht hsm hen d0 d1 htok hpl hh hck _ rfl h3 hmt (by simpa using q4)
     ·have q5:¬ (a.has=false∨(secC sc a.exp).1=0):=by rw [hh]; simp [q4]
      by_cases q6:sc.pubs≤(cs.length:Int)
      ·rw [doS_full h1 h2 h3 h4 q5 (by rw [pbsL_len]; exact q6)];exact rdo16_w503 h hd rfl hn now a ts ns htg ht hsm hen d0 d1 htok hpl hh hck _ rfl h3 hmt (by simpa using q4) (decide_eq_true q6)
      ·rw [doS_begin h1 h2 h3 h4 q5 (by rw [pbsL_len]; exact q6)];exact rdo16_begin h hd rfl hn now a ts ns htg ht hsm hen d0 d1 htok hpl hh hck _ rfl h3 hmt (by simpa using q4) (decide_eq_false q6) hl0 hl9 hr1 hr2 (by omega) (by omega) hn100 hz
  ·rw [doS_badY (by unfold badA; rw [d0,d1,htok,hpl,hh,decide_eq_false q3]; rfl)];exact rdo16_b5 h hd rfl hn now a ts ns htg ht hsm hen d0 d1 htok hpl hh (by simpa using q3)
end Go.Proofs.YtbmjodlbkgblpaaGreatDoor
namespace Go.Proofs.YtbmjodlbkgblpaaGreatDoor
open Go.RowKit Go.ChangeShapes Go.WideShapes Go.Deep
structure AcP where
 expire:Bool
 now:Int
 a:Pa
 ts:Value
 ns:Value
def acpCells (x:AcP):List Value:=.bool x.expire :: .int .i64 x.now :: askL x.a x.ts x.ns
def CapP (v:Value):Prop:=∀ a n c,v=.slice a n c → n≤c
structure DocPa (w:World) (d:Dc) (ts ns:Value):Prop where
 t:TusAt w ts d.tuples
 n:StrsAt w ns d.notes
 c:CapP ts
theorem DocPa.below {w w':World} {d:Dc} {ts ns:Value} (h:DocPa w d ts ns) (hb:Below w.heap.size w w'):DocPa w' d ts ns:=⟨h.t.below hb,h.n.below hb,h.c⟩
structure SmallPa (B:Nat) (a:Pa):Prop where
 who:a.who.length≤B
 mt:a.mt.length≤B
 tag:a.tag.length≤B
 doc:SmallD B a.doc
 exp:(Lit.int .i64 a.exp).wf=true
theorem cellsDocP:Tryz.prog.cellsOf 35=3:=by kernel_rfl
theorem cellsAskP:Tryz.prog.cellsOf 44=8:=by kernel_rfl
theorem cellsActP:Tryz.prog.cellsOf 46=10:=by kernel_rfl
section
variable {H : Type} {enc : TypeId × Value → H} {W : World} {sp : Nat → Bool}
def TusD (d:DataW H) (ts:List Tu):Prop:=(d=.nil∧ts=[])∨∃ ds sp,d=.slice ds sp∧ds.length=ts.length∧∀ k (hk:k < ts.length) (hd:k < ds.length),TuD ds[k] ts[k]
def StrsD (d:DataW H) (ls:List (List UInt8)):Prop:=(d=.nil∧ls=[])∨∃ sp,d=.slice (ls.map fun l=>.lit (.string l)) sp
def DocD (d:DataW H) (dc:Dc):Prop:=∃ d1 d2,d=.agg [.lit (.string dc.entity),d1,d2]∧TusD d1 dc.tuples∧StrsD d2 dc.notes
def PaD (d:DataW H) (a:Pa):Prop:=∃ dd,d=.agg [.lit (.string a.who),.lit (.string a.mt),.lit (.int .i64 a.exp),.lit (.bool a.has),dd,.lit (.string a.tag)]∧DocD dd a.doc
def AcD (d:DataW H) (x:AcP):Prop:=∃ dd,d=.agg [.lit (.bool x.expire),.lit (.int .i64 x.now),dd]∧PaD dd x.a
theorem open_docP {fuel:Nat} {cs:List Value} {x:DataW H × List MemPlace} (h:DataW.trod enc Tryz.prog W 0 sp true fuel 35 cs=some x) :
  ∃ (d:Dc) (ts ns:Value),cs=[.string ⟨d.entity.toArray⟩,ts,ns]∧DocPa W d ts ns∧DocD x.1 d∧∀ t ∈ d.tuples,(Lit.int .i64 t.prio).wf=true:=by
 obtain ⟨xs,n,_,hx,hl,hlen,hf⟩:=DataW.trod_struct Tryz.underlying35 h;rw [cellsDocP] at hl
 match cs,hl,xs,hlen with
 | [c0,c1,c2],_,[y0,y1,y2],_ =>
  have f0:=hf 0 _ rfl;have f1:=hf 1 _ rfl;have f2:=hf 2 _ rfl
  simp [cellsStr,cellsTups,cellsStrsD] at f0 f1 f2
  obtain ⟨s0,e0,rfl,_⟩:=DataW.trod_string Tryz.underlying9 f0
  have hcap:CapP c1:=by
   rcases open_slice Tryz.underlying32 f1 with ⟨h1,_⟩ | ⟨a,len,cap,m,n,D,Pl,h1,_,hlc,_⟩
   ·simp only [List.cons.injEq,and_true] at h1;subst h1;intro b k c e
    injection e with _ q1 q2
    omega
   ·simp only [List.cons.injEq,and_true] at h1;subst h1;intro b k c e
    injection e with _ q1 q2
    omega
  obtain ⟨v1,ts,e1,a1,w1,d1⟩:=open_tups f1;obtain ⟨v2,ns,e2,a2,d2⟩:=open_strs f2;simp only [List.cons.injEq,and_true] at e0 e1 e2;subst e0 e1 e2;subst hx;exact ⟨⟨s0.data.toList,ts,ns⟩,c1,c2,by simp,⟨a1,a2,hcap⟩,⟨y1.1,y2.1,by simp,d1,d2⟩,w1⟩
theorem open_pa {fuel:Nat} {cs:List Value} {x:DataW H × List MemPlace} (h:DataW.trod enc Tryz.prog W 0 sp true fuel 44 cs=some x) :
  ∃ (a:Pa) (ts ns:Value),cs=askL a ts ns∧DocPa W a.doc ts ns∧PaD x.1 a∧(∀ t ∈ a.doc.tuples,(Lit.int .i64 t.prio).wf=true)∧(Lit.int .i64 a.exp).wf=true:=by
 obtain ⟨xs,n,_,hx,hl,hlen,hf⟩:=DataW.trod_struct Tryz.underlying44 h;rw [cellsAskP] at hl
 match cs,hl,xs,hlen with
 | [c0,c1,c2,c3,c4,c5,c6,c7],_,[y0,y1,y2,y3,y4,y5],_ =>
  have f0:=hf 0 _ rfl;have f1:=hf 1 _ rfl;have f2:=hf 2 _ rfl;have f3:=hf 3 _ rfl;have f4:=hf 4 _ rfl;have f5:=hf 5 _ rfl
  simp [cellsStr,cellsInt,cellsBoolD,cellsDocP] at f0 f1 f2 f3 f4 f5
  obtain ⟨s0,e0,rfl,_⟩:=DataW.trod_string Tryz.underlying9 f0;obtain ⟨s1,e1,rfl,_⟩:=DataW.trod_string Tryz.underlying9 f1;obtain ⟨i2,e2,rfl,w2⟩:=DataW.trod_int Tryz.underlying3 f2;obtain ⟨b3,e3,rfl⟩:=DataW.trod_bool Tryz.underlying4 f3;obtain ⟨d,ts,ns,e4,k4,d4,w4⟩:=open_docP f4;obtain ⟨s5,e5,rfl,_⟩:=DataW.trod_string Tryz.underlying9 f5;simp only [List.cons.injEq,and_true] at e0 e1 e2 e3 e4 e5;obtain ⟨e4a,e4b,e4c⟩:=e4;subst e0 e1 e2 e3 e4a e4b e4c e5;subst hx;exact ⟨⟨s0.data.toList,s1.data.toList,i2,b3,d,s5.data.toList⟩,c5,c6,by simp [askL],k4,⟨y4.1,by simp,d4⟩,w4,w2⟩
theorem open_acp {fuel:Nat} {cs:List Value} {x:DataW H × List MemPlace} (h:DataW.trod enc Tryz.prog W 0 sp true fuel 46 cs=some x) :
  ∃ c:AcP,cs=acpCells c∧DocPa W c.a.doc c.ts c.ns∧AcD x.1 c∧(∀ t ∈ c.a.doc.tuples,(Lit.int .i64 t.prio).wf=true)∧(Lit.int .i64 c.a.exp).wf=true∧(Lit.int .i64 c.now).wf=true:=by
 obtain ⟨xs,n,_,hx,hl,hlen,hf⟩:=DataW.trod_struct Tryz.underlying46 h;rw [cellsActP] at hl
 match cs,hl,xs,hlen with
 | [c0,c1,c2,c3,c4,c5,c6,c7,c8,c9],_,[y0,y1,y2],_ =>
  have f0:=hf 0 _ rfl;have f1:=hf 1 _ rfl;have f2:=hf 2 _ rfl
  simp [cellsInt,cellsBoolD,cellsAskP] at f0 f1 f2
  obtain ⟨b0,e0,rfl⟩:=DataW.trod_bool Tryz.underlying4 f0;obtain ⟨i1,e1,rfl,w1⟩:=DataW.trod_int Tryz.underlying3 f1;obtain ⟨a,ts,ns,e2,k2,d2,w2,w3⟩:=open_pa f2;simp only [List.cons.injEq,and_true] at e0 e1;subst e0 e1;subst hx;refine ⟨⟨b0,i1,a,ts,ns⟩,?_,k2,⟨y2.1,by simp,d2⟩,w2,w3,w1⟩
  simp only [acpCells];rw [← e2]
end
end Go.Proofs.YtbmjodlbkgblpaaGreatDoor
