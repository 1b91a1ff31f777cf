/-
  PubDo2, PubDo3, PubDo4.
-/
import Derived.Test.YtbmjodlbkgblpaaGreatDoorPO25
set_option linter.unusedVariables false
set_option linter.unusedSimpArgs false
set_option maxRecDepth 20000
namespace Go.Proofs.YtbmjodlbkgblpaaGreatDoor
open Go.RowKit Sc
set_option maxHeartbeats 8000000 in
set_option maxRecDepth 100000 in
theorem rdo16_b2 {w:World} {v:Value} {s:Sto} {cs:List PbC} (h:PbsAt w v cs) (hd:DocsAt w cs) (hs:s.l=pbsL cs) (hn:cs.length≤1000000) (now:Int) (a:Pa) (ts ns:Value) (htg:a.tag.length≤140737488355328)
  (ht:a.has=true → TusAt w ts a.doc.tuples∧StrsAt w ns a.doc.notes) (hsm:a.has=true → SmallD 140737488355328 a.doc) (hen:a.has=true → a.doc.entity.length+4≤1048576)
  (d0:decide (now < 0)=false) (d1:decide (549755813888 < now)=true) :
  Calls Tryz.prog 11 #[stoV s v,.int .i64 now,askV a ts ns] w fun e w'=>DoRes (s,noTd,1) v cs a ts ns w e w':=by
 have HF:=hid (frD_new w s v a ts ns);have HP:=hid h;have HD:=hid hd;have HS:=hid hs;have HT:=hid ht;have HSM:=hid hsm;have HEN:=hid hen;obtain ⟨va,vc,rfl⟩:=h.form;clear h hd hs ht hsm hen
 go_enter Tryz.func11,Tryz.ntmps11
 unfold stoV askV;unfold objS objA at HF
 go_upto_region 1 with fail
 generalize World.alloc _ _=W at HF ⊢;obtain ⟨⟨⟨x0,x1,x2,x3,x4,x5,x6⟩,x7,x8⟩,⟨y0,y1,y2,y3,y4,y5,y6,y7⟩,r6,r7,hbel,l3,l5,l6,l7,o6,o7⟩:=HF.out;obtain ⟨z0,z1,z2,z3,z4,z5,z6,z7,z8,f0,f1,f2,f3,f4,f5,f6,f7,f8⟩:=RowIs.rc9 r6;obtain ⟨q0,q1,q2,q3,g0,g1,g2,g3⟩:=RowIs.rc4 r7;clear hbel r6 r7 l3 l5 l6 l7 o6 o7;obtain ⟨w9,hw9,HR0⟩:=HF.out.put (by omega) ⟨0,0,[],false⟩;have HR:=hid HR0;have n67:w.heap.size+2 ≠ w.heap.size+3:=by omega
 clear HF HR0;go_wp2
 try simp only at hw9
 rw [← hw9];clear hw9 x0 x1 x2 x3 x4 x5 x6 x7 x8 y0 y1 y2 y3 y4 y5 y6 y7 z0 z1 z2 z3 z4 z5 z6 z7 z8 f0 f1 f2 f3 f4 f5 f6 f7 f8 q0 q1 q2 q3 g0 g1 g2 g3;obtain ⟨R6,R7,hB⟩:=HR.out;obtain ⟨e0,e1,e2,e3,e4,e5,e6,e7,e8,_,_,_,_,_,_,_,_,_⟩:=RowIs.rc9 R6;obtain ⟨t0,t1,t2,t3,_,_,_,_⟩:=RowIs.rc4 R7;replace t0:w9.cell? ⟨w.heap.size+3,0,none⟩=some (.int .i64 0):=t0;replace t1:w9.cell? ⟨w.heap.size+3,1,none⟩=some (.int .i64 0):=t1;replace t2:w9.cell? ⟨w.heap.size+3,2,none⟩=some (.string ⟨([]:List UInt8).toArray⟩):=t2;replace t3:w9.cell? ⟨w.heap.size+3,3,none⟩=some (.bool false):=t3
 try simp only [Exit.inBlock,Exit.then]
 refine bodyPost_ret (v:=.tuple #[.agg #[.string ⟨s.c.host.toArray⟩,.int .i64 s.c.calls,.int .i64 s.c.pubs,.int .i64 s.c.subs,.int .i64 s.c.least,.int .i64 s.c.most,.int .i64 s.c.usual,.int .i64 s.last,.slice va cs.length vc],.agg #[.int .i64 0,.int .i64 0,.string ⟨([]:List UInt8).toArray⟩,.bool false],.int .i64 1]) (by simp [results,Tryz.results11,go_sem,e0,e1,e2,e3,e4,e5,e6,e7,e8,t0,t1,t2,t3]; try rfl) rfl ?_
 exact ⟨_,cs,rfl,.inl ⟨rfl,rfl⟩,fun _ h _=>h,HS.out,hB⟩
set_option maxHeartbeats 8000000 in
set_option maxRecDepth 100000 in
theorem rdo16_b3 {w:World} {v:Value} {s:Sto} {cs:List PbC} (h:PbsAt w v cs) (hd:DocsAt w cs) (hs:s.l=pbsL cs) (hn:cs.length≤1000000) (now:Int) (a:Pa) (ts ns:Value) (htg:a.tag.length≤140737488355328)
  (ht:a.has=true → TusAt w ts a.doc.tuples∧StrsAt w ns a.doc.notes) (hsm:a.has=true → SmallD 140737488355328 a.doc) (hen:a.has=true → a.doc.entity.length+4≤1048576)
  (d0:decide (now < 0)=false) (d1:decide (549755813888 < now)=false) (htok:tokenB a.tag=false) :
  Calls Tryz.prog 11 #[stoV s v,.int .i64 now,askV a ts ns] w fun e w'=>DoRes (s,noTd,1) v cs a ts ns w e w':=by
 have HF:=hid (frD_new w s v a ts ns);have HP:=hid h;have HD:=hid hd;have HS:=hid hs;have HT:=hid ht;have HSM:=hid hsm;have HEN:=hid hen;obtain ⟨va,vc,rfl⟩:=h.form;clear h hd hs ht hsm hen
 go_enter Tryz.func11,Tryz.ntmps11
 unfold stoV askV;unfold objS objA at HF
 go_upto_region 1 with fail
 generalize World.alloc _ _=W at HF ⊢;obtain ⟨⟨⟨x0,x1,x2,x3,x4,x5,x6⟩,x7,x8⟩,⟨y0,y1,y2,y3,y4,y5,y6,y7⟩,r6,r7,hbel,l3,l5,l6,l7,o6,o7⟩:=HF.out;obtain ⟨z0,z1,z2,z3,z4,z5,z6,z7,z8,f0,f1,f2,f3,f4,f5,f6,f7,f8⟩:=RowIs.rc9 r6;obtain ⟨q0,q1,q2,q3,g0,g1,g2,g3⟩:=RowIs.rc4 r7;clear hbel r6 r7 l3 l5 l6 l7 o6 o7;go_wp2_with fail
 refine (reftoken_list a.tag _ htg).mono ?_
 rintro e w1 ⟨rfl,hw1⟩;rw [hw1];clear hw1 w1;rw [htok];obtain ⟨w9,hw9,HR0⟩:=HF.out.put (by omega) ⟨0,0,[],false⟩;have HR:=hid HR0;have n67:w.heap.size+2 ≠ w.heap.size+3:=by omega
 clear HF HR0;go_wp2
 try simp only at hw9
 rw [← hw9];clear hw9 x0 x1 x2 x3 x4 x5 x6 x7 x8 y0 y1 y2 y3 y4 y5 y6 y7 z0 z1 z2 z3 z4 z5 z6 z7 z8 f0 f1 f2 f3 f4 f5 f6 f7 f8 q0 q1 q2 q3 g0 g1 g2 g3;obtain ⟨R6,R7,hB⟩:=HR.out;obtain ⟨e0,e1,e2,e3,e4,e5,e6,e7,e8,_,_,_,_,_,_,_,_,_⟩:=RowIs.rc9 R6;obtain ⟨t0,t1,t2,t3,_,_,_,_⟩:=RowIs.rc4 R7;replace t0:w9.cell? ⟨w.heap.size+3,0,none⟩=some (.int .i64 0):=t0;replace t1:w9.cell? ⟨w.heap.size+3,1,none⟩=some (.int .i64 0):=t1;replace t2:w9.cell? ⟨w.heap.size+3,2,none⟩=some (.string ⟨([]:List UInt8).toArray⟩):=t2;replace t3:w9.cell? ⟨w.heap.size+3,3,none⟩=some (.bool false):=t3
 try simp only [Exit.inBlock,Exit.then]
 refine bodyPost_ret (v:=.tuple #[.agg #[.string ⟨s.c.host.toArray⟩,.int .i64 s.c.calls,.int .i64 s.c.pubs,.int .i64 s.c.subs,.int .i64 s.c.least,.int .i64 s.c.most,.int .i64 s.c.usual,.int .i64 s.last,.slice va cs.length vc],.agg #[.int .i64 0,.int .i64 0,.string ⟨([]:List UInt8).toArray⟩,.bool false],.int .i64 1]) (by simp [results,Tryz.results11,go_sem,e0,e1,e2,e3,e4,e5,e6,e7,e8,t0,t1,t2,t3]; try rfl) rfl ?_
 exact ⟨_,cs,rfl,.inl ⟨rfl,rfl⟩,fun _ h _=>h,HS.out,hB⟩
set_option maxHeartbeats 8000000 in
set_option maxRecDepth 100000 in
theorem rdo16_b4 {w:World} {v:Value} {s:Sto} {cs:List PbC} (h:PbsAt w v cs) (hd:DocsAt w cs) (hs:s.l=pbsL cs) (hn:cs.length≤1000000) (now:Int) (a:Pa) (ts ns:Value) (htg:a.tag.length≤140737488355328)
  (ht:a.has=true → TusAt w ts a.doc.tuples∧StrsAt w ns a.doc.notes) (hsm:a.has=true → SmallD 140737488355328 a.doc) (hen:a.has=true → a.doc.entity.length+4≤1048576)
  (d0:decide (now < 0)=false) (d1:decide (549755813888 < now)=false) (htok:tokenB a.tag=true) (hpl:decide (0≤placeP (pbsL cs) a.tag)=true) :
  Calls Tryz.prog 11 #[stoV s v,.int .i64 now,askV a ts ns] w fun e w'=>DoRes (s,noTd,1) v cs a ts ns w e w':=by
 have HF:=hid (frD_new w s v a ts ns);have HP:=hid h;have HD:=hid hd;have HS:=hid hs;have HT:=hid ht;have HSM:=hid hsm;have HEN:=hid hen;obtain ⟨va,vc,rfl⟩:=h.form;clear h hd hs ht hsm hen
 go_enter Tryz.func11,Tryz.ntmps11
 unfold stoV askV;unfold objS objA at HF
 go_upto_region 1 with fail
 generalize World.alloc _ _=W at HF ⊢;obtain ⟨⟨⟨x0,x1,x2,x3,x4,x5,x6⟩,x7,x8⟩,⟨y0,y1,y2,y3,y4,y5,y6,y7⟩,r6,r7,hbel,l3,l5,l6,l7,o6,o7⟩:=HF.out;obtain ⟨z0,z1,z2,z3,z4,z5,z6,z7,z8,f0,f1,f2,f3,f4,f5,f6,f7,f8⟩:=RowIs.rc9 r6;obtain ⟨q0,q1,q2,q3,g0,g1,g2,g3⟩:=RowIs.rc4 r7;clear hbel r6 r7 l3 l5 l6 l7 o6 o7;go_wp2_with fail
 refine (reftoken_list a.tag _ htg).mono ?_
 rintro e w1 ⟨rfl,hw1⟩;rw [hw1];clear hw1 w1;rw [htok];go_wp2_with fail
 refine (rplace16_any (s:=s) (HP.out.below HF.out.bel) a.tag hn).mono ?_
 rintro e w1 ⟨rfl,hw1⟩;have HF:=hid (HF.out.below hw1);clear x0 x1 x2 x3 x4 x5 x6 x7 x8 y0 y1 y2 y3 y4 y5 y6 y7 z0 z1 z2 z3 z4 z5 z6 z7 z8 f0 f1 f2 f3 f4 f5 f6 f7 f8 q0 q1 q2 q3 g0 g1 g2 g3 hw1;obtain ⟨⟨⟨x0,x1,x2,x3,x4,x5,x6⟩,x7,x8⟩,⟨y0,y1,y2,y3,y4,y5,y6,y7⟩,r6,r7,hbel,l3,l5,l6,l7,o6,o7⟩:=HF.out;obtain ⟨z0,z1,z2,z3,z4,z5,z6,z7,z8,f0,f1,f2,f3,f4,f5,f6,f7,f8⟩:=RowIs.rc9 r6;obtain ⟨q0,q1,q2,q3,g0,g1,g2,g3⟩:=RowIs.rc4 r7;clear hbel r6 r7 l3 l5 l6 l7 o6 o7;obtain ⟨w9,hw9,HR0⟩:=HF.out.put (by omega) ⟨0,0,[],false⟩;have HR:=hid HR0;have n67:w.heap.size+2 ≠ w.heap.size+3:=by omega
 clear HF HR0;go_wp2
 try simp only at hw9
 rw [← hw9];clear hw9 x0 x1 x2 x3 x4 x5 x6 x7 x8 y0 y1 y2 y3 y4 y5 y6 y7 z0 z1 z2 z3 z4 z5 z6 z7 z8 f0 f1 f2 f3 f4 f5 f6 f7 f8 q0 q1 q2 q3 g0 g1 g2 g3;obtain ⟨R6,R7,hB⟩:=HR.out;obtain ⟨e0,e1,e2,e3,e4,e5,e6,e7,e8,_,_,_,_,_,_,_,_,_⟩:=RowIs.rc9 R6;obtain ⟨t0,t1,t2,t3,_,_,_,_⟩:=RowIs.rc4 R7;replace t0:w9.cell? ⟨w.heap.size+3,0,none⟩=some (.int .i64 0):=t0;replace t1:w9.cell? ⟨w.heap.size+3,1,none⟩=some (.int .i64 0):=t1;replace t2:w9.cell? ⟨w.heap.size+3,2,none⟩=some (.string ⟨([]:List UInt8).toArray⟩):=t2;replace t3:w9.cell? ⟨w.heap.size+3,3,none⟩=some (.bool false):=t3
 try simp only [Exit.inBlock,Exit.then]
 refine bodyPost_ret (v:=.tuple #[.agg #[.string ⟨s.c.host.toArray⟩,.int .i64 s.c.calls,.int .i64 s.c.pubs,.int .i64 s.c.subs,.int .i64 s.c.least,.int .i64 s.c.most,.int .i64 s.c.usual,.int .i64 s.last,.slice va cs.length vc],.agg #[.int .i64 0,.int .i64 0,.string ⟨([]:List UInt8).toArray⟩,.bool false],.int .i64 1]) (by simp [results,Tryz.results11,go_sem,e0,e1,e2,e3,e4,e5,e6,e7,e8,t0,t1,t2,t3]; try rfl) rfl ?_
 exact ⟨_,cs,rfl,.inl ⟨rfl,rfl⟩,fun _ h _=>h,HS.out,hB⟩
set_option maxHeartbeats 8000000 in
set_option maxRecDepth 100000 in
theorem rdo16_b5 {w:World} {v:Value} {s:Sto} {cs:List PbC} (h:PbsAt w v cs) (hd:DocsAt w cs) (hs:s.l=pbsL cs) (hn:cs.length≤1000000) (now:Int) (a:Pa) (ts ns:Value) (htg:a.tag.length≤140737488355328)
  (ht:a.has=true → TusAt w ts a.doc.tuples∧StrsAt w ns a.doc.notes) (hsm:a.has=true → SmallD 140737488355328 a.doc) (hen:a.has=true → a.doc.entity.length+4≤1048576)
  (d0:decide (now < 0)=false) (d1:decide (549755813888 < now)=false) (htok:tokenB a.tag=true) (hpl:decide (0≤placeP (pbsL cs) a.tag)=false) (hh:a.has=true) (hck:(checkD a.doc != 0)=true) :
  Calls Tryz.prog 11 #[stoV s v,.int .i64 now,askV a ts ns] w fun e w'=>DoRes (s,noTd,1) v cs a ts ns w e w':=by
 have HF:=hid (frD_new w s v a ts ns);have HHH:=hid hh;have HP:=hid h;have HD:=hid hd;have HS:=hid hs;have HT:=hid ht;have HSM:=hid hsm;have HEN:=hid hen;obtain ⟨va,vc,rfl⟩:=h.form;clear h hd hs ht hsm hen hh
 go_enter Tryz.func11,Tryz.ntmps11
 unfold stoV askV;unfold objS objA at HF
 go_upto_region 1 with fail
 generalize World.alloc _ _=W at HF ⊢;have hh:=HHH.out;obtain ⟨⟨⟨x0,x1,x2,x3,x4,x5,x6⟩,x7,x8⟩,⟨y0,y1,y2,y3,y4,y5,y6,y7⟩,r6,r7,hbel,l3,l5,l6,l7,o6,o7⟩:=HF.out;obtain ⟨z0,z1,z2,z3,z4,z5,z6,z7,z8,f0,f1,f2,f3,f4,f5,f6,f7,f8⟩:=RowIs.rc9 r6;obtain ⟨q0,q1,q2,q3,g0,g1,g2,g3⟩:=RowIs.rc4 r7;clear hbel r6 r7 l3 l5 l6 l7 o6 o7;rw [hh] at y3;go_wp2_with fail
 refine (reftoken_list a.tag _ htg).mono ?_
 rintro e w1 ⟨rfl,hw1⟩;rw [hw1];clear hw1 w1;rw [htok];go_wp2_with fail
 refine (rplace16_any (s:=s) (HP.out.below HF.out.bel) a.tag hn).mono ?_
 rintro e w1 ⟨rfl,hw1⟩;have HF:=hid (HF.out.below hw1);clear x0 x1 x2 x3 x4 x5 x6 x7 x8 y0 y1 y2 y3 y4 y5 y6 y7 z0 z1 z2 z3 z4 z5 z6 z7 z8 f0 f1 f2 f3 f4 f5 f6 f7 f8 q0 q1 q2 q3 g0 g1 g2 g3 hw1;obtain ⟨⟨⟨x0,x1,x2,x3,x4,x5,x6⟩,x7,x8⟩,⟨y0,y1,y2,y3,y4,y5,y6,y7⟩,r6,r7,hbel,l3,l5,l6,l7,o6,o7⟩:=HF.out;obtain ⟨z0,z1,z2,z3,z4,z5,z6,z7,z8,f0,f1,f2,f3,f4,f5,f6,f7,f8⟩:=RowIs.rc9 r6;obtain ⟨q0,q1,q2,q3,g0,g1,g2,g3⟩:=RowIs.rc4 r7;clear hbel r6 r7 l3 l5 l6 l7 o6 o7;rw [hh] at y3;go_wp2_with fail
 refine (rcheck14_any a.doc ts ns _ (HSM.out hh) (HEN.out hh) ((HT.out hh).1.below HF.out.bel) ((HT.out hh).2.below HF.out.bel)).mono ?_
 rintro e w1 ⟨rfl,hw1⟩;have HF:=hid (HF.out.below hw1);clear x0 x1 x2 x3 x4 x5 x6 x7 x8 y0 y1 y2 y3 y4 y5 y6 y7 z0 z1 z2 z3 z4 z5 z6 z7 z8 f0 f1 f2 f3 f4 f5 f6 f7 f8 q0 q1 q2 q3 g0 g1 g2 g3 hw1;obtain ⟨⟨⟨x0,x1,x2,x3,x4,x5,x6⟩,x7,x8⟩,⟨y0,y1,y2,y3,y4,y5,y6,y7⟩,r6,r7,hbel,l3,l5,l6,l7,o6,o7⟩:=HF.out;obtain ⟨z0,z1,z2,z3,z4,z5,z6,z7,z8,f0,f1,f2,f3,f4,f5,f6,f7,f8⟩:=RowIs.rc9 r6;obtain ⟨q0,q1,q2,q3,g0,g1,g2,g3⟩:=RowIs.rc4 r7;clear hbel r6 r7 l3 l5 l6 l7 o6 o7;rw [hh] at y3;obtain ⟨w9,hw9,HR0⟩:=HF.out.put (by omega) ⟨0,0,[],false⟩;have HR:=hid HR0;have n67:w.heap.size+2 ≠ w.heap.size+3:=by omega
 clear HF HR0;go_wp2
 try simp only at hw9
 rw [← hw9];clear hw9 x0 x1 x2 x3 x4 x5 x6 x7 x8 y0 y1 y2 y3 y4 y5 y6 y7 z0 z1 z2 z3 z4 z5 z6 z7 z8 f0 f1 f2 f3 f4 f5 f6 f7 f8 q0 q1 q2 q3 g0 g1 g2 g3;obtain ⟨R6,R7,hB⟩:=HR.out;obtain ⟨e0,e1,e2,e3,e4,e5,e6,e7,e8,_,_,_,_,_,_,_,_,_⟩:=RowIs.rc9 R6;obtain ⟨t0,t1,t2,t3,_,_,_,_⟩:=RowIs.rc4 R7;replace t0:w9.cell? ⟨w.heap.size+3,0,none⟩=some (.int .i64 0):=t0;replace t1:w9.cell? ⟨w.heap.size+3,1,none⟩=some (.int .i64 0):=t1;replace t2:w9.cell? ⟨w.heap.size+3,2,none⟩=some (.string ⟨([]:List UInt8).toArray⟩):=t2;replace t3:w9.cell? ⟨w.heap.size+3,3,none⟩=some (.bool false):=t3
 try simp only [Exit.inBlock,Exit.then]
 refine bodyPost_ret (v:=.tuple #[.agg #[.string ⟨s.c.host.toArray⟩,.int .i64 s.c.calls,.int .i64 s.c.pubs,.int .i64 s.c.subs,.int .i64 s.c.least,.int .i64 s.c.most,.int .i64 s.c.usual,.int .i64 s.last,.slice va cs.length vc],.agg #[.int .i64 0,.int .i64 0,.string ⟨([]:List UInt8).toArray⟩,.bool false],.int .i64 1]) (by simp [results,Tryz.results11,go_sem,e0,e1,e2,e3,e4,e5,e6,e7,e8,t0,t1,t2,t3]; try rfl) rfl ?_
 exact ⟨_,cs,rfl,.inl ⟨rfl,rfl⟩,fun _ h _=>h,HS.out,hB⟩
set_option maxHeartbeats 8000000 in
set_option maxRecDepth 100000 in
theorem rdo16_w412a0 {w:World} {v:Value} {s:Sto} {cs:List PbC} (h:PbsAt w v cs) (hd:DocsAt w cs) (hs:s.l=pbsL cs) (hn:cs.length≤1000000) (now:Int) (a:Pa) (ts ns:Value) (htg:a.tag.length≤140737488355328)
  (ht:a.has=true → TusAt w ts a.doc.tuples∧StrsAt w ns a.doc.notes) (hsm:a.has=true → SmallD 140737488355328 a.doc) (hen:a.has=true → a.doc.entity.length+4≤1048576)
  (d0:decide (now < 0)=false) (d1:decide (549755813888 < now)=false) (htok:tokenB a.tag=true) (hpl:decide (0≤placeP (pbsL cs) a.tag)=false) (hh:a.has=false) (n:Int) (b:Bool) (hs1:(secC s.c a.exp).1=n) (hs2:(secC s.c a.exp).2=b) (hmt:a.mt.isEmpty=false) (hp2:decide (placeP (pbsL cs) a.mt < 0)=true) :
  Calls Tryz.prog 11 #[stoV s v,.int .i64 now,askV a ts ns] w fun e w'=>DoRes (s,⟨412,0,[],false⟩,0) v cs a ts ns w e w':=by
 have HF:=hid (frD_new w s v a ts ns);have HHH:=hid hh;have HP:=hid h;have HD:=hid hd;have HS:=hid hs;have HT:=hid ht;have HSM:=hid hsm;have HEN:=hid hen;obtain ⟨va,vc,rfl⟩:=h.form;clear h hd hs ht hsm hen hh
 go_enter Tryz.func11,Tryz.ntmps11
 unfold stoV askV;unfold objS objA at HF
 go_upto_region 1 with fail
 generalize World.alloc _ _=W at HF ⊢;have hh:=HHH.out;obtain ⟨⟨⟨x0,x1,x2,x3,x4,x5,x6⟩,x7,x8⟩,⟨y0,y1,y2,y3,y4,y5,y6,y7⟩,r6,r7,hbel,l3,l5,l6,l7,o6,o7⟩:=HF.out;obtain ⟨z0,z1,z2,z3,z4,z5,z6,z7,z8,f0,f1,f2,f3,f4,f5,f6,f7,f8⟩:=RowIs.rc9 r6;obtain ⟨q0,q1,q2,q3,g0,g1,g2,g3⟩:=RowIs.rc4 r7;clear hbel r6 r7 l3 l5 l6 l7 o6 o7;rw [hh] at y3;go_wp2_with fail
 refine (reftoken_list a.tag _ htg).mono ?_
 rintro e w1 ⟨rfl,hw1⟩;rw [hw1];clear hw1 w1;rw [htok];go_wp2_with fail
 refine (rplace16_any (s:=s) (HP.out.below HF.out.bel) a.tag hn).mono ?_
 rintro e w1 ⟨rfl,hw1⟩;have HF:=hid (HF.out.below hw1);clear x0 x1 x2 x3 x4 x5 x6 x7 x8 y0 y1 y2 y3 y4 y5 y6 y7 z0 z1 z2 z3 z4 z5 z6 z7 z8 f0 f1 f2 f3 f4 f5 f6 f7 f8 q0 q1 q2 q3 g0 g1 g2 g3 hw1;obtain ⟨⟨⟨x0,x1,x2,x3,x4,x5,x6⟩,x7,x8⟩,⟨y0,y1,y2,y3,y4,y5,y6,y7⟩,r6,r7,hbel,l3,l5,l6,l7,o6,o7⟩:=HF.out;obtain ⟨z0,z1,z2,z3,z4,z5,z6,z7,z8,f0,f1,f2,f3,f4,f5,f6,f7,f8⟩:=RowIs.rc9 r6;obtain ⟨q0,q1,q2,q3,g0,g1,g2,g3⟩:=RowIs.rc4 r7;clear hbel r6 r7 l3 l5 l6 l7 o6 o7;rw [hh] at y3;go_wp2_with fail
 refine (rsec16_any s.c a.exp _).mono ?_
 rintro e w1 ⟨rfl,hw1⟩;have HF:=hid (HF.out.below hw1);clear x0 x1 x2 x3 x4 x5 x6 x7 x8 y0 y1 y2 y3 y4 y5 y6 y7 z0 z1 z2 z3 z4 z5 z6 z7 z8 f0 f1 f2 f3 f4 f5 f6 f7 f8 q0 q1 q2 q3 g0 g1 g2 g3 hw1;rw [hs1,hs2];obtain ⟨⟨⟨x0,x1,x2,x3,x4,x5,x6⟩,x7,x8⟩,⟨y0,y1,y2,y3,y4,y5,y6,y7⟩,r6,r7,hbel,l3,l5,l6,l7,o6,o7⟩:=HF.out;obtain ⟨z0,z1,z2,z3,z4,z5,z6,z7,z8,f0,f1,f2,f3,f4,f5,f6,f7,f8⟩:=RowIs.rc9 r6;obtain ⟨q0,q1,q2,q3,g0,g1,g2,g3⟩:=RowIs.rc4 r7;clear hbel r6 r7 l3 l5 l6 l7 o6 o7;rw [hh] at y3;go_wp2_with fail
 refine (rplace16_any (s:=s) (HP.out.below HF.out.bel) a.mt hn).mono ?_
 rintro e w1 ⟨rfl,hw1⟩;have HF:=hid (HF.out.below hw1);clear x0 x1 x2 x3 x4 x5 x6 x7 x8 y0 y1 y2 y3 y4 y5 y6 y7 z0 z1 z2 z3 z4 z5 z6 z7 z8 f0 f1 f2 f3 f4 f5 f6 f7 f8 q0 q1 q2 q3 g0 g1 g2 g3 hw1;obtain ⟨⟨⟨x0,x1,x2,x3,x4,x5,x6⟩,x7,x8⟩,⟨y0,y1,y2,y3,y4,y5,y6,y7⟩,r6,r7,hbel,l3,l5,l6,l7,o6,o7⟩:=HF.out;obtain ⟨z0,z1,z2,z3,z4,z5,z6,z7,z8,f0,f1,f2,f3,f4,f5,f6,f7,f8⟩:=RowIs.rc9 r6;obtain ⟨q0,q1,q2,q3,g0,g1,g2,g3⟩:=RowIs.rc4 r7;clear hbel r6 r7 l3 l5 l6 l7 o6 o7;rw [hh] at y3;go_wp2
 go_quiet (fail)
 have HF:=hid (HF.out.below (below_drewN _ nq));clear x0 x1 x2 x3 x4 x5 x6 x7 x8 y0 y1 y2 y3 y4 y5 y6 y7 z0 z1 z2 z3 z4 z5 z6 z7 z8 f0 f1 f2 f3 f4 f5 f6 f7 f8 q0 q1 q2 q3 g0 g1 g2 g3;generalize World.drewN _ nq=W2 at HF ⊢;obtain ⟨⟨⟨x0,x1,x2,x3,x4,x5,x6⟩,x7,x8⟩,⟨y0,y1,y2,y3,y4,y5,y6,y7⟩,r6,r7,hbel,l3,l5,l6,l7,o6,o7⟩:=HF.out;obtain ⟨z0,z1,z2,z3,z4,z5,z6,z7,z8,f0,f1,f2,f3,f4,f5,f6,f7,f8⟩:=RowIs.rc9 r6;obtain ⟨q0,q1,q2,q3,g0,g1,g2,g3⟩:=RowIs.rc4 r7;clear hbel r6 r7 l3 l5 l6 l7 o6 o7;rw [hh] at y3;obtain ⟨w9,hw9,HR0⟩:=HF.out.put (by omega) ⟨412,0,[],false⟩;have HR:=hid HR0;have n67:w.heap.size+2 ≠ w.heap.size+3:=by omega
 clear HF HR0;go_wp2
 try simp only at hw9
 rw [← hw9];clear hw9 x0 x1 x2 x3 x4 x5 x6 x7 x8 y0 y1 y2 y3 y4 y5 y6 y7 z0 z1 z2 z3 z4 z5 z6 z7 z8 f0 f1 f2 f3 f4 f5 f6 f7 f8 q0 q1 q2 q3 g0 g1 g2 g3;obtain ⟨R6,R7,hB⟩:=HR.out;obtain ⟨e0,e1,e2,e3,e4,e5,e6,e7,e8,_,_,_,_,_,_,_,_,_⟩:=RowIs.rc9 R6;obtain ⟨t0,t1,t2,t3,_,_,_,_⟩:=RowIs.rc4 R7;replace t0:w9.cell? ⟨w.heap.size+3,0,none⟩=some (.int .i64 412):=t0;replace t1:w9.cell? ⟨w.heap.size+3,1,none⟩=some (.int .i64 0):=t1;replace t2:w9.cell? ⟨w.heap.size+3,2,none⟩=some (.string ⟨([]:List UInt8).toArray⟩):=t2;replace t3:w9.cell? ⟨w.heap.size+3,3,none⟩=some (.bool false):=t3
 try simp only [Exit.inBlock,Exit.then]
 refine bodyPost_ret (v:=.tuple #[.agg #[.string ⟨s.c.host.toArray⟩,.int .i64 s.c.calls,.int .i64 s.c.pubs,.int .i64 s.c.subs,.int .i64 s.c.least,.int .i64 s.c.most,.int .i64 s.c.usual,.int .i64 s.last,.slice va cs.length vc],.agg #[.int .i64 412,.int .i64 0,.string ⟨([]:List UInt8).toArray⟩,.bool false],.int .i64 0]) (by simp [results,Tryz.results11,go_sem,e0,e1,e2,e3,e4,e5,e6,e7,e8,t0,t1,t2,t3]; try rfl) rfl ?_
 exact ⟨_,cs,rfl,.inl ⟨rfl,rfl⟩,fun _ h _=>h,HS.out,hB⟩
set_option maxHeartbeats 8000000 in
set_option maxRecDepth 100000 in
theorem rdo16_w412b0 {w:World} {v:Value} {s:Sto} {cs:List PbC} (h:PbsAt w v cs) (hd:DocsAt w cs) (hs:s.l=pbsL cs) (hn:cs.length≤1000000) (now:Int) (a:Pa) (ts ns:Value) (htg:a.tag.length≤140737488355328)
  (ht:a.has=true → TusAt w ts a.doc.tuples∧StrsAt w ns a.doc.notes) (hsm:a.has=true → SmallD 140737488355328 a.doc) (hen:a.has=true → a.doc.entity.length+4≤1048576)
  (d0:decide (now < 0)=false) (d1:decide (549755813888 < now)=false) (htok:tokenB a.tag=true) (hpl:decide (0≤placeP (pbsL cs) a.tag)=false) (hh:a.has=false) (n:Int) (b:Bool) (hs1:(secC s.c a.exp).1=n) (hs2:(secC s.c a.exp).2=b) (hmt:a.mt.isEmpty=false) (k:Nat) (hk:k < cs.length) (hpk:placeP (pbsL cs) a.mt=(k:Int)) (hwho:(cs[k].p.who==a.who)=false)  :
  Calls Tryz.prog 11 #[stoV s v,.int .i64 now,askV a ts ns] w fun e w'=>DoRes (s,⟨412,0,[],false⟩,0) v cs a ts ns w e w':=by
 have HF:=hid (frD_new w s v a ts ns);have HHH:=hid hh;have HP:=hid h;have HD:=hid hd;have HS:=hid hs;have HT:=hid ht;have HSM:=hid hsm;have HEN:=hid hen;obtain ⟨va,vc,rfl⟩:=h.form;obtain ⟨ao,cap,hv,hcp,hat⟩:=HP.out
 injection hv with e1 e2 e3
 obtain ⟨ad,had,hab,hcel⟩:=hat k hk;rw [had] at e1;subst e1;have hkn:(k:Int) < (cs.length:Int):=by omega
 have hk0:decide ((k:Int) < 0)=false:=decide_eq_false (by omega);obtain ⟨c,hc⟩:∃ c,c=cs[k]:=⟨_,rfl⟩
 rw [← hc] at hcel hwho;have CEL:=hid (fun W' (hb:Below w.heap.size w W')=>(hcel.below hb hab).seven);clear hat hcel hc e2 e3 hcp had;clear h hd hs ht hsm hen hh
 go_enter Tryz.func11,Tryz.ntmps11
 unfold stoV askV;unfold objS objA at HF
 go_upto_region 1 with fail
 generalize World.alloc _ _=W at HF ⊢;have hh:=HHH.out;obtain ⟨⟨⟨x0,x1,x2,x3,x4,x5,x6⟩,x7,x8⟩,⟨y0,y1,y2,y3,y4,y5,y6,y7⟩,r6,r7,hbel,l3,l5,l6,l7,o6,o7⟩:=HF.out;obtain ⟨z0,z1,z2,z3,z4,z5,z6,z7,z8,f0,f1,f2,f3,f4,f5,f6,f7,f8⟩:=RowIs.rc9 r6;obtain ⟨q0,q1,q2,q3,g0,g1,g2,g3⟩:=RowIs.rc4 r7;clear hbel r6 r7 l3 l5 l6 l7 o6 o7;rw [hh] at y3;obtain ⟨c0,c1,c2,c3,c4,c5,c6⟩:=CEL.out _ HF.out.bel;go_wp2_with fail
 refine (reftoken_list a.tag _ htg).mono ?_
 rintro e w1 ⟨rfl,hw1⟩;rw [hw1];clear hw1 w1;rw [htok];go_wp2_with fail
 refine (rplace16_any (s:=s) (HP.out.below HF.out.bel) a.tag hn).mono ?_
 rintro e w1 ⟨rfl,hw1⟩;have HF:=hid (HF.out.below hw1);clear x0 x1 x2 x3 x4 x5 x6 x7 x8 y0 y1 y2 y3 y4 y5 y6 y7 z0 z1 z2 z3 z4 z5 z6 z7 z8 f0 f1 f2 f3 f4 f5 f6 f7 f8 q0 q1 q2 q3 g0 g1 g2 g3 c0 c1 c2 c3 c4 c5 c6 hw1;obtain ⟨⟨⟨x0,x1,x2,x3,x4,x5,x6⟩,x7,x8⟩,⟨y0,y1,y2,y3,y4,y5,y6,y7⟩,r6,r7,hbel,l3,l5,l6,l7,o6,o7⟩:=HF.out;obtain ⟨z0,z1,z2,z3,z4,z5,z6,z7,z8,f0,f1,f2,f3,f4,f5,f6,f7,f8⟩:=RowIs.rc9 r6;obtain ⟨q0,q1,q2,q3,g0,g1,g2,g3⟩:=RowIs.rc4 r7;clear hbel r6 r7 l3 l5 l6 l7 o6 o7;rw [hh] at y3;obtain ⟨c0,c1,c2,c3,c4,c5,c6⟩:=CEL.out _ HF.out.bel;go_wp2_with fail
 refine (rsec16_any s.c a.exp _).mono ?_
 rintro e w1 ⟨rfl,hw1⟩;have HF:=hid (HF.out.below hw1);clear x0 x1 x2 x3 x4 x5 x6 x7 x8 y0 y1 y2 y3 y4 y5 y6 y7 z0 z1 z2 z3 z4 z5 z6 z7 z8 f0 f1 f2 f3 f4 f5 f6 f7 f8 q0 q1 q2 q3 g0 g1 g2 g3 c0 c1 c2 c3 c4 c5 c6 hw1;rw [hs1,hs2];obtain ⟨⟨⟨x0,x1,x2,x3,x4,x5,x6⟩,x7,x8⟩,⟨y0,y1,y2,y3,y4,y5,y6,y7⟩,r6,r7,hbel,l3,l5,l6,l7,o6,o7⟩:=HF.out;obtain ⟨z0,z1,z2,z3,z4,z5,z6,z7,z8,f0,f1,f2,f3,f4,f5,f6,f7,f8⟩:=RowIs.rc9 r6;obtain ⟨q0,q1,q2,q3,g0,g1,g2,g3⟩:=RowIs.rc4 r7;clear hbel r6 r7 l3 l5 l6 l7 o6 o7;rw [hh] at y3;obtain ⟨c0,c1,c2,c3,c4,c5,c6⟩:=CEL.out _ HF.out.bel;go_wp2_with fail
 refine (rplace16_any (s:=s) (HP.out.below HF.out.bel) a.mt hn).mono ?_
 rintro e w1 ⟨rfl,hw1⟩;have HF:=hid (HF.out.below hw1);clear x0 x1 x2 x3 x4 x5 x6 x7 x8 y0 y1 y2 y3 y4 y5 y6 y7 z0 z1 z2 z3 z4 z5 z6 z7 z8 f0 f1 f2 f3 f4 f5 f6 f7 f8 q0 q1 q2 q3 g0 g1 g2 g3 c0 c1 c2 c3 c4 c5 c6 hw1;rw [hpk];obtain ⟨⟨⟨x0,x1,x2,x3,x4,x5,x6⟩,x7,x8⟩,⟨y0,y1,y2,y3,y4,y5,y6,y7⟩,r6,r7,hbel,l3,l5,l6,l7,o6,o7⟩:=HF.out;obtain ⟨z0,z1,z2,z3,z4,z5,z6,z7,z8,f0,f1,f2,f3,f4,f5,f6,f7,f8⟩:=RowIs.rc9 r6;obtain ⟨q0,q1,q2,q3,g0,g1,g2,g3⟩:=RowIs.rc4 r7;clear hbel r6 r7 l3 l5 l6 l7 o6 o7;rw [hh] at y3;obtain ⟨c0,c1,c2,c3,c4,c5,c6⟩:=CEL.out _ HF.out.bel;go_wp2
 go_quiet (fail)
 have HF:=hid (HF.out.below (below_drewN _ nq));clear x0 x1 x2 x3 x4 x5 x6 x7 x8 y0 y1 y2 y3 y4 y5 y6 y7 z0 z1 z2 z3 z4 z5 z6 z7 z8 f0 f1 f2 f3 f4 f5 f6 f7 f8 q0 q1 q2 q3 g0 g1 g2 g3 c0 c1 c2 c3 c4 c5 c6;generalize World.drewN _ nq=W2 at HF ⊢;obtain ⟨⟨⟨x0,x1,x2,x3,x4,x5,x6⟩,x7,x8⟩,⟨y0,y1,y2,y3,y4,y5,y6,y7⟩,r6,r7,hbel,l3,l5,l6,l7,o6,o7⟩:=HF.out;obtain ⟨z0,z1,z2,z3,z4,z5,z6,z7,z8,f0,f1,f2,f3,f4,f5,f6,f7,f8⟩:=RowIs.rc9 r6;obtain ⟨q0,q1,q2,q3,g0,g1,g2,g3⟩:=RowIs.rc4 r7;clear hbel r6 r7 l3 l5 l6 l7 o6 o7;rw [hh] at y3;obtain ⟨c0,c1,c2,c3,c4,c5,c6⟩:=CEL.out _ HF.out.bel;obtain ⟨w9,hw9,HR0⟩:=HF.out.put (by omega) ⟨412,0,[],false⟩;have HR:=hid HR0;have n67:w.heap.size+2 ≠ w.heap.size+3:=by omega
 clear HF HR0;go_wp2
 try simp only at hw9
 rw [← hw9];clear hw9 x0 x1 x2 x3 x4 x5 x6 x7 x8 y0 y1 y2 y3 y4 y5 y6 y7 z0 z1 z2 z3 z4 z5 z6 z7 z8 f0 f1 f2 f3 f4 f5 f6 f7 f8 q0 q1 q2 q3 g0 g1 g2 g3 c0 c1 c2 c3 c4 c5 c6;obtain ⟨R6,R7,hB⟩:=HR.out;obtain ⟨e0,e1,e2,e3,e4,e5,e6,e7,e8,_,_,_,_,_,_,_,_,_⟩:=RowIs.rc9 R6;obtain ⟨t0,t1,t2,t3,_,_,_,_⟩:=RowIs.rc4 R7;replace t0:w9.cell? ⟨w.heap.size+3,0,none⟩=some (.int .i64 412):=t0;replace t1:w9.cell? ⟨w.heap.size+3,1,none⟩=some (.int .i64 0):=t1;replace t2:w9.cell? ⟨w.heap.size+3,2,none⟩=some (.string ⟨([]:List UInt8).toArray⟩):=t2;replace t3:w9.cell? ⟨w.heap.size+3,3,none⟩=some (.bool false):=t3
 try simp only [Exit.inBlock,Exit.then]
 refine bodyPost_ret (v:=.tuple #[.agg #[.string ⟨s.c.host.toArray⟩,.int .i64 s.c.calls,.int .i64 s.c.pubs,.int .i64 s.c.subs,.int .i64 s.c.least,.int .i64 s.c.most,.int .i64 s.c.usual,.int .i64 s.last,.slice (some ad) cs.length vc],.agg #[.int .i64 412,.int .i64 0,.string ⟨([]:List UInt8).toArray⟩,.bool false],.int .i64 0]) (by simp [results,Tryz.results11,go_sem,e0,e1,e2,e3,e4,e5,e6,e7,e8,t0,t1,t2,t3]; try rfl) rfl ?_
 exact ⟨_,cs,rfl,.inl ⟨rfl,rfl⟩,fun _ h _=>h,HS.out,hB⟩
set_option maxHeartbeats 8000000 in
set_option maxRecDepth 100000 in
theorem rdo16_w400a0 {w:World} {v:Value} {s:Sto} {cs:List PbC} (h:PbsAt w v cs) (hd:DocsAt w cs) (hs:s.l=pbsL cs) (hn:cs.length≤1000000) (now:Int) (a:Pa) (ts ns:Value) (htg:a.tag.length≤140737488355328)
  (ht:a.has=true → TusAt w ts a.doc.tuples∧StrsAt w ns a.doc.notes) (hsm:a.has=true → SmallD 140737488355328 a.doc) (hen:a.has=true → a.doc.entity.length+4≤1048576)
  (d0:decide (now < 0)=false) (d1:decide (549755813888 < now)=false) (htok:tokenB a.tag=true) (hpl:decide (0≤placeP (pbsL cs) a.tag)=false) (hh:a.has=false) (n:Int) (hs1:(secC s.c a.exp).1=n) (hs2:(secC s.c a.exp).2=true) (hmt:a.mt.isEmpty=true)  :
  Calls Tryz.prog 11 #[stoV s v,.int .i64 now,askV a ts ns] w fun e w'=>DoRes (s,⟨400,0,[],false⟩,0) v cs a ts ns w e w':=by
 have HF:=hid (frD_new w s v a ts ns);have HHH:=hid hh;have HP:=hid h;have HD:=hid hd;have HS:=hid hs;have HT:=hid ht;have HSM:=hid hsm;have HEN:=hid hen;obtain ⟨va,vc,rfl⟩:=h.form;clear h hd hs ht hsm hen hh
 go_enter Tryz.func11,Tryz.ntmps11
 unfold stoV askV;unfold objS objA at HF
 go_upto_region 1 with fail
 generalize World.alloc _ _=W at HF ⊢;have hh:=HHH.out;obtain ⟨⟨⟨x0,x1,x2,x3,x4,x5,x6⟩,x7,x8⟩,⟨y0,y1,y2,y3,y4,y5,y6,y7⟩,r6,r7,hbel,l3,l5,l6,l7,o6,o7⟩:=HF.out;obtain ⟨z0,z1,z2,z3,z4,z5,z6,z7,z8,f0,f1,f2,f3,f4,f5,f6,f7,f8⟩:=RowIs.rc9 r6;obtain ⟨q0,q1,q2,q3,g0,g1,g2,g3⟩:=RowIs.rc4 r7;clear hbel r6 r7 l3 l5 l6 l7 o6 o7;rw [hh] at y3;go_wp2_with fail
 refine (reftoken_list a.tag _ htg).mono ?_
 rintro e w1 ⟨rfl,hw1⟩;rw [hw1];clear hw1 w1;rw [htok];go_wp2_with fail
 refine (rplace16_any (s:=s) (HP.out.below HF.out.bel) a.tag hn).mono ?_
 rintro e w1 ⟨rfl,hw1⟩;have HF:=hid (HF.out.below hw1);clear x0 x1 x2 x3 x4 x5 x6 x7 x8 y0 y1 y2 y3 y4 y5 y6 y7 z0 z1 z2 z3 z4 z5 z6 z7 z8 f0 f1 f2 f3 f4 f5 f6 f7 f8 q0 q1 q2 q3 g0 g1 g2 g3 hw1;obtain ⟨⟨⟨x0,x1,x2,x3,x4,x5,x6⟩,x7,x8⟩,⟨y0,y1,y2,y3,y4,y5,y6,y7⟩,r6,r7,hbel,l3,l5,l6,l7,o6,o7⟩:=HF.out;obtain ⟨z0,z1,z2,z3,z4,z5,z6,z7,z8,f0,f1,f2,f3,f4,f5,f6,f7,f8⟩:=RowIs.rc9 r6;obtain ⟨q0,q1,q2,q3,g0,g1,g2,g3⟩:=RowIs.rc4 r7;clear hbel r6 r7 l3 l5 l6 l7 o6 o7;rw [hh] at y3;go_wp2_with fail
 refine (rsec16_any s.c a.exp _).mono ?_
 rintro e w1 ⟨rfl,hw1⟩;have HF:=hid (HF.out.below hw1);clear x0 x1 x2 x3 x4 x5 x6 x7 x8 y0 y1 y2 y3 y4 y5 y6 y7 z0 z1 z2 z3 z4 z5 z6 z7 z8 f0 f1 f2 f3 f4 f5 f6 f7 f8 q0 q1 q2 q3 g0 g1 g2 g3 hw1;rw [hs1,hs2];obtain ⟨⟨⟨x0,x1,x2,x3,x4,x5,x6⟩,x7,x8⟩,⟨y0,y1,y2,y3,y4,y5,y6,y7⟩,r6,r7,hbel,l3,l5,l6,l7,o6,o7⟩:=HF.out;obtain ⟨z0,z1,z2,z3,z4,z5,z6,z7,z8,f0,f1,f2,f3,f4,f5,f6,f7,f8⟩:=RowIs.rc9 r6;obtain ⟨q0,q1,q2,q3,g0,g1,g2,g3⟩:=RowIs.rc4 r7;clear hbel r6 r7 l3 l5 l6 l7 o6 o7;rw [hh] at y3;go_wp2_with fail
 refine (rplace16_any (s:=s) (HP.out.below HF.out.bel) a.mt hn).mono ?_
 rintro e w1 ⟨rfl,hw1⟩;have HF:=hid (HF.out.below hw1);clear x0 x1 x2 x3 x4 x5 x6 x7 x8 y0 y1 y2 y3 y4 y5 y6 y7 z0 z1 z2 z3 z4 z5 z6 z7 z8 f0 f1 f2 f3 f4 f5 f6 f7 f8 q0 q1 q2 q3 g0 g1 g2 g3 hw1;obtain ⟨⟨⟨x0,x1,x2,x3,x4,x5,x6⟩,x7,x8⟩,⟨y0,y1,y2,y3,y4,y5,y6,y7⟩,r6,r7,hbel,l3,l5,l6,l7,o6,o7⟩:=HF.out;obtain ⟨z0,z1,z2,z3,z4,z5,z6,z7,z8,f0,f1,f2,f3,f4,f5,f6,f7,f8⟩:=RowIs.rc9 r6;obtain ⟨q0,q1,q2,q3,g0,g1,g2,g3⟩:=RowIs.rc4 r7;clear hbel r6 r7 l3 l5 l6 l7 o6 o7;rw [hh] at y3;go_wp2
 go_quiet (fail)
 have HF:=hid (HF.out.below (below_drewN _ nq));clear x0 x1 x2 x3 x4 x5 x6 x7 x8 y0 y1 y2 y3 y4 y5 y6 y7 z0 z1 z2 z3 z4 z5 z6 z7 z8 f0 f1 f2 f3 f4 f5 f6 f7 f8 q0 q1 q2 q3 g0 g1 g2 g3;generalize World.drewN _ nq=W2 at HF ⊢;obtain ⟨⟨⟨x0,x1,x2,x3,x4,x5,x6⟩,x7,x8⟩,⟨y0,y1,y2,y3,y4,y5,y6,y7⟩,r6,r7,hbel,l3,l5,l6,l7,o6,o7⟩:=HF.out;obtain ⟨z0,z1,z2,z3,z4,z5,z6,z7,z8,f0,f1,f2,f3,f4,f5,f6,f7,f8⟩:=RowIs.rc9 r6;obtain ⟨q0,q1,q2,q3,g0,g1,g2,g3⟩:=RowIs.rc4 r7;clear hbel r6 r7 l3 l5 l6 l7 o6 o7;rw [hh] at y3;obtain ⟨w9,hw9,HR0⟩:=HF.out.put (by omega) ⟨400,0,[],false⟩;have HR:=hid HR0;have n67:w.heap.size+2 ≠ w.heap.size+3:=by omega
 clear HF HR0;go_wp2
 try simp only at hw9
 rw [← hw9];clear hw9 x0 x1 x2 x3 x4 x5 x6 x7 x8 y0 y1 y2 y3 y4 y5 y6 y7 z0 z1 z2 z3 z4 z5 z6 z7 z8 f0 f1 f2 f3 f4 f5 f6 f7 f8 q0 q1 q2 q3 g0 g1 g2 g3;obtain ⟨R6,R7,hB⟩:=HR.out;obtain ⟨e0,e1,e2,e3,e4,e5,e6,e7,e8,_,_,_,_,_,_,_,_,_⟩:=RowIs.rc9 R6;obtain ⟨t0,t1,t2,t3,_,_,_,_⟩:=RowIs.rc4 R7;replace t0:w9.cell? ⟨w.heap.size+3,0,none⟩=some (.int .i64 400):=t0;replace t1:w9.cell? ⟨w.heap.size+3,1,none⟩=some (.int .i64 0):=t1;replace t2:w9.cell? ⟨w.heap.size+3,2,none⟩=some (.string ⟨([]:List UInt8).toArray⟩):=t2;replace t3:w9.cell? ⟨w.heap.size+3,3,none⟩=some (.bool false):=t3
 try simp only [Exit.inBlock,Exit.then]
 refine bodyPost_ret (v:=.tuple #[.agg #[.string ⟨s.c.host.toArray⟩,.int .i64 s.c.calls,.int .i64 s.c.pubs,.int .i64 s.c.subs,.int .i64 s.c.least,.int .i64 s.c.most,.int .i64 s.c.usual,.int .i64 s.last,.slice va cs.length vc],.agg #[.int .i64 400,.int .i64 0,.string ⟨([]:List UInt8).toArray⟩,.bool false],.int .i64 0]) (by simp [results,Tryz.results11,go_sem,e0,e1,e2,e3,e4,e5,e6,e7,e8,t0,t1,t2,t3]; try rfl) rfl ?_
 exact ⟨_,cs,rfl,.inl ⟨rfl,rfl⟩,fun _ h _=>h,HS.out,hB⟩
set_option maxHeartbeats 8000000 in
set_option maxRecDepth 100000 in
theorem rdo16_w412a1 {w:World} {v:Value} {s:Sto} {cs:List PbC} (h:PbsAt w v cs) (hd:DocsAt w cs) (hs:s.l=pbsL cs) (hn:cs.length≤1000000) (now:Int) (a:Pa) (ts ns:Value) (htg:a.tag.length≤140737488355328)
  (ht:a.has=true → TusAt w ts a.doc.tuples∧StrsAt w ns a.doc.notes) (hsm:a.has=true → SmallD 140737488355328 a.doc) (hen:a.has=true → a.doc.entity.length+4≤1048576)
  (d0:decide (now < 0)=false) (d1:decide (549755813888 < now)=false) (htok:tokenB a.tag=true) (hpl:decide (0≤placeP (pbsL cs) a.tag)=false) (hh:a.has=true) (hck:(checkD a.doc != 0)=false) (n:Int) (b:Bool) (hs1:(secC s.c a.exp).1=n) (hs2:(secC s.c a.exp).2=b) (hmt:a.mt.isEmpty=false) (hp2:decide (placeP (pbsL cs) a.mt < 0)=true) :
  Calls Tryz.prog 11 #[stoV s v,.int .i64 now,askV a ts ns] w fun e w'=>DoRes (s,⟨412,0,[],false⟩,0) v cs a ts ns w e w':=by
 have HF:=hid (frD_new w s v a ts ns);have HHH:=hid hh;have HP:=hid h;have HD:=hid hd;have HS:=hid hs;have HT:=hid ht;have HSM:=hid hsm;have HEN:=hid hen;obtain ⟨va,vc,rfl⟩:=h.form;clear h hd hs ht hsm hen hh
 go_enter Tryz.func11,Tryz.ntmps11
 unfold stoV askV;unfold objS objA at HF
 go_upto_region 1 with fail
 generalize World.alloc _ _=W at HF ⊢;have hh:=HHH.out;obtain ⟨⟨⟨x0,x1,x2,x3,x4,x5,x6⟩,x7,x8⟩,⟨y0,y1,y2,y3,y4,y5,y6,y7⟩,r6,r7,hbel,l3,l5,l6,l7,o6,o7⟩:=HF.out;obtain ⟨z0,z1,z2,z3,z4,z5,z6,z7,z8,f0,f1,f2,f3,f4,f5,f6,f7,f8⟩:=RowIs.rc9 r6;obtain ⟨q0,q1,q2,q3,g0,g1,g2,g3⟩:=RowIs.rc4 r7;clear hbel r6 r7 l3 l5 l6 l7 o6 o7;rw [hh] at y3;go_wp2_with fail
 refine (reftoken_list a.tag _ htg).mono ?_
 rintro e w1 ⟨rfl,hw1⟩;rw [hw1];clear hw1 w1;rw [htok];go_wp2_with fail
 refine (rplace16_any (s:=s) (HP.out.below HF.out.bel) a.tag hn).mono ?_
 rintro e w1 ⟨rfl,hw1⟩;have HF:=hid (HF.out.below hw1);clear x0 x1 x2 x3 x4 x5 x6 x7 x8 y0 y1 y2 y3 y4 y5 y6 y7 z0 z1 z2 z3 z4 z5 z6 z7 z8 f0 f1 f2 f3 f4 f5 f6 f7 f8 q0 q1 q2 q3 g0 g1 g2 g3 hw1;obtain ⟨⟨⟨x0,x1,x2,x3,x4,x5,x6⟩,x7,x8⟩,⟨y0,y1,y2,y3,y4,y5,y6,y7⟩,r6,r7,hbel,l3,l5,l6,l7,o6,o7⟩:=HF.out;obtain ⟨z0,z1,z2,z3,z4,z5,z6,z7,z8,f0,f1,f2,f3,f4,f5,f6,f7,f8⟩:=RowIs.rc9 r6;obtain ⟨q0,q1,q2,q3,g0,g1,g2,g3⟩:=RowIs.rc4 r7;clear hbel r6 r7 l3 l5 l6 l7 o6 o7;rw [hh] at y3;go_wp2_with fail
 refine (rcheck14_any a.doc ts ns _ (HSM.out hh) (HEN.out hh) ((HT.out hh).1.below HF.out.bel) ((HT.out hh).2.below HF.out.bel)).mono ?_
 rintro e w1 ⟨rfl,hw1⟩;have HF:=hid (HF.out.below hw1);clear x0 x1 x2 x3 x4 x5 x6 x7 x8 y0 y1 y2 y3 y4 y5 y6 y7 z0 z1 z2 z3 z4 z5 z6 z7 z8 f0 f1 f2 f3 f4 f5 f6 f7 f8 q0 q1 q2 q3 g0 g1 g2 g3 hw1;obtain ⟨⟨⟨x0,x1,x2,x3,x4,x5,x6⟩,x7,x8⟩,⟨y0,y1,y2,y3,y4,y5,y6,y7⟩,r6,r7,hbel,l3,l5,l6,l7,o6,o7⟩:=HF.out;obtain ⟨z0,z1,z2,z3,z4,z5,z6,z7,z8,f0,f1,f2,f3,f4,f5,f6,f7,f8⟩:=RowIs.rc9 r6;obtain ⟨q0,q1,q2,q3,g0,g1,g2,g3⟩:=RowIs.rc4 r7;clear hbel r6 r7 l3 l5 l6 l7 o6 o7;rw [hh] at y3;go_wp2_with fail
 refine (rsec16_any s.c a.exp _).mono ?_
 rintro e w1 ⟨rfl,hw1⟩;have HF:=hid (HF.out.below hw1);clear x0 x1 x2 x3 x4 x5 x6 x7 x8 y0 y1 y2 y3 y4 y5 y6 y7 z0 z1 z2 z3 z4 z5 z6 z7 z8 f0 f1 f2 f3 f4 f5 f6 f7 f8 q0 q1 q2 q3 g0 g1 g2 g3 hw1;rw [hs1,hs2];obtain ⟨⟨⟨x0,x1,x2,x3,x4,x5,x6⟩,x7,x8⟩,⟨y0,y1,y2,y3,y4,y5,y6,y7⟩,r6,r7,hbel,l3,l5,l6,l7,o6,o7⟩:=HF.out;obtain ⟨z0,z1,z2,z3,z4,z5,z6,z7,z8,f0,f1,f2,f3,f4,f5,f6,f7,f8⟩:=RowIs.rc9 r6;obtain ⟨q0,q1,q2,q3,g0,g1,g2,g3⟩:=RowIs.rc4 r7;clear hbel r6 r7 l3 l5 l6 l7 o6 o7;rw [hh] at y3;go_wp2_with fail
 refine (rplace16_any (s:=s) (HP.out.below HF.out.bel) a.mt hn).mono ?_
 rintro e w1 ⟨rfl,hw1⟩;have HF:=hid (HF.out.below hw1);clear x0 x1 x2 x3 x4 x5 x6 x7 x8 y0 y1 y2 y3 y4 y5 y6 y7 z0 z1 z2 z3 z4 z5 z6 z7 z8 f0 f1 f2 f3 f4 f5 f6 f7 f8 q0 q1 q2 q3 g0 g1 g2 g3 hw1;obtain ⟨⟨⟨x0,x1,x2,x3,x4,x5,x6⟩,x7,x8⟩,⟨y0,y1,y2,y3,y4,y5,y6,y7⟩,r6,r7,hbel,l3,l5,l6,l7,o6,o7⟩:=HF.out;obtain ⟨z0,z1,z2,z3,z4,z5,z6,z7,z8,f0,f1,f2,f3,f4,f5,f6,f7,f8⟩:=RowIs.rc9 r6;obtain ⟨q0,q1,q2,q3,g0,g1,g2,g3⟩:=RowIs.rc4 r7;clear hbel r6 r7 l3 l5 l6 l7 o6 o7;rw [hh] at y3;go_wp2
 go_quiet (fail)
 have HF:=hid (HF.out.below (below_drewN _ nq));clear x0 x1 x2 x3 x4 x5 x6 x7 x8 y0 y1 y2 y3 y4 y5 y6 y7 z0 z1 z2 z3 z4 z5 z6 z7 z8 f0 f1 f2 f3 f4 f5 f6 f7 f8 q0 q1 q2 q3 g0 g1 g2 g3;generalize World.drewN _ nq=W2 at HF ⊢;obtain ⟨⟨⟨x0,x1,x2,x3,x4,x5,x6⟩,x7,x8⟩,⟨y0,y1,y2,y3,y4,y5,y6,y7⟩,r6,r7,hbel,l3,l5,l6,l7,o6,o7⟩:=HF.out;obtain ⟨z0,z1,z2,z3,z4,z5,z6,z7,z8,f0,f1,f2,f3,f4,f5,f6,f7,f8⟩:=RowIs.rc9 r6;obtain ⟨q0,q1,q2,q3,g0,g1,g2,g3⟩:=RowIs.rc4 r7;clear hbel r6 r7 l3 l5 l6 l7 o6 o7;rw [hh] at y3;obtain ⟨w9,hw9,HR0⟩:=HF.out.put (by omega) ⟨412,0,[],false⟩;have HR:=hid HR0;have n67:w.heap.size+2 ≠ w.heap.size+3:=by omega
 clear HF HR0;go_wp2
 try simp only at hw9
 rw [← hw9];clear hw9 x0 x1 x2 x3 x4 x5 x6 x7 x8 y0 y1 y2 y3 y4 y5 y6 y7 z0 z1 z2 z3 z4 z5 z6 z7 z8 f0 f1 f2 f3 f4 f5 f6 f7 f8 q0 q1 q2 q3 g0 g1 g2 g3;obtain ⟨R6,R7,hB⟩:=HR.out;obtain ⟨e0,e1,e2,e3,e4,e5,e6,e7,e8,_,_,_,_,_,_,_,_,_⟩:=RowIs.rc9 R6;obtain ⟨t0,t1,t2,t3,_,_,_,_⟩:=RowIs.rc4 R7;replace t0:w9.cell? ⟨w.heap.size+3,0,none⟩=some (.int .i64 412):=t0;replace t1:w9.cell? ⟨w.heap.size+3,1,none⟩=some (.int .i64 0):=t1;replace t2:w9.cell? ⟨w.heap.size+3,2,none⟩=some (.string ⟨([]:List UInt8).toArray⟩):=t2;replace t3:w9.cell? ⟨w.heap.size+3,3,none⟩=some (.bool false):=t3
 try simp only [Exit.inBlock,Exit.then]
 refine bodyPost_ret (v:=.tuple #[.agg #[.string ⟨s.c.host.toArray⟩,.int .i64 s.c.calls,.int .i64 s.c.pubs,.int .i64 s.c.subs,.int .i64 s.c.least,.int .i64 s.c.most,.int .i64 s.c.usual,.int .i64 s.last,.slice va cs.length vc],.agg #[.int .i64 412,.int .i64 0,.string ⟨([]:List UInt8).toArray⟩,.bool false],.int .i64 0]) (by simp [results,Tryz.results11,go_sem,e0,e1,e2,e3,e4,e5,e6,e7,e8,t0,t1,t2,t3]; try rfl) rfl ?_
 exact ⟨_,cs,rfl,.inl ⟨rfl,rfl⟩,fun _ h _=>h,HS.out,hB⟩
end Go.Proofs.YtbmjodlbkgblpaaGreatDoor
