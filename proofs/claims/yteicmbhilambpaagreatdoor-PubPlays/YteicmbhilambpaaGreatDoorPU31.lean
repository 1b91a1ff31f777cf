/-
  PubY, PubZ, PubDo1, PubDo2, PubDo3.
-/
import Derived.Test.YteicmbhilambpaaGreatDoorPU26
set_option linter.unusedVariables false
set_option linter.unusedSimpArgs false
set_option maxRecDepth 20000
namespace Go.Proofs.YteicmbhilambpaaGreatDoor
open Go.RowKit Sc
theorem doS_badY {s:Sto} {now:Int} {a:Pa} (h:badA s now a=true):doS s now a=(s,noTd,1):=by unfold doS; rw [if_pos h]
theorem doS_none {s:Sto} {now:Int} {a:Pa} (h1:badA s now a=false) (h2:noneP s a=true):doS s now a=(s,⟨412,0,[],false⟩,0):=by
 unfold doS; rw [if_neg (by rw [h1]; simp),if_pos h2]
theorem doS_short {s:Sto} {now:Int} {a:Pa} (h1:badA s now a=false) (h2:noneP s a=false) (h3:(secC s.c a.exp).2=false):doS s now a=(s,⟨423,s.c.least,[],false⟩,0):=by
 unfold doS; rw [if_neg (by rw [h1]; simp),if_neg (by rw [h2]; simp),if_pos h3]
theorem doS_400 {s:Sto} {now:Int} {a:Pa} (h1:badA s now a=false) (h2:noneP s a=false) (h3:(secC s.c a.exp).2=true) (h4:a.mt=[]) (h5:a.has=false∨(secC s.c a.exp).1=0):doS s now a=(s,⟨400,0,[],false⟩,0):=by
 unfold doS; rw [if_neg (by rw [h1]; simp),if_neg (by rw [h2]; simp),if_neg (by rw [h3]; simp),if_pos h4,if_pos h5]
theorem doS_begin {s:Sto} {now:Int} {a:Pa} (h1:badA s now a=false) (h2:noneP s a=false) (h3:(secC s.c a.exp).2=true) (h4:a.mt=[]) (h5:¬ (a.has=false∨(secC s.c a.exp).1=0)) (h6:¬ s.c.pubs≤s.l.length):doS s now a=(⟨s.c,s.last+1,s.l++[newP s now (secC s.c a.exp).1 a]⟩,⟨200,(secC s.c a.exp).1,a.tag,true⟩,0):=by
 unfold doS; rw [if_neg (by rw [h1]; simp),if_neg (by rw [h2]; simp),if_neg (by rw [h3]; simp),if_pos h4,if_neg h5,if_neg h6]
theorem doS_400b {s:Sto} {now:Int} {a:Pa} (h1:badA s now a=false) (h2:noneP s a=false) (h3:(secC s.c a.exp).2=true) (h4:a.mt ≠ []) (h5:a.has=true∧(secC s.c a.exp).1=0):doS s now a=(s,⟨400,0,[],false⟩,0):=by
 unfold doS; rw [if_neg (by rw [h1]; simp),if_neg (by rw [h2]; simp),if_neg (by rw [h3]; simp),if_neg h4,if_pos h5]
theorem doS_stop {s:Sto} {now:Int} {a:Pa} (h1:badA s now a=false) (h2:noneP s a=false) (h3:(secC s.c a.exp).2=true) (h4:a.mt ≠ []) (h5:¬ (a.has=true∧(secC s.c a.exp).1=0)) (h6:(secC s.c a.exp).1=0):doS s now a=(⟨s.c,s.last,s.l.eraseIdx (pidxP s.l a.mt)⟩,⟨200,0,a.tag,true⟩,0):=by
 unfold doS; rw [if_neg (by rw [h1]; simp),if_neg (by rw [h2]; simp),if_neg (by rw [h3]; simp),if_neg h4,if_neg h5,if_pos h6]
theorem doS_goes {s:Sto} {now:Int} {a:Pa} (h1:badA s now a=false) (h2:noneP s a=false) (h3:(secC s.c a.exp).2=true) (h4:a.mt ≠ []) (h5:¬ (a.has=true∧(secC s.c a.exp).1=0)) (h6:¬ (secC s.c a.exp).1=0):doS s now a=(⟨s.c,s.last,s.l.modify (pidxP s.l a.mt) (fun p=>goP p now (secC s.c a.exp).1 a)⟩,⟨200,(secC s.c a.exp).1,a.tag,a.has⟩,0):=by
 unfold doS; rw [if_neg (by rw [h1]; simp),if_neg (by rw [h2]; simp),if_neg (by rw [h3]; simp),if_neg h4,if_neg h5,if_neg h6]
def DoRes (R:Sto × Td × Int) (v:Value) (cs:List PbC) (a:Pa) (ts ns:Value) (w:World) (e:Ending) (w':World):Prop:=∃ v' cs',e=.returned (.tuple #[stoV R.1 v',tdV R.2.1,.int .i64 R.2.2])∧((v'=v∧cs'=cs)∨OwnPb w' w.heap.size v' cs')∧(∀ W:World,DocsAt W cs → (a.has=true → TusAt W ts a.doc.tuples∧StrsAt W ns a.doc.notes) → DocsAt W cs')∧R.1.l=pbsL cs'∧Below w.heap.size w w'
structure FrD (w0:World) (s:Sto) (v:Value) (a:Pa) (ts ns:Value) (b3 b5 b6 b7:Nat) (w:World):Prop where
 bs:BoxS w b3 s v
 ba:BoxA w b5 a ts ns
 r6:RowIs w b6 31 stoZ
 r7:RowIs w b7 46 tdZ
 bel:Below w0.heap.size w0 w
 l3:b3 < w.heap.size
 l5:b5 < w.heap.size
 l6:b6 < w.heap.size
 l7:b7 < w.heap.size
 o6:w0.heap.size≤b6
 o7:w0.heap.size≤b7
theorem FrD.below {w0 w w':World} {s:Sto} {v:Value} {a:Pa} {ts ns:Value} {b3 b5 b6 b7:Nat} (h:FrD w0 s v a ts ns b3 b5 b6 b7 w) (hb:Below w.heap.size w w'):FrD w0 s v a ts ns b3 b5 b6 b7 w' :=
 ⟨h.bs.below hb h.l3,h.ba.below hb h.l5,h.r6.below hb h.l6,h.r7.below hb h.l7,h.bel.trans (hb.mono h.bel.size),Nat.lt_of_lt_of_le h.l3 hb.size,Nat.lt_of_lt_of_le h.l5 hb.size,Nat.lt_of_lt_of_le h.l6 hb.size,Nat.lt_of_lt_of_le h.l7 hb.size,h.o6,h.o7⟩
theorem frD_new (w:World) (s:Sto) (v:Value) (a:Pa) (ts ns:Value):FrD w s v a ts ns w.heap.size (w.heap.size+1) (w.heap.size+2) (w.heap.size+3) ((((w.alloc (objS s v)).alloc (objA a ts ns)).alloc (.cells #[.string ⟨#[]⟩,.int .i64 0,.int .i64 0,.int .i64 0,.int .i64 0,.int .i64 0,.int .i64 0,.int .i64 0,.slice none 0 0] 31)).alloc (.cells #[.int .i64 0,.int .i64 0,.string ⟨#[]⟩,.bool false] 46)):=by
 have k1:=boxS_new w s v;have s1:(w.alloc (objS s v)).heap.size=w.heap.size+1:=by simp
 have d1:Below w.heap.size w (w.alloc (objS s v)):=(Below.refl _ w).alloc (Nat.le_refl _) _;generalize w.alloc (objS s v)=w1 at *;have k2:=boxA_new w1 a ts ns;have s2:(w1.alloc (objA a ts ns)).heap.size=w1.heap.size+1:=by simp
 have d2:Below w1.heap.size w1 (w1.alloc (objA a ts ns)):=(Below.refl _ w1).alloc (Nat.le_refl _) _;generalize w1.alloc (objA a ts ns)=w2 at *;have k3:RowIs (w2.alloc (.cells #[.string ⟨#[]⟩,.int .i64 0,.int .i64 0,.int .i64 0,.int .i64 0,.int .i64 0,.int .i64 0,.int .i64 0,.slice none 0 0] 31)) w2.heap.size 31 stoZ:=rc_row9 w2 _ _ _ _ _ _ _ _ _ _;have s3:(w2.alloc (.cells #[.string ⟨#[]⟩,.int .i64 0,.int .i64 0,.int .i64 0,.int .i64 0,.int .i64 0,.int .i64 0,.int .i64 0,.slice none 0 0] 31)).heap.size=w2.heap.size+1:=by simp
 have d3:Below w2.heap.size w2 (w2.alloc (.cells #[.string ⟨#[]⟩,.int .i64 0,.int .i64 0,.int .i64 0,.int .i64 0,.int .i64 0,.int .i64 0,.int .i64 0,.slice none 0 0] 31)):=(Below.refl _ w2).alloc (Nat.le_refl _) _;generalize w2.alloc (.cells #[.string ⟨#[]⟩,.int .i64 0,.int .i64 0,.int .i64 0,.int .i64 0,.int .i64 0,.int .i64 0,.int .i64 0,.slice none 0 0] 31)=w3 at *;have k4:RowIs (w3.alloc (.cells #[.int .i64 0,.int .i64 0,.string ⟨#[]⟩,.bool false] 46)) w3.heap.size 46 tdZ:=rc_row4 w3 _ _ _ _ _;have s4:(w3.alloc (.cells #[.int .i64 0,.int .i64 0,.string ⟨#[]⟩,.bool false] 46)).heap.size=w3.heap.size+1:=by simp
 have d4:Below w3.heap.size w3 (w3.alloc (.cells #[.int .i64 0,.int .i64 0,.string ⟨#[]⟩,.bool false] 46)):=(Below.refl _ w3).alloc (Nat.le_refl _) _;generalize w3.alloc (.cells #[.int .i64 0,.int .i64 0,.string ⟨#[]⟩,.bool false] 46)=w4 at *;have e5:w.heap.size+1=w1.heap.size:=by omega
 have e6:w.heap.size+2=w2.heap.size:=by omega
 have e7:w.heap.size+3=w3.heap.size:=by omega
 rw [e5,e6,e7];have d34:Below w2.heap.size w2 w4:=d3.trans (d4.mono (by omega));have d24:Below w1.heap.size w1 w4:=d2.trans (d34.mono (by omega));exact ⟨k1.below d24 (by omega),k2.below d34 (by omega),k3.below d4 (by omega),k4,d1.trans (d24.mono (by omega)),by omega,by omega,by omega,by omega,by omega,by omega⟩
theorem FrD.put {w0 w:World} {s:Sto} {v:Value} {a:Pa} {ts ns:Value} {b3 b5 b6 b7:Nat} (h:FrD w0 s v a ts ns b3 b5 b6 b7 w) (n67:b6 ≠ b7) (t:Td) :
  ∃ w',w'=(((((((((((((w.setCell ⟨b6,0,none⟩ (.string ⟨s.c.host.toArray⟩)).setCell ⟨b6,1,none⟩ (.int .i64 s.c.calls)).setCell ⟨b6,2,none⟩ (.int .i64 s.c.pubs)).setCell ⟨b6,3,none⟩ (.int .i64 s.c.subs)).setCell ⟨b6,4,none⟩ (.int .i64 s.c.least)).setCell ⟨b6,5,none⟩ (.int .i64 s.c.most)).setCell ⟨b6,6,none⟩ (.int .i64 s.c.usual)).setCell ⟨b6,7,none⟩ (.int .i64 s.last)).setCell ⟨b6,8,none⟩ v).setCell ⟨b7,0,none⟩ (.int .i64 t.status)).setCell ⟨b7,1,none⟩ (.int .i64 t.expires)).setCell ⟨b7,2,none⟩ (.string ⟨t.tag.toArray⟩)).setCell ⟨b7,3,none⟩ (.bool t.changed))∧RowIs w' b6 31 (stoL s v)∧RowIs w' b7 46 (tdL t)∧Below w0.heap.size w0 w':=by
 refine ⟨_,rfl,?_,?_,?_⟩
 ·exact RowIs.blk (rc_store9 h.r6 _ _ _ _ _ _ _ _ _) (set4_block _ n67 _ _ _ _)
 ·exact rc_store4 (RowIs.blk h.r7 (set9_block _ (Ne.symm n67) _ _ _ _ _ _ _ _ _)) _ _ _ _
 ·exact rc_below4 (rc_below9 h.bel b6 h.o6 _ _ _ _ _ _ _ _ _) b7 h.o7 _ _ _ _
set_option maxHeartbeats 8000000 in
set_option maxRecDepth 100000 in
theorem rdo16_one {w:World} {v:Value} {s:Sto} {cs:List PbC} (h:PbsAt w v cs) (hd:DocsAt w cs) (hs:s.l=pbsL cs) (now:Int) (a:Pa) (ts ns:Value) (hb:badA s now a=true) (hnow:now < 0) :
  Calls Tryz.prog 17 #[stoV s v,.int .i64 now,askV a ts ns] w fun e w'=>DoRes (doS s now a) v cs a ts ns w e w':=by
 rw [doS_badY hb];have HF:=hid (frD_new w s v a ts ns);have HP:=hid h;have HD:=hid hd;have HS:=hid hs;obtain ⟨va,vn,vc,rfl⟩:∃ va vn vc,v=.slice va vn vc:=by obtain ⟨a1,c1,h1⟩:=h.form; exact ⟨_,_,_,h1⟩
 have d0:decide (now < 0)=true:=decide_eq_true hnow;clear h hd hs hb hnow
 go_enter Tryz.func17,Tryz.ntmps17
 unfold stoV askV;unfold objS objA at HF
 go_upto_region 1 with fail
 generalize World.alloc _ _=W at HF ⊢;obtain ⟨⟨⟨x0,x1,x2,x3,x4,x5,x6⟩,x7,x8⟩,⟨y0,y1,y2,y3,y4,y5,y6,y7⟩,r6,r7,hbel,l3,l5,l6,l7,o6,o7⟩:=HF.out;obtain ⟨z0,z1,z2,z3,z4,z5,z6,z7,z8,f0,f1,f2,f3,f4,f5,f6,f7,f8⟩:=RowIs.rc9 r6;obtain ⟨q0,q1,q2,q3,g0,g1,g2,g3⟩:=RowIs.rc4 r7;obtain ⟨w',hw',HR⟩:=HF.out.put (by omega) noTd;have HR:=hid HR;have n67:w.heap.size+2 ≠ w.heap.size+3:=by omega
 clear hbel r6 r7 HF;go_wp2;unfold noTd at hw';simp only at hw';rw [← hw'];clear hw';obtain ⟨R6,R7,hB⟩:=HR.out;obtain ⟨d0,d1,d2,d3,d4,d5,d6,d7,d8,_,_,_,_,_,_,_,_,_⟩:=RowIs.rc9 R6;obtain ⟨t0,t1,t2,t3,_,_,_,_⟩:=RowIs.rc4 R7;replace t0:w'.cell? ⟨w.heap.size+3,0,none⟩=some (.int .i64 0):=t0;replace t1:w'.cell? ⟨w.heap.size+3,1,none⟩=some (.int .i64 0):=t1;replace t2:w'.cell? ⟨w.heap.size+3,2,none⟩=some (.string ⟨#[]⟩):=t2;replace t3:w'.cell? ⟨w.heap.size+3,3,none⟩=some (.bool false):=t3
 try simp only [Exit.inBlock,Exit.then]
 refine bodyPost_ret (v:=.tuple #[.agg #[.string ⟨s.c.host.toArray⟩,.int .i64 s.c.calls,.int .i64 s.c.pubs,.int .i64 s.c.subs,.int .i64 s.c.least,.int .i64 s.c.most,.int .i64 s.c.usual,.int .i64 s.last,.slice va vn vc],.agg #[.int .i64 0,.int .i64 0,.string ⟨#[]⟩,.bool false],.int .i64 1]) (by simp [results,Tryz.results17,go_sem,d0,d1,d2,d3,d4,d5,d6,d7,d8,t0,t1,t2,t3]; try rfl) rfl ?_
 exact ⟨_,cs,rfl,.inl ⟨rfl,rfl⟩,fun _ h _=>h,HS.out,hB⟩
set_option maxHeartbeats 8000000 in
set_option maxRecDepth 100000 in
theorem rdo16_b2 {w:World} {v:Value} {s:Sto} {cs:List PbC} (h:PbsAt w v cs) (hd:DocsAt w cs) (hs:s.l=pbsL cs) (hn:cs.length≤1000000) (now:Int) (a:Pa) (ts ns:Value) (htg:a.tag.length≤140737488355328)
  (ht:a.has=true → TusAt w ts a.doc.tuples∧StrsAt w ns a.doc.notes) (hsm:a.has=true → SmallD 140737488355328 a.doc) (hen:a.has=true → a.doc.entity.length+4≤1048576)
  (d0:decide (now < 0)=false) (d1:decide (549755813888 < now)=true) :
  Calls Tryz.prog 17 #[stoV s v,.int .i64 now,askV a ts ns] w fun e w'=>DoRes (s,noTd,1) v cs a ts ns w e w':=by
 have HF:=hid (frD_new w s v a ts ns);have HP:=hid h;have HD:=hid hd;have HS:=hid hs;have HT:=hid ht;have HSM:=hid hsm;have HEN:=hid hen;obtain ⟨va,vc,rfl⟩:=h.form;clear h hd hs ht hsm hen
 go_enter Tryz.func17,Tryz.ntmps17
 unfold stoV askV;unfold objS objA at HF
 go_upto_region 1 with fail
 generalize World.alloc _ _=W at HF ⊢;obtain ⟨⟨⟨x0,x1,x2,x3,x4,x5,x6⟩,x7,x8⟩,⟨y0,y1,y2,y3,y4,y5,y6,y7⟩,r6,r7,hbel,l3,l5,l6,l7,o6,o7⟩:=HF.out;obtain ⟨z0,z1,z2,z3,z4,z5,z6,z7,z8,f0,f1,f2,f3,f4,f5,f6,f7,f8⟩:=RowIs.rc9 r6;obtain ⟨q0,q1,q2,q3,g0,g1,g2,g3⟩:=RowIs.rc4 r7;clear hbel r6 r7 l3 l5 l6 l7 o6 o7;obtain ⟨w9,hw9,HR0⟩:=HF.out.put (by omega) ⟨0,0,[],false⟩;have HR:=hid HR0;have n67:w.heap.size+2 ≠ w.heap.size+3:=by omega
 clear HF HR0;go_wp2
 try simp only at hw9
 rw [← hw9];clear hw9 x0 x1 x2 x3 x4 x5 x6 x7 x8 y0 y1 y2 y3 y4 y5 y6 y7 z0 z1 z2 z3 z4 z5 z6 z7 z8 f0 f1 f2 f3 f4 f5 f6 f7 f8 q0 q1 q2 q3 g0 g1 g2 g3;obtain ⟨R6,R7,hB⟩:=HR.out;obtain ⟨e0,e1,e2,e3,e4,e5,e6,e7,e8,_,_,_,_,_,_,_,_,_⟩:=RowIs.rc9 R6;obtain ⟨t0,t1,t2,t3,_,_,_,_⟩:=RowIs.rc4 R7;replace t0:w9.cell? ⟨w.heap.size+3,0,none⟩=some (.int .i64 0):=t0;replace t1:w9.cell? ⟨w.heap.size+3,1,none⟩=some (.int .i64 0):=t1;replace t2:w9.cell? ⟨w.heap.size+3,2,none⟩=some (.string ⟨([]:List UInt8).toArray⟩):=t2;replace t3:w9.cell? ⟨w.heap.size+3,3,none⟩=some (.bool false):=t3
 try simp only [Exit.inBlock,Exit.then]
 refine bodyPost_ret (v:=.tuple #[.agg #[.string ⟨s.c.host.toArray⟩,.int .i64 s.c.calls,.int .i64 s.c.pubs,.int .i64 s.c.subs,.int .i64 s.c.least,.int .i64 s.c.most,.int .i64 s.c.usual,.int .i64 s.last,.slice va cs.length vc],.agg #[.int .i64 0,.int .i64 0,.string ⟨([]:List UInt8).toArray⟩,.bool false],.int .i64 1]) (by simp [results,Tryz.results17,go_sem,e0,e1,e2,e3,e4,e5,e6,e7,e8,t0,t1,t2,t3]; try rfl) rfl ?_
 exact ⟨_,cs,rfl,.inl ⟨rfl,rfl⟩,fun _ h _=>h,HS.out,hB⟩
set_option maxHeartbeats 8000000 in
set_option maxRecDepth 100000 in
theorem rdo16_b3 {w:World} {v:Value} {s:Sto} {cs:List PbC} (h:PbsAt w v cs) (hd:DocsAt w cs) (hs:s.l=pbsL cs) (hn:cs.length≤1000000) (now:Int) (a:Pa) (ts ns:Value) (htg:a.tag.length≤140737488355328)
  (ht:a.has=true → TusAt w ts a.doc.tuples∧StrsAt w ns a.doc.notes) (hsm:a.has=true → SmallD 140737488355328 a.doc) (hen:a.has=true → a.doc.entity.length+4≤1048576)
  (d0:decide (now < 0)=false) (d1:decide (549755813888 < now)=false) (htok:tokenB a.tag=false) :
  Calls Tryz.prog 17 #[stoV s v,.int .i64 now,askV a ts ns] w fun e w'=>DoRes (s,noTd,1) v cs a ts ns w e w':=by
 have HF:=hid (frD_new w s v a ts ns);have HP:=hid h;have HD:=hid hd;have HS:=hid hs;have HT:=hid ht;have HSM:=hid hsm;have HEN:=hid hen;obtain ⟨va,vc,rfl⟩:=h.form;clear h hd hs ht hsm hen
 go_enter Tryz.func17,Tryz.ntmps17
 unfold stoV askV;unfold objS objA at HF
 go_upto_region 1 with fail
 generalize World.alloc _ _=W at HF ⊢;obtain ⟨⟨⟨x0,x1,x2,x3,x4,x5,x6⟩,x7,x8⟩,⟨y0,y1,y2,y3,y4,y5,y6,y7⟩,r6,r7,hbel,l3,l5,l6,l7,o6,o7⟩:=HF.out;obtain ⟨z0,z1,z2,z3,z4,z5,z6,z7,z8,f0,f1,f2,f3,f4,f5,f6,f7,f8⟩:=RowIs.rc9 r6;obtain ⟨q0,q1,q2,q3,g0,g1,g2,g3⟩:=RowIs.rc4 r7;clear hbel r6 r7 l3 l5 l6 l7 o6 o7;go_wp2_with fail
 refine (reftoken_list a.tag _ htg).mono ?_
 rintro e w1 ⟨rfl,hw1⟩;rw [hw1];clear hw1 w1;rw [htok];obtain ⟨w9,hw9,HR0⟩:=HF.out.put (by omega) ⟨0,0,[],false⟩;have HR:=hid HR0;have n67:w.heap.size+2 ≠ w.heap.size+3:=by omega
 clear HF HR0;go_wp2
 try simp only at hw9
 rw [← hw9];clear hw9 x0 x1 x2 x3 x4 x5 x6 x7 x8 y0 y1 y2 y3 y4 y5 y6 y7 z0 z1 z2 z3 z4 z5 z6 z7 z8 f0 f1 f2 f3 f4 f5 f6 f7 f8 q0 q1 q2 q3 g0 g1 g2 g3;obtain ⟨R6,R7,hB⟩:=HR.out;obtain ⟨e0,e1,e2,e3,e4,e5,e6,e7,e8,_,_,_,_,_,_,_,_,_⟩:=RowIs.rc9 R6;obtain ⟨t0,t1,t2,t3,_,_,_,_⟩:=RowIs.rc4 R7;replace t0:w9.cell? ⟨w.heap.size+3,0,none⟩=some (.int .i64 0):=t0;replace t1:w9.cell? ⟨w.heap.size+3,1,none⟩=some (.int .i64 0):=t1;replace t2:w9.cell? ⟨w.heap.size+3,2,none⟩=some (.string ⟨([]:List UInt8).toArray⟩):=t2;replace t3:w9.cell? ⟨w.heap.size+3,3,none⟩=some (.bool false):=t3
 try simp only [Exit.inBlock,Exit.then]
 refine bodyPost_ret (v:=.tuple #[.agg #[.string ⟨s.c.host.toArray⟩,.int .i64 s.c.calls,.int .i64 s.c.pubs,.int .i64 s.c.subs,.int .i64 s.c.least,.int .i64 s.c.most,.int .i64 s.c.usual,.int .i64 s.last,.slice va cs.length vc],.agg #[.int .i64 0,.int .i64 0,.string ⟨([]:List UInt8).toArray⟩,.bool false],.int .i64 1]) (by simp [results,Tryz.results17,go_sem,e0,e1,e2,e3,e4,e5,e6,e7,e8,t0,t1,t2,t3]; try rfl) rfl ?_
 exact ⟨_,cs,rfl,.inl ⟨rfl,rfl⟩,fun _ h _=>h,HS.out,hB⟩
set_option maxHeartbeats 8000000 in
set_option maxRecDepth 100000 in
theorem rdo16_b4 {w:World} {v:Value} {s:Sto} {cs:List PbC} (h:PbsAt w v cs) (hd:DocsAt w cs) (hs:s.l=pbsL cs) (hn:cs.length≤1000000) (now:Int) (a:Pa) (ts ns:Value) (htg:a.tag.length≤140737488355328)
  (ht:a.has=true → TusAt w ts a.doc.tuples∧StrsAt w ns a.doc.notes) (hsm:a.has=true → SmallD 140737488355328 a.doc) (hen:a.has=true → a.doc.entity.length+4≤1048576)
  (d0:decide (now < 0)=false) (d1:decide (549755813888 < now)=false) (htok:tokenB a.tag=true) (hpl:decide (0≤placeP (pbsL cs) a.tag)=true) :
  Calls Tryz.prog 17 #[stoV s v,.int .i64 now,askV a ts ns] w fun e w'=>DoRes (s,noTd,1) v cs a ts ns w e w':=by
 have HF:=hid (frD_new w s v a ts ns);have HP:=hid h;have HD:=hid hd;have HS:=hid hs;have HT:=hid ht;have HSM:=hid hsm;have HEN:=hid hen;obtain ⟨va,vc,rfl⟩:=h.form;clear h hd hs ht hsm hen
 go_enter Tryz.func17,Tryz.ntmps17
 unfold stoV askV;unfold objS objA at HF
 go_upto_region 1 with fail
 generalize World.alloc _ _=W at HF ⊢;obtain ⟨⟨⟨x0,x1,x2,x3,x4,x5,x6⟩,x7,x8⟩,⟨y0,y1,y2,y3,y4,y5,y6,y7⟩,r6,r7,hbel,l3,l5,l6,l7,o6,o7⟩:=HF.out;obtain ⟨z0,z1,z2,z3,z4,z5,z6,z7,z8,f0,f1,f2,f3,f4,f5,f6,f7,f8⟩:=RowIs.rc9 r6;obtain ⟨q0,q1,q2,q3,g0,g1,g2,g3⟩:=RowIs.rc4 r7;clear hbel r6 r7 l3 l5 l6 l7 o6 o7;go_wp2_with fail
 refine (reftoken_list a.tag _ htg).mono ?_
 rintro e w1 ⟨rfl,hw1⟩;rw [hw1];clear hw1 w1;rw [htok];go_wp2_with fail
 refine (rplace16_any (s:=s) (HP.out.below HF.out.bel) a.tag hn).mono ?_
 rintro e w1 ⟨rfl,hw1⟩;have HF:=hid (HF.out.below hw1);clear x0 x1 x2 x3 x4 x5 x6 x7 x8 y0 y1 y2 y3 y4 y5 y6 y7 z0 z1 z2 z3 z4 z5 z6 z7 z8 f0 f1 f2 f3 f4 f5 f6 f7 f8 q0 q1 q2 q3 g0 g1 g2 g3 hw1;obtain ⟨⟨⟨x0,x1,x2,x3,x4,x5,x6⟩,x7,x8⟩,⟨y0,y1,y2,y3,y4,y5,y6,y7⟩,r6,r7,hbel,l3,l5,l6,l7,o6,o7⟩:=HF.out;obtain ⟨z0,z1,z2,z3,z4,z5,z6,z7,z8,f0,f1,f2,f3,f4,f5,f6,f7,f8⟩:=RowIs.rc9 r6;obtain ⟨q0,q1,q2,q3,g0,g1,g2,g3⟩:=RowIs.rc4 r7;clear hbel r6 r7 l3 l5 l6 l7 o6 o7;obtain ⟨w9,hw9,HR0⟩:=HF.out.put (by omega) ⟨0,0,[],false⟩;have HR:=hid HR0;have n67:w.heap.size+2 ≠ w.heap.size+3:=by omega
 clear HF HR0;go_wp2
 try simp only at hw9
 rw [← hw9];clear hw9 x0 x1 x2 x3 x4 x5 x6 x7 x8 y0 y1 y2 y3 y4 y5 y6 y7 z0 z1 z2 z3 z4 z5 z6 z7 z8 f0 f1 f2 f3 f4 f5 f6 f7 f8 q0 q1 q2 q3 g0 g1 g2 g3;obtain ⟨R6,R7,hB⟩:=HR.out;obtain ⟨e0,e1,e2,e3,e4,e5,e6,e7,e8,_,_,_,_,_,_,_,_,_⟩:=RowIs.rc9 R6;obtain ⟨t0,t1,t2,t3,_,_,_,_⟩:=RowIs.rc4 R7;replace t0:w9.cell? ⟨w.heap.size+3,0,none⟩=some (.int .i64 0):=t0;replace t1:w9.cell? ⟨w.heap.size+3,1,none⟩=some (.int .i64 0):=t1;replace t2:w9.cell? ⟨w.heap.size+3,2,none⟩=some (.string ⟨([]:List UInt8).toArray⟩):=t2;replace t3:w9.cell? ⟨w.heap.size+3,3,none⟩=some (.bool false):=t3
 try simp only [Exit.inBlock,Exit.then]
 refine bodyPost_ret (v:=.tuple #[.agg #[.string ⟨s.c.host.toArray⟩,.int .i64 s.c.calls,.int .i64 s.c.pubs,.int .i64 s.c.subs,.int .i64 s.c.least,.int .i64 s.c.most,.int .i64 s.c.usual,.int .i64 s.last,.slice va cs.length vc],.agg #[.int .i64 0,.int .i64 0,.string ⟨([]:List UInt8).toArray⟩,.bool false],.int .i64 1]) (by simp [results,Tryz.results17,go_sem,e0,e1,e2,e3,e4,e5,e6,e7,e8,t0,t1,t2,t3]; try rfl) rfl ?_
 exact ⟨_,cs,rfl,.inl ⟨rfl,rfl⟩,fun _ h _=>h,HS.out,hB⟩
set_option maxHeartbeats 8000000 in
set_option maxRecDepth 100000 in
theorem rdo16_b5 {w:World} {v:Value} {s:Sto} {cs:List PbC} (h:PbsAt w v cs) (hd:DocsAt w cs) (hs:s.l=pbsL cs) (hn:cs.length≤1000000) (now:Int) (a:Pa) (ts ns:Value) (htg:a.tag.length≤140737488355328)
  (ht:a.has=true → TusAt w ts a.doc.tuples∧StrsAt w ns a.doc.notes) (hsm:a.has=true → SmallD 140737488355328 a.doc) (hen:a.has=true → a.doc.entity.length+4≤1048576)
  (d0:decide (now < 0)=false) (d1:decide (549755813888 < now)=false) (htok:tokenB a.tag=true) (hpl:decide (0≤placeP (pbsL cs) a.tag)=false) (hh:a.has=true) (hck:(checkD a.doc != 0)=true) :
  Calls Tryz.prog 17 #[stoV s v,.int .i64 now,askV a ts ns] w fun e w'=>DoRes (s,noTd,1) v cs a ts ns w e w':=by
 have HF:=hid (frD_new w s v a ts ns);have HHH:=hid hh;have HP:=hid h;have HD:=hid hd;have HS:=hid hs;have HT:=hid ht;have HSM:=hid hsm;have HEN:=hid hen;obtain ⟨va,vc,rfl⟩:=h.form;clear h hd hs ht hsm hen hh
 go_enter Tryz.func17,Tryz.ntmps17
 unfold stoV askV;unfold objS objA at HF
 go_upto_region 1 with fail
 generalize World.alloc _ _=W at HF ⊢;have hh:=HHH.out;obtain ⟨⟨⟨x0,x1,x2,x3,x4,x5,x6⟩,x7,x8⟩,⟨y0,y1,y2,y3,y4,y5,y6,y7⟩,r6,r7,hbel,l3,l5,l6,l7,o6,o7⟩:=HF.out;obtain ⟨z0,z1,z2,z3,z4,z5,z6,z7,z8,f0,f1,f2,f3,f4,f5,f6,f7,f8⟩:=RowIs.rc9 r6;obtain ⟨q0,q1,q2,q3,g0,g1,g2,g3⟩:=RowIs.rc4 r7;clear hbel r6 r7 l3 l5 l6 l7 o6 o7;rw [hh] at y3;go_wp2_with fail
 refine (reftoken_list a.tag _ htg).mono ?_
 rintro e w1 ⟨rfl,hw1⟩;rw [hw1];clear hw1 w1;rw [htok];go_wp2_with fail
 refine (rplace16_any (s:=s) (HP.out.below HF.out.bel) a.tag hn).mono ?_
 rintro e w1 ⟨rfl,hw1⟩;have HF:=hid (HF.out.below hw1);clear x0 x1 x2 x3 x4 x5 x6 x7 x8 y0 y1 y2 y3 y4 y5 y6 y7 z0 z1 z2 z3 z4 z5 z6 z7 z8 f0 f1 f2 f3 f4 f5 f6 f7 f8 q0 q1 q2 q3 g0 g1 g2 g3 hw1;obtain ⟨⟨⟨x0,x1,x2,x3,x4,x5,x6⟩,x7,x8⟩,⟨y0,y1,y2,y3,y4,y5,y6,y7⟩,r6,r7,hbel,l3,l5,l6,l7,o6,o7⟩:=HF.out;obtain ⟨z0,z1,z2,z3,z4,z5,z6,z7,z8,f0,f1,f2,f3,f4,f5,f6,f7,f8⟩:=RowIs.rc9 r6;obtain ⟨q0,q1,q2,q3,g0,g1,g2,g3⟩:=RowIs.rc4 r7;clear hbel r6 r7 l3 l5 l6 l7 o6 o7;rw [hh] at y3;go_wp2_with fail
 refine (rcheck14_any a.doc ts ns _ (HSM.out hh) (HEN.out hh) ((HT.out hh).1.below HF.out.bel) ((HT.out hh).2.below HF.out.bel)).mono ?_
 rintro e w1 ⟨rfl,hw1⟩;have HF:=hid (HF.out.below hw1);clear x0 x1 x2 x3 x4 x5 x6 x7 x8 y0 y1 y2 y3 y4 y5 y6 y7 z0 z1 z2 z3 z4 z5 z6 z7 z8 f0 f1 f2 f3 f4 f5 f6 f7 f8 q0 q1 q2 q3 g0 g1 g2 g3 hw1;obtain ⟨⟨⟨x0,x1,x2,x3,x4,x5,x6⟩,x7,x8⟩,⟨y0,y1,y2,y3,y4,y5,y6,y7⟩,r6,r7,hbel,l3,l5,l6,l7,o6,o7⟩:=HF.out;obtain ⟨z0,z1,z2,z3,z4,z5,z6,z7,z8,f0,f1,f2,f3,f4,f5,f6,f7,f8⟩:=RowIs.rc9 r6;obtain ⟨q0,q1,q2,q3,g0,g1,g2,g3⟩:=RowIs.rc4 r7;clear hbel r6 r7 l3 l5 l6 l7 o6 o7;rw [hh] at y3;obtain ⟨w9,hw9,HR0⟩:=HF.out.put (by omega) ⟨0,0,[],false⟩;have HR:=hid HR0;have n67:w.heap.size+2 ≠ w.heap.size+3:=by omega
 clear HF HR0;go_wp2
 try simp only at hw9
 rw [← hw9];clear hw9 x0 x1 x2 x3 x4 x5 x6 x7 x8 y0 y1 y2 y3 y4 y5 y6 y7 z0 z1 z2 z3 z4 z5 z6 z7 z8 f0 f1 f2 f3 f4 f5 f6 f7 f8 q0 q1 q2 q3 g0 g1 g2 g3;obtain ⟨R6,R7,hB⟩:=HR.out;obtain ⟨e0,e1,e2,e3,e4,e5,e6,e7,e8,_,_,_,_,_,_,_,_,_⟩:=RowIs.rc9 R6;obtain ⟨t0,t1,t2,t3,_,_,_,_⟩:=RowIs.rc4 R7;replace t0:w9.cell? ⟨w.heap.size+3,0,none⟩=some (.int .i64 0):=t0;replace t1:w9.cell? ⟨w.heap.size+3,1,none⟩=some (.int .i64 0):=t1;replace t2:w9.cell? ⟨w.heap.size+3,2,none⟩=some (.string ⟨([]:List UInt8).toArray⟩):=t2;replace t3:w9.cell? ⟨w.heap.size+3,3,none⟩=some (.bool false):=t3
 try simp only [Exit.inBlock,Exit.then]
 refine bodyPost_ret (v:=.tuple #[.agg #[.string ⟨s.c.host.toArray⟩,.int .i64 s.c.calls,.int .i64 s.c.pubs,.int .i64 s.c.subs,.int .i64 s.c.least,.int .i64 s.c.most,.int .i64 s.c.usual,.int .i64 s.last,.slice va cs.length vc],.agg #[.int .i64 0,.int .i64 0,.string ⟨([]:List UInt8).toArray⟩,.bool false],.int .i64 1]) (by simp [results,Tryz.results17,go_sem,e0,e1,e2,e3,e4,e5,e6,e7,e8,t0,t1,t2,t3]; try rfl) rfl ?_
 exact ⟨_,cs,rfl,.inl ⟨rfl,rfl⟩,fun _ h _=>h,HS.out,hB⟩
set_option maxHeartbeats 8000000 in
set_option maxRecDepth 100000 in
theorem rdo16_w412a0 {w:World} {v:Value} {s:Sto} {cs:List PbC} (h:PbsAt w v cs) (hd:DocsAt w cs) (hs:s.l=pbsL cs) (hn:cs.length≤1000000) (now:Int) (a:Pa) (ts ns:Value) (htg:a.tag.length≤140737488355328)
  (ht:a.has=true → TusAt w ts a.doc.tuples∧StrsAt w ns a.doc.notes) (hsm:a.has=true → SmallD 140737488355328 a.doc) (hen:a.has=true → a.doc.entity.length+4≤1048576)
  (d0:decide (now < 0)=false) (d1:decide (549755813888 < now)=false) (htok:tokenB a.tag=true) (hpl:decide (0≤placeP (pbsL cs) a.tag)=false) (hh:a.has=false) (n:Int) (b:Bool) (hs1:(secC s.c a.exp).1=n) (hs2:(secC s.c a.exp).2=b) (hmt:a.mt.isEmpty=false) (hp2:decide (placeP (pbsL cs) a.mt < 0)=true) :
  Calls Tryz.prog 17 #[stoV s v,.int .i64 now,askV a ts ns] w fun e w'=>DoRes (s,⟨412,0,[],false⟩,0) v cs a ts ns w e w':=by
 have HF:=hid (frD_new w s v a ts ns);have HHH:=hid hh;have HP:=hid h;have HD:=hid hd;have HS:=hid hs;have HT:=hid ht;have HSM:=hid hsm;have HEN:=hid hen;obtain ⟨va,vc,rfl⟩:=h.form;clear h hd hs ht hsm hen hh
 go_enter Tryz.func17,Tryz.ntmps17
 unfold stoV askV;unfold objS objA at HF
 go_upto_region 1 with fail
 generalize World.alloc _ _=W at HF ⊢;have hh:=HHH.out;obtain ⟨⟨⟨x0,x1,x2,x3,x4,x5,x6⟩,x7,x8⟩,⟨y0,y1,y2,y3,y4,y5,y6,y7⟩,r6,r7,hbel,l3,l5,l6,l7,o6,o7⟩:=HF.out;obtain ⟨z0,z1,z2,z3,z4,z5,z6,z7,z8,f0,f1,f2,f3,f4,f5,f6,f7,f8⟩:=RowIs.rc9 r6;obtain ⟨q0,q1,q2,q3,g0,g1,g2,g3⟩:=RowIs.rc4 r7;clear hbel r6 r7 l3 l5 l6 l7 o6 o7;rw [hh] at y3;go_wp2_with fail
 refine (reftoken_list a.tag _ htg).mono ?_
 rintro e w1 ⟨rfl,hw1⟩;rw [hw1];clear hw1 w1;rw [htok];go_wp2_with fail
 refine (rplace16_any (s:=s) (HP.out.below HF.out.bel) a.tag hn).mono ?_
 rintro e w1 ⟨rfl,hw1⟩;have HF:=hid (HF.out.below hw1);clear x0 x1 x2 x3 x4 x5 x6 x7 x8 y0 y1 y2 y3 y4 y5 y6 y7 z0 z1 z2 z3 z4 z5 z6 z7 z8 f0 f1 f2 f3 f4 f5 f6 f7 f8 q0 q1 q2 q3 g0 g1 g2 g3 hw1;obtain ⟨⟨⟨x0,x1,x2,x3,x4,x5,x6⟩,x7,x8⟩,⟨y0,y1,y2,y3,y4,y5,y6,y7⟩,r6,r7,hbel,l3,l5,l6,l7,o6,o7⟩:=HF.out;obtain ⟨z0,z1,z2,z3,z4,z5,z6,z7,z8,f0,f1,f2,f3,f4,f5,f6,f7,f8⟩:=RowIs.rc9 r6;obtain ⟨q0,q1,q2,q3,g0,g1,g2,g3⟩:=RowIs.rc4 r7;clear hbel r6 r7 l3 l5 l6 l7 o6 o7;rw [hh] at y3;go_wp2_with fail
 refine (rsec16_any s.c a.exp _).mono ?_
 rintro e w1 ⟨rfl,hw1⟩;have HF:=hid (HF.out.below hw1);clear x0 x1 x2 x3 x4 x5 x6 x7 x8 y0 y1 y2 y3 y4 y5 y6 y7 z0 z1 z2 z3 z4 z5 z6 z7 z8 f0 f1 f2 f3 f4 f5 f6 f7 f8 q0 q1 q2 q3 g0 g1 g2 g3 hw1;rw [hs1,hs2];obtain ⟨⟨⟨x0,x1,x2,x3,x4,x5,x6⟩,x7,x8⟩,⟨y0,y1,y2,y3,y4,y5,y6,y7⟩,r6,r7,hbel,l3,l5,l6,l7,o6,o7⟩:=HF.out;obtain ⟨z0,z1,z2,z3,z4,z5,z6,z7,z8,f0,f1,f2,f3,f4,f5,f6,f7,f8⟩:=RowIs.rc9 r6;obtain ⟨q0,q1,q2,q3,g0,g1,g2,g3⟩:=RowIs.rc4 r7;clear hbel r6 r7 l3 l5 l6 l7 o6 o7;rw [hh] at y3;go_wp2_with fail
 refine (rplace16_any (s:=s) (HP.out.below HF.out.bel) a.mt hn).mono ?_
 rintro e w1 ⟨rfl,hw1⟩;have HF:=hid (HF.out.below hw1);clear x0 x1 x2 x3 x4 x5 x6 x7 x8 y0 y1 y2 y3 y4 y5 y6 y7 z0 z1 z2 z3 z4 z5 z6 z7 z8 f0 f1 f2 f3 f4 f5 f6 f7 f8 q0 q1 q2 q3 g0 g1 g2 g3 hw1;obtain ⟨⟨⟨x0,x1,x2,x3,x4,x5,x6⟩,x7,x8⟩,⟨y0,y1,y2,y3,y4,y5,y6,y7⟩,r6,r7,hbel,l3,l5,l6,l7,o6,o7⟩:=HF.out;obtain ⟨z0,z1,z2,z3,z4,z5,z6,z7,z8,f0,f1,f2,f3,f4,f5,f6,f7,f8⟩:=RowIs.rc9 r6;obtain ⟨q0,q1,q2,q3,g0,g1,g2,g3⟩:=RowIs.rc4 r7;clear hbel r6 r7 l3 l5 l6 l7 o6 o7;rw [hh] at y3;go_wp2
 go_quiet (fail)
 have HF:=hid (HF.out.below (below_drewN _ nq));clear x0 x1 x2 x3 x4 x5 x6 x7 x8 y0 y1 y2 y3 y4 y5 y6 y7 z0 z1 z2 z3 z4 z5 z6 z7 z8 f0 f1 f2 f3 f4 f5 f6 f7 f8 q0 q1 q2 q3 g0 g1 g2 g3;generalize World.drewN _ nq=W2 at HF ⊢;obtain ⟨⟨⟨x0,x1,x2,x3,x4,x5,x6⟩,x7,x8⟩,⟨y0,y1,y2,y3,y4,y5,y6,y7⟩,r6,r7,hbel,l3,l5,l6,l7,o6,o7⟩:=HF.out;obtain ⟨z0,z1,z2,z3,z4,z5,z6,z7,z8,f0,f1,f2,f3,f4,f5,f6,f7,f8⟩:=RowIs.rc9 r6;obtain ⟨q0,q1,q2,q3,g0,g1,g2,g3⟩:=RowIs.rc4 r7;clear hbel r6 r7 l3 l5 l6 l7 o6 o7;rw [hh] at y3;obtain ⟨w9,hw9,HR0⟩:=HF.out.put (by omega) ⟨412,0,[],false⟩;have HR:=hid HR0;have n67:w.heap.size+2 ≠ w.heap.size+3:=by omega
 clear HF HR0;go_wp2
 try simp only at hw9
 rw [← hw9];clear hw9 x0 x1 x2 x3 x4 x5 x6 x7 x8 y0 y1 y2 y3 y4 y5 y6 y7 z0 z1 z2 z3 z4 z5 z6 z7 z8 f0 f1 f2 f3 f4 f5 f6 f7 f8 q0 q1 q2 q3 g0 g1 g2 g3;obtain ⟨R6,R7,hB⟩:=HR.out;obtain ⟨e0,e1,e2,e3,e4,e5,e6,e7,e8,_,_,_,_,_,_,_,_,_⟩:=RowIs.rc9 R6;obtain ⟨t0,t1,t2,t3,_,_,_,_⟩:=RowIs.rc4 R7;replace t0:w9.cell? ⟨w.heap.size+3,0,none⟩=some (.int .i64 412):=t0;replace t1:w9.cell? ⟨w.heap.size+3,1,none⟩=some (.int .i64 0):=t1;replace t2:w9.cell? ⟨w.heap.size+3,2,none⟩=some (.string ⟨([]:List UInt8).toArray⟩):=t2;replace t3:w9.cell? ⟨w.heap.size+3,3,none⟩=some (.bool false):=t3
 try simp only [Exit.inBlock,Exit.then]
 refine bodyPost_ret (v:=.tuple #[.agg #[.string ⟨s.c.host.toArray⟩,.int .i64 s.c.calls,.int .i64 s.c.pubs,.int .i64 s.c.subs,.int .i64 s.c.least,.int .i64 s.c.most,.int .i64 s.c.usual,.int .i64 s.last,.slice va cs.length vc],.agg #[.int .i64 412,.int .i64 0,.string ⟨([]:List UInt8).toArray⟩,.bool false],.int .i64 0]) (by simp [results,Tryz.results17,go_sem,e0,e1,e2,e3,e4,e5,e6,e7,e8,t0,t1,t2,t3]; try rfl) rfl ?_
 exact ⟨_,cs,rfl,.inl ⟨rfl,rfl⟩,fun _ h _=>h,HS.out,hB⟩
set_option maxHeartbeats 8000000 in
set_option maxRecDepth 100000 in
theorem rdo16_w412b0 {w:World} {v:Value} {s:Sto} {cs:List PbC} (h:PbsAt w v cs) (hd:DocsAt w cs) (hs:s.l=pbsL cs) (hn:cs.length≤1000000) (now:Int) (a:Pa) (ts ns:Value) (htg:a.tag.length≤140737488355328)
  (ht:a.has=true → TusAt w ts a.doc.tuples∧StrsAt w ns a.doc.notes) (hsm:a.has=true → SmallD 140737488355328 a.doc) (hen:a.has=true → a.doc.entity.length+4≤1048576)
  (d0:decide (now < 0)=false) (d1:decide (549755813888 < now)=false) (htok:tokenB a.tag=true) (hpl:decide (0≤placeP (pbsL cs) a.tag)=false) (hh:a.has=false) (n:Int) (b:Bool) (hs1:(secC s.c a.exp).1=n) (hs2:(secC s.c a.exp).2=b) (hmt:a.mt.isEmpty=false) (k:Nat) (hk:k < cs.length) (hpk:placeP (pbsL cs) a.mt=(k:Int)) (hwho:(cs[k].p.who==a.who)=false)  :
  Calls Tryz.prog 17 #[stoV s v,.int .i64 now,askV a ts ns] w fun e w'=>DoRes (s,⟨412,0,[],false⟩,0) v cs a ts ns w e w':=by
 have HF:=hid (frD_new w s v a ts ns);have HHH:=hid hh;have HP:=hid h;have HD:=hid hd;have HS:=hid hs;have HT:=hid ht;have HSM:=hid hsm;have HEN:=hid hen;obtain ⟨va,vc,rfl⟩:=h.form;obtain ⟨ao,cap,hv,hcp,hat⟩:=HP.out
 injection hv with e1 e2 e3
 obtain ⟨ad,had,hab,hcel⟩:=hat k hk;rw [had] at e1;subst e1;have hkn:(k:Int) < (cs.length:Int):=by omega
 have hk0:decide ((k:Int) < 0)=false:=decide_eq_false (by omega);obtain ⟨c,hc⟩:∃ c,c=cs[k]:=⟨_,rfl⟩
 rw [← hc] at hcel hwho;have CEL:=hid (fun W' (hb:Below w.heap.size w W')=>(hcel.below hb hab).seven);clear hat hcel hc e2 e3 hcp had;clear h hd hs ht hsm hen hh
 go_enter Tryz.func17,Tryz.ntmps17
 unfold stoV askV;unfold objS objA at HF
 go_upto_region 1 with fail
 generalize World.alloc _ _=W at HF ⊢;have hh:=HHH.out;obtain ⟨⟨⟨x0,x1,x2,x3,x4,x5,x6⟩,x7,x8⟩,⟨y0,y1,y2,y3,y4,y5,y6,y7⟩,r6,r7,hbel,l3,l5,l6,l7,o6,o7⟩:=HF.out;obtain ⟨z0,z1,z2,z3,z4,z5,z6,z7,z8,f0,f1,f2,f3,f4,f5,f6,f7,f8⟩:=RowIs.rc9 r6;obtain ⟨q0,q1,q2,q3,g0,g1,g2,g3⟩:=RowIs.rc4 r7;clear hbel r6 r7 l3 l5 l6 l7 o6 o7;rw [hh] at y3;obtain ⟨c0,c1,c2,c3,c4,c5,c6⟩:=CEL.out _ HF.out.bel;go_wp2_with fail
 refine (reftoken_list a.tag _ htg).mono ?_
 rintro e w1 ⟨rfl,hw1⟩;rw [hw1];clear hw1 w1;rw [htok];go_wp2_with fail
 refine (rplace16_any (s:=s) (HP.out.below HF.out.bel) a.tag hn).mono ?_
 rintro e w1 ⟨rfl,hw1⟩;have HF:=hid (HF.out.below hw1);clear x0 x1 x2 x3 x4 x5 x6 x7 x8 y0 y1 y2 y3 y4 y5 y6 y7 z0 z1 z2 z3 z4 z5 z6 z7 z8 f0 f1 f2 f3 f4 f5 f6 f7 f8 q0 q1 q2 q3 g0 g1 g2 g3 c0 c1 c2 c3 c4 c5 c6 hw1;obtain ⟨⟨⟨x0,x1,x2,x3,x4,x5,x6⟩,x7,x8⟩,⟨y0,y1,y2,y3,y4,y5,y6,y7⟩,r6,r7,hbel,l3,l5,l6,l7,o6,o7⟩:=HF.out;obtain ⟨z0,z1,z2,z3,z4,z5,z6,z7,z8,f0,f1,f2,f3,f4,f5,f6,f7,f8⟩:=RowIs.rc9 r6;obtain ⟨q0,q1,q2,q3,g0,g1,g2,g3⟩:=RowIs.rc4 r7;clear hbel r6 r7 l3 l5 l6 l7 o6 o7;rw [hh] at y3;obtain ⟨c0,c1,c2,c3,c4,c5,c6⟩:=CEL.out _ HF.out.bel;go_wp2_with fail
 refine (rsec16_any s.c a.exp _).mono ?_
 rintro e w1 ⟨rfl,hw1⟩;have HF:=hid (HF.out.below hw1);clear x0 x1 x2 x3 x4 x5 x6 x7 x8 y0 y1 y2 y3 y4 y5 y6 y7 z0 z1 z2 z3 z4 z5 z6 z7 z8 f0 f1 f2 f3 f4 f5 f6 f7 f8 q0 q1 q2 q3 g0 g1 g2 g3 c0 c1 c2 c3 c4 c5 c6 hw1;rw [hs1,hs2];obtain ⟨⟨⟨x0,x1,x2,x3,x4,x5,x6⟩,x7,x8⟩,⟨y0,y1,y2,y3,y4,y5,y6,y7⟩,r6,r7,hbel,l3,l5,l6,l7,o6,o7⟩:=HF.out;obtain ⟨z0,z1,z2,z3,z4,z5,z6,z7,z8,f0,f1,f2,f3,f4,f5,f6,f7,f8⟩:=RowIs.rc9 r6;obtain ⟨q0,q1,q2,q3,g0,g1,g2,g3⟩:=RowIs.rc4 r7;clear hbel r6 r7 l3 l5 l6 l7 o6 o7;rw [hh] at y3;obtain ⟨c0,c1,c2,c3,c4,c5,c6⟩:=CEL.out _ HF.out.bel;go_wp2_with fail
 refine (rplace16_any (s:=s) (HP.out.below HF.out.bel) a.mt hn).mono ?_
 rintro e w1 ⟨rfl,hw1⟩;have HF:=hid (HF.out.below hw1);clear x0 x1 x2 x3 x4 x5 x6 x7 x8 y0 y1 y2 y3 y4 y5 y6 y7 z0 z1 z2 z3 z4 z5 z6 z7 z8 f0 f1 f2 f3 f4 f5 f6 f7 f8 q0 q1 q2 q3 g0 g1 g2 g3 c0 c1 c2 c3 c4 c5 c6 hw1;rw [hpk];obtain ⟨⟨⟨x0,x1,x2,x3,x4,x5,x6⟩,x7,x8⟩,⟨y0,y1,y2,y3,y4,y5,y6,y7⟩,r6,r7,hbel,l3,l5,l6,l7,o6,o7⟩:=HF.out;obtain ⟨z0,z1,z2,z3,z4,z5,z6,z7,z8,f0,f1,f2,f3,f4,f5,f6,f7,f8⟩:=RowIs.rc9 r6;obtain ⟨q0,q1,q2,q3,g0,g1,g2,g3⟩:=RowIs.rc4 r7;clear hbel r6 r7 l3 l5 l6 l7 o6 o7;rw [hh] at y3;obtain ⟨c0,c1,c2,c3,c4,c5,c6⟩:=CEL.out _ HF.out.bel;go_wp2
 go_quiet (fail)
 have HF:=hid (HF.out.below (below_drewN _ nq));clear x0 x1 x2 x3 x4 x5 x6 x7 x8 y0 y1 y2 y3 y4 y5 y6 y7 z0 z1 z2 z3 z4 z5 z6 z7 z8 f0 f1 f2 f3 f4 f5 f6 f7 f8 q0 q1 q2 q3 g0 g1 g2 g3 c0 c1 c2 c3 c4 c5 c6;generalize World.drewN _ nq=W2 at HF ⊢;obtain ⟨⟨⟨x0,x1,x2,x3,x4,x5,x6⟩,x7,x8⟩,⟨y0,y1,y2,y3,y4,y5,y6,y7⟩,r6,r7,hbel,l3,l5,l6,l7,o6,o7⟩:=HF.out;obtain ⟨z0,z1,z2,z3,z4,z5,z6,z7,z8,f0,f1,f2,f3,f4,f5,f6,f7,f8⟩:=RowIs.rc9 r6;obtain ⟨q0,q1,q2,q3,g0,g1,g2,g3⟩:=RowIs.rc4 r7;clear hbel r6 r7 l3 l5 l6 l7 o6 o7;rw [hh] at y3;obtain ⟨c0,c1,c2,c3,c4,c5,c6⟩:=CEL.out _ HF.out.bel;obtain ⟨w9,hw9,HR0⟩:=HF.out.put (by omega) ⟨412,0,[],false⟩;have HR:=hid HR0;have n67:w.heap.size+2 ≠ w.heap.size+3:=by omega
 clear HF HR0;go_wp2
 try simp only at hw9
 rw [← hw9];clear hw9 x0 x1 x2 x3 x4 x5 x6 x7 x8 y0 y1 y2 y3 y4 y5 y6 y7 z0 z1 z2 z3 z4 z5 z6 z7 z8 f0 f1 f2 f3 f4 f5 f6 f7 f8 q0 q1 q2 q3 g0 g1 g2 g3 c0 c1 c2 c3 c4 c5 c6;obtain ⟨R6,R7,hB⟩:=HR.out;obtain ⟨e0,e1,e2,e3,e4,e5,e6,e7,e8,_,_,_,_,_,_,_,_,_⟩:=RowIs.rc9 R6;obtain ⟨t0,t1,t2,t3,_,_,_,_⟩:=RowIs.rc4 R7;replace t0:w9.cell? ⟨w.heap.size+3,0,none⟩=some (.int .i64 412):=t0;replace t1:w9.cell? ⟨w.heap.size+3,1,none⟩=some (.int .i64 0):=t1;replace t2:w9.cell? ⟨w.heap.size+3,2,none⟩=some (.string ⟨([]:List UInt8).toArray⟩):=t2;replace t3:w9.cell? ⟨w.heap.size+3,3,none⟩=some (.bool false):=t3
 try simp only [Exit.inBlock,Exit.then]
 refine bodyPost_ret (v:=.tuple #[.agg #[.string ⟨s.c.host.toArray⟩,.int .i64 s.c.calls,.int .i64 s.c.pubs,.int .i64 s.c.subs,.int .i64 s.c.least,.int .i64 s.c.most,.int .i64 s.c.usual,.int .i64 s.last,.slice (some ad) cs.length vc],.agg #[.int .i64 412,.int .i64 0,.string ⟨([]:List UInt8).toArray⟩,.bool false],.int .i64 0]) (by simp [results,Tryz.results17,go_sem,e0,e1,e2,e3,e4,e5,e6,e7,e8,t0,t1,t2,t3]; try rfl) rfl ?_
 exact ⟨_,cs,rfl,.inl ⟨rfl,rfl⟩,fun _ h _=>h,HS.out,hB⟩
set_option maxHeartbeats 8000000 in
set_option maxRecDepth 100000 in
theorem rdo16_w400a0 {w:World} {v:Value} {s:Sto} {cs:List PbC} (h:PbsAt w v cs) (hd:DocsAt w cs) (hs:s.l=pbsL cs) (hn:cs.length≤1000000) (now:Int) (a:Pa) (ts ns:Value) (htg:a.tag.length≤140737488355328)
  (ht:a.has=true → TusAt w ts a.doc.tuples∧StrsAt w ns a.doc.notes) (hsm:a.has=true → SmallD 140737488355328 a.doc) (hen:a.has=true → a.doc.entity.length+4≤1048576)
  (d0:decide (now < 0)=false) (d1:decide (549755813888 < now)=false) (htok:tokenB a.tag=true) (hpl:decide (0≤placeP (pbsL cs) a.tag)=false) (hh:a.has=false) (n:Int) (hs1:(secC s.c a.exp).1=n) (hs2:(secC s.c a.exp).2=true) (hmt:a.mt.isEmpty=true)  :
  Calls Tryz.prog 17 #[stoV s v,.int .i64 now,askV a ts ns] w fun e w'=>DoRes (s,⟨400,0,[],false⟩,0) v cs a ts ns w e w':=by
 have HF:=hid (frD_new w s v a ts ns);have HHH:=hid hh;have HP:=hid h;have HD:=hid hd;have HS:=hid hs;have HT:=hid ht;have HSM:=hid hsm;have HEN:=hid hen;obtain ⟨va,vc,rfl⟩:=h.form;clear h hd hs ht hsm hen hh
 go_enter Tryz.func17,Tryz.ntmps17
 unfold stoV askV;unfold objS objA at HF
 go_upto_region 1 with fail
 generalize World.alloc _ _=W at HF ⊢;have hh:=HHH.out;obtain ⟨⟨⟨x0,x1,x2,x3,x4,x5,x6⟩,x7,x8⟩,⟨y0,y1,y2,y3,y4,y5,y6,y7⟩,r6,r7,hbel,l3,l5,l6,l7,o6,o7⟩:=HF.out;obtain ⟨z0,z1,z2,z3,z4,z5,z6,z7,z8,f0,f1,f2,f3,f4,f5,f6,f7,f8⟩:=RowIs.rc9 r6;obtain ⟨q0,q1,q2,q3,g0,g1,g2,g3⟩:=RowIs.rc4 r7;clear hbel r6 r7 l3 l5 l6 l7 o6 o7;rw [hh] at y3;go_wp2_with fail
 refine (reftoken_list a.tag _ htg).mono ?_
 rintro e w1 ⟨rfl,hw1⟩;rw [hw1];clear hw1 w1;rw [htok];go_wp2_with fail
 refine (rplace16_any (s:=s) (HP.out.below HF.out.bel) a.tag hn).mono ?_
 rintro e w1 ⟨rfl,hw1⟩;have HF:=hid (HF.out.below hw1);clear x0 x1 x2 x3 x4 x5 x6 x7 x8 y0 y1 y2 y3 y4 y5 y6 y7 z0 z1 z2 z3 z4 z5 z6 z7 z8 f0 f1 f2 f3 f4 f5 f6 f7 f8 q0 q1 q2 q3 g0 g1 g2 g3 hw1;obtain ⟨⟨⟨x0,x1,x2,x3,x4,x5,x6⟩,x7,x8⟩,⟨y0,y1,y2,y3,y4,y5,y6,y7⟩,r6,r7,hbel,l3,l5,l6,l7,o6,o7⟩:=HF.out;obtain ⟨z0,z1,z2,z3,z4,z5,z6,z7,z8,f0,f1,f2,f3,f4,f5,f6,f7,f8⟩:=RowIs.rc9 r6;obtain ⟨q0,q1,q2,q3,g0,g1,g2,g3⟩:=RowIs.rc4 r7;clear hbel r6 r7 l3 l5 l6 l7 o6 o7;rw [hh] at y3;go_wp2_with fail
 refine (rsec16_any s.c a.exp _).mono ?_
 rintro e w1 ⟨rfl,hw1⟩;have HF:=hid (HF.out.below hw1);clear x0 x1 x2 x3 x4 x5 x6 x7 x8 y0 y1 y2 y3 y4 y5 y6 y7 z0 z1 z2 z3 z4 z5 z6 z7 z8 f0 f1 f2 f3 f4 f5 f6 f7 f8 q0 q1 q2 q3 g0 g1 g2 g3 hw1;rw [hs1,hs2];obtain ⟨⟨⟨x0,x1,x2,x3,x4,x5,x6⟩,x7,x8⟩,⟨y0,y1,y2,y3,y4,y5,y6,y7⟩,r6,r7,hbel,l3,l5,l6,l7,o6,o7⟩:=HF.out;obtain ⟨z0,z1,z2,z3,z4,z5,z6,z7,z8,f0,f1,f2,f3,f4,f5,f6,f7,f8⟩:=RowIs.rc9 r6;obtain ⟨q0,q1,q2,q3,g0,g1,g2,g3⟩:=RowIs.rc4 r7;clear hbel r6 r7 l3 l5 l6 l7 o6 o7;rw [hh] at y3;go_wp2_with fail
 refine (rplace16_any (s:=s) (HP.out.below HF.out.bel) a.mt hn).mono ?_
 rintro e w1 ⟨rfl,hw1⟩;have HF:=hid (HF.out.below hw1);clear x0 x1 x2 x3 x4 x5 x6 x7 x8 y0 y1 y2 y3 y4 y5 y6 y7 z0 z1 z2 z3 z4 z5 z6 z7 z8 f0 f1 f2 f3 f4 f5 f6 f7 f8 q0 q1 q2 q3 g0 g1 g2 g3 hw1;obtain ⟨⟨⟨x0,x1,x2,x3,x4,x5,x6⟩,x7,x8⟩,⟨y0,y1,y2,y3,y4,y5,y6,y7⟩,r6,r7,hbel,l3,l5,l6,l7,o6,o7⟩:=HF.out;obtain ⟨z0,z1,z2,z3,z4,z5,z6,z7,z8,f0,f1,f2,f3,f4,f5,f6,f7,f8⟩:=RowIs.rc9 r6;obtain ⟨q0,q1,q2,q3,g0,g1,g2,g3⟩:=RowIs.rc4 r7;clear hbel r6 r7 l3 l5 l6 l7 o6 o7;rw [hh] at y3;go_wp2
 go_quiet (fail)
 have HF:=hid (HF.out.below (below_drewN _ nq));clear x0 x1 x2 x3 x4 x5 x6 x7 x8 y0 y1 y2 y3 y4 y5 y6 y7 z0 z1 z2 z3 z4 z5 z6 z7 z8 f0 f1 f2 f3 f4 f5 f6 f7 f8 q0 q1 q2 q3 g0 g1 g2 g3;generalize World.drewN _ nq=W2 at HF ⊢;obtain ⟨⟨⟨x0,x1,x2,x3,x4,x5,x6⟩,x7,x8⟩,⟨y0,y1,y2,y3,y4,y5,y6,y7⟩,r6,r7,hbel,l3,l5,l6,l7,o6,o7⟩:=HF.out;obtain ⟨z0,z1,z2,z3,z4,z5,z6,z7,z8,f0,f1,f2,f3,f4,f5,f6,f7,f8⟩:=RowIs.rc9 r6;obtain ⟨q0,q1,q2,q3,g0,g1,g2,g3⟩:=RowIs.rc4 r7;clear hbel r6 r7 l3 l5 l6 l7 o6 o7;rw [hh] at y3;obtain ⟨w9,hw9,HR0⟩:=HF.out.put (by omega) ⟨400,0,[],false⟩;have HR:=hid HR0;have n67:w.heap.size+2 ≠ w.heap.size+3:=by omega
 clear HF HR0;go_wp2
 try simp only at hw9
 rw [← hw9];clear hw9 x0 x1 x2 x3 x4 x5 x6 x7 x8 y0 y1 y2 y3 y4 y5 y6 y7 z0 z1 z2 z3 z4 z5 z6 z7 z8 f0 f1 f2 f3 f4 f5 f6 f7 f8 q0 q1 q2 q3 g0 g1 g2 g3;obtain ⟨R6,R7,hB⟩:=HR.out;obtain ⟨e0,e1,e2,e3,e4,e5,e6,e7,e8,_,_,_,_,_,_,_,_,_⟩:=RowIs.rc9 R6;obtain ⟨t0,t1,t2,t3,_,_,_,_⟩:=RowIs.rc4 R7;replace t0:w9.cell? ⟨w.heap.size+3,0,none⟩=some (.int .i64 400):=t0;replace t1:w9.cell? ⟨w.heap.size+3,1,none⟩=some (.int .i64 0):=t1;replace t2:w9.cell? ⟨w.heap.size+3,2,none⟩=some (.string ⟨([]:List UInt8).toArray⟩):=t2;replace t3:w9.cell? ⟨w.heap.size+3,3,none⟩=some (.bool false):=t3
 try simp only [Exit.inBlock,Exit.then]
 refine bodyPost_ret (v:=.tuple #[.agg #[.string ⟨s.c.host.toArray⟩,.int .i64 s.c.calls,.int .i64 s.c.pubs,.int .i64 s.c.subs,.int .i64 s.c.least,.int .i64 s.c.most,.int .i64 s.c.usual,.int .i64 s.last,.slice va cs.length vc],.agg #[.int .i64 400,.int .i64 0,.string ⟨([]:List UInt8).toArray⟩,.bool false],.int .i64 0]) (by simp [results,Tryz.results17,go_sem,e0,e1,e2,e3,e4,e5,e6,e7,e8,t0,t1,t2,t3]; try rfl) rfl ?_
 exact ⟨_,cs,rfl,.inl ⟨rfl,rfl⟩,fun _ h _=>h,HS.out,hB⟩
end Go.Proofs.YteicmbhilambpaaGreatDoor
