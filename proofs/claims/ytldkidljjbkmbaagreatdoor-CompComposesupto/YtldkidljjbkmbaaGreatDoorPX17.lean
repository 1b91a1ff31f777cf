/-
  OpenPb, CpG, CpI, CpJ, CpK, CpL, PR9, CpM, CpO, PrL.
-/
import Derived.Test.YtldkidljjbkmbaaGreatDoorPX19
import Derived.Deep.RegionHeld3
import Derived.Lib.Builder
set_option linter.unusedVariables false
set_option linter.unusedSimpArgs false
set_option maxRecDepth 20000
namespace Go.Proofs.YtldkidljjbkmbaaGreatDoor
open Go.RowKit Go.ChangeShapes Go.WideShapes Go.Deep
section
variable {H : Type} {enc : TypeId × Value → H} {W : World} {sp : Nat → Bool}
theorem docB_upto {B:Nat} {d:DataW H} {dc:Dc} (hd:DocDb d dc) (hw:∀ t ∈ dc.tuples,(Lit.int .i64 t.prio).wf=true) (hz:Rows.uptoBulk d≤B):SmallD B dc:=by
 obtain ⟨d1,d2,rfl,q1,q2⟩:=hd;simp only [Rows.uptoBulkAll,Rows.uptoBulk] at hz
 have ht:dc.tuples.length≤B∧∀ t ∈ dc.tuples,SmallT B t:=by
  rcases q1 with ⟨_,e⟩ | ⟨ds,sp1,e,hl1,hk⟩
  ·rw [e]; exact ⟨by simp,fun t h=>by simp at h⟩
  ·rw [e] at hz;simp only [Rows.uptoBulk] at hz;obtain ⟨b1,b2⟩:=bulk_all ds;refine ⟨by omega,fun t h=>?_⟩
   obtain ⟨k,hkl,rfl⟩:=List.mem_iff_getElem.1 h;exact tuD_upto (hk k hkl (by omega)) (hw _ (List.getElem_mem hkl)) (by have:=b2 k (by omega); omega)
 have hn:dc.notes.length≤B∧∀ l ∈ dc.notes,l.length≤B:=by
  rcases q2 with ⟨_,e⟩ | ⟨sp2,e⟩
  ·rw [e]; exact ⟨by simp,fun t h=>by simp at h⟩
  ·rw [e] at hz;simp only [Rows.uptoBulk] at hz;have hb:=bulk_strs (H:=H) dc.notes;exact ⟨by omega,fun l hl=>by have:=hb.1 l hl; omega⟩
 exact ⟨by omega,ht.1,hn.1,ht.2,hn.2⟩
theorem pbB_upto {B:Nat} {d:DataW H} {p:Pb} (hd:PbDb d p) (hw:∀ t ∈ p.doc.tuples,(Lit.int .i64 t.prio).wf=true) (hz:Rows.uptoBulk d≤B):SmallD B p.doc:=by
 obtain ⟨dd,rfl,q⟩:=hd;simp only [Rows.uptoBulkAll,Rows.uptoBulk] at hz;exact docB_upto q hw (by omega)
end
end Go.Proofs.YtldkidljjbkmbaaGreatDoor
namespace Go.Proofs.YtldkidljjbkmbaaGreatDoor
open Go.RowKit Go.Maps Go.WideMaps Sc
set_option maxHeartbeats 4000000 in
set_option maxRecDepth 100000 in
theorem caddtuple_any {A B b m:Nat} {w:World} {ent:List UInt8} {vt vn:Value} {st:List Tu × List Tu} {ns:List (List UInt8)} (h:WhI A B b m w ent vt vn st ns) (num:Int) (h0:0≤num) (h9:num≤9223372036854775807) (t:Tu) (hs:SmallTu t) (hsm:∀ x ∈ st.2,SmallTu x) (hl1:st.1.length≤16) (hl2:st.2.length≤16) :
  Calls Tryz.prog 21 #[.pointer (some ⟨b,0,none⟩),.int .i64 num,tuV t] w fun e w'=>e=.returned (.tuple #[])∧∃ vt',WhI A B b m w' ent vt' vn (stepK num st t) ns∧FrW A w w':=by
 obtain ⟨i1,hj,hy0,hy1,hy2⟩:=info_parts infoTup;have b1:Below w.heap.size w (w.alloc (.cells #[.string ⟨t.id.toArray⟩,.bool t.opn,.string ⟨t.contact.toArray⟩,.int .i64 t.prio,.string ⟨t.note.toArray⟩] 48)):=(Below.refl _ w).alloc (Nat.le_refl _) _;have r1:=rc_row5 w (.string ⟨t.id.toArray⟩) (.bool t.opn) (.string ⟨t.contact.toArray⟩) (.int .i64 t.prio) (.string ⟨t.note.toArray⟩) 48;obtain ⟨va,vc,hva⟩:=h.tup.form;subst hva;have HW:=hid (h.step b1);have HF:=hid (FrW.of b1 h.low);have hgx:∀ g,(Value.slice va st.1.length vc).ownBlock=some g → g < w.heap.size:=fun g e=>(World.ownsRow.lt h.tup g e).2;have HGX:=hid hgx;have HBG:=hid (show b < w.heap.size from Nat.lt_of_lt_of_le h.lb h.lo);have HS:=hid hs;have HSM:=hid hsm;unfold tuV;clear h b1 hgx
 go_enter Tryz.func21,Tryz.ntmps21
 go_upto_region 1 with fail
 generalize hgw:w.heap.size=gx at r1 HGX HBG ⊢;generalize World.alloc _ _=w1 at r1 HW HF ⊢;have HW1:=hid (HW.out.step (Below.refl _ w1).drew);have R1:=hid r1;have RD:=hid (show RowIs w1.drew gx 48 _ from r1);obtain ⟨s0,s1,s2,s3,s4,_⟩:=r1.rc5;obtain ⟨d0,d1,d2,d3,d4,_⟩:=RD.out.rc5;have c3:w1.cell? ⟨b,3,none⟩=some (.map (some m)):=HW.out.row.cell 3 (by simp [whL]);have e3:w1.drew.cell? ⟨b,3,none⟩=some (.map (some m)):=HW1.out.row.cell 3 (by simp [whL]);have bA:Below w1.heap.size w1 (w1.alloc (.cells #[] 70)):=(Below.refl _ w1).alloc (Nat.le_refl _) _;have bAd:Below w1.heap.size w1 (w1.alloc (.cells #[] 70)).drew:=bA.drew;have HA:=hid (HW.out.step bAd);have FA:=hid (HF.out.trans (FrW.of bAd HW.out.low));have FD:=hid (HF.out.trans (FrW.of ((Below.refl _ w1).drew) HW.out.low));have RA:=hid (r1.below bAd r1.bl);obtain ⟨a0,a1,a2,a3,a4,_⟩:=RA.out.rc5;have f3:(w1.alloc (.cells #[] 70)).drew.cell? ⟨b,3,none⟩=some (.map (some m)):=HA.out.row.cell 3 (by simp [whL]);have k1:=HW.out.map.look hsm hs;have k2:=HW1.out.map.look hsm hs;have k3:=HA.out.map.look hsm hs;unfold tuV at k1 k2 k3;clear r1 hs hsm bA bAd
 go_region
 all_goals (
  clear k1 k2 k3 s0 s1 s2 s3 s4 d0 d1 d2 d3 d4 c3 e3 a0 a1 a2 a3 a4 f3 R1 RD HW HW1 HF FD;generalize World.drew _=w2 at HA FA RA ⊢;have x1:w2.cell? ⟨b,1,none⟩=some (.slice va st.1.length vc):=HA.out.row.cell 1 (by simp [whL]);by_cases ht:t ∈ st.2
  ·rw [decide_eq_true ht];have HQ:=hid (stepK_in (num:=num) (.inl ht):stepK num st t=st);clear ht;go_wp2
   try simp only [Exit.inBlock,Exit.then]
   refine bodyPost_ret (v:=.tuple #[]) (by simp [results,Tryz.results21,go_sem]; try rfl) rfl ?_
   exact ⟨rfl,_,by rw [HQ.out]; exact HA.out,FA.out⟩
  ·rw [decide_eq_false ht];by_cases hf:st.1.length=16
   ·have hf':(st.1.length:Int)=16:=by omega
    have HQ:=hid (stepK_in (num:=num) (.inr hf):stepK num st t=st);clear ht hf;go_wp2
    try simp only [Exit.inBlock,Exit.then]
    refine bodyPost_ret (v:=.tuple #[]) (by simp [results,Tryz.results21,go_sem]; try rfl) rfl ?_
    exact ⟨rfl,_,by rw [HQ.out]; exact HA.out,FA.out⟩
   ·have hf':¬ (st.1.length:Int)=16:=by omega
    have HQ:=hid (stepK_new (num:=num) ht hf);have HT:=hid ht;have HZ:=hid (show st.1.length < 16 by omega);clear ht hf hl1
    go_upto_region 3 with fail
    have HD:=hid (HA.out.step (Below.refl _ w2).drew);have FD:=hid (FA.out.trans (FrW.of ((Below.refl _ w2).drew) HA.out.low));have RD:=hid (show RowIs w2.drew gx 48 _ from RA.out);obtain ⟨s0,s1,s2,s3,s4,_⟩:=RA.out.rc5;obtain ⟨d0,d1,d2,d3,d4,_⟩:=RD.out.rc5;have c3:w2.cell? ⟨b,3,none⟩=some (.map (some m)):=HA.out.row.cell 3 (by simp [whL]);have e3:w2.drew.cell? ⟨b,3,none⟩=some (.map (some m)):=HD.out.row.cell 3 (by simp [whL]);obtain ⟨w3,hrun,hm3,hg3⟩:=HD.out.map.add HSM.out HS.out HT.out (by omega);have HP:=hid (HD.out.putM hg3 hm3);have R3:=hid (row_grown RD.out hg3 (fun e=>map_ne HD.out.map RD.out (by injection e)));clear hm3 hg3;unfold tuV at hrun
    go_region
    all_goals (
     clear s0 s1 s2 s3 s4 d0 d1 d2 d3 d4 c3 e3 hrun x1 RA RD HA;have FP:=hid (FD.out.trans HP.out.2);have HI:=hid (HP.out.1);clear HP FD FA HD HSM HT
     go_upto_region 4 with fail
     have KC:=hid (fun (u:World) (hb:Below w3.heap.size w3 u)=>clone_listC t.contact u HS.out.contact);have KO:=hid (fun (u:World) (hb:Below w3.heap.size w3 u)=>clone_listC t.note u HS.out.note);have KF:=hid (fun (u:World) (hb:Below w3.heap.size w3 u)=>cfreeid_any (HI.out.step hb).row HZ.out (HI.out.step hb).tup.tusAt num h0 h9 t.id HS.out.id)
     refine ca4_region ⟨rfl,⟨_,rfl,rfl,rfl,rfl⟩,⟨_,rfl,rfl,rfl,rfl⟩,⟨_,rfl,rfl,rfl,rfl⟩,⟨_,rfl,rfl,rfl,rfl⟩,⟨_,rfl,rfl,rfl,rfl⟩,⟨_,rfl,rfl,rfl,rfl⟩,⟨_,rfl,rfl,rfl,rfl⟩,⟨_,rfl,rfl,rfl,rfl⟩,⟨_,rfl,rfl,rfl,rfl⟩,⟨_,rfl,rfl,rfl,rfl⟩,⟨_,rfl,rfl,rfl,rfl⟩,⟨_,rfl,rfl,rfl,rfl⟩,⟨_,rfl,rfl,rfl,rfl⟩,⟨_,rfl,rfl,rfl,rfl⟩,⟨_,rfl,rfl,rfl,rfl⟩,⟨_,rfl,rfl,rfl,rfl⟩,⟨_,rfl,rfl,rfl,rfl⟩,⟨_,rfl,rfl,rfl,rfl⟩,⟨_,rfl,rfl,rfl,rfl⟩,⟨_,rfl,rfl,rfl,rfl⟩,⟨_,rfl,rfl,rfl,rfl⟩,⟨_,rfl,rfl,rfl,rfl⟩,⟨_,rfl,rfl,rfl,rfl⟩,⟨_,rfl,rfl,rfl,rfl⟩,⟨_,rfl,rfl,rfl,rfl⟩,⟨_,rfl,rfl,rfl,rfl⟩,⟨_,rfl,rfl,rfl,rfl⟩,⟨_,rfl,rfl,rfl,rfl⟩,waits_of (by kernel_rfl),waits_of (by kernel_rfl),waits_of (by kernel_rfl),waits_of (by kernel_rfl),waits_of (by kernel_rfl),waits_of (by kernel_rfl),waits_of (by kernel_rfl),waits_of (by kernel_rfl),waits_of (by kernel_rfl),waits_of (by kernel_rfl),waits_of (by kernel_rfl),waits_of (by kernel_rfl),waits_of (by kernel_rfl),waits_of (by kernel_rfl),waits_of (by kernel_rfl),waits_of (by kernel_rfl),waits_of (by kernel_rfl),waits_of (by kernel_rfl),waits_of (by kernel_rfl),waits_of (by kernel_rfl),waits_of (by kernel_rfl),waits_of (by kernel_rfl),waits_of (by kernel_rfl),waits_of (by kernel_rfl),waits_of (by kernel_rfl),waits_of (by kernel_rfl),waits_of (by kernel_rfl)⟩ (by kernel_rfl) (by
      intro j hj hj0
      rcases (show j=1∨j=2∨j=3∨j=4∨j=5∨j=6∨j=7∨j=8∨j=9∨j=10∨j=11∨j=12∨j=13∨j=14∨j=15∨j=16∨j=17∨j=18∨j=19∨j=20∨j=21∨j=22 by omega) with rfl | rfl | rfl | rfl | rfl | rfl | rfl | rfl | rfl | rfl | rfl | rfl | rfl | rfl | rfl | rfl | rfl | rfl | rfl | rfl | rfl | rfl
      ·exact ⟨2,by decide,by decide,waits_of (by kernel_rfl)⟩
      ·exact ⟨3,by decide,by decide,waits_of (by kernel_rfl)⟩
      ·exact ⟨4,by decide,by decide,waits_of (by kernel_rfl)⟩
      ·exact ⟨5,by decide,by decide,waits_of (by kernel_rfl)⟩
      ·exact ⟨23,by decide,by decide,waits_of (by kernel_rfl)⟩
      ·exact ⟨10,by decide,by decide,waits_of (by kernel_rfl)⟩
      ·exact ⟨10,by decide,by decide,waits_of (by kernel_rfl)⟩
      ·exact ⟨9,by decide,by decide,waits_of (by kernel_rfl)⟩
      ·exact ⟨10,by decide,by decide,waits_of (by kernel_rfl)⟩
      ·exact ⟨21,by decide,by decide,waits_of (by kernel_rfl)⟩
      ·exact ⟨12,by decide,by decide,waits_of (by kernel_rfl)⟩
      ·exact ⟨21,by decide,by decide,waits_of (by kernel_rfl)⟩
      ·exact ⟨14,by decide,by decide,waits_of (by kernel_rfl)⟩
      ·exact ⟨15,by decide,by decide,waits_of (by kernel_rfl)⟩
      ·exact ⟨21,by decide,by decide,waits_of (by kernel_rfl)⟩
      ·exact ⟨17,by decide,by decide,waits_of (by kernel_rfl)⟩
      ·exact ⟨21,by decide,by decide,waits_of (by kernel_rfl)⟩
      ·exact ⟨19,by decide,by decide,waits_of (by kernel_rfl)⟩
      ·exact ⟨20,by decide,by decide,waits_of (by kernel_rfl)⟩
      ·exact ⟨21,by decide,by decide,waits_of (by kernel_rfl)⟩
      ·exact ⟨22,by decide,by decide,waits_of (by kernel_rfl)⟩
      ·exact ⟨23,by decide,by decide,waits_of (by kernel_rfl)⟩) _ w3 B b gx st.1.length vc va num t (giveC st.1 num.toNat 17 1 t.id) rfl rfl rfl rfl rfl _ _ _ HI.out.row HI.out.lb HI.out.lo R3.out KF.out KC.out KO.out st.1 HI.out.tup (by have:=HZ.out; omega) ?_
     intro v7 us u1 u0 hus ho7 hb1 hg7;have HP:=hid ((HI.out.step hb1).putT hg7 ho7);have FX:=hid (FP.out.trans ((FrW.of hb1 HI.out.low).trans HP.out.2));have HX:=hid HP.out.1;clear HP ho7 hb1 hg7 KC KO KF;generalize World.setCell _ _ _=w9 at HX FX ⊢
     try simp only [Exit.inBlock,Exit.then]
     go_end0
     exact ⟨rfl,_,by rw [HQ.out]; exact HX.out,FX.out⟩))
theorem keep3 {w w2:World} {e:TypeId} {x0 x1 x2:Value} (hb:Below w.heap.size w w2) (hr:RowIs w2 w.heap.size e [x0,x1,x2]) (v0 v1 v2:Value) :
  RowIs (((w2.setCell ⟨w.heap.size,0,none⟩ v0).setCell ⟨w.heap.size,1,none⟩ v1).setCell ⟨w.heap.size,2,none⟩ v2) w.heap.size e [v0,v1,v2]∧Below w.heap.size w (((w2.setCell ⟨w.heap.size,0,none⟩ v0).setCell ⟨w.heap.size,1,none⟩ v1).setCell ⟨w.heap.size,2,none⟩ v2) :=
 ⟨by simpa using ((hr.set 0 v0).set 1 v1).set 2 v2,((hb.setCell (Nat.le_refl _) v0).setCell (Nat.le_refl _) v1).setCell (Nat.le_refl _) v2⟩
set_option maxHeartbeats 4000000 in
set_option maxRecDepth 100000 in
theorem ccomp_bad {w:World} {who:List UInt8} {v:Value} {cs:List PbC} (hv:PbsAt w v cs) (ho:PbsOk w cs) (hw:who.length+4≤1048640) (hn:cs.length≤2000000) (he:chkAll who (pbsL cs) ≠ 0) :
  Calls Tryz.prog 11 #[.string ⟨who.toArray⟩,v] w fun e w'=>e=.returned (.tuple #[.agg #[.string ⟨#[]⟩,.slice none 0 0,.slice none 0 0],.int .i64 (chkAll who (pbsL cs))])∧Below w.heap.size w w':=by
 have b1:Below w.heap.size w (w.alloc (.cells #[.string .empty,.slice none 0 0,.slice none 0 0] 28)):=(Below.refl _ w).alloc (Nat.le_refl _) _;have r1:RowIs (w.alloc (.cells #[.string .empty,.slice none 0 0,.slice none 0 0] 28)) w.heap.size 28 [.string .empty,.slice none 0 0,.slice none 0 0]:=by unfold RowIs; rw [heap_alloc_new]
 have hform:∃ oa cap,v=.slice oa cs.length cap:=by obtain ⟨oa,cap,rfl,_⟩:=hv; exact ⟨_,_,rfl⟩
 have KC:=ccheck_any (hv.below b1) (ho.below b1) hw hn;obtain ⟨E,hE⟩:∃ E,E=chkAll who (pbsL cs):=⟨_,rfl⟩
 rw [← hE] at he KC ⊢;have HB:=hid b1;have R1:=hid r1;have HKC:=hid KC;clear hE hv ho hw hn KC r1 b1;obtain ⟨oa,cap,rfl⟩:=hform
 go_enter Tryz.func11,Tryz.ntmps11
 go_wp2_with fail
 refine HKC.out.mono ?_
 rintro e w2 ⟨rfl,hb2⟩;have HF:=hid (HB.out.trans (hb2.mono HB.out.size));have R2:=hid (R1.out.below hb2 R1.out.bl);obtain ⟨s0,s1,s2,f0,f1,f2⟩:=R2.out.rc3;clear hb2 HB R1 HKC;have KP:=hid (fun v0 v1 v2=>keep3 HF.out R2.out v0 v1 v2);go_wp2;have KEEP:=hid (KP.out (.string ⟨#[]⟩) (.slice none 0 0) (.slice none 0 0));clear KP
 try simp only [Exit.inBlock,Exit.then]
 generalize World.setCell _ _ _=w9 at KEEP ⊢;obtain ⟨d0,d1,d2,_⟩:=KEEP.out.1.rc3;refine bodyPost_ret (v:=.tuple #[.agg #[.string ⟨#[]⟩,.slice none 0 0,.slice none 0 0],.int .i64 E]) (by simp [results,Tryz.results11,go_sem,d0,d1,d2]; try rfl) rfl ?_
 exact ⟨rfl,KEEP.out.2⟩
theorem makeSp (u:World):(Instr.makeMap 52 none).run Tryz.prog u=.ok (.map (some u.heap.size)) (u.alloc (.map #[] 0)):=by kernel_rfl
theorem TuMap.new (u:World):TuMap (u.alloc (.map #[] 0)) u.heap.size []:=⟨_,World.ownsMap_made u _ _ _,MpG.nil _ _⟩
theorem whi_new {A b:Nat} {w:World} (hA:A≤w.heap.size) (ent:List UInt8) (hb:b=(w.alloc (.map #[] 0)).heap.size) :
  WhI A (b+1) b w.heap.size ((w.alloc (.map #[] 0)).alloc (.cells #[.string ⟨ent.toArray⟩,.slice none 0 0,.slice none 0 0,.map (some w.heap.size)] 54)) ent (.slice none 0 0) (.slice none 0 0) ([],[]) []:=by
 have hs:(w.alloc (.map #[] 0)).heap.size=w.heap.size+1:=by simp
 have b1:Below (w.alloc (.map #[] 0)).heap.size (w.alloc (.map #[] 0)) ((w.alloc (.map #[] 0)).alloc (.cells #[.string ⟨ent.toArray⟩,.slice none 0 0,.slice none 0 0,.map (some w.heap.size)] 54)):=(Below.refl _ _).alloc (Nat.le_refl _) _;refine ⟨?_,⟨rfl,.inl ⟨rfl,rfl⟩⟩,⟨rfl,.inl ⟨rfl,rfl⟩⟩,(TuMap.new w).below b1,by omega,hA,by omega,by omega,?_⟩
 ·subst hb;unfold RowIs;rw [heap_alloc_new]
  rfl
 ·subst hb; simp
structure InvK (st:List Tu × List Tu) (ns:List (List UInt8)):Prop where
 l1:st.1.length≤16
 l2:st.2.length=st.1.length
 sm:∀ x ∈ st.2,SmallTu x
 l3:ns.length≤16
theorem InvK.nil:InvK ([],[]) []:=⟨by simp,rfl,by simp,by simp⟩
theorem InvK.tup {st:List Tu × List Tu} {ns:List (List UInt8)} (h:InvK st ns) (num:Int) {t:Tu} (ht:SmallTu t):InvK (stepK num st t) ns:=by
 unfold stepK
 split
 ·exact h
 ·next hx =>
  have:¬ st.1.length=16:=fun e=>hx (.inr e)
  have:=h.l1
  have:=h.l2
  refine ⟨by simp; omega,by simp; omega,fun x hm=>?_,h.l3⟩
  rcases List.mem_append.1 hm with hm | hm
  ·exact h.sm x hm
  ·rw [List.mem_singleton] at hm; subst hm; exact ht
theorem InvK.note {st:List Tu × List Tu} {ns:List (List UInt8)} (h:InvK st ns) (s:List UInt8):InvK st (stepN ns s):=by
 refine ⟨h.l1,h.l2,h.sm,?_⟩
 unfold stepN
 split
 ·exact h.l3
 ·next hx =>
  have:¬ 16≤ns.length:=fun e=>hx (.inr e)
  simp; omega
theorem chk_num:∀ {l:List Pb} {last:Int},chkC last l=0 → ∀ p ∈ l,last < p.num
 | [],_,_,p,hp=>by simp at hp
 | q :: l,last,h,p,hp=>by
  unfold chkC at h
  split at h
  ·cases h
  ·next h0 =>
   split at h
   ·next h1=>exact absurd h h1
   ·rcases List.mem_cons.1 hp with rfl | hp
    ·omega
    ·have:=chk_num h p hp
     omega
theorem chk_of {who:List UInt8} {l:List Pb} (h:chkAll who l=0):chkC 0 l=0:=by
 unfold chkAll at h
 split at h
 ·next h1=>exact absurd h h1
 ·exact h
theorem foldl_snocK {α β:Type} (f:β → α → β) (b:β) (l:List α) (k:Nat) (hk:k < l.length):(l.take (k+1)).foldl f b=f ((l.take k).foldl f b) l[k]:=by
 rw [List.take_succ_eq_append_getElem hk,List.foldl_append]; rfl
theorem smallTu_of {t:Tu} (h:SmallT 140737488355328 t):SmallTu t:=by
 obtain ⟨h1,h2,h3,h4⟩:=h;exact ⟨by omega,by omega,by omega,h4⟩
set_option maxHeartbeats 4000000 in
set_option maxRecDepth 100000 in
theorem ccomp_ok {w:World} {who:List UInt8} {v:Value} {cs:List PbC} (hv:PbsAt w v cs) (ho:PbsOk w cs) (hw:who.length+4≤1048640) (hn:cs.length≤2000000) (hnum:∀ c ∈ cs,c.p.num≤9223372036854775807) (he:chkAll who (pbsL cs)=0) :
  Calls Tryz.prog 11 #[.string ⟨who.toArray⟩,v] w fun e w'=>∃ vt vn,e=.returned (.tuple #[.agg #[.string ⟨who.toArray⟩,vt,vn],.int .i64 0])∧OwnU w' w.heap.size vt (foldK (pbsL cs)).1.1∧Own w' w.heap.size 9 vn (strs (foldK (pbsL cs)).2)∧Below w.heap.size w w':=by
 have b1:Below w.heap.size w (w.alloc (.cells #[.string .empty,.slice none 0 0,.slice none 0 0] 28)):=(Below.refl _ w).alloc (Nat.le_refl _) _;have r1:RowIs (w.alloc (.cells #[.string .empty,.slice none 0 0,.slice none 0 0] 28)) w.heap.size 28 [.string .empty,.slice none 0 0,.slice none 0 0]:=by unfold RowIs; rw [heap_alloc_new]
 have hform:∃ oa cap,v=.slice oa cs.length cap:=by obtain ⟨oa,cap,rfl,_⟩:=hv; exact ⟨_,_,rfl⟩
 have KC:=ccheck_any (hv.below b1) (ho.below b1) hw hn;rw [he] at KC;have hch:=chk_num (chk_of he);have HB:=hid b1;have R1:=hid r1;have HKC:=hid KC;have HV:=hid hv;have HO:=hid ho;have HNUM:=hid (show ∀ c ∈ cs,0≤c.p.num∧c.p.num≤9223372036854775807 from fun c hc=>⟨by have:=hch c.p (List.mem_map.2 ⟨c,hc,rfl⟩); omega,hnum c hc⟩);have KN:=hid (fun (u:World)=>clone_listC who u (by omega));have hmk:=fun (u:World)=>makeSp u;clear hv ho hw KC r1 b1 he hnum hch;obtain ⟨oa,cap,rfl⟩:=hform;obtain ⟨n,hnn⟩:∃ n,n=cs.length:=⟨_,rfl⟩
 rw [← hnn] at HKC HV hn ⊢;have HN:=hid hnn;clear hnn
 go_enter Tryz.func11,Tryz.ntmps11
 go_wp2_with fail
 refine HKC.out.mono ?_
 rintro e w2 ⟨rfl,hb2⟩;have HF:=hid (HB.out.trans (hb2.mono HB.out.size));have R2:=hid (R1.out.below hb2 R1.out.bl);clear hb2 HB R1 HKC;go_wp2_with fail
 refine (KN.out _).mono ?_
 rintro e w3 ⟨rfl,hb3⟩;have HF:=hid (HF.out.trans (hb3.mono HF.out.size));have R2:=hid (R2.out.below hb3 R2.out.bl);clear hb3 KN;have HW0:=hid (whi_new (A:=w.heap.size) (b:=w3.heap.size+1) HF.out.size who (by simp));have hbM:Below w3.heap.size w3 ((w3.alloc (.map #[] 0)).alloc (.cells #[.string ⟨who.toArray⟩,.slice none 0 0,.slice none 0 0,.map (some w3.heap.size)] 54)):=((Below.refl _ w3).alloc (Nat.le_refl _) _).alloc (by simp) _;have HBW:=hid (HF.out.trans (hbM.mono HF.out.size));have RM:=hid (R2.out.below hbM R2.out.bl);clear hbM HF R2;go_wp2;generalize World.alloc (World.alloc _ _) _=WM at HW0 HBW RM ⊢;generalize w3.heap.size=m at HW0 ⊢;generalize m+1=b at HW0 ⊢;clear hmk
 go_loopw [28] (fun i wr=>∃ (k:Nat) (vt vn:Value) (st:List Tu × List Tu) (ns:List (List UInt8)),k≤n∧i=.int .i64 k∧Hid ((pbsL (cs.take k)).foldl pubK (([],[]),[])=(st,ns))∧Hid (WhI w.heap.size (b+1) b m wr who vt vn st ns)∧Hid (InvK st ns)∧Hid (FrW w.heap.size WM wr)) (fun i _=>n - (intOf i).toNat)
 case atStart=>exact ⟨0,_,_,_,_,by omega,rfl,hid rfl,HW0,hid InvK.nil,hid (FrW.of (Below.refl _ _) HBW.out.size)⟩
 case round =>
  clear HW0;obtain ⟨k,vt,vn,st,ns,hk,rfl,HE,HWI,HI,HFr⟩:=hrel;by_cases hlt:k < n
  ·have hlt':(k:Int) < (n:Int):=by omega
   have hkl:k < cs.length:=by rw [← HN.out]; exact hlt
   have hBw:=HBW.out.trans HFr.out.below;obtain ⟨oa',cap',hv',_,hat⟩:=HV.out;obtain ⟨ad,hoa,hab,hpb⟩:=hat k hkl
   injection hv' with g1 g2 g3
   subst g1;subst hoa;obtain ⟨c0,c1,c2,c3,c4,c5,c6⟩:=(hpb.below hBw hab).seven;have hm:=List.getElem_mem hkl;have HDC:=hid (HO.out.docs _ hm);have HSM:=hid (HO.out.small _ hm).1;have HNk:=hid (HNUM.out _ hm)
   have HSn:=hid (show (pbsL (cs.take (k+1))).foldl pubK (([],[]),[])=(cs[k].p.doc.tuples.foldl (stepK cs[k].p.num) st,cs[k].p.doc.notes.foldl stepN ns) by
    rw [List.take_succ_eq_append_getElem hkl];unfold pbsL at *;rw [List.map_append,List.foldl_append,HE.out]
    rfl)
   generalize cs[k]=c at c0 c1 c2 c3 c4 c5 c6 HDC HSM HNk HSn;obtain ⟨⟨ta,tc,hts,htc⟩,⟨na,nc,hns,hnc⟩⟩:=HDC.out;rw [hts] at c5;rw [hns] at c6;have HTC:=hid htc;have HNC:=hid hnc;have b2:Below wr.heap.size wr (wr.alloc (.cells #[.int .i64 c.p.num,.string ⟨c.p.who.toArray⟩,.string ⟨c.p.tag.toArray⟩,.int .i64 c.p.til,.string ⟨c.p.doc.entity.toArray⟩,.slice ta c.p.doc.tuples.length tc,.slice na c.p.doc.notes.length nc] 43)):=(Below.refl _ wr).alloc (Nat.le_refl _) _;have RX:=hid (rp_row7 wr (.int .i64 c.p.num) (.string ⟨c.p.who.toArray⟩) (.string ⟨c.p.tag.toArray⟩) (.int .i64 c.p.til) (.string ⟨c.p.doc.entity.toArray⟩) (.slice ta c.p.doc.tuples.length tc) (.slice na c.p.doc.notes.length nc) 43);have HW1:=hid (HWI.out.step b2);have HF1:=hid (HFr.out.trans (FrW.of b2 HWI.out.low));have HBW1:=hid (hBw.trans (b2.mono hBw.size));clear hat hpb hab b2 g2 g3 HDC hm hBw htc hnc hts hns HWI HFr HE
   go_upto_region 8 with fail
   clear c0 c1 c2 c3 c4 c5 c6;generalize wr.heap.size=gx at RX ⊢;generalize World.alloc _ _=w2 at RX HW1 HF1 HBW1 ⊢;obtain ⟨x0,x1,x2,x3,x4,x5,x6,_⟩:=RX.out.rp7;go_wp2;clear x0 x1 x2 x3 x4 x5 x6;obtain ⟨tn,htn⟩:∃ tn,tn=c.p.doc.tuples.length:=⟨_,rfl⟩
   rw [← htn];have HTN:=hid htn;have hz1:tn≤140737488355328:=by have:=HSM.out.tl; omega
   clear htn
   go_loopw [36] (fun i wr2=>∃ (j:Nat) (vt vn:Value) (st1:List Tu × List Tu),j≤tn∧i=.int .i64 j∧Hid ((c.p.doc.tuples.take j).foldl (stepK c.p.num) st=st1)∧Hid (WhI w.heap.size (b+1) b m wr2 who vt vn st1 ns)∧Hid (InvK st1 ns)∧Hid (FrW w.heap.size w2 wr2)) (fun i _=>tn - (intOf i).toNat)
   case atStart=>exact ⟨0,_,_,_,by omega,rfl,hid rfl,HW1,HI,hid (FrW.of (Below.refl _ _) HBW1.out.size)⟩
   case round =>
    clear HW1 HI;obtain ⟨j,vt,vn,st1,hj,rfl,HE,HWI,HI,HFr⟩:=hrel;have HRX:=hid (HFr.out.row RX.out (by decide) (by decide) (by decide));have hBw:=HBW1.out.trans HFr.out.below;by_cases hlt2:j < tn
    ·have hlt2':(j:Int) < (tn:Int):=by omega
     have hjl:j < c.p.doc.tuples.length:=by rw [← HTN.out]; exact hlt2
     obtain ⟨ad2,hoa2,hab2,hta⟩:=HTC.out j hjl;subst hoa2;obtain ⟨y0,y1,y2,y3,y4⟩:=hta.below hBw hab2;have HSt:=hid (smallTu_of (HSM.out.ts _ (List.getElem_mem hjl)));have HSn2:=hid (show (c.p.doc.tuples.take (j+1)).foldl (stepK c.p.num) st=stepK c.p.num st1 c.p.doc.tuples[j] by rw [foldl_snocK,HE.out]);generalize c.p.doc.tuples[j]=t at y0 y1 y2 y3 y4 HSt HSn2;have b3:Below wr.heap.size wr (wr.alloc (.cells #[.string ⟨t.id.toArray⟩,.bool t.opn,.string ⟨t.contact.toArray⟩,.int .i64 t.prio,.string ⟨t.note.toArray⟩] 48)):=(Below.refl _ wr).alloc (Nat.le_refl _) _;have RT:=hid (rc_row5 wr (.string ⟨t.id.toArray⟩) (.bool t.opn) (.string ⟨t.contact.toArray⟩) (.int .i64 t.prio) (.string ⟨t.note.toArray⟩) 48);have HW2:=hid (HWI.out.step b3);have HF2:=hid (HFr.out.trans (FrW.of b3 HWI.out.low));have HRX2:=hid (HRX.out.below b3 HRX.out.bl);have KT:=hid (caddtuple_any HW2.out c.p.num HNk.out.1 HNk.out.2 t HSt.out HI.out.sm HI.out.l1 (by have:=HI.out.l1; have:=HI.out.l2; omega));clear b3 hta hab2 hBw HRX HFr HWI HE;unfold tuV at KT
     go_upto_region 11 with fail
     clear y0 y1 y2 y3 y4;generalize wr.heap.size=gt at RT ⊢;generalize World.alloc _ _=w4 at RT HW2 HF2 HRX2 KT ⊢;obtain ⟨z0,z1,z2,z3,z4,_⟩:=RT.out.rc5;obtain ⟨x0,x1,x2,x3,x4,x5,x6,_⟩:=HRX2.out.rp7;go_wp2_with fail
     refine KT.out.mono ?_
     rintro e w5 ⟨rfl,vt',hw5,hf5⟩;have HW5:=hid hw5;have HF5:=hid (HF2.out.trans hf5);have HI5:=hid (HI.out.tup c.p.num HSt.out);clear z0 z1 z2 z3 z4 x0 x1 x2 x3 x4 x5 x6 hw5 hf5 KT HI HW2 HF2 HRX2 RT;go_wp2;go_roundw
     case rel=>exact ⟨j+1,_,_,_,by omega,by go_num,HSn2,HW5,HI5,HF5⟩
     case measure=>simp [intOf]; omega
    ·have hlt2':¬ (j:Int) < (tn:Int):=by omega
     have HE1:=hid (show c.p.doc.tuples.foldl (stepK c.p.num) st=st1 by rw [← HE.out,show j=c.p.doc.tuples.length by have:=HTN.out; omega,List.take_length]);obtain ⟨x0,x1,x2,x3,x4,x5,x6,_⟩:=HRX.out.rp7;clear HE;go_wp2;clear x0 x1 x2 x3 x4 x5 x6;obtain ⟨nn,hnn⟩:∃ nn,nn=c.p.doc.notes.length:=⟨_,rfl⟩
     rw [← hnn];have HNN:=hid hnn;have hz2:nn≤140737488355328:=by have:=HSM.out.nl; omega
     clear hnn;have HBW3:=hid hBw;clear hBw
     go_loopw [49] (fun i wr3=>∃ (q:Nat) (vt vn:Value) (ns1:List (List UInt8)),q≤nn∧i=.int .i64 q∧Hid ((c.p.doc.notes.take q).foldl stepN ns=ns1)∧Hid (WhI w.heap.size (b+1) b m wr3 who vt vn st1 ns1)∧Hid (InvK st1 ns1)∧Hid (FrW w.heap.size wr wr3)) (fun i _=>nn - (intOf i).toNat)
     case atStart=>exact ⟨0,_,_,_,by omega,rfl,hid rfl,HWI,HI,hid (FrW.of (Below.refl _ _) HBW3.out.size)⟩
     case round =>
      clear HWI HI;obtain ⟨q,vt,vn,ns1,hq,rfl,HE,HWI,HI,HFn⟩:=hrel;by_cases hlt3:q < nn
      ·have hlt3':(q:Int) < (nn:Int):=by omega
       have hql:q < c.p.doc.notes.length:=by rw [← HNN.out]; exact hlt3
       obtain ⟨ad3,hoa3,hab3,y0⟩:=HNC.out q hql;subst hoa3;have hBw:=HBW3.out.trans HFn.out.below;have y0:=cell_below hBw (by rw [add_block]; exact hab3) y0;have HSs:=HSM.out.ns _ (List.getElem_mem hql);have HSn3:=hid (show (c.p.doc.notes.take (q+1)).foldl stepN ns=stepN ns1 c.p.doc.notes[q] by rw [foldl_snocK,HE.out]);generalize c.p.doc.notes[q]=s at y0 HSs HSn3;have KN:=hid (caddnote_any HWI.out s (by omega) HI.out.l3);clear hBw hab3 HE;go_wp2_with fail
       refine KN.out.mono ?_
       rintro e w5 ⟨rfl,vn',hw5,hf5⟩;have HW5:=hid hw5;have HF5:=hid (HFn.out.trans hf5);have HI5:=hid (HI.out.note s);clear y0 hw5 hf5 KN HI HFn HWI;go_wp2;go_roundw
       case rel=>exact ⟨q+1,_,_,_,by omega,by go_num,HSn3,HW5,HI5,HF5⟩
       case measure=>simp [intOf]; omega
      ·have hlt3':¬ (q:Int) < (nn:Int):=by omega
       have HEn:=hid (show (pbsL (cs.take (k+1))).foldl pubK (([],[]),[])=(st1,ns1) by
        rw [HSn.out,HE1.out,← HE.out,show q=c.p.doc.notes.length by have:=HNN.out; omega,List.take_length])
       have HFF:=hid (HF1.out.trans (HFr.out.trans HFn.out));clear HE HE1 HFn HFr HF1;go_wp2;go_roundw
       case rel=>exact ⟨k+1,_,_,_,_,by omega,by go_num,HEn,HWI,HI,HFF⟩
       case measure=>simp [intOf]; omega
  ·have hlt':¬ (k:Int) < (n:Int):=by omega
   have HEn:=hid (show foldK (pbsL cs)=(st,ns) by
    have:=HE.out
    rwa [show k=cs.length by have:=HN.out; omega,List.take_length] at this)
   obtain ⟨va,vc,hvt⟩:=HWI.out.tup.form;obtain ⟨na,nc,hvn⟩:=own_formP HWI.out.note;subst hvt hvn;have HRM:=hid (HFr.out.row RM.out (by decide) (by decide) (by decide));have HBL:=hid (HBW.out.trans HFr.out.below);have KP:=hid (fun v0 v1 v2=>keep3 HBL.out HRM.out v0 v1 v2);have hltB:=hid (show w.heap.size < b+1 from by have:=HWI.out.lA; have:=HWI.out.lb; omega);obtain ⟨s0,s1,s2,f0,f1,f2⟩:=HRM.out.rc3;obtain ⟨x0,x1,x2,x3,_⟩:=HWI.out.row.rc4;have KT:=hid (fun v0 v1 v2=>show OwnU (((wr.setCell ⟨w.heap.size,0,none⟩ v0).setCell ⟨w.heap.size,1,none⟩ v1).setCell ⟨w.heap.size,2,none⟩ v2) w.heap.size (.slice va st.1.length vc) st.1 from own_lower (ownsRow_setCell_below (a:=⟨w.heap.size,2,none⟩) (ownsRow_setCell_below (a:=⟨w.heap.size,1,none⟩) (ownsRow_setCell_below (a:=⟨w.heap.size,0,none⟩) HWI.out.tup hltB.out v0) hltB.out v1) hltB.out v2) (Nat.le_of_lt hltB.out));have KN:=hid (fun v0 v1 v2=>show Own (((wr.setCell ⟨w.heap.size,0,none⟩ v0).setCell ⟨w.heap.size,1,none⟩ v1).setCell ⟨w.heap.size,2,none⟩ v2) w.heap.size 9 (.slice na (strs ns).length nc) (strs ns) from own_lower (ownsRow_setCell_below (a:=⟨w.heap.size,2,none⟩) (ownsRow_setCell_below (a:=⟨w.heap.size,1,none⟩) (ownsRow_setCell_below (a:=⟨w.heap.size,0,none⟩) HWI.out.note hltB.out v0) hltB.out v1) hltB.out v2) (Nat.le_of_lt hltB.out));clear HE HFr HRM HBL;go_wp2;have KEEP:=hid (KP.out (.string ⟨who.toArray⟩) (.slice va st.1.length vc) (.slice na (strs ns).length nc));have KTT:=hid (KT.out (.string ⟨who.toArray⟩) (.slice va st.1.length vc) (.slice na (strs ns).length nc));have KNN:=hid (KN.out (.string ⟨who.toArray⟩) (.slice va st.1.length vc) (.slice na (strs ns).length nc));clear KP KT KN
   try simp only [Exit.inBlock,Exit.then]
   generalize World.setCell _ _ _=w9 at KEEP KTT KNN ⊢;obtain ⟨d0,d1,d2,_⟩:=KEEP.out.1.rc3

   refine bodyPost_ret (v:=.tuple #[.agg #[.string ⟨who.toArray⟩,.slice va st.1.length vc,.slice na (strs ns).length nc],.int .i64 0]) (by simp [results,Tryz.results11,go_sem,d0,d1,d2]; try rfl) rfl ?_
   exact ⟨_,_,rfl,by rw [HEn.out]; exact KTT.out,by rw [HEn.out]; exact KNN.out,KEEP.out.2⟩
theorem comp_errC {who:List UInt8} {l:List Pb}:(compC who l).2=chkAll who l:=by
 unfold compC chkAll
 split
 ·rfl
 ·split
  ·rfl
  ·next h=>exact (Classical.byContradiction fun h'=>h (fun e=>h' e.symm))
structure DocG (B:Nat) (w:World) (d:Dc) (vt vn:Value):Prop where
 t:OwnU w B vt d.tuples
 n:Own w B 9 vn (strs d.notes)
theorem DocG.below {B:Nat} {w w':World} {d:Dc} {vt vn:Value} (h:DocG B w d vt vn) (hb:Below w.heap.size w w'):DocG B w' d vt vn:=⟨h.t.below hb,h.n.below hb⟩
theorem ccomp_any {w:World} {who:List UInt8} {v:Value} {cs:List PbC} (hv:PbsAt w v cs) (ho:PbsOk w cs) (hw:who.length+4≤1048640) (hn:cs.length≤2000000) (hnum:∀ c ∈ cs,c.p.num≤9223372036854775807) :
  Calls Tryz.prog 11 #[.string ⟨who.toArray⟩,v] w fun e w'=>∃ vt vn,e=.returned (.tuple #[docV (compC who (pbsL cs)).1 vt vn,.int .i64 (compC who (pbsL cs)).2])∧DocG w.heap.size w' (compC who (pbsL cs)).1 vt vn∧Below w.heap.size w w':=by
 by_cases he:chkAll who (pbsL cs)=0
 ·have hd:compC who (pbsL cs)=(⟨who,(foldC (pbsL cs)).1.1,(foldC (pbsL cs)).2⟩,0):=by
   have h1:checkD ⟨who,[],[]⟩=0:=by
    unfold chkAll at he
    split at he
    ·next h=>exact absurd he h
    ·next h=>exact Classical.byContradiction h
   exact comp_mk h1 (chk_of he)
  rw [hd];obtain ⟨e1,e2⟩:=foldK_is (pbsL cs);refine (ccomp_ok hv ho hw hn hnum he).mono ?_
  rintro e w' ⟨vt,vn,rfl,h1,h2,h3⟩;rw [e1] at h1;rw [e2] at h2;exact ⟨vt,vn,rfl,⟨h1,h2⟩,h3⟩
 ·have h2:(compC who (pbsL cs)).2 ≠ 0:=by rw [comp_errC]; exact he
  rw [comp_none h2,comp_errC];refine (ccomp_bad hv ho hw hn he).mono ?_
  rintro e w' ⟨rfl,h3⟩;exact ⟨.slice none 0 0,.slice none 0 0,rfl,⟨⟨rfl,.inl ⟨rfl,rfl⟩⟩,⟨rfl,.inl ⟨rfl,rfl⟩⟩⟩,h3⟩
end Go.Proofs.YtldkidljjbkmbaaGreatDoor
namespace Go.Proofs.YtldkidljjbkmbaaGreatDoor
open Go.RowKit Sc
set_option maxHeartbeats 1000000 in
set_option maxRecDepth 100000 in
theorem rtexts_same (v1 v2:Value) (ps:List (List UInt8)) (w:World) (h1:StrsAt w v1 ps) (h2:StrsAt w v2 ps) (hl:ps.length≤281474976710656) :
  Calls Tryz.prog 28 #[v1,v2] w fun e w'=>e=.returned (.bool true)∧∃ q,w'=w.drewN q:=by
 obtain ⟨a1,c1,rfl,k1⟩:=h1;obtain ⟨a2,c2,rfl,k2⟩:=h2;have K1:=hid k1;have K2:=hid k2;obtain ⟨n,hn⟩:∃ n,n=ps.length:=⟨_,rfl⟩
 rw [← hn] at hl ⊢;have HN:=hid hn;clear k1 k2 hn
 go_enter Tryz.func28,Tryz.ntmps28
 go_wp2
 go_loopw [5] (fun i wr=>∃ (k q:Nat),k≤n∧i=.int .i64 k∧wr=w.drewN q) (fun i _=>n - (intOf i).toNat)
 case atStart=>exact ⟨0,0,Nat.zero_le _,rfl,rfl⟩
 case round =>
  obtain ⟨k,q,hk,rfl,rfl⟩:=hrel;by_cases hlt:k < n
  ·obtain ⟨d1,rfl,_,f1⟩:=K1.out k (by have:=HN.out; omega);obtain ⟨d2,rfl,_,f2⟩:=K2.out k (by have:=HN.out; omega);have q6:(k:Int) < (n:Int):=by omega
   generalize ps[k]=P at f1 f2;clear K1 K2;go_wp2
   go_quiet (fail)
   go_wp2;go_roundw
   case rel=>exact ⟨k+1,q+nq,by omega,by go_num,by first | rfl | rw [World.drewN_drewN]⟩
   case measure=>simp [intOf]; omega
  ·have q6:¬ (k:Int) < (n:Int):=by omega
   go_wp2;go_ret;exact ⟨rfl,q,rfl⟩
set_option maxHeartbeats 2000000 in
set_option maxRecDepth 100000 in
theorem rsame14_any (d:Dc) (ts ns ts' ns':Value) (w:World) (hsm:SmallD 140737488355328 d) (h1:TusAt w ts d.tuples) (h2:StrsAt w ns d.notes) (h3:TusAt w ts' d.tuples) (h4:StrsAt w ns' d.notes) :
  Calls Tryz.prog 15 #[docV d ts ns,docV d ts' ns'] w fun e w'=>e=.returned (.bool true)∧Below w.heap.size w w':=by
 obtain ⟨en,tl,nl⟩:=d;simp only at h1 h2 h3 h4;have hz1:=hsm.tl;have hz2:=hsm.nl;simp only at hz1 hz2;unfold docV
 simp only
 have KT:=hid (fun w' (hb:Below w.heap.size w w')=>rtexts_same ns ns' nl w' (h2.below hb) (h4.below hb) (by omega));obtain ⟨ta,tc,rfl,htc⟩:=h1;obtain ⟨ta',tc',rfl,htc'⟩:=h3;obtain ⟨na,nc,rfl,_⟩:=h2;obtain ⟨na',nc',rfl,_⟩:=h4;have HTC:=hid htc;have HTC2:=hid htc';obtain ⟨tn,htn⟩:∃ tn,tn=tl.length:=⟨_,rfl⟩
 obtain ⟨nn,hnn⟩:∃ nn,nn=nl.length:=⟨_,rfl⟩
 rw [← htn] at hz1 ⊢;rw [← hnn] at hz2 KT ⊢;have HTN:=hid htn;clear htc htc' htn hnn hsm;have r1:=rc_row3 w (.string ⟨en.toArray⟩) (.slice ta tn tc) (.slice na nn nc) 28;have b1:Below w.heap.size w (w.alloc (.cells #[.string ⟨en.toArray⟩,.slice ta tn tc,.slice na nn nc] 28)):=(Below.refl _ w).alloc (Nat.le_refl _) _;have l1:=alloc_lt w (.cells #[.string ⟨en.toArray⟩,.slice ta tn tc,.slice na nn nc] 28);have s1:(w.alloc (.cells #[.string ⟨en.toArray⟩,.slice ta tn tc,.slice na nn nc] 28)).heap.size=w.heap.size+1:=by simp
 have hR:RowIs ((w.alloc (.cells #[.string ⟨en.toArray⟩,.slice ta tn tc,.slice na nn nc] 28)).alloc (.cells #[.string ⟨en.toArray⟩,.slice ta' tn tc',.slice na' nn nc'] 28)) w.heap.size 28 [.string ⟨en.toArray⟩,.slice ta tn tc,.slice na nn nc]:=r1.below ((Below.refl _ _).alloc (Nat.le_refl _) _) l1;have hR2:=rc_row3 (w.alloc (.cells #[.string ⟨en.toArray⟩,.slice ta tn tc,.slice na nn nc] 28)) (.string ⟨en.toArray⟩) (.slice ta' tn tc') (.slice na' nn nc') 28;rw [s1] at hR2;have hB:Below w.heap.size w ((w.alloc (.cells #[.string ⟨en.toArray⟩,.slice ta tn tc,.slice na nn nc] 28)).alloc (.cells #[.string ⟨en.toArray⟩,.slice ta' tn tc',.slice na' nn nc'] 28)):=b1.alloc b1.size _;obtain ⟨x0,x1,x2,_,_,_⟩:=hR.rc3;obtain ⟨y0,y1,y2,_,_,_⟩:=hR2.rc3;clear r1 b1 l1 s1 hR hR2
 go_enter Tryz.func15,Tryz.ntmps15
 go_wp2_with fail
 generalize World.alloc (World.alloc w _) _=W at x0 x1 x2 y0 y1 y2 hB ⊢;refine (KT.out _ hB).mono ?_
 rintro e w1 ⟨rfl,q0,rfl⟩;go_wp2
 go_loopw [5] (fun i wr=>∃ (k q:Nat),k≤tn∧i=.int .i64 k∧wr=W.drewN q) (fun i _=>tn - (intOf i).toNat)
 case atStart=>exact ⟨0,q0,Nat.zero_le _,rfl,rfl⟩
 case round =>
  obtain ⟨k,q,hk,rfl,rfl⟩:=hrel;by_cases hlt:k < tn
  ·obtain ⟨d1,rfl,m1,f⟩:=HTC.out k (by have:=HTN.out; omega);obtain ⟨d2,rfl,m2,g⟩:=HTC2.out k (by have:=HTN.out; omega);have f:=f.below hB m1;have g:=g.below hB m2;have q6:(k:Int) < (tn:Int):=by omega
   generalize tl[k]=P at f g;obtain ⟨p0,p1,p2,p3,p4⟩:=P;obtain ⟨f0,f1,f2,f3,f4⟩:=f;obtain ⟨g0,g1,g2,g3,g4⟩:=g;simp only at f0 f1 f2 f3 f4 g0 g1 g2 g3 g4;have e0:(p0==p0)=true:=by simp
   have e2:(p2==p2)=true:=by simp
   have e3:(p3==p3)=true:=by simp
   have e4:(p4==p4)=true:=by simp
   clear HTC HTC2;go_wp2
   go_quiet (fail)
   go_wp2;go_roundw
   case rel=>exact ⟨k+1,q+nq,by omega,by go_num,by first | rfl | rw [World.drewN_drewN]⟩
   case measure=>simp [intOf]; omega
  ·have q6:¬ (k:Int) < (tn:Int):=by omega
   go_wp2;go_ret;exact ⟨rfl,hB.trans (below_drewN W q |>.mono hB.size)⟩
end Go.Proofs.YtldkidljjbkmbaaGreatDoor
namespace Go.Proofs.YtldkidljjbkmbaaGreatDoor
open Go.RowKit Go.Maps Go.WideMaps Sc
set_option maxHeartbeats 1000000 in
set_option maxRecDepth 100000 in
theorem t17_any (s:ByteArray) (o:Bool) (w:World):Calls Tryz.prog 18 #[.string s,.bool o] w fun e w'=>e=.returned (.agg #[.string s,.bool o,.string ⟨#[]⟩,.int .i64 (-1),.string ⟨#[]⟩])∧Below w.heap.size w w':=by
 have KP:=hid (And.intro (rc_row5 w (.string s) (.bool o) (.string ⟨#[]⟩) (.int .i64 (-1)) (.string ⟨#[]⟩) 48) ((Below.refl _ w).alloc (Nat.le_refl _) (.cells #[.string s,.bool o,.string ⟨#[]⟩,.int .i64 (-1),.string ⟨#[]⟩] 48)))
 go_enter Tryz.func18,Tryz.ntmps18
 go_wp2
 try simp only [Exit.inBlock,Exit.then]
 generalize World.alloc _ _=w9 at KP ⊢;obtain ⟨d0,d1,d2,d3,d4,_⟩:=KP.out.1.rc5;refine bodyPost_ret (v:=.agg #[.string s,.bool o,.string ⟨#[]⟩,.int .i64 (-1),.string ⟨#[]⟩]) (by simp [results,Tryz.results18,go_sem,d0,d1,d2,d3,d4]; try rfl) rfl ?_
 exact ⟨rfl,KP.out.2⟩
theorem tu_own1 (W:World) (B:Nat) (hB:B≤W.heap.size) (t:Tu):OwnU (W.alloc (.cells #[.string ⟨t.id.toArray⟩,.bool t.opn,.string ⟨t.contact.toArray⟩,.int .i64 t.prio,.string ⟨t.note.toArray⟩] 48)) B (.slice (some ⟨W.heap.size,0,none⟩) 1 1) [t] :=
 ⟨rfl,.inr ⟨_,_,(tuCells t).toArray,rfl,hB,heap_alloc_new _ _,Nat.le_refl _,by unfold maxLen; omega,rfl,by simp [tusCells,tuCells]⟩⟩
theorem tu_own2 (W:World) (B:Nat) (hB:B≤W.heap.size) (t u:Tu):OwnU (W.alloc (.cells #[.string ⟨t.id.toArray⟩,.bool t.opn,.string ⟨t.contact.toArray⟩,.int .i64 t.prio,.string ⟨t.note.toArray⟩,.string ⟨u.id.toArray⟩,.bool u.opn,.string ⟨u.contact.toArray⟩,.int .i64 u.prio,.string ⟨u.note.toArray⟩] 48)) B (.slice (some ⟨W.heap.size,0,none⟩) 2 2) [t,u] :=
 ⟨rfl,.inr ⟨_,_,(tuCells t++tuCells u).toArray,rfl,hB,heap_alloc_new _ _,Nat.le_refl _,by unfold maxLen; omega,rfl,by simp [tusCells,tuCells]⟩⟩
theorem tu_own3 (W:World) (B:Nat) (hB:B≤W.heap.size) (t u x:Tu):OwnU (W.alloc (.cells #[.string ⟨t.id.toArray⟩,.bool t.opn,.string ⟨t.contact.toArray⟩,.int .i64 t.prio,.string ⟨t.note.toArray⟩,.string ⟨u.id.toArray⟩,.bool u.opn,.string ⟨u.contact.toArray⟩,.int .i64 u.prio,.string ⟨u.note.toArray⟩,.string ⟨x.id.toArray⟩,.bool x.opn,.string ⟨x.contact.toArray⟩,.int .i64 x.prio,.string ⟨x.note.toArray⟩] 48)) B (.slice (some ⟨W.heap.size,0,none⟩) 3 3) [t,u,x] :=
 ⟨rfl,.inr ⟨_,_,(tuCells t++(tuCells u++tuCells x)).toArray,rfl,hB,heap_alloc_new _ _,Nat.le_refl _,by unfold maxLen; omega,rfl,by simp [tusCells,tuCells]⟩⟩
theorem pb_own2 (W:World) (B:Nat) (hB:B≤W.heap.size) (c d:PbC):OwnPb (W.alloc (.cells #[.int .i64 c.p.num,.string ⟨c.p.who.toArray⟩,.string ⟨c.p.tag.toArray⟩,.int .i64 c.p.til,.string ⟨c.p.doc.entity.toArray⟩,c.ts,c.ns,.int .i64 d.p.num,.string ⟨d.p.who.toArray⟩,.string ⟨d.p.tag.toArray⟩,.int .i64 d.p.til,.string ⟨d.p.doc.entity.toArray⟩,d.ts,d.ns] 43)) B (.slice (some ⟨W.heap.size,0,none⟩) 2 2) [c,d] :=
 ⟨rfl,.inr ⟨_,_,(pbCells c++pbCells d).toArray,rfl,hB,heap_alloc_new _ _,Nat.le_refl _,by unfold maxLen; omega,rfl,by simp [pbsCells,pbCells]⟩⟩
theorem OwnU.capC {w:World} {B:Nat} {v:Value} {ts:List Tu} (h:OwnU w B v ts):CapTu v:=by
 intro a n c e
 rcases h.2 with ⟨rfl,_⟩ | ⟨g,cap,cur,rfl,_,_,hle,_⟩
 ·injection e; omega
 ·injection e with _ q1 q2
  subst q1 q2;exact hle
def aw1:Tu:=⟨[116],true,[],-1,[]⟩
def aw2:Tu:=⟨[116],false,[],-1,[]⟩
def aw3:Tu:=⟨[117],true,[],-1,[]⟩
def aw4:Tu:=⟨[112,50,45,49],false,[],-1,[]⟩
def awP1:Pb:=⟨1,[],[],0,⟨[97,64,98],[aw1],[]⟩⟩
def awP2:Pb:=⟨2,[],[],0,⟨[97,64,98],[aw2,aw3],[]⟩⟩
theorem aw17_is:compC [97,64,98] [awP1,awP2]=(⟨[97,64,98],[aw1,aw4,aw3],[]⟩,0):=by kernel_rfl
theorem strs_nilC (w:World):StrsAt w (.slice none 0 0) []:=⟨none,0,rfl,fun k hk=>by simp at hk⟩
theorem aw_small (l:List Tu) (hl:l.length≤16) (h:∀ t ∈ l,t=aw1∨t=aw2∨t=aw3∨t=aw4):SmallD 140737488355328 ⟨[97,64,98],l,[]⟩:=by
 refine ⟨by simp,by simp only; omega,by simp,fun t ht=>?_,by simp⟩
 rcases h t ht with rfl | rfl | rfl | rfl <;> exact ⟨by decide,by decide,by decide,by decide⟩
theorem aw_ok {w:World} {v1 v2:Value} (h1:OwnU w 0 v1 [aw1]) (h2:OwnU w 0 v2 [aw2,aw3]):PbsOk w [⟨awP1,v1,.slice none 0 0⟩,⟨awP2,v2,.slice none 0 0⟩]:=by
 refine ⟨fun c hc=>?_,fun c hc=>?_,fun c hc=>?_⟩ <;> (simp only [List.mem_cons,List.mem_nil_iff,or_false] at hc; rcases hc with rfl | rfl)
 ·exact ⟨h1.tusAt,strs_nilC w⟩
 ·exact ⟨h2.tusAt,strs_nilC w⟩
 ·exact h1.capC
 ·exact h2.capC
 ·exact ⟨aw_small _ (by decide) (by simp),by show (3+4:Nat)≤1048640; omega⟩
 ·exact ⟨aw_small _ (by decide) (by simp),by show (3+4:Nat)≤1048640; omega⟩
theorem aw_lay (w3:World) (g1:Nat) (h:OwnU w3 0 (.slice (some ⟨g1,0,none⟩) 1 1) [aw1]) :
  (OwnPb ((w3.alloc (.cells #[.string ⟨#[116]⟩,.bool false,.string ⟨#[]⟩,.int .i64 (-1),.string ⟨#[]⟩,.string ⟨#[117]⟩,.bool true,.string ⟨#[]⟩,.int .i64 (-1),.string ⟨#[]⟩] 48)).alloc (.cells #[.int .i64 1,.string ⟨#[]⟩,.string ⟨#[]⟩,.int .i64 0,.string ⟨#[97,64,98]⟩,.slice (some ⟨g1,0,none⟩) 1 1,.slice none 0 0,.int .i64 2,.string ⟨#[]⟩,.string ⟨#[]⟩,.int .i64 0,.string ⟨#[97,64,98]⟩,.slice (some ⟨w3.heap.size,0,none⟩) 2 2,.slice none 0 0] 43)) 0 (.slice (some ⟨w3.heap.size+1,0,none⟩) 2 2) [⟨awP1,.slice (some ⟨g1,0,none⟩) 1 1,.slice none 0 0⟩,⟨awP2,.slice (some ⟨w3.heap.size,0,none⟩) 2 2,.slice none 0 0⟩]) ∧
  OwnU ((w3.alloc (.cells #[.string ⟨#[116]⟩,.bool false,.string ⟨#[]⟩,.int .i64 (-1),.string ⟨#[]⟩,.string ⟨#[117]⟩,.bool true,.string ⟨#[]⟩,.int .i64 (-1),.string ⟨#[]⟩] 48)).alloc (.cells #[.int .i64 1,.string ⟨#[]⟩,.string ⟨#[]⟩,.int .i64 0,.string ⟨#[97,64,98]⟩,.slice (some ⟨g1,0,none⟩) 1 1,.slice none 0 0,.int .i64 2,.string ⟨#[]⟩,.string ⟨#[]⟩,.int .i64 0,.string ⟨#[97,64,98]⟩,.slice (some ⟨w3.heap.size,0,none⟩) 2 2,.slice none 0 0] 43)) 0 (.slice (some ⟨g1,0,none⟩) 1 1) [aw1] ∧
  OwnU ((w3.alloc (.cells #[.string ⟨#[116]⟩,.bool false,.string ⟨#[]⟩,.int .i64 (-1),.string ⟨#[]⟩,.string ⟨#[117]⟩,.bool true,.string ⟨#[]⟩,.int .i64 (-1),.string ⟨#[]⟩] 48)).alloc (.cells #[.int .i64 1,.string ⟨#[]⟩,.string ⟨#[]⟩,.int .i64 0,.string ⟨#[97,64,98]⟩,.slice (some ⟨g1,0,none⟩) 1 1,.slice none 0 0,.int .i64 2,.string ⟨#[]⟩,.string ⟨#[]⟩,.int .i64 0,.string ⟨#[97,64,98]⟩,.slice (some ⟨w3.heap.size,0,none⟩) 2 2,.slice none 0 0] 43)) 0 (.slice (some ⟨w3.heap.size,0,none⟩) 2 2) [aw2,aw3] ∧
  Below w3.heap.size w3 ((w3.alloc (.cells #[.string ⟨#[116]⟩,.bool false,.string ⟨#[]⟩,.int .i64 (-1),.string ⟨#[]⟩,.string ⟨#[117]⟩,.bool true,.string ⟨#[]⟩,.int .i64 (-1),.string ⟨#[]⟩] 48)).alloc (.cells #[.int .i64 1,.string ⟨#[]⟩,.string ⟨#[]⟩,.int .i64 0,.string ⟨#[97,64,98]⟩,.slice (some ⟨g1,0,none⟩) 1 1,.slice none 0 0,.int .i64 2,.string ⟨#[]⟩,.string ⟨#[]⟩,.int .i64 0,.string ⟨#[97,64,98]⟩,.slice (some ⟨w3.heap.size,0,none⟩) 2 2,.slice none 0 0] 43)):=by
 have hB:=tu_own2 w3 0 (Nat.zero_le _) aw2 aw3;have h4:=h.alloc (.cells #[.string ⟨#[116]⟩,.bool false,.string ⟨#[]⟩,.int .i64 (-1),.string ⟨#[]⟩,.string ⟨#[117]⟩,.bool true,.string ⟨#[]⟩,.int .i64 (-1),.string ⟨#[]⟩] 48);have b4:Below w3.heap.size w3 (w3.alloc (.cells #[.string ⟨#[116]⟩,.bool false,.string ⟨#[]⟩,.int .i64 (-1),.string ⟨#[]⟩,.string ⟨#[117]⟩,.bool true,.string ⟨#[]⟩,.int .i64 (-1),.string ⟨#[]⟩] 48)):=(Below.refl _ w3).alloc (Nat.le_refl _) _;have hs:(w3.alloc (.cells #[.string ⟨#[116]⟩,.bool false,.string ⟨#[]⟩,.int .i64 (-1),.string ⟨#[]⟩,.string ⟨#[117]⟩,.bool true,.string ⟨#[]⟩,.int .i64 (-1),.string ⟨#[]⟩] 48)).heap.size=w3.heap.size+1:=by simp
 have hB':OwnU (w3.alloc (.cells #[.string ⟨#[116]⟩,.bool false,.string ⟨#[]⟩,.int .i64 (-1),.string ⟨#[]⟩,.string ⟨#[117]⟩,.bool true,.string ⟨#[]⟩,.int .i64 (-1),.string ⟨#[]⟩] 48)) 0 (.slice (some ⟨w3.heap.size,0,none⟩) 2 2) [aw2,aw3]:=hB;generalize w3.alloc _=W4 at h4 b4 hs hB' ⊢;have hP:=pb_own2 (W4) 0 (Nat.zero_le _) ⟨awP1,.slice (some ⟨g1,0,none⟩) 1 1,.slice none 0 0⟩ ⟨awP2,.slice (some ⟨w3.heap.size,0,none⟩) 2 2,.slice none 0 0⟩;rw [hs] at hP;exact ⟨hP,h4.alloc _,hB'.alloc _,b4.alloc b4.size _⟩
set_option maxHeartbeats 4000000 in
set_option maxRecDepth 100000 in
theorem awake17_any (w:World):Calls Tryz.prog 10 #[] w fun e w'=>e=.returned (.bool true)∧Below w.heap.size w w':=by
 have KT:=hid (fun (s:ByteArray) (o:Bool) (u:World)=>t17_any s o u)
 have KC:=hid (fun (u:World) (v v1 v2:Value) (h:OwnPb u 0 v [⟨awP1,v1,.slice none 0 0⟩,⟨awP2,v2,.slice none 0 0⟩]) (h1:OwnU u 0 v1 [aw1]) (h2:OwnU u 0 v2 [aw2,aw3])=>show Calls Tryz.prog 11 #[.string ⟨#[97,64,98]⟩,v] u fun e w'=>∃ vt vn,e=.returned (.tuple #[docV ⟨[97,64,98],[aw1,aw4,aw3],[]⟩ vt vn,.int .i64 0])∧DocG u.heap.size w' ⟨[97,64,98],[aw1,aw4,aw3],[]⟩ vt vn∧Below u.heap.size u w' from by
  have h:=ccomp_any (who:=[97,64,98]) h.pbsAt (aw_ok h1 h2) (by decide) (by show (2:Nat)≤2000000; omega) (fun c hc=>by simp only [List.mem_cons,List.mem_nil_iff,or_false] at hc; rcases hc with rfl | rfl; exact (show (1:Int)≤9223372036854775807 by omega); exact (show (2:Int)≤9223372036854775807 by omega));rw [show pbsL [⟨awP1,v1,.slice none 0 0⟩,⟨awP2,v2,.slice none 0 0⟩]=[awP1,awP2] from rfl,aw17_is] at h;exact h)
 unfold docV at KC;have KS:=hid (fun (u:World) (vt vn vt':Value) (h1:TusAt u vt [aw1,aw4,aw3]) (h2:StrsAt u vn []) (h3:TusAt u vt' [aw1,aw4,aw3])=>rsame14_any ⟨[97,64,98],[aw1,aw4,aw3],[]⟩ vt vn vt' (.slice none 0 0) u (aw_small _ (by decide) (by simp)) h1 h2 h3 (strs_nilC u));unfold docV at KS
 go_enter Tryz.func10,Tryz.ntmps10
 go_wp2_with fail
 refine (KT.out _ _ _).mono ?_
 rintro e w1 ⟨rfl,hb1⟩;have hA:=hid (tu_own1 w1 0 (Nat.zero_le _) aw1);have bel:=hid (hb1.alloc hb1.size (.cells #[.string ⟨aw1.id.toArray⟩,.bool aw1.opn,.string ⟨aw1.contact.toArray⟩,.int .i64 aw1.prio,.string ⟨aw1.note.toArray⟩] 48));clear hb1;go_wp2_with fail
 refine (KT.out _ _ _).mono ?_
 rintro e w2 ⟨rfl,hb2⟩;have hA:=hid (hA.out.below hb2);have bel:=hid (bel.out.trans (hb2.mono bel.out.size));clear hb2;go_wp2_with fail
 refine (KT.out _ _ _).mono ?_
 rintro e w3 ⟨rfl,hb3⟩;have hA:=hid (hA.out.below hb3);have bel:=hid (bel.out.trans (hb3.mono bel.out.size));clear hb3;generalize w1.heap.size=g1 at hA ⊢;have L:=hid (aw_lay w3 g1 hA.out);clear hA;go_wp2_with fail
 generalize World.alloc (World.alloc _ _) _=W5 at L ⊢;refine (KC.out W5 _ _ _ L.out.1 L.out.2.1 L.out.2.2.1).mono ?_
 rintro e w6 ⟨vt,vn,rfl,hG,hb6⟩;obtain ⟨ta,tc,rfl⟩:=hG.t.form;obtain ⟨na,nc,hvn⟩:=own_formP hG.n;subst hvn;simp only [strs,List.length_map,List.length_nil,List.length_cons,Nat.zero_add,Nat.reduceAdd] at *;have bel:=hid (bel.out.trans ((L.out.2.2.2.trans (hb6.mono L.out.2.2.2.size)).mono bel.out.size));have R1:=hid (rc_row3 w6 (.string ⟨#[97,64,98]⟩) (.slice ta 3 tc) (.slice na 0 nc) 28);have b7:Below w6.heap.size w6 (w6.alloc (.cells #[.string ⟨#[97,64,98]⟩,.slice ta 3 tc,.slice na 0 nc] 28)).drew:=((Below.refl _ w6).alloc (Nat.le_refl _) _).drew;have HG:=hid (hG.below b7);have hacc:=bel.out.trans (b7.mono bel.out.size);have hR:=hid (show RowIs (w6.alloc (.cells #[.string ⟨#[97,64,98]⟩,.slice ta 3 tc,.slice na 0 nc] 28)).drew w6.heap.size 28 [.string ⟨#[97,64,98]⟩,.slice ta 3 tc,.slice na 0 nc] from R1.out);have hT:=hid HG.out.t.tusAt;have hN:=hid (strsAt_own HG.out.n);clear b7 hb6 hG bel R1 HG L KC
 go_upto_region 3 with fail
 generalize w6.heap.size=g6 at hR ⊢;generalize World.alloc _ _=u6 at hR hT hN hacc ⊢;obtain ⟨x0,x1,x2,_,_,_⟩:=hR.out.rc3
 go_region_held3 (fun w'=>w'.cell? ⟨g6,0,none⟩=some (.string ⟨#[97,64,98]⟩)∧w'.cell? ⟨g6,1,none⟩=some (.slice ta 3 tc)∧w'.cell? ⟨g6,2,none⟩=some (.slice na 0 nc)) (go_keep) (first
  | (go_at_call 18; refine (KT.out _ _ _).mono ?_; rintro e w7 ⟨rfl,hw7⟩; have hT:=hid (hT.out.below hw7); have hN:=hid (hN.out.below hw7); have hR:=hid (RowIs.below hR.out hw7 hR.out.bl); have hacc:=hacc.trans (hw7.mono hacc.size); clear x0 x1 x2; obtain ⟨x0,x1,x2,_,_,_⟩:=hR.out.rc3; clear hw7)
  | (go_at_call 15; refine (KS.out _ _ _ _ (hT.out.below ((Below.refl _ _).alloc (Nat.le_refl _) _)) (hN.out.below ((Below.refl _ _).alloc (Nat.le_refl _) _)) (tu_own3 _ 0 (Nat.zero_le _) aw1 aw4 aw3).tusAt).mono ?_; rintro e w8 ⟨rfl,hw8⟩; have hR:=hid (RowIs.below (RowIs.below hR.out ((Below.refl _ _).alloc (Nat.le_refl _) _) hR.out.bl) hw8 (Nat.lt_of_lt_of_le hR.out.bl ((Below.refl _ _).alloc (Nat.le_refl _) _).size)); clear x0 x1 x2; obtain ⟨x0,x1,x2,_,_,_⟩:=hR.out.rc3; have hacc:=(hacc.alloc hacc.size _).trans (hw8.mono (Below.size (hacc.alloc hacc.size _))); clear hw8))
 all_goals (
  go_wp2;go_ret;exact ⟨rfl,hacc⟩)
theorem str_offC (s:ByteArray):∃ l:List UInt8,s=⟨l.toArray⟩:=⟨s.data.toList,by apply ByteArray.ext; simp⟩
theorem DocG.forms {B:Nat} {w:World} {d:Dc} {vt vn:Value} (h:DocG B w d vt vn):∃ ta tc na nc,vt=.slice ta d.tuples.length tc∧vn=.slice na d.notes.length nc:=by
 obtain ⟨ta,tc,e1⟩:=h.t.form;obtain ⟨na,nc,e2⟩:=own_formP h.n;rw [show (strs d.notes).length=d.notes.length by simp [strs]] at e2;exact ⟨ta,tc,na,nc,e1,e2⟩
end Go.Proofs.YtldkidljjbkmbaaGreatDoor
namespace Go.Proofs.YtldkidljjbkmbaaGreatDoor
open Go.RowKit Sc
theorem ent_len {d:Dc} (h:checkD d=0):d.entity.length≤257:=by
 obtain ⟨h1,_⟩:=checkD_ok h;obtain ⟨u,k1,k2,k3⟩:=host_is h1;rw [k3]; exact whoT_len k1
theorem ident_len {s:List UInt8} (h:identP s=true):s.length≤64:=by
 simp only [identP,Bool.and_eq_true,decide_eq_true_eq] at h; exact h.2.2
theorem small_checked {d:Dc} (h:checkD d=0):SmallD 1048576 d:=by
 obtain ⟨h1,h2,h3,h4,h5,h6⟩:=checkD_ok h;refine ⟨by have:=ent_len h; omega,by omega,by omega,fun t ht=>?_,fun s hs=>?_⟩
 ·obtain ⟨k1,k2,k3,k4,k5,_⟩:=tupP_facts (h4 t ht)
  have:=ident_len k1
  have:=(textP_facts k2).1
  have:=(textP_facts k3).1
  refine ⟨by omega,by omega,by omega,?_⟩
  simp only [Lit.wf,IntKind.min,IntKind.max,IntKind.signed,IntKind.bits,Bool.and_eq_true,decide_eq_true_eq,if_true];omega
 ·have:=h6 s hs
  simp only [noteP,Bool.and_eq_true] at this
  have:=(textP_facts this.2).1
  omega
end Go.Proofs.YtldkidljjbkmbaaGreatDoor
