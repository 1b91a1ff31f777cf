/-
  PubDo9, PtP, PtR, PtQ, PtT, WPubKeeps.
-/
import Derived.Test.YteicmbhilambpaaGreatDoorPU32
import Derived.Test.YteicmbhilambpaaGreatDoorPU34
set_option linter.unusedVariables false
set_option linter.unusedSimpArgs false
set_option maxRecDepth 20000
namespace Go.Proofs.YteicmbhilambpaaGreatDoor
open Go.RowKit Sc
set_option maxHeartbeats 1000000 in
theorem rdo16_any {w:World} {B0:Nat} {v:Value} {s:Sto} {cs:List PbC} (ho:OwnPb w B0 v cs) (hd:DocsAt w cs) (hs:s.l=pbsL cs) (hn100:cs.length≤100000) (hr:rightC s.c=true) (hl0:0≤s.last) (hl9:s.last≤1000000000) (now:Int) (a:Pa) (ts ns:Value) (htg:a.tag.length≤140737488355328)
  (ht:a.has=true → TusAt w ts a.doc.tuples∧StrsAt w ns a.doc.notes) (hsm:a.has=true → SmallD 140737488355328 a.doc) (hen:a.has=true → a.doc.entity.length+4≤1048576) :
  Calls Tryz.prog 17 #[stoV s v,.int .i64 now,askV a ts ns] w fun e w'=>DoRes (doS s now a) v cs a ts ns w e w':=by
 obtain ⟨sc,last,l⟩:=s;simp only at hs hr hl0 hl9;subst hs;have h:=ho.pbsAt;have hz:=ho.zero;have hn:cs.length≤1000000:=by omega
 obtain ⟨hr1,hr2⟩:=secC_rng hr a.exp;by_cases q0:now < 0
 ·exact rdo16_one h hd rfl now a ts ns (by unfold badA; rw [decide_eq_true q0]; rfl) q0
 have d0:decide (now < 0)=false:=decide_eq_false q0;by_cases q1:549755813888 < now
 ·rw [doS_badY (by unfold badA; rw [d0,decide_eq_true q1]; rfl)];exact rdo16_b2 h hd rfl hn now a ts ns htg ht hsm hen d0 (decide_eq_true q1)
 have d1:decide (549755813888 < now)=false:=decide_eq_false q1
 cases htok:tokenB a.tag
 ·rw [doS_badY (by unfold badA; rw [d0,d1,htok]; rfl)];exact rdo16_b3 h hd rfl hn now a ts ns htg ht hsm hen d0 d1 htok
 by_cases q2:0≤placeP (pbsL cs) a.tag
 ·rw [doS_badY (by unfold badA; rw [d0,d1,htok,decide_eq_true q2]; rfl)];exact rdo16_b4 h hd rfl hn now a ts ns htg ht hsm hen d0 d1 htok (decide_eq_true q2)
 have hpl:decide (0≤placeP (pbsL cs) a.tag)=false:=decide_eq_false q2
 cases hh:a.has
 ·have h1:badA ⟨sc,last,pbsL cs⟩ now a=false:=by unfold badA; rw [d0,d1,htok,hpl,hh]; rfl
  cases hmt:a.mt.isEmpty
  ·have h4:a.mt ≠ []:=by intro e; rw [e] at hmt; cases hmt
   rcases idx_two (pbsL cs) a.mt with ⟨i1,i2,i3⟩ | ⟨k,hk0,i1,i2,i3,_⟩
   ·rw [doS_none h1 (none_yes h4 i3)];exact rdo16_w412a0 h hd rfl hn now a ts ns htg ht hsm hen d0 d1 htok hpl hh _ _ rfl rfl hmt (decide_eq_true (by rw [i2]; decide))
   ·have hk:k < cs.length:=by rw [← pbsL_len]; exact hk0
    have hwk:(pbsL cs)[k].who=cs[k].p.who:=by simp [pbsL]
    cases hw:(cs[k].p.who==a.who)
    ·rw [doS_none h1 (none_other (k:=k) h4 hk0 i1 (by rw [hwk]; simpa using hw))];exact rdo16_w412b0 h hd rfl hn now a ts ns htg ht hsm hen d0 d1 htok hpl hh _ _ rfl rfl hmt k hk i2 hw
    ·have h2:noneP ⟨sc,last,pbsL cs⟩ a=false:=none_no (k:=k) hk0 i1 i2 (by rw [hwk]; simpa using hw)
     cases h3:(secC sc a.exp).2
     ·rw [doS_short h1 h2 h3];exact rdo16_w423b0 h hd rfl hn now a ts ns htg ht hsm hen d0 d1 htok hpl hh _ rfl h3 hmt k hk i2 hw
     ·by_cases q4:(secC sc a.exp).1=0
      ·rw [doS_stop h1 h2 h3 h4 (by rw [hh]; simp) q4,i1];exact rdo16_stop h hd rfl hn now a ts ns htg ht hsm hen d0 d1 htok hpl hh _ rfl h3 hmt k hk i2 hw (by simpa using q4) hn100
      ·rw [doS_goes h1 h2 h3 h4 (by rw [hh]; simp) q4,i1];exact rdo16_goes0 h hd rfl hn now a ts ns htg ht hsm hen d0 d1 htok hpl hh _ rfl h3 hmt k hk i2 hw (by simpa using q4) hn100 hr1 hr2 (by omega) (by omega)
  ·have h4:a.mt=[]:=by simpa using hmt
   have h2:noneP ⟨sc,last,pbsL cs⟩ a=false:=by unfold noneP; rw [hmt]; rfl
   cases h3:(secC sc a.exp).2
   ·rw [doS_short h1 h2 h3];exact rdo16_w4230 h hd rfl hn now a ts ns htg ht hsm hen d0 d1 htok hpl hh _ rfl h3 hmt
   ·rw [doS_400 h1 h2 h3 h4 (.inl hh)];exact rdo16_w400a0 h hd rfl hn now a ts ns htg ht hsm hen d0 d1 htok hpl hh _ rfl h3 hmt
 ·by_cases q3:checkD a.doc=0
  ·have h1:badA ⟨sc,last,pbsL cs⟩ now a=false:=by unfold badA; rw [d0,d1,htok,hpl,hh,decide_eq_true q3]; rfl
   have hck:(checkD a.doc != 0)=false:=by rw [q3]; rfl
   cases hmt:a.mt.isEmpty
   ·have h4:a.mt ≠ []:=by intro e; rw [e] at hmt; cases hmt
    rcases idx_two (pbsL cs) a.mt with ⟨i1,i2,i3⟩ | ⟨k,hk0,i1,i2,i3,_⟩
    ·rw [doS_none h1 (none_yes h4 i3)];exact rdo16_w412a1 h hd rfl hn now a ts ns htg ht hsm hen d0 d1 htok hpl hh hck _ _ rfl rfl hmt (decide_eq_true (by rw [i2]; decide))
    ·have hk:k < cs.length:=by rw [← pbsL_len]; exact hk0
     have hwk:(pbsL cs)[k].who=cs[k].p.who:=by simp [pbsL]
     cases hw:(cs[k].p.who==a.who)
     ·rw [doS_none h1 (none_other (k:=k) h4 hk0 i1 (by rw [hwk]; simpa using hw))];exact rdo16_w412b1 h hd rfl hn now a ts ns htg ht hsm hen d0 d1 htok hpl hh hck _ _ rfl rfl hmt k hk i2 hw
     ·have h2:noneP ⟨sc,last,pbsL cs⟩ a=false:=none_no (k:=k) hk0 i1 i2 (by rw [hwk]; simpa using hw)
      cases h3:(secC sc a.exp).2
      ·rw [doS_short h1 h2 h3];exact rdo16_w423b1 h hd rfl hn now a ts ns htg ht hsm hen d0 d1 htok hpl hh hck _ rfl h3 hmt k hk i2 hw
      ·by_cases q4:(secC sc a.exp).1=0
       ·rw [doS_400b h1 h2 h3 h4 ⟨hh,q4⟩];exact rdo16_w400b h hd rfl hn now a ts ns htg ht hsm hen d0 d1 htok hpl hh hck _ rfl h3 hmt (by simpa using q4) k hk i2 hw
       ·rw [doS_goes h1 h2 h3 h4 (fun x=>q4 x.2) q4,i1];exact rdo16_goes1 h hd rfl hn now a ts ns htg ht hsm hen d0 d1 htok hpl hh hck _ rfl h3 hmt k hk i2 hw (by simpa using q4) hn100 hr1 hr2 (by omega) (by omega)
   ·have h4:a.mt=[]:=by simpa using hmt
    have h2:noneP ⟨sc,last,pbsL cs⟩ a=false:=by unfold noneP; rw [hmt]; rfl
    cases h3:(secC sc a.exp).2
    ·rw [doS_short h1 h2 h3];exact rdo16_w4231 h hd rfl hn now a ts ns htg ht hsm hen d0 d1 htok hpl hh hck _ rfl h3 hmt
    ·by_cases q4:(secC sc a.exp).1=0
     ·rw [doS_400 h1 h2 h3 h4 (.inr q4)];exact rdo16_w400a1 h hd rfl hn now a ts ns htg ht hsm hen d0 d1 htok hpl hh hck _ rfl h3 hmt (by simpa using q4)
     ·have q5:¬ (a.has=false∨(secC sc a.exp).1=0):=by rw [hh]; simp [q4]
      by_cases q6:sc.pubs≤(cs.length:Int)
      ·rw [doS_full h1 h2 h3 h4 q5 (by rw [pbsL_len]; exact q6)];exact rdo16_w503 h hd rfl hn now a ts ns htg ht hsm hen d0 d1 htok hpl hh hck _ rfl h3 hmt (by simpa using q4) (decide_eq_true q6)
      ·rw [doS_begin h1 h2 h3 h4 q5 (by rw [pbsL_len]; exact q6)];exact rdo16_begin h hd rfl hn now a ts ns htg ht hsm hen d0 d1 htok hpl hh hck _ rfl h3 hmt (by simpa using q4) (decide_eq_false q6) hl0 hl9 hr1 hr2 (by omega) (by omega) hn100 hz
  ·rw [doS_badY (by unfold badA; rw [d0,d1,htok,hpl,hh,decide_eq_false q3]; rfl)];exact rdo16_b5 h hd rfl hn now a ts ns htg ht hsm hen d0 d1 htok hpl hh (by simpa using q3)
end Go.Proofs.YteicmbhilambpaaGreatDoor
namespace Go.Proofs.YteicmbhilambpaaGreatDoor
open Go.RowKit Go.Maps Go.WideMaps Sc
theorem TabP.putS {B bt:Nat} {u u':World} {s:Sto} {b:Nat} {us:List Value} (h:TabP B bt u s) (hr:RowIs u b 31 us) (hc:Chg (fun k=>k=b) u u'):TabP B bt u' s:=by
 obtain ⟨mn,ma,be,mw,cs,r,h1,h2,h3,h4,h5⟩:=h.has;exact ⟨h.right,h.ok,mn,ma,be,mw,cs,r,h1,h2,fun x hx=>⟨own_chgP (h3 x hx).1 hc hr (by decide),own_chgP (h3 x hx).2 hc hr (by decide)⟩,h4.put hr (by decide) (by decide) (by decide) (by decide) hc,h5⟩
theorem chg9 (w:World) (b:Nat) (v0 v1 v2 v3 v4 v5 v6 v7 v8:Value):Chg (fun k=>k=b) w (((((((((w.setCell ⟨b,0,none⟩ v0).setCell ⟨b,1,none⟩ v1).setCell ⟨b,2,none⟩ v2).setCell ⟨b,3,none⟩ v3).setCell ⟨b,4,none⟩ v4).setCell ⟨b,5,none⟩ v5).setCell ⟨b,6,none⟩ v6).setCell ⟨b,7,none⟩ v7).setCell ⟨b,8,none⟩ v8) :=
 (((((((((Chg.refl (fun k=>k=b) w).setCell (p:=⟨b,0,none⟩) (fun _=>rfl) _).setCell (p:=⟨b,1,none⟩) (fun _=>rfl) _).setCell (p:=⟨b,2,none⟩) (fun _=>rfl) _).setCell (p:=⟨b,3,none⟩) (fun _=>rfl) _).setCell (p:=⟨b,4,none⟩) (fun _=>rfl) _).setCell (p:=⟨b,5,none⟩) (fun _=>rfl) _).setCell (p:=⟨b,6,none⟩) (fun _=>rfl) _).setCell (p:=⟨b,7,none⟩) (fun _=>rfl) _).setCell (p:=⟨b,8,none⟩) (fun _=>rfl) _
structure AcB (u:World) (p:Addr) (x:AcP):Prop where
 c0:u.cell? p=some (.bool x.expire)
 c1:u.cell? ⟨p.block,p.off+1,none⟩=some (.int .i64 x.now)
 c2:u.cell? ⟨p.block,p.off+2,none⟩=some (.string ⟨x.a.who.toArray⟩)
 c3:u.cell? ⟨p.block,p.off+3,none⟩=some (.string ⟨x.a.mt.toArray⟩)
 c4:u.cell? ⟨p.block,p.off+4,none⟩=some (.int .i64 x.a.exp)
 c5:u.cell? ⟨p.block,p.off+5,none⟩=some (.bool x.a.has)
 c6:u.cell? ⟨p.block,p.off+6,none⟩=some (.string ⟨x.a.doc.entity.toArray⟩)
 c7:u.cell? ⟨p.block,p.off+7,none⟩=some x.ts
 c8:u.cell? ⟨p.block,p.off+8,none⟩=some x.ns
 c9:u.cell? ⟨p.block,p.off+9,none⟩=some (.string ⟨x.a.tag.toArray⟩)
theorem AcsAt.one {w u:World} {ao:Option Addr} {n cap:Nat} {cs:List AcP} (h:AcsAt w (.slice ao n cap) cs) (hb:Below w.heap.size w u) {k:Nat} (hk:k < cs.length):∃ ad,ao=some ad∧ad.block < w.heap.size∧AcB u (ad.add (k * 10)) cs[k]:=by
 obtain ⟨ao',cap',hv,hc⟩:=h
 injection hv with e1 e2 e3
 subst e1;obtain ⟨ad,ha,hlt,c⟩:=hc k hk;have g:∀ (j:Nat) (v:Value),(acpCells cs[k])[j]? = some v → u.cell? (if j=0 then ad.add (k * 10) else ⟨(ad.add (k * 10)).block,(ad.add (k * 10)).off+j,none⟩)=some v:=fun j v hj=>cell_below hb (by split <;> simp only [add_block] <;> exact hlt) (c j v hj);exact ⟨ad,ha,hlt,by simpa using g 0 _ rfl,by simpa using g 1 _ rfl,by simpa using g 2 _ rfl,by simpa using g 3 _ rfl,by simpa using g 4 _ rfl,by simpa using g 5 _ rfl,by simpa using g 6 _ rfl,by simpa using g 7 _ rfl,by simpa using g 8 _ rfl,by simpa using g 9 _ rfl⟩
theorem AcB.below {w u:World} {p:Addr} {x:AcP} (h:AcB w p x) (hb:Below w.heap.size w u) (hlt:p.block < w.heap.size):AcB u p x:=by
 have g:∀ (q:Addr) (v:Value),q.block=p.block → w.cell? q=some v → u.cell? q=some v:=fun q v e hq=>cell_below hb (by rw [e]; exact hlt) hq;exact ⟨g _ _ rfl h.c0,g _ _ rfl h.c1,g _ _ rfl h.c2,g _ _ rfl h.c3,g _ _ rfl h.c4,g _ _ rfl h.c5,g _ _ rfl h.c6,g _ _ rfl h.c7,g _ _ rfl h.c8,g _ _ rfl h.c9⟩
structure FilI (w wr:World) (bt br b3:Nat) (S:Sto) (v:Value) (cs:List PbC):Prop where
 tab:TabP w.heap.size bt wr S
 row:RowIs wr br 31 (stoL S v)
 row3:RowIs wr b3 31 stoZ
 own:OwnPb wr w.heap.size v cs
 docs:∀ u,Below w.heap.size w u → DocsAt u cs
 is:S.l=pbsL cs
 cf:S.c=plainC 3
 bel:Below w.heap.size w wr
 lr:w.heap.size≤br
 l3:w.heap.size≤b3
 ne:b3 ≠ br
section
variable {w wr w' : World} {bt br b3 : Nat} {S : Sto} {v : Value} {cs : List PbC}
theorem FilI.below (h:FilI w wr bt br b3 S v cs) (hb:Below wr.heap.size wr w'):FilI w w' bt br b3 S v cs :=
 ⟨h.tab.below hb,h.row.below hb h.row.bl,h.row3.below hb h.row3.bl,h.own.below hb,h.docs,h.is,h.cf,h.bel.trans (hb.mono h.bel.size),h.lr,h.l3,h.ne⟩
theorem FilI.few (h:FilI w wr bt br b3 S v cs):cs.length≤100000:=by
 have:=few_pubs h.tab.right h.tab.ok
 rw [h.is,pbsL_len] at this;omega
structure FilM (w wr:World) (bt br b3:Nat) (S S':Sto) (v:Value) (cs:List PbC):Prop where
 tab:TabP w.heap.size bt wr S'
 row:RowIs wr br 31 (stoL S v)
 row3:RowIs wr b3 31 stoZ
 own:OwnPb wr w.heap.size v cs
 bel:Below w.heap.size w wr
theorem FilI.mid (h:FilI w wr bt br b3 S v cs) {S':Sto} (ht:TabP w.heap.size bt w' S') (hf:FrP w.heap.size wr w'):FilM w w' bt br b3 S S' v cs :=
 ⟨ht,hf.row h.row (by decide) (by decide) (by decide) (by decide),hf.row h.row3 (by decide) (by decide) (by decide) (by decide),hf.own h.own (by decide) (by decide) (by decide) (by decide),h.bel.trans hf.below⟩
theorem FilM.below {S':Sto} (h:FilM w wr bt br b3 S S' v cs) (hb:Below wr.heap.size wr w'):FilM w w' bt br b3 S S' v cs :=
 ⟨h.tab.below hb,h.row.below hb h.row.bl,h.row3.below hb h.row3.bl,h.own.below hb,h.bel.trans (hb.mono h.bel.size)⟩
theorem FilM.done {wr':World} {S':Sto} {v':Value} {cs':List PbC} (h:FilM w wr bt br b3 S S' v cs) (hi:FilI w wr' bt br b3 S v cs) (ho:(v'=v∧cs'=cs)∨OwnPb wr w.heap.size v' cs') (hd:∀ u,Below w.heap.size w u → DocsAt u cs') (hs:S'.l=pbsL cs') (hc:S'.c=plainC 3) (hch:Chg (fun k=>k=br) wr w') (hr:RowIs w' br 31 (stoL S' v')):FilI w w' bt br b3 S' v' cs':=by
 refine ⟨h.tab.putS h.row hch,hr,?_,?_,hd,hs,hc,h.bel.trans (hch.below h.bel.size fun k e=>by subst e; exact hi.lr),hi.lr,hi.l3,hi.ne⟩
 ·exact h.row3.chg hch hi.ne
 ·rcases ho with ⟨rfl,rfl⟩ | ho
  ·exact own_chgP h.own hch h.row (by decide)
  ·exact own_chgP ho hch h.row (by decide)
end
def FilRes (w:World) (e:Ending) (w':World):Prop:=∃ (bt:Nat) (S:Sto) (v:Value) (cs:List PbC),e=.returned (.tuple #[.pointer (some ⟨bt,0,none⟩),stoV S v])∧TabP w.heap.size bt w' S∧OwnPb w' w.heap.size v cs∧(∀ u,Below w.heap.size w u → DocsAt u cs)∧S.l=pbsL cs∧S.c=plainC 3∧S.last≤20∧Below w.heap.size w w'
section
variable {w wr w' : World} {bt : Nat} {S S' : Sto} {v : Value} {cs : List PbC} {l : List (Nat × TypeId × List Value)}
theorem tySto:TyOk 31:=⟨by decide,by decide,by decide,by decide⟩
end
theorem smallD_up {B C:Nat} {d:Dc} (h:SmallD B d) (hB:B≤C):SmallD C d:=by
 obtain ⟨h1,h2,h3,h4,h5⟩:=h;refine ⟨Nat.le_trans h1 hB,Nat.le_trans h2 hB,Nat.le_trans h3 hB,fun t ht=>?_,fun l hl=>Nat.le_trans (h5 l hl) hB⟩
 obtain ⟨a,b,c,e⟩:=h4 t ht;exact ⟨Nat.le_trans a hB,Nat.le_trans b hB,Nat.le_trans c hB,e⟩
theorem acts_sma {B:Nat} {a:Pa} (h:SmallPa B a) (hB:B≤140737488355328) (hs:smallA a=true):SmA a∧a.tag.length≤140737488355328∧a.doc.entity.length+4≤1048576:=by
 unfold smallA at hs;simp only [Bool.and_eq_true,decide_eq_true_eq] at hs;obtain ⟨⟨h1,h2⟩,h3⟩:=hs;have d1:=h.doc;refine ⟨⟨by have:=h.who; omega,by have:=h.mt; omega,by have:=h.tag; omega,?_,by omega,by omega⟩,by have:=h.tag; omega,by omega⟩
 exact smallD_up d1 hB
theorem fil_start {w w1 w4:World} {bt:Nat} (hr3:RowIs w1 w.heap.size 31 stoZ) (hb1:Below w.heap.size w w1) (hT:TabP w.heap.size bt w4 ⟨plainC 3,0,[]⟩) (hb4:Below w1.heap.size w1 w4) :
  FilI w (w4.alloc (.cells #[.string ⟨#[]⟩,.int .i64 1,.int .i64 3,.int .i64 1,.int .i64 60,.int .i64 3600,.int .i64 600,.int .i64 0,.slice none 0 0] 31)) bt w4.heap.size w.heap.size ⟨plainC 3,0,[]⟩ (.slice none 0 0) []:=by
 have b5:Below w4.heap.size w4 (w4.alloc (.cells #[.string ⟨#[]⟩,.int .i64 1,.int .i64 3,.int .i64 1,.int .i64 60,.int .i64 3600,.int .i64 600,.int .i64 0,.slice none 0 0] 31)):=(Below.refl _ w4).alloc (Nat.le_refl _) _;have r5:=rc_row9 w4 (.string ⟨#[]⟩) (.int .i64 1) (.int .i64 3) (.int .i64 1) (.int .i64 60) (.int .i64 3600) (.int .i64 600) (.int .i64 0) (.slice none 0 0) 31;have hl:=hr3.bl;have hs4:=hb4.size;have r3:=hr3.below hb4 hl;exact ⟨hT.below b5,r5,r3.below b5 r3.bl,OwnPb.nil _ _,fun u _ c hc=>by simp at hc,rfl,rfl,hb1.trans ((hb4.trans (b5.mono hs4)).mono hb1.size),by have:=hb1.size; omega,Nat.le_refl _,by omega⟩
theorem fil_out {w wr:World} {bt br:Nat} {S:Sto} {v:Value} {cs:List PbC} (h:FilI w wr bt br w.heap.size S v cs) :
  let W':=(((((((((wr.setCell ⟨w.heap.size,0,none⟩ (.string ⟨S.c.host.toArray⟩)).setCell ⟨w.heap.size,1,none⟩ (.int .i64 S.c.calls)).setCell ⟨w.heap.size,2,none⟩ (.int .i64 S.c.pubs)).setCell ⟨w.heap.size,3,none⟩ (.int .i64 S.c.subs)).setCell ⟨w.heap.size,4,none⟩ (.int .i64 S.c.least)).setCell ⟨w.heap.size,5,none⟩ (.int .i64 S.c.most)).setCell ⟨w.heap.size,6,none⟩ (.int .i64 S.c.usual)).setCell ⟨w.heap.size,7,none⟩ (.int .i64 S.last)).setCell ⟨w.heap.size,8,none⟩ v)
  RowIs W' w.heap.size 31 (stoL S v)∧TabP w.heap.size bt W' S∧OwnPb W' w.heap.size v cs∧Below w.heap.size w W':=by
 have hch:=chg9 wr w.heap.size (.string ⟨S.c.host.toArray⟩) (.int .i64 S.c.calls) (.int .i64 S.c.pubs) (.int .i64 S.c.subs) (.int .i64 S.c.least) (.int .i64 S.c.most) (.int .i64 S.c.usual) (.int .i64 S.last) v;exact ⟨rc_store9 h.row3 _ _ _ _ _ _ _ _ _,h.tab.putS h.row3 hch,own_chgP h.own hch h.row3 (by decide),rc_below9 h.bel w.heap.size (Nat.le_refl _) _ _ _ _ _ _ _ _ _⟩
set_option maxHeartbeats 4000000 in
set_option maxRecDepth 100000 in
theorem filled_any {w:World} {acts:List AcP} {v0:Value} (ha:AcsAt w v0 acts) (hin:∀ x ∈ acts,DocPa w x.a.doc x.ts x.ns∧SmallPa 140737488351232 x.a∧(Lit.int .i64 x.now).wf=true) (hl:acts.length≤140737488351232) :
  Calls Tryz.prog 25 #[v0] w (FilRes w):=by
 have HI:=hid ha;have HO:=hid hin;obtain ⟨ao,cap,rfl,_⟩:=ha;obtain ⟨n,hnn⟩:∃ n,n=acts.length:=⟨_,rfl⟩
 rw [← hnn] at HI hl ⊢;have HN:=hid hnn;have KP:=hid (fun (u:World)=>plain16_any u 3);have KB:=hid (fun (u:World)=>begun16_ok u (plainC 3) (plain_right (by decide) (by decide)));unfold cfV plainC at KP KB;have R3:=hid (rc_row9 w (.string ⟨#[]⟩) (.int .i64 0) (.int .i64 0) (.int .i64 0) (.int .i64 0) (.int .i64 0) (.int .i64 0) (.int .i64 0) (.slice none 0 0) 31);have B1:=hid (show Below w.heap.size w (w.alloc (.cells #[.string ⟨#[]⟩,.int .i64 0,.int .i64 0,.int .i64 0,.int .i64 0,.int .i64 0,.int .i64 0,.int .i64 0,.slice none 0 0] 31)) from (Below.refl _ w).alloc (Nat.le_refl _) _);clear hin hnn
 go_enter Tryz.func25,Tryz.ntmps25
 go_upto_region 1 with fail
 generalize World.alloc _ _=w1 at R3 B1 ⊢;go_wp2_with fail
 refine (KP.out _).mono ?_
 rintro e w2 ⟨rfl,hb2⟩;have hb2:=hid hb2;go_wp2_with fail
 refine (KB.out _).mono ?_
 rintro e w3 ⟨bt,rfl,hT3,hb3⟩;have hT3:=hid hT3;have hb3:=hid hb3;go_wp2_with fail
 refine (KP.out _).mono ?_
 rintro e w4 ⟨rfl,hb4⟩;have X:=hid (fil_start R3.out B1.out ((hT3.out.below hb4).lower (Nat.le_trans B1.out.size hb2.out.size)) ((hb2.out.trans (hb3.out.mono hb2.out.size)).trans (hb4.mono (Nat.le_trans hb2.out.size hb3.out.size))));clear hT3 hb4 hb3 hb2 R3 B1 KB KP
 go_upto_region 2 with fail
 generalize w4.heap.size=br at X ⊢;generalize World.alloc _ _=W at X ⊢;go_wp2
 go_loopw [6] (fun i wr=>∃ k:Nat,k≤n∧k≤20∧i=.int .i64 k∧Hid (∃ S v cs,FilI w wr bt br w.heap.size S v cs∧S.last≤k)) (fun i _=>n - (intOf i).toNat)
 case atStart=>exact ⟨0,by omega,by omega,rfl,⟨_,_,_,X.out,by decide⟩⟩
 case round =>
  clear X;obtain ⟨k,hk,hk2,rfl,HF⟩:=hrel;by_cases hlt:k < n
  case neg =>
   have hlt':decide ((k:Int) < (n:Int))=false:=decide_eq_false (by omega);obtain ⟨S,v,cs,hF,hSl⟩:=HF.out;obtain ⟨oa,oc,hv⟩:=hF.own.form;subst hv;have hF':=hF.below (Below.refl _ wr).drew;have KEEP:=hid (fil_out hF);have INF:=hid (And.intro hF.docs (And.intro hF.is (And.intro hF.cf (show S.last≤20 by omega))));obtain ⟨x0,x1,x2,x3,x4,x5,x6,x7,x8,_⟩:=hF'.row.rc9;obtain ⟨z0,z1,z2,z3,z4,z5,z6,z7,z8,f0,f1,f2,f3,f4,f5,f6,f7,f8⟩:=hF'.row3.rc9;obtain ⟨k0,k1,k2,k3,k4,k5,k6,k7,k8,j0,j1,j2,j3,j4,j5,j6,j7,j8⟩:=hF.row3.rc9;obtain ⟨i0,i1,i2,i3,i4,i5,i6,i7,i8,_⟩:=hF.row.rc9;have hne:w.heap.size ≠ br:=hF.ne;clear HF hF hF';go_wp2
   go_region
   all_goals (
    generalize World.setCell _ _ _=wA at KEEP ⊢;clear x0 x1 x2 x3 x4 x5 x6 x7 x8 z0 z1 z2 z3 z4 z5 z6 z7 z8 f0 f1 f2 f3 f4 f5 f6 f7 f8 k0 k1 k2 k3 k4 k5 k6 k7 k8 j0 j1 j2 j3 j4 j5 j6 j7 j8 i0 i1 i2 i3 i4 i5 i6 i7 i8;obtain ⟨hrA,hTA,hOA,hbA⟩:=KEEP.out;have hdd:=(Below.refl wA.heap.size wA).drew;have hTD:=hTA.below hdd;have hOD:=hOA.below hdd;obtain ⟨d0,d1,d2,d3,d4,d5,d6,d7,d8,_⟩:=(hrA.below hdd hrA.bl).rc9;go_wp2
    try simp only [Exit.inBlock,Exit.then]
    refine bodyPost_ret (v:=.tuple #[.pointer (some ⟨bt,0,none⟩),.agg #[.string ⟨S.c.host.toArray⟩,.int .i64 S.c.calls,.int .i64 S.c.pubs,.int .i64 S.c.subs,.int .i64 S.c.least,.int .i64 S.c.most,.int .i64 S.c.usual,.int .i64 S.last,.slice oa cs.length oc]]) (by simp [results,Tryz.results25,go_sem,d0,d1,d2,d3,d4,d5,d6,d7,d8]; try rfl) rfl ?_
    exact ⟨bt,S,_,cs,rfl,hTD,hOD,INF.out.1,INF.out.2.1,INF.out.2.2.1,INF.out.2.2.2,hbA.drew⟩)
  have hlt':(k:Int) < (n:Int):=by omega
  by_cases h5:k < 20
  case neg =>
   have h5':decide ((k:Int) < 20)=false:=decide_eq_false (by omega);obtain ⟨S,v,cs,hF,hSl⟩:=HF.out;obtain ⟨oa,oc,hv⟩:=hF.own.form;subst hv;have hF':=hF.below (Below.refl _ wr).drew;have KEEP:=hid (fil_out hF);have INF:=hid (And.intro hF.docs (And.intro hF.is (And.intro hF.cf (show S.last≤20 by omega))));obtain ⟨x0,x1,x2,x3,x4,x5,x6,x7,x8,_⟩:=hF'.row.rc9;obtain ⟨z0,z1,z2,z3,z4,z5,z6,z7,z8,f0,f1,f2,f3,f4,f5,f6,f7,f8⟩:=hF'.row3.rc9;obtain ⟨k0,k1,k2,k3,k4,k5,k6,k7,k8,j0,j1,j2,j3,j4,j5,j6,j7,j8⟩:=hF.row3.rc9;obtain ⟨i0,i1,i2,i3,i4,i5,i6,i7,i8,_⟩:=hF.row.rc9;have hne:w.heap.size ≠ br:=hF.ne;clear HF hF hF';go_wp2
   go_region
   all_goals (
    generalize World.setCell _ _ _=wA at KEEP ⊢;clear x0 x1 x2 x3 x4 x5 x6 x7 x8 z0 z1 z2 z3 z4 z5 z6 z7 z8 f0 f1 f2 f3 f4 f5 f6 f7 f8 k0 k1 k2 k3 k4 k5 k6 k7 k8 j0 j1 j2 j3 j4 j5 j6 j7 j8 i0 i1 i2 i3 i4 i5 i6 i7 i8;obtain ⟨hrA,hTA,hOA,hbA⟩:=KEEP.out;have hdd:=(Below.refl wA.heap.size wA).drew;have hTD:=hTA.below hdd;have hOD:=hOA.below hdd;obtain ⟨d0,d1,d2,d3,d4,d5,d6,d7,d8,_⟩:=(hrA.below hdd hrA.bl).rc9;go_wp2
    try simp only [Exit.inBlock,Exit.then]
    refine bodyPost_ret (v:=.tuple #[.pointer (some ⟨bt,0,none⟩),.agg #[.string ⟨S.c.host.toArray⟩,.int .i64 S.c.calls,.int .i64 S.c.pubs,.int .i64 S.c.subs,.int .i64 S.c.least,.int .i64 S.c.most,.int .i64 S.c.usual,.int .i64 S.last,.slice oa cs.length oc]]) (by simp [results,Tryz.results25,go_sem,d0,d1,d2,d3,d4,d5,d6,d7,d8]; try rfl) rfl ?_
    exact ⟨bt,S,_,cs,rfl,hTD,hOD,INF.out.1,INF.out.2.1,INF.out.2.2.1,INF.out.2.2.2,hbA.drew⟩)
  have h5':(k:Int) < 20:=by omega
  have hkl:k < acts.length:=by rw [← HN.out]; exact hlt
  obtain ⟨S,v,cs,hF,hSl⟩:=HF.out;obtain ⟨ad,rfl,hab,hc⟩:=HI.out.one (Below.refl _ w) hkl;obtain ⟨hdoc,hsm,hwf⟩:=HO.out _ (List.getElem_mem hkl);generalize acts[k]=x at hc hdoc hsm hwf;obtain ⟨ex,now,a,ts,ns⟩:=x;simp only at hc hdoc hsm hwf;have HDC:=hid hdoc;have HSM:=hid hsm;obtain ⟨ta,tc,rfl,_⟩:=hdoc.t;obtain ⟨na,nc,rfl,_⟩:=hdoc.n;have KS:=hid (fun (u:World)=>small16_any u a (ta:=ta) (tc:=tc) (na:=na) (nc:=nc) (by have:=hsm.doc.ent; omega));unfold askV at KS;have hbk:(ad.add (k * 10)).block < w.heap.size:=by rw [add_block]; exact hab
  have HC:=hid (fun (u:World) (hb:Below w.heap.size w u)=>hc.below hb hbk);obtain ⟨c0,c1,c2,c3,c4,c5,c6,c7,c8,c9⟩:=HC.out _ hF.bel;have HFF:=hid hF;clear HF hF hc hdoc hsm hbk
  cases hsa:smallA a
  ·rw [hsa] at KS;go_wp2_with fail
   refine (KS.out _).mono ?_
   rintro e u1 ⟨rfl,hu1⟩;have hF1:=hid (HFF.out.below hu1);go_wp2;go_roundw
   case rel=>exact ⟨k+1,by omega,by omega,by go_num,⟨S,v,cs,hF1.out,by omega⟩⟩
   case measure=>simp [intOf]; omega
  rw [hsa] at KS
  cases ex
  case true =>
   go_wp2_with fail
   refine (KS.out _).mono ?_
   rintro e u1 ⟨rfl,hu1⟩;have hF1:=hid (HFF.out.below hu1);clear c0 c1 c2 c3 c4 c5 c6 c7 c8 c9;obtain ⟨c0,_⟩:=HC.out _ hF1.out.bel;go_wp2;go_roundw
   case rel=>exact ⟨k+1,by omega,by omega,by go_num,⟨S,v,cs,hF1.out,by omega⟩⟩
   case measure=>simp [intOf]; omega
  obtain ⟨q1,q2,q3⟩:=acts_sma HSM.out (by decide) hsa;go_wp2_with fail
  refine (KS.out _).mono ?_
  rintro e u1 ⟨rfl,hu1⟩;have hF1:=hid (HFF.out.below hu1);have hF2:=hid (hF1.out.below (Below.refl _ u1).drew);clear HFF hu1 KS c0 c1 c2 c3 c4 c5 c6 c7 c8 c9;obtain ⟨c0,_⟩:=HC.out _ hF1.out.bel
  go_upto_region 6 with fail
  obtain ⟨R,hR⟩:∃ R,R=doS S now a:=⟨_,rfl⟩
  have KD:=hid (does16_any hF2.out.tab q1 q2 (by omega) (now:=now) (ts:=.slice ta a.doc.tuples.length tc) (ns:=.slice na a.doc.notes.length nc) (fun _=>⟨q3,HDC.out.c,fun u hu=>by
   have:=HDC.out.below (hF2.out.bel.trans hu)
   exact ⟨this.t,this.n⟩⟩))
  have KO:=hid (fun (u:World) (hm:FilM w u bt br w.heap.size S R.1 v cs)=>rdo16_any hm.own (hF1.out.docs _ hm.bel) hF1.out.is hF1.out.few hF1.out.tab.right hF1.out.tab.ok.last (by omega) now a (.slice ta a.doc.tuples.length tc) (.slice na a.doc.notes.length nc) q2 (fun _=>by
   have:=HDC.out.below hm.bel
   exact ⟨this.t,this.n⟩) (fun _=>smallD_up HSM.out.doc (by decide)) (fun _=>q3))
  unfold DoRes at KO;rw [← hR] at KD KO;have HR:=hid (show R.1.c=plainC 3∧R.1.last≤(k:Int)+1 from ⟨by rw [hR,doS_c]; exact hF1.out.cf,by rcases doS_last S now a with h | h <;> (rw [hR,h]; omega)⟩);clear hR;obtain ⟨S',⟨st,exx,tg,ch⟩,er⟩:=R;unfold askV tdV at KD;unfold askV tdV stoV at KO;simp only at KD KO HR;have bel2:=hid hF2.out.bel;obtain ⟨_,c1,c2,c3,c4,c5,c6,c7,c8,c9⟩:=HC.out _ bel2.out
  go_region_law (go_simp; go_at_call 18; refine KD.out.mono ?_; rintro e w2 ⟨rfl,hT2,hF2'⟩; have HM:=hid (hF2.out.mid hT2 hF2'); clear hT2 hF2')
  all_goals (
   have HM2:=hid (HM.out.below (Below.refl _ w2).drew);clear c0 c1 c2 c3 c4 c5 c6 c7 c8 c9 KD;obtain ⟨_,c1,c2,c3,c4,c5,c6,c7,c8,c9⟩:=HC.out _ HM2.out.bel;obtain ⟨x0,x1,x2,x3,x4,x5,x6,x7,x8,_⟩:=HM2.out.row.rc9
   go_upto_region 7 with fail
   go_region_law (go_simp; go_at_call 17; refine (KO.out _ HM2.out).mono ?_; rintro e w3 ⟨v',cs',rfl,hO3,hD3,hS3,hB3⟩; obtain ⟨oa3,oc3,rfl⟩:∃ a c,v'=.slice a cs'.length c:=(by rcases hO3 with ⟨rfl,rfl⟩ | ho3; exact HM2.out.own.form; exact ho3.form); have HM3:=hid (HM2.out.below hB3); have HN3:=hid (And.intro hO3 (And.intro hD3 hS3)); clear hO3 hD3 hS3 hB3; clear x0 x1 x2 x3 x4 x5 x6 x7 x8; obtain ⟨x0,x1,x2,x3,x4,x5,x6,x7,x8,f0,f1,f2,f3,f4,f5,f6,f7,f8⟩:=HM3.out.row.rc9))
  all_goals (
   have hsz:=HM2.out.bel.size;have FIN:=hid (HM3.out.done hF2.out (HN3.out.1.imp id fun h=>ownPb_mono h hsz) (fun u hu=>HN3.out.2.1 u (hF2.out.docs u hu) (fun _=>⟨(HDC.out.below hu).t,(HDC.out.below hu).n⟩)) HN3.out.2.2 HR.out.1 (chg9 w3 br (.string ⟨S'.c.host.toArray⟩) (.int .i64 S'.c.calls) (.int .i64 S'.c.pubs) (.int .i64 S'.c.subs) (.int .i64 S'.c.least) (.int .i64 S'.c.most) (.int .i64 S'.c.usual) (.int .i64 S'.last) (.slice oa3 cs'.length oc3)) (rc_store9 HM3.out.row _ _ _ _ _ _ _ _ _));clear x0 x1 x2 x3 x4 x5 x6 x7 x8 f0 f1 f2 f3 f4 f5 f6 f7 f8 c1 c2 c3 c4 c5 c6 c7 c8 c9;go_wp2;go_roundw
   case rel=>exact ⟨k+1,by omega,by omega,by go_num,⟨S',_,cs',FIN.out,by have:=HR.out.2; omega⟩⟩
   case measure=>simp [intOf]; omega)
structure GotP (u:World) (v:Value) (ds:List PbC) (l:List Pb):Prop where
 at':PbsAt u v ds
 docs:DocsAt u ds
 is:pbsL ds=l
theorem GotP.below {u u':World} {v:Value} {ds:List PbC} {l:List Pb} (h:GotP u v ds l) (hb:Below u.heap.size u u'):GotP u' v ds l:=⟨h.at'.below hb,h.docs.below hb,h.is⟩
section
variable {w wr w' : World} {bt : Nat} {S S' : Sto} {v : Value} {cs : List PbC} {l : List (Nat × TypeId × List Value)}
theorem Bag.small (h:Bag w wr bt S v cs l):∀ p ∈ S.l,SmallD 140737488355328 p.doc∧p.who.length≤281474976710656∧p.tag.length≤281474976710656:=by
 obtain ⟨mn,ma,be,mw,cs',r,e1,h2,_⟩:=h.tab.has;intro p hp;rw [e1] at hp;obtain ⟨x,hx,rfl⟩:=List.mem_map.1 hp;exact ⟨(h2 x hx).doc,(h2 x hx).who,(h2 x hx).tag⟩
theorem live_len_le (l:List Pb) (who:List UInt8):(liveS l who).length≤l.length:=List.length_filter_le _ _
theorem same_got {u:World} {v1 v2:Value} {ds es:List PbC} {l:List Pb} (h1:GotP u v1 ds l) (h2:GotP u v2 es l) (hsm:∀ p ∈ l,SmallD 140737488355328 p.doc) (hn:l.length≤200) :
  Calls Tryz.prog 21 #[v1,v2] u fun e w'=>e=.returned (.bool true)∧Below u.heap.size u w':=by
 refine rsame16_any h1.at' h2.at' h1.docs h2.docs (by rw [h1.is,h2.is]) (fun c hc=>hsm _ (by rw [← h1.is]; exact List.mem_map_of_mem hc)) ?_
 rw [← pbsL_len,h1.is];omega
theorem live_got (h:Bag w wr bt S v cs l) (who:List UInt8) :
  Calls Tryz.prog 22 #[.pointer (some ⟨bt,0,none⟩),.string ⟨who.toArray⟩] wr fun e w'=>∃ lv ds,e=.returned lv∧GotP w' lv ds (liveS S.l who)∧Below wr.heap.size wr w':=by
 refine (plive_tab h.tab who).mono ?_
 rintro e w' ⟨lv,ds,rfl,ho,hd,hs,hb⟩;exact ⟨lv,ds,rfl,⟨ho.pbsAt,fun c hc=>⟨(hd c hc).1.tusAt,own_strsAtO (hd c hc).2⟩,hs⟩,hb⟩
theorem rlive_got (h:Bag w wr bt S v cs l) (hd:DocsAt wr cs) (hs:S'.l=pbsL cs) (hn:cs.length≤200) (who:List UInt8) :
  Calls Tryz.prog 23 #[stoV S' v,.string ⟨who.toArray⟩] wr fun e w'=>∃ lv ds,e=.returned lv∧GotP w' lv ds (liveS S'.l who)∧Below wr.heap.size wr w':=by
 refine (rlive16_any (s:=S') h.own.pbsAt hd who (by omega)).mono ?_
 rintro e w' ⟨lv,rfl,ho,hb⟩;refine ⟨lv,_,rfl,⟨ho.pbsAt,((hd.below hb).sub fun c hc=>(List.mem_filter.1 hc).1),?_⟩,hb⟩
 rw [liveC_is,hs]
end
theorem keeps_plain (s:Sto) (now:Int) (a:Pa) (h:¬ ((doS s now a).2.2=0∧(doS s now a).2.1.status=200)):(doS s now a).1=s∧(doS s now a).2.1.tag=[]∧(doS s now a).2.1.changed=false:=by
 revert h
 unfold doS
 repeat (first | (intro _; exact ⟨rfl,rfl,rfl⟩) | (intro h; exact absurd ⟨rfl,rfl⟩ h) | split)
end Go.Proofs.YteicmbhilambpaaGreatDoor
namespace Go.Proofs.YteicmbhilambpaaGreatDoor.pubKeeps
open Go.RowKit Go.Maps Go.WideMaps Sc
set_option maxHeartbeats 8000000 in
set_option maxRecDepth 100000 in
theorem law_walk (w:World) (v0:Value) (a1:Int) (v2:Value) (k0:AcpsIn 140737488351232 w v0) (w1:(Lit.int .i64 a1).wf=true) (k2:PaIn 140737488351232 w v2) :
  Calls Tryz.prog 6 #[v0,.int .i64 a1,v2] w fun e w'=>e=.returned (.bool true)∧Below w.heap.size w w':=by
 obtain ⟨a,ts,ns,rfl,hdoc,hsm⟩:=k2;obtain ⟨acts,hat,hal,hao⟩:=k0;have KW:=hid awake16_any;obtain ⟨ta,tc,rfl,_⟩:=hdoc.t;obtain ⟨na,nc,rfl,_⟩:=hdoc.n;have r5:RowIs (w.alloc (.cells #[.string ⟨a.who.toArray⟩,.string ⟨a.mt.toArray⟩,.int .i64 a.exp,.bool a.has,.string ⟨a.doc.entity.toArray⟩,.slice ta a.doc.tuples.length tc,.slice na a.doc.notes.length nc,.string ⟨a.tag.toArray⟩] 37)) w.heap.size 37 (pskL a (.slice ta a.doc.tuples.length tc) (.slice na a.doc.notes.length nc)):=by unfold RowIs; rw [heap_alloc_new]; rfl
 have b5:Below w.heap.size w (w.alloc (.cells #[.string ⟨a.who.toArray⟩,.string ⟨a.mt.toArray⟩,.int .i64 a.exp,.bool a.has,.string ⟨a.doc.entity.toArray⟩,.slice ta a.doc.tuples.length tc,.slice na a.doc.notes.length nc,.string ⟨a.tag.toArray⟩] 37)):=(Below.refl _ w).alloc (Nat.le_refl _) _;have HAO:=hid (show AcsAt (w.alloc (.cells #[.string ⟨a.who.toArray⟩,.string ⟨a.mt.toArray⟩,.int .i64 a.exp,.bool a.has,.string ⟨a.doc.entity.toArray⟩,.slice ta a.doc.tuples.length tc,.slice na a.doc.notes.length nc,.string ⟨a.tag.toArray⟩] 37)) v0 acts∧∀ x ∈ acts,DocPa (w.alloc (.cells #[.string ⟨a.who.toArray⟩,.string ⟨a.mt.toArray⟩,.int .i64 a.exp,.bool a.has,.string ⟨a.doc.entity.toArray⟩,.slice ta a.doc.tuples.length tc,.slice na a.doc.notes.length nc,.string ⟨a.tag.toArray⟩] 37)) x.a.doc x.ts x.ns∧SmallPa 140737488351232 x.a∧(Lit.int .i64 x.now).wf=true from ⟨hat.below b5,fun x hx=>⟨(hao x hx).1.below b5,(hao x hx).2⟩⟩);have HDC:=hid (hdoc.below b5);have R5:=hid r5;have B5:=hid b5;obtain ⟨ao,cap,rfl,_⟩:=hat;clear hao hdoc r5 b5;unfold askV
 go_enter Tryz.func6,Tryz.ntmps6
 go_upto_region 1 with fail
 generalize World.alloc _ _=W0 at HAO HDC R5 B5 ⊢;have KF:=hid (filled_any HAO.out.1 HAO.out.2 hal);clear hal HAO;go_wp2_with fail
 refine KF.out.mono ?_
 rintro e w1 ⟨bt,S,v,cs,rfl,hT,hO,hd,hs,hc,hl,hb⟩;have BG:=hid ((((⟨hT,fun x hx=>by simp at hx,hb,hO⟩:Bag W0 w1 bt S v cs []).add (R5.out.below hb R5.out.bl) (⟨by decide,by decide,by decide,by decide⟩:TyOk 37))).new (stoL S v) 31 tySto);have HD:=hid (And.intro hs (And.intro hl hd));obtain ⟨oa,oc,rfl⟩:=hO.form;have hfew:cs.length≤200:=by rw [← pbsL_len cs,← hs]; exact few_pubs hT.right hT.ok
 clear hT hO hb hs hc hl hd KF R5;unfold stoV;unfold stoL at BG
 go_upto_region 2 with fail
 generalize w1.heap.size=br at BG ⊢;generalize World.alloc _ _=W at BG ⊢;have KS:=hid (small16_any W a (ta:=ta) (tc:=tc) (na:=na) (nc:=nc) (by have:=hsm.doc.ent; omega));unfold askV at KS;obtain ⟨a0,a1',a2,a3,a4,a5,a6,a7⟩:=bgA_ofR BG.out.tl.r0
 cases hsa:smallA a
 ·rw [hsa] at KS;go_wp2_with fail
  refine KS.out.mono ?_
  rintro e w3 ⟨rfl,hb3⟩;have bel:=hid (B5.out.trans ((BG.out.bel.trans (hb3.mono BG.out.bel.size)).mono B5.out.size));clear hb3 a0 a1' a2 a3 a4 a5 a6 a7 KS BG;go_wp2_with fail
  refine (KW.out _).mono ?_
  rintro e w9 ⟨rfl,hw9⟩;go_wp2;go_ret;exact ⟨rfl,bel.out.trans (hw9.mono bel.out.size)⟩
 rw [hsa] at KS;obtain ⟨q1,q2,q3⟩:=acts_sma hsm (by decide) hsa;go_wp2_with fail
 refine KS.out.mono ?_
 rintro e w3 ⟨rfl,hb3⟩;have BG:=hid (BG.out.below hb3);clear hb3 a0 a1' a2 a3 a4 a5 a6 a7 KS;obtain ⟨a0,a1',a2,a3,a4,a5,a6,a7⟩:=bgA_ofR BG.out.tl.r0;obtain ⟨R,hR⟩:∃ R,R=doS S a1 a:=⟨_,rfl⟩
 have KD:=hid (does16_any BG.out.tab q1 q2 (by have:=HD.out.2.1; omega) (now:=a1) (ts:=.slice ta a.doc.tuples.length tc) (ns:=.slice na a.doc.notes.length nc) (fun _=>⟨q3,HDC.out.c,fun u hu=>by
  have:=HDC.out.below (BG.out.bel.trans hu)
  exact ⟨this.t,this.n⟩⟩))
 have KK:=keeps_plain S a1 a;rw [← hR] at KD KK;obtain ⟨S',⟨st,exx,tg,ch⟩,er⟩:=R;unfold askV tdV at KD;simp only at KD KK;go_wp2_with fail
 refine KD.out.mono ?_
 rintro e w4 ⟨rfl,hT4,hF4⟩;have BG5:=hid ((BG.out.call hT4 hF4).new [.int .i64 st,.int .i64 exx,.string ⟨tg.toArray⟩,.bool ch] 46 tyTold);clear hT4 hF4 BG KD a0 a1' a2 a3 a4 a5 a6 a7 hR
 go_upto_region 7 with fail
 generalize w4.heap.size=g at BG5 ⊢;generalize World.alloc _ _=w5 at BG5 ⊢;obtain ⟨t0,t1,t2,t3,_,_,_,_⟩:=BG5.out.r0.rc4;by_cases hok:er=0∧st=200
 ·obtain ⟨rfl,rfl⟩:=hok;have bel:=hid (B5.out.trans (BG5.out.bel.mono B5.out.size));clear BG5 KK;go_wp2_with fail
  refine (KW.out _).mono ?_
  rintro e w9 ⟨rfl,hw9⟩;go_wp2;go_ret;exact ⟨rfl,bel.out.trans (hw9.mono bel.out.size)⟩
 obtain ⟨hS',rfl,rfl⟩:=KK hok;have hS2:=hS'.symm;subst hS2;clear hS';clear KK
 have KR:∀ (Q:Prop),((er==0)=false → Q) → ((er==0)=true → (st==200)=false → Q) → Q:=fun Q h1 h2=>by
  by_cases h:er=0
  ·exact h2 (by simp [h]) (by simp; exact fun e=>hok ⟨h,e⟩)
  ·exact h1 (by simpa using h)
 clear hok;refine KR _ (fun f1=>?_) (fun f1 f2=>?_)
 all_goals (
  clear KR;go_wp2;have HBO:=hid B5.out
  go_loopw [11] (fun i wr=>∃ k:Nat,k≤cs.length∧i=.int .i64 k∧Hid (Bag W0 wr bt S (.slice oa cs.length oc) cs [(g,46,[.int .i64 st,.int .i64 exx,.string ⟨([]:List UInt8).toArray⟩,.bool false]),(br,31,stoL S (.slice oa cs.length oc))])) (fun i _=>cs.length - (intOf i).toNat)
  case atStart=>exact ⟨0,by omega,rfl,⟨BG5.out.tab,fun x hx=>by
   rcases List.mem_cons.1 hx with rfl | hx
   ·exact BG5.out.rows _ (List.mem_cons_self ..)
   ·rw [List.mem_singleton] at hx;subst hx;exact BG5.out.rows _ (List.mem_cons_of_mem _ (List.mem_cons_self ..)),BG5.out.bel,BG5.out.own⟩⟩
  case round =>
   clear BG5 t0 t1 t2 t3;obtain ⟨k,hk,rfl,BG⟩:=hrel;by_cases hlt:k < cs.length
   ·have hlt':(k:Int) < (cs.length:Int):=by omega
    obtain ⟨oa',oc',hv',hcp',hat'⟩:=BG.out.own.pbsAt;obtain ⟨ad,hoa,hab,hpb⟩:=hat' k hlt
    injection hv' with g1 g2 g3
    subst g1;subst hoa;have hab':=hpb.seven.c1;have PA:=hid (show ∀ u,Below wr.heap.size wr u → u.cell? ⟨(ad.add (k * 7)).block,(ad.add (k * 7)).off+1,none⟩=some (.string ⟨cs[k].p.who.toArray⟩) from fun u hu=>cell_below hu (by rw [add_block]; exact hab) hab');generalize cs[k].p.who=who at PA;have KL:=hid (fun (u:World) (b:Bag W0 u bt S (.slice (some ad) cs.length oc) cs [(g,46,[.int .i64 st,.int .i64 exx,.string ⟨([]:List UInt8).toArray⟩,.bool false]),(br,31,stoL S (.slice (some ad) cs.length oc))])=>live_got b who);have KQ:=hid (fun (u:World) (b:Bag W0 u bt S (.slice (some ad) cs.length oc) cs [(g,46,[.int .i64 st,.int .i64 exx,.string ⟨([]:List UInt8).toArray⟩,.bool false]),(br,31,stoL S (.slice (some ad) cs.length oc))])=>rlive_got b (HD.out.2.2 _ b.bel) HD.out.1 hfew who)
    have KE:=hid (fun (u:World) (v1 v2:Value) (ds es:List PbC) (h1:GotP u v1 ds (liveS S.l who)) (h2:GotP u v2 es (liveS S.l who))=>same_got h1 h2 (fun p hp=>(BG.out.small p (List.mem_filter.1 hp).1).1) (by
     have:=live_len_le S.l who
     have e:=few_pubs BG.out.tab.right BG.out.tab.ok;omega))
    unfold stoV at KQ;have BD:=hid (And.intro (BG.out.below (Below.refl _ wr).drew) (Below.refl wr.heap.size wr).drew);have v8:=BG.out.tl.r0.rc9.c8;clear BG hcp' hat' hpb hab' g2 g3 hab;obtain ⟨x0,x1,x2,x3,x4,x5,x6,x7,x8,_⟩:=BD.out.1.tl.r0.rc9;have y1:=PA.out _ BD.out.2;go_wp2;clear v8
    go_region_held3 (fun u=>u.cell? ⟨br,0,none⟩=some (.string ⟨S.c.host.toArray⟩)∧u.cell? ⟨br,1,none⟩=some (.int .i64 S.c.calls)∧u.cell? ⟨br,2,none⟩=some (.int .i64 S.c.pubs)∧u.cell? ⟨br,3,none⟩=some (.int .i64 S.c.subs)∧u.cell? ⟨br,4,none⟩=some (.int .i64 S.c.least)∧u.cell? ⟨br,5,none⟩=some (.int .i64 S.c.most)∧u.cell? ⟨br,6,none⟩=some (.int .i64 S.c.usual)∧u.cell? ⟨br,7,none⟩=some (.int .i64 S.last)∧u.cell? ⟨br,8,none⟩=some (.slice (some ad) cs.length oc)∧u.cell? ⟨(ad.add (k * 7)).block,(ad.add (k * 7)).off+1,none⟩=some (.string ⟨who.toArray⟩)) (go_keep) (first
     | (go_at_call 22; refine (KL.out _ BD.out.1).mono ?_; rintro e u1 ⟨lv,ds,rfl,hg1,hb1⟩; have HA:=hid hg1; (try (have HB:=hid (HB.out.below hb1))); have BD:=hid (And.intro (BD.out.1.below hb1) (BD.out.2.trans (hb1.mono BD.out.2.size))); clear hg1 hb1 x0 x1 x2 x3 x4 x5 x6 x7 x8 y1; obtain ⟨x0,x1,x2,x3,x4,x5,x6,x7,x8,_⟩:=BD.out.1.tl.r0.rc9; have y1:=PA.out _ BD.out.2)
     | (go_at_call 23; refine (KQ.out _ BD.out.1).mono ?_; rintro e u1 ⟨lw,es,rfl,hg1,hb1⟩; have HB:=hid hg1; (try (have HA:=hid (HA.out.below hb1))); have BD:=hid (And.intro (BD.out.1.below hb1) (BD.out.2.trans (hb1.mono BD.out.2.size))); clear hg1 hb1 x0 x1 x2 x3 x4 x5 x6 x7 x8 y1; obtain ⟨x0,x1,x2,x3,x4,x5,x6,x7,x8,_⟩:=BD.out.1.tl.r0.rc9; have y1:=PA.out _ BD.out.2)
     | (go_at_call 21; refine (KE.out _ _ _ _ _ HA.out HB.out).mono ?_; rintro e u1 ⟨rfl,hb1⟩; have BD:=hid (And.intro (BD.out.1.below hb1) (BD.out.2.trans (hb1.mono BD.out.2.size))); clear hb1 x0 x1 x2 x3 x4 x5 x6 x7 x8 y1; obtain ⟨x0,x1,x2,x3,x4,x5,x6,x7,x8,_⟩:=BD.out.1.tl.r0.rc9; have y1:=PA.out _ BD.out.2))
    all_goals (
     have BF:=hid BD.out.1;clear x0 x1 x2 x3 x4 x5 x6 x7 x8 y1 KL KQ KE BD;go_wp2;go_roundw
     case rel=>exact ⟨k+1,by omega,by go_num,BF.out⟩
     case measure=>simp [intOf]; omega)
   ·have hlt':¬ (k:Int) < (cs.length:Int):=by omega
    have KN:∀ u,Below wr.heap.size wr u → Calls Tryz.prog 24 #[.pointer (some ⟨bt,0,none⟩)] u fun e w'=>e=.returned (.int .i64 cs.length)∧Below u.heap.size u w':=fun u hu=>(plen_tab (BG.out.below hu).tab).mono fun e w' ⟨h1,h2⟩=>⟨by rw [h1,HD.out.1,pbsL_len],by rw [h2]; exact Below.refl _ _⟩
    have cL:=hid (fun (d:Nat) (os:Array Obj)=>Calls.regrown_of (KN (Sort.grow (redrawn wr d) os) (below_regrown wr d os)));have cW:=hid (fun (d:Nat) (os:Array Obj)=>Calls.regrown_of (KW.out (Sort.grow (redrawn wr d) os)));obtain ⟨_,_,_,_,_,_,_,_,x8,_⟩:=BG.out.tl.r0.rc9;obtain ⟨_,_,t2,t3,_⟩:=BG.out.r0.rc4;have hll:((cs.length:Int)==(cs.length:Int))=true:=by simp
    have bel:=hid (B5.out.trans (BG.out.bel.mono B5.out.size));clear KN BG
    go_upto_region 14 with fail
    replace x8:=cell_regrown x8;replace t2:=cell_regrown t2;replace t3:=cell_regrown t3;refine wp_region_quiet_below followsMixed5 (by kernel_rfl) ?_
    repeat (go_big_quiet_step (first | with_reducible exact cL.out _ _ | with_reducible exact cW.out _ _))
    refine wpQuiet_nil ?_
    intro _ hw';obtain ⟨⟨dq,osq⟩,hw''⟩:=hw';subst hw'';go_wp2;go_ret;exact ⟨rfl,bel.out.trans ((below_regrown wr dq osq).mono bel.out.size)⟩)
end Go.Proofs.YteicmbhilambpaaGreatDoor.pubKeeps
