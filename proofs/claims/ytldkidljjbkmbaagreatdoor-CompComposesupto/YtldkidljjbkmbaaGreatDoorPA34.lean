/-
  CpY, CrB, CrA, RX10, PR10, RX11, PR11, PR12.
-/
import Derived.Test.YtldkidljjbkmbaaGreatDoorPX04
import Derived.Test.YtldkidljjbkmbaaGreatDoorPX20
import Derived.Test.YtldkidljjbkmbaaGreatDoorPA33
set_option linter.unusedVariables false
set_option linter.unusedSimpArgs false
set_option maxRecDepth 20000
namespace Go.Proofs.YtldkidljjbkmbaaGreatDoor
open Go.RowKit Go.Maps Go.WideMaps Sc
structure RcI (U0:World) (b7:Nat) (en:List UInt8) (wr:World) (vt vn vs:Value) (T S:List Tu) (N:List (List UInt8)):Prop where
 g:U0.grownBy wr (some b7)
 row:RowIs wr b7 28 [.string ⟨en.toArray⟩,vt,vn]
 tup:OwnU wr U0.heap.size vt T
 seen:OwnU wr U0.heap.size vs S
 note:Own wr U0.heap.size 9 vn (strs N)
 lt:b7 < U0.heap.size
 dj:∀ b,vt.ownBlock=some b → vs.ownBlock ≠ some b
 nil:T=[] → vt=.slice none 0 0
section
variable {U0 wr u : World} {b7 : Nat} {en : List UInt8} {vt vn vs vt' vn' vs' : Value} {T S T' S' : List Tu} {N N' : List (List UInt8)}
theorem RcI.step (h:RcI U0 b7 en wr vt vn vs T S N) (hb:Below wr.heap.size wr u):RcI U0 b7 en u vt vn vs T S N :=
 ⟨grown_trans h.g (grown_below hb _),h.row.below hb h.row.bl,h.tup.below hb,h.seen.below hb,h.note.below hb,h.lt,h.dj,h.nil⟩
theorem grown_put (u:World) (b j:Nat) (v:Value) (h:U0.grownBy u (some b)):U0.grownBy (u.setCell ⟨b,j,none⟩ v) (some b):=grown_trans h (put_grown u b j v)
theorem RcI.putT (h:RcI U0 b7 en wr vt vn vs T S N) (hb:Below wr.heap.size wr u) (ho:OwnU u wr.heap.size vt' T') (hne:T' ≠ []):RcI U0 b7 en (u.setCell ⟨b7,1,none⟩ vt') vt' vn vs T' S N:=by
 have h2:=h.step hb;refine ⟨grown_put u b7 1 vt' h2.g,by simpa using h2.row.set 1 vt',ownsRow_setCell_below (a:=⟨b7,1,none⟩) (own_lower ho h.g.size) h.lt _,ownsRow_setCell_below (a:=⟨b7,1,none⟩) h2.seen h.lt _,ownsRow_setCell_below (a:=⟨b7,1,none⟩) h2.note h.lt _,h.lt,fun b e1 e2=>?_,fun e=>absurd e hne⟩
 have l1:=(World.ownsRow.lt ho b e1).1;have l2:=(World.ownsRow.lt h.seen b e2).2;omega
theorem RcI.sameT (h:RcI U0 b7 en wr vt vn vs T S N):RcI U0 b7 en (wr.setCell ⟨b7,1,none⟩ vt) vt vn vs T S N :=
 ⟨grown_put wr b7 1 vt h.g,by simpa using h.row.set 1 vt,ownsRow_setCell_below (a:=⟨b7,1,none⟩) h.tup h.lt _,ownsRow_setCell_below (a:=⟨b7,1,none⟩) h.seen h.lt _,ownsRow_setCell_below (a:=⟨b7,1,none⟩) h.note h.lt _,h.lt,h.dj,h.nil⟩
theorem RcI.midN (h:RcI U0 b7 en wr vt vn vs T S N) (hg:wr.grownBy u vn.ownBlock):RowIs u b7 28 [.string ⟨en.toArray⟩,vt,vn] :=
 row_grown h.row hg fun e=>by have:=own_ge h.note b7 e; have:=h.lt; omega
theorem grown_low {A:World} {r:Option Nat} (h:A.grownBy wr (some b7)) (hg:wr.grownBy u r) (hr:∀ g,r=some g → A.heap.size≤g):A.grownBy u (some b7) :=
 ⟨hg.os.trans h.os,hg.tape.trans h.tape,hg.output.trans h.output,Nat.le_trans h.size hg.size,fun k hk hn=>by rw [hg.block k (Nat.lt_of_lt_of_le hk h.size) (fun e=>by have:=hr k e.symm; omega),h.block k hk hn]⟩
theorem RcI.putN (h:RcI U0 b7 en wr vt vn vs T S N) (hg:wr.grownBy u vn.ownBlock) (ho:Own u U0.heap.size 9 vn' (strs N')):RcI U0 b7 en (u.setCell ⟨b7,2,none⟩ vn') vt vn' vs T S N':=by
 have hm:=h.midN hg;have hgl:=grown_low h.g hg (fun g e=>own_ge h.note g e);exact ⟨grown_put u b7 2 vn' hgl,by simpa using hm.set 2 vn',ownsRow_setCell_below (a:=⟨b7,2,none⟩) (World.ownsRow.kept h.tup hg (rows_neP h.note h.tup (by decide))) h.lt _,ownsRow_setCell_below (a:=⟨b7,2,none⟩) (World.ownsRow.kept h.seen hg (rows_neP h.note h.seen (by decide))) h.lt _,ownsRow_setCell_below (a:=⟨b7,2,none⟩) ho h.lt _,h.lt,h.dj,h.nil⟩
theorem RcI.putS (h:RcI U0 b7 en wr vt vn vs T S N) (hg:wr.grownBy u vs.ownBlock) (ho:OwnU u U0.heap.size vs' S') (hat:vs'.ownBlock=vs.ownBlock∨vs'.ownBlock=some wr.heap.size):RcI U0 b7 en u vt vn vs' T S' N:=by
 refine ⟨grown_low h.g hg (fun g e=>own_ge h.seen g e),row_grown h.row hg (fun e=>by have:=own_ge h.seen b7 e; have:=h.lt; omega),World.ownsRow.kept h.tup hg ?_,ho,World.ownsRow.kept h.note hg (rows_neP h.seen h.note (by decide)),h.lt,fun b e1 e2=>?_,h.nil⟩
 ·cases e:vt.ownBlock with
  | none=>exact .inl rfl
  | some b=>exact .inr fun e2=>h.dj b e e2.symm
 ·rcases hat with e | e
  ·rw [e] at e2; exact h.dj b e1 e2
  ·rw [e] at e2
   injection e2 with e2
   have:=(World.ownsRow.lt h.tup b e1).2
   omega
end
theorem wp_appTuAt {P:Program} (w:World) {ops:Array Oper} {rest:List Oper} {o:Oper} {a:Act} {Q:Exit → Act → World → Prop} (hgd:o.guard=none)
  (s x:Operand) (t:TypeId) (ho:o.op=Op.call { callee:=Callee.builtin Builtin.append,args:=#[s,x],argTypes:=#[t,t] }) (B:Nat) (i:TypeInfo)
  (z:Value) (ht:P.underlying t=some (TypeDesc.slice 48)) (hi:P.info? 48=some i) (hz:i.zero=some z) (hsize:i.size=5) (hby:i.bytes=64) (hzs:z.cells.size=5)
  (v:Value) (ts:List Tu) (hs:a.eval s=v) (hown:OwnU w B v ts) (ad:Addr) (c:Nat) (p:Tu) (hx:a.eval x=Value.slice (some ad) 1 c)
  (hnews:∀ (j:Nat) (u:Value),(tuCells p)[j]? = some u → w.cell? (ad.add j)=some u)
  (hlen:ts.length≤2000000) (hB:B≤w.heap.size)
  (h:∀ (v':Value) (w':World),OwnU w' B v' (ts++[p]) → w.grownBy w' v.ownBlock → (v'.ownBlock=v.ownBlock∨v'.ownBlock=some w.heap.size) → wpList P ops Q rest (a.put o.dst v') w'):wpList P ops Q (o :: rest) a w:=by
 refine wpList_append_own_at w hgd s x t ho B 48 i z 5 64 ht hi hz hsize hby hzs (by decide) v ts.length (tusCells ts) hs hown ad 1 c (tuCells p) hx rfl hnews
  (by intro u hu; simp [tuCells] at hu; rcases hu with rfl | rfl | rfl | rfl | rfl <;> rfl) (by unfold maxLen; omega) (by omega) hB ?_
 intro v' w' hown' hgr _ hat;refine h v' w' ?_ hgr hat
 have e:tusCells (ts++[p])=tusCells ts++tuCells p:=by simp [tusCells]
 unfold OwnU;rw [e,List.length_append];exact hown'
set_option maxHeartbeats 2000000 in
set_option maxRecDepth 100000 in
theorem rhas17_same {w:World} {v:Value} {xs:List (List UInt8)} (hv:StrsAt w v xs) (hz:xs.length≤2000000) (s:List UInt8) :
  Calls Tryz.prog 26 #[v,.string ⟨s.toArray⟩] w fun e w'=>e=.returned (.bool (decide (s ∈ xs)))∧w'=w:=by
 obtain ⟨ao,cap,rfl,hat⟩:=hv;have HC:=hid hat;obtain ⟨n,hnn⟩:∃ n,n=xs.length:=⟨_,rfl⟩
 rw [← hnn] at hz ⊢;have HN:=hid hnn;clear hat hnn
 go_enter Tryz.func26,Tryz.ntmps26
 go_wp2
 go_loopw [5] (fun i wr=>∃ j:Nat,j≤n∧i=.int .i64 j∧Hid (¬ s ∈ xs.take j)∧wr=w) (fun i _=>n - (intOf i).toNat)
 case atStart=>exact ⟨0,Nat.zero_le _,rfl,hid (show ¬ s ∈ xs.take 0 by simp),rfl⟩
 case round =>
  obtain ⟨j,hj,rfl,HF,rfl⟩:=hrel;by_cases hlt:j < n
  ·have hlt':(j:Int) < (n:Int):=by omega
   have hjl:j < xs.length:=by rw [← HN.out]; exact hlt
   obtain ⟨ad,hao,hab,c⟩:=HC.out j hjl;subst hao
   have h1:=hid (show xs[j] ≠ s → ¬ s ∈ xs.take (j+1) from fun h hm=>by
    rw [List.take_succ_eq_append_getElem hjl] at hm
    rcases List.mem_append.1 hm with hm | hm
    ·exact HF.out hm
    ·rw [List.mem_singleton] at hm; exact h hm.symm)
   have h2:=hid (show xs[j]=s → s ∈ xs from fun h=>by rw [← h]; exact List.getElem_mem hjl);generalize xs[j]=t at c h1 h2;clear hab HF
   cases hq:(t==s) with
   | true =>
    have hR:=decide_eq_true (h2.out (eq_of_beq hq));go_wp2;go_ret;exact ⟨by first | rfl | (rw [hR]; rfl),rfl⟩
   | false =>
    have h3:=hid (h1.out (fun e=>by rw [e] at hq; simp at hq));go_wp2;go_roundw
    case rel=>exact ⟨j+1,by omega,by go_num,h3,by first | rfl | trivial⟩
    case measure=>simp [intOf]; omega
  ·have hlt':¬ (j:Int) < (n:Int):=by omega
   have hR:decide (s ∈ xs)=false:=decide_eq_false (by
    have h:=HF.out
    rwa [List.take_of_length_le (by have:=HN.out; omega)] at h)
   go_wp2;go_ret;exact ⟨rfl,rfl⟩
theorem foldC_snoc (cs:List PbC) (k:Nat) (hk:k < cs.length) {T S:List Tu} {N:List (List UInt8)} (h:(pbsL (cs.take k)).foldl pubC (([],[]),[])=((T,S),N)):(pbsL (cs.take (k+1))).foldl pubC (([],[]),[])=(cs[k].p.doc.tuples.foldl (stepT cs[k].p.num) (T,S),cs[k].p.doc.notes.foldl stepN N):=by
 rw [List.take_succ_eq_append_getElem hk];unfold pbsL at *;rw [List.map_append,List.foldl_append,h]
 rfl
theorem rows_neC {w:World} {a b:Nat} {e1 e2:TypeId} {l1 l2:List Value} (h1:RowIs w a e1 l1) (h2:RowIs w b e2 l2) (hne:e1 ≠ e2):a ≠ b:=by
 intro e;subst e;unfold RowIs at h1 h2;rw [h1] at h2
 injection h2 with h2
 injection h2 with _ h2
 exact hne h2
set_option maxHeartbeats 8000000 in
set_option maxRecDepth 100000 in
theorem rcomp_ok {w:World} {who:List UInt8} {v:Value} {cs:List PbC} (hv:PbsAt w v cs) (ho:PbsOk w cs) (hw:who.length+4≤1048640) (hn:cs.length≤400) (hnum:∀ c ∈ cs,c.p.num≤9223372036854775807) (hc:checkD ⟨who,[],[]⟩=0) (he:chkC 0 (pbsL cs)=0) :
  Calls Tryz.prog 12 #[.string ⟨who.toArray⟩,v] w fun e w'=>∃ vt vn,e=.returned (.tuple #[.agg #[.string ⟨who.toArray⟩,vt,vn],.int .i64 0])∧OwnU w' w.heap.size vt (foldC (pbsL cs)).1.1∧Own w' w.heap.size 9 vn (strs (foldC (pbsL cs)).2)∧Below w.heap.size w w':=by
 have hgood:=chk_num he
 have HCK:=hid (show ∀ c ∈ cs,checkD c.p.doc=0∧0 < c.p.num∧c.p.num≤9223372036854775807∧c.p.doc.tuples.length≤16∧c.p.doc.notes.length≤16 from fun c hc=>by
  have hm:c.p ∈ pbsL cs:=List.mem_map.2 ⟨c,hc,rfl⟩;have h1:=chk_all he c.p hm;obtain ⟨_,a,b,_⟩:=check_parts h1;exact ⟨h1,hgood c.p hm,hnum c hc,a,b⟩)
 have KD:=hid (fun (u:World)=>rcheck14_any ⟨who,[],[]⟩ (.slice none 0 0) (.slice none 0 0) u ⟨by show who.length≤_; omega,by simp,by simp,by simp,by simp⟩ hw ⟨none,0,rfl,fun k hk=>by simp at hk⟩ ⟨none,0,rfl,fun k hk=>by simp at hk⟩);rw [hc] at KD;unfold docV at KD;simp only at KD;have KC:=hid (fun (u:World) (c:PbC) (hc:c ∈ cs) (hb:Below w.heap.size w u)=>rcheck14_any c.p.doc c.ts c.ns u (ho.small c hc).1 (ho.small c hc).2 ((ho.docs.below hb) c hc).1 ((ho.docs.below hb) c hc).2);unfold docV at KC;have HV:=hid hv;have HO:=hid ho;obtain ⟨oa,cap,rfl⟩:=hv.form;obtain ⟨n,hnn⟩:∃ n,n=cs.length:=⟨_,rfl⟩
 rw [← hnn] at hn HV ⊢;have HN:=hid hnn;have H3:=hid (rc3_new w who);clear hnn hv ho
 go_enter Tryz.func12,Tryz.ntmps12
 go_upto_region 3 with fail
 generalize World.alloc (World.alloc (World.alloc _ _) _) _=u3 at H3 ⊢;generalize w.heap.size+1+1=b7 at H3 ⊢;generalize w.heap.size+1=b6 at H3 ⊢;obtain ⟨z0,z1,z2,-,-,-⟩:=H3.out.r7.rc3;go_wp2_with fail
 refine (KD.out _).mono ?_
 rintro e u4 ⟨rfl,hb4⟩;have H4:=hid (H3.out.step hb4);clear hb4 z0 z1 z2 H3;go_wp2
 go_loopw [8] (fun i wr=>∃ (k:Nat) (last:Int),k≤n∧i=.int .i64 k∧Hid (chkC last (pbsL (cs.drop k))=0)∧0≤last∧Hid (k=0 → last=0)∧Hid (∀ j (hj:j < cs.length),k=j+1 → last=cs[j].p.num)∧Hid (Rc3 w b6 b7 wr who)) (fun i _=>n - (intOf i).toNat)
 case atStart=>exact ⟨0,0,by omega,rfl,hid he,by omega,hid (fun _=>rfl),hid (fun j hj e=>by omega),H4⟩
 case round =>
  clear H4;obtain ⟨k,last,hk,rfl,HC,hl0,HL0,HL1,H5⟩:=hrel;by_cases hlt:k < n
  ·have hlt':(k:Int) < (n:Int):=by omega
   have hkl:k < cs.length:=by rw [← HN.out]; exact hlt
   obtain ⟨oa',cap',hv',_,hat⟩:=HV.out;obtain ⟨ad,hoa,hab,hpb⟩:=hat k hkl
   injection hv' with g1 g2 g3
   subst g1;subst hoa;have hm:=List.getElem_mem hkl;have HDC:=hid (HO.out.docs _ hm);have HCS:=hid (chk_step hkl (last:=last));have HNUMK0:=hid (show cs[k].p.num=cs[k].p.num from rfl);have KCk:=hid (fun (u:World) (hb:Below w.heap.size w u)=>KC.out u cs[k] hm hb);have c0:=(hpb.below H5.out.bel hab).seven.c0;have HPB:=hid (fun (u:World) (hb:Below w.heap.size w u)=>(hpb.below hb hab).seven);obtain ⟨num,hnum⟩:∃ num,num=cs[k].p.num:=⟨_,rfl⟩
   have HNUMK:=hid hnum;obtain ⟨⟨ta,tc,hts,_⟩,⟨na2,nc,hns,_⟩⟩:=HDC.out
   have hgt:last < cs[k].p.num:=by
    by_cases h:last < cs[k].p.num
    ·exact h
    ·have h2:=HCS.out.2.1 (by omega);rw [HC.out] at h2; cases h2
   have hck0:=(HCK.out _ hm).1;have HNX:=hid ((HCS.out.1 hgt hck0).symm.trans HC.out);rw [hck0] at KCk;clear HCS HNUMK0 HDC hat hpb g2 g3 hm HNUMK;have HNUMJ:=hid (show ∀ (j:Nat) (hj:j < cs.length),k=j → num=cs[j].p.num from fun j hj e=>by subst e; exact hnum);generalize hcpp:cs[k]=c at *;rw [← hnum] at c0 HNX hgt;obtain ⟨tn,htn⟩:∃ tn,tn=c.p.doc.tuples.length:=⟨_,rfl⟩
   obtain ⟨qn,hqn⟩:∃ qn,qn=c.p.doc.notes.length:=⟨_,rfl⟩
   obtain ⟨ent,hent⟩:∃ ent,ent=c.p.doc.entity:=⟨_,rfl⟩
   rw [← htn] at hts;rw [← hqn] at hns;have HP3:=hid (show ∀ (u:World) (hb:Below w.heap.size w u),u.cell? ⟨(ad.add (k * 7)).block,(ad.add (k * 7)).off+4,none⟩=some (.string ⟨ent.toArray⟩)∧u.cell? ⟨(ad.add (k * 7)).block,(ad.add (k * 7)).off+5,none⟩=some (.slice ta tn tc)∧u.cell? ⟨(ad.add (k * 7)).block,(ad.add (k * 7)).off+6,none⟩=some (.slice na2 qn nc) from fun u hb=>⟨by rw [hent]; exact (HPB.out u hb).c4,by rw [← hts]; exact (HPB.out u hb).c5,by rw [← hns]; exact (HPB.out u hb).c6⟩);rw [hts,hns,← hent] at KCk;clear HPB hent hts hns htn hqn hcpp hnum hck0;by_cases hk0:k=0
   ·have qk:decide ((0:Int) < (k:Int))=false:=decide_eq_false (by omega);have qk2:decide (0 < k)=false:=decide_eq_false (by omega);have HK0:=hid hk0;have q1:decide (num < 1)=false:=decide_eq_false (by omega);clear hk0;go_wp2
    go_quiet (fail)
    have HD:=hid (H5.out.step (below_drewN wr nq));clear c0
    try clear m0
    generalize World.drewN wr _=u6 at HD ⊢;obtain ⟨c4,c5,c6⟩:=HP3.out u6 HD.out.bel;go_wp2_with fail
    refine (KCk.out u6 HD.out.bel).mono ?_
    rintro e u7 ⟨rfl,hb7⟩;have HD:=hid (HD.out.step hb7);clear hb7 c4 c5 c6;go_wp2;go_roundw
    case rel=>exact ⟨k+1,num,by omega,by go_num,HNX,by omega,hid (fun e=>by omega),hid (fun j hj e=>HNUMJ.out j hj (by omega)),HD⟩
    case measure=>simp [intOf]; omega
   ·obtain ⟨j,hj⟩:∃ j,k=j+1:=⟨k - 1,by omega⟩
    have hjl:j < cs.length:=by omega
    have hjn:j < n:=by omega
    obtain ⟨_,_,hv9,_,hat9⟩:=HV.out;obtain ⟨ad9,hoa9,hab9,hpb9⟩:=hat9 j hjl
    injection hv9 with hv9 hv9b hv9c
    clear hv9b hv9c;rw [← hv9] at hoa9
    injection hoa9 with hoa9
    subst hoa9;have m0:=(hpb9.below H5.out.bel hab9).seven.c0;rw [← HL1.out j hjl hj] at m0;have qs:(k:Int) - 1=(j:Int):=by omega
    have qk:decide ((0:Int) < (k:Int))=true:=decide_eq_true (by omega);have qk2:decide (0 < k)=true:=decide_eq_true (by omega);have qk3:0 < k:=by omega
    have hjn':(j:Int) < (n:Int):=by omega
    have HJ:=hid hj;clear hat9 hpb9 hj hv9;have q1:decide (num < 1)=false:=decide_eq_false (by omega);have q2:decide (num≤last)=false:=decide_eq_false (by omega);go_wp2
    go_quiet (fail)
    have HD:=hid (H5.out.step (below_drewN wr nq));clear c0
    try clear m0
    generalize World.drewN wr _=u6 at HD ⊢;obtain ⟨c4,c5,c6⟩:=HP3.out u6 HD.out.bel;go_wp2_with fail
    refine (KCk.out u6 HD.out.bel).mono ?_
    rintro e u7 ⟨rfl,hb7⟩;have HD:=hid (HD.out.step hb7);clear hb7 c4 c5 c6;go_wp2;go_roundw
    case rel=>exact ⟨k+1,num,by omega,by go_num,HNX,by omega,hid (fun e=>by omega),hid (fun j hj e=>HNUMJ.out j hj (by omega)),HD⟩
    case measure=>simp [intOf]; omega
  ·have hlt':¬ (k:Int) < (n:Int):=by omega
   have hb7l:=H5.out.r7.bl;have HN0:=hid (show RcI wr b7 who wr (.slice none 0 0) (.slice none 0 0) (.slice none 0 0) [] [] [] from ⟨grown_refl _ _,H5.out.r7,OwnU.nil _ _,OwnU.nil _ _,⟨rfl,.inl ⟨rfl,rfl⟩⟩,hb7l,fun b e=>by simp [Value.ownBlock] at e,fun _=>rfl⟩);obtain ⟨U0,rfl⟩:∃ U,U=wr:=⟨_,rfl⟩
   clear HC HL0 HL1;obtain ⟨i1,hj1,hy0,hy1,hy2⟩:=info_parts infoTup;obtain ⟨i2,hk2,hv0,hv1,hv2⟩:=info_parts infoStrC;have HR4:=hid H5.out.r4;have HB0:=hid H5.out.bel;have hl47:w.heap.size < b7:=by have:=H5.out.l6; have:=H5.out.l7; omega
   have hwU:w.heap.size≤U0.heap.size:=HB0.out.size;clear H5 KD KC hb7l hgood hnum;go_wp2
   go_loopw [9,10] (fun a i wr=>∃ (k:Nat) (vt vn vs:Value) (T S:List Tu) (N:List (List UInt8)),k≤n∧vs=a∧i=.int .i64 k∧Hid ((pbsL (cs.take k)).foldl pubC (([],[]),[])=((T,S),N))∧Hid (RcI U0 b7 who wr vt vn vs T S N)∧S.length≤k * 16∧T.length≤k * 16∧N.length≤k * 16) (fun _ i _=>n - (intOf i).toNat)
   case atStart=>exact ⟨0,_,_,_,[],[],[],by omega,rfl,rfl,hid rfl,HN0,by simp,by simp,by simp⟩
   case round =>
    clear HN0;obtain ⟨k,vt,vn,vs,T,S,N,hk,rfl,rfl,HE,HI,hlS,hlT,hlN⟩:=hrel;by_cases hlt:k < n
    ·have hlt':(k:Int) < (n:Int):=by omega
     have hkl:k < cs.length:=by rw [← HN.out]; exact hlt
     obtain ⟨oa',cap',hv',_,hat⟩:=HV.out;obtain ⟨ad,hoa,hab,hpb⟩:=hat k hkl
     injection hv' with g1 g2 g3
     subst g1;subst hoa;have hm:=List.getElem_mem hkl;have HDC:=hid (HO.out.docs _ hm);have HSM:=hid (HO.out.small _ hm).1;obtain ⟨_,hp1,hp2,hp3,hp4⟩:=HCK.out _ hm;have HSn:=hid (foldC_snoc cs k hkl HE.out);have HPB:=hid (fun (u:World) (hu:U0.grownBy u (some b7))=>(hpb.below (grown_bel HB0.out hu (Nat.le_of_lt hl47) hwU) hab).seven);have HBW:=hid (fun (u:World) (hu:U0.grownBy u (some b7))=>grown_bel HB0.out hu (Nat.le_of_lt hl47) hwU);generalize cs[k]=c at HDC HSM HSn HPB hp1 hp2 hp3 hp4;obtain ⟨⟨num,who2,tag,til,⟨en2,tl2,nl2⟩⟩,ts2,ns2⟩:=c;simp only at HDC HSM HSn hp1 hp2 hp3 hp4;obtain ⟨⟨ta,tc,hts,htc⟩,⟨na,nc,hns,hnc⟩⟩:=HDC.out;subst hts hns;have HTC:=hid htc;have HNC:=hid hnc;obtain ⟨tn,htn⟩:∃ tn,tn=tl2.length:=⟨_,rfl⟩
     obtain ⟨nn,hnn2⟩:∃ nn,nn=nl2.length:=⟨_,rfl⟩
     rw [← htn,← hnn2] at HPB;rw [← htn] at hp3;rw [← hnn2] at hp4;have HTN:=hid htn;have HNN:=hid hnn2;clear hat hpb hab g2 g3 hm HDC htc hnc htn hnn2;go_wp2
     go_loopw [9,11] (fun a i wr2=>∃ (j:Nat) (vt vs:Value) (T1 S1:List Tu),j≤tn∧vs=a∧i=.int .i64 j∧Hid ((tl2.take j).foldl (stepT num) (T,S)=(T1,S1))∧Hid (RcI U0 b7 who wr2 vt vn vs T1 S1 N)∧S1.length≤k * 16+j∧T1.length≤k * 16+j) (fun _ i _=>tn - (intOf i).toNat)
     case atStart=>exact ⟨0,_,_,T,S,by omega,rfl,rfl,hid rfl,HI,by omega,by omega⟩
     case round =>
      clear HI;obtain ⟨j,vt,vs,T1,S1,hj,rfl,rfl,HE1,HI,hlS1,hlT1⟩:=hrel;obtain ⟨c0,c1,c2,c3,c4,c5,c6⟩:=HPB.out wr HI.out.g;simp only at c0 c1 c2 c3 c4 c5 c6;by_cases hlt2:j < tn
      ·have hlt2':(j:Int) < (tn:Int):=by omega
       have hjl:j < tl2.length:=by rw [← HTN.out]; exact hlt2
       obtain ⟨ad2,hoa2,hab2,hta⟩:=HTC.out j hjl;subst hoa2;have hSt:=HSM.out.ts _ (List.getElem_mem hjl);have HSn2:=hid (show (tl2.take (j+1)).foldl (stepT num) (T,S)=stepT num (T1,S1) tl2[j] by rw [foldl_snocK,HE1.out]);obtain ⟨y0,y1,y2,y3,y4⟩:=hta.below (HBW.out wr HI.out.g) hab2;generalize tl2[j]=t at y0 y1 y2 y3 y4 HSn2 hSt hta;have RT:=rc_row5 wr (.string ⟨t.id.toArray⟩) (.bool t.opn) (.string ⟨t.contact.toArray⟩) (.int .i64 t.prio) (.string ⟨t.note.toArray⟩) 48;have b3:Below wr.heap.size wr (wr.alloc (.cells #[.string ⟨t.id.toArray⟩,.bool t.opn,.string ⟨t.contact.toArray⟩,.int .i64 t.prio,.string ⟨t.note.toArray⟩] 48)):=(Below.refl _ wr).alloc (Nat.le_refl _) _;have HI2:=hid (HI.out.step b3);clear HE1 hta hab2
       go_upto_region 20 with fail
       clear y0 y1 y2 y3 y4 c0 c1 c2 c3 c4 c5 c6 b3 HI;generalize wr.heap.size=gt at RT ⊢;generalize World.alloc wr _=w2 at RT HI2 ⊢;have KKN:=hid (rknown_any HI2.out.seen.tusAt (by omega) t);unfold tuV at KKN;obtain ⟨z0,z1,z2,z3,z4,-,-,-,-,-⟩:=RT.rc5;go_wp2_with fail
       refine KKN.out.mono ?_
       rintro e w3 ⟨rfl,hb3⟩;have HI3:=hid (HI2.out.step hb3);have RT3:=hid (RT.below hb3 RT.bl);clear hb3 KKN z0 z1 z2 z3 z4 RT HI2;by_cases hkn:t ∈ S1
       ·have hq:=decide_eq_true hkn;rw [hq];have HX:=hid (show stepT num (T1,S1) t=(T1,S1) by unfold stepT; rw [if_pos hkn]);clear hkn hq;go_wp2;go_roundw
        case rel=>exact ⟨j+1,_,_,T1,S1,by omega,rfl,by go_num,hid (HSn2.out.trans HX.out),HI3,by omega,by omega⟩
        case measure=>simp [intOf]; omega
       ·have hq:=decide_eq_false hkn;rw [hq];have HXS:=hid (show stepT num (T1,S1) t=(tupC T1 num t,S1++[t]) by unfold stepT; rw [if_neg hkn]);clear hkn hq
        go_upto_region 21 with fail
        obtain ⟨va,vc,rfl⟩:=HI3.out.tup.form;have HId:=hid (HI3.out.step (Below.refl _ w3).drew);have RTd:=hid (RT3.out.below (Below.refl _ w3).drew RT3.out.bl);obtain ⟨c0,-,-,-,-,-,-⟩:=HPB.out _ HId.out.g;simp only at c0;obtain ⟨z0,z1,z2,z3,z4,-,-,-,-,-⟩:=RTd.out.rc5;have x1:w3.drew.cell? ⟨b7,1,none⟩=some (.slice va T1.length vc):=HId.out.row.cell 1 (by simp);by_cases h16:T1.length < 16
        ·have KT:=hid (rtaken_any HId.out.tup.tusAt HId.out.nil h16 t num (by omega) hp2);unfold tuV at KT;have HX:=hid (HXS.out.trans (by rw [tupC_take h16]))
         go_region_law (first
          | (go_simp; go_at_call 25; refine KT.out.mono ?_; rintro e w7 ⟨v',rfl,ho7,hb7⟩; have HP:=hid (HId.out.putT hb7 ho7 (by simp)); have RT7:=hid (row_other (RTd.out.below hb7 RTd.out.bl) (rows_neC (RTd.out.below hb7 RTd.out.bl) (HId.out.step hb7).row (by decide)) 1 v'); have q1:w7.cell? ⟨b7,1,none⟩=some (.slice va T1.length vc):=(HId.out.step hb7).row.cell 1 (by simp); have g1:=(HId.out.step hb7).row.frozen 1; obtain ⟨xa,xc,e7⟩:=ho7.form; rw [show (T1++[(⟨giveC T1 num.toNat 17 1 t.id,t.opn,t.contact,t.prio,t.note⟩:Tu)]).length=T1.length+1 by simp] at e7; subst e7; clear ho7 hb7))
         all_goals (
          clear x1 z0 z1 z2 z3 z4 c0 HId RTd KT HXS;generalize World.setCell _ _ _=W8 at HP RT7 ⊢;have HI8:=HP;obtain ⟨z0,z1,z2,z3,z4,-,-,-,-,-⟩:=RT7.out.rc5;have HI9:=hid (HI8.out.step ((Below.refl _ W8).alloc (Nat.le_refl _) (.cells #[.string ⟨t.id.toArray⟩,.bool t.opn,.string ⟨t.contact.toArray⟩,.int .i64 t.prio,.string ⟨t.note.toArray⟩] 48)));clear HP HI8)
         all_goals (
          go_wp2_with (at_builtin; refine wp_appTuAt _ rfl (.tmp 108) (.tmp 110) 25 rfl U0.heap.size i1 _ Tryz.underlying25 hj1 hy0 hy1 hy2 rfl _ S1 rfl (by exact HI9.out.seen) ⟨_,0,none⟩ 1 t rfl (by exact tu_newP _ t _ rfl) (by omega) (by exact HI9.out.g.size) ?_; intro v5 w5 hown5 hgr5 hat5; have HI10:=hid (HI9.out.putS hgr5 hown5 hat5); clear hown5 hgr5 hat5)
          clear z0 z1 z2 z3 z4 HI9;go_roundw
          case rel=>exact ⟨j+1,_,_,_,S1++[t],by omega,rfl,by go_num,hid (HSn2.out.trans HX.out),HI10,by simp; omega,by first | omega | (simp; omega)⟩
          case measure=>simp [intOf]; omega)
        ·have KT:=hid (rtaken_full HId.out.tup.tusAt (by omega) (by omega) t num);unfold tuV at KT;have HX:=hid (HXS.out.trans (by rw [tupC_full (by omega)]))
         go_region_law (first
          | (go_simp; go_at_call 25; refine KT.out.mono ?_; rintro e w7 ⟨rfl,hb7⟩; have HP:=hid (HId.out.step hb7).sameT; have RT7:=hid (row_other (RTd.out.below hb7 RTd.out.bl) (rows_neC (RTd.out.below hb7 RTd.out.bl) (HId.out.step hb7).row (by decide)) 1 (.slice va T1.length vc)); have q1:w7.cell? ⟨b7,1,none⟩=some (.slice va T1.length vc):=(HId.out.step hb7).row.cell 1 (by simp); have g1:=(HId.out.step hb7).row.frozen 1; clear hb7))
         all_goals (
          clear x1 z0 z1 z2 z3 z4 c0 HId RTd KT HXS;generalize World.setCell _ _ _=W8 at HP RT7 ⊢;have HI8:=HP;obtain ⟨z0,z1,z2,z3,z4,-,-,-,-,-⟩:=RT7.out.rc5;have HI9:=hid (HI8.out.step ((Below.refl _ W8).alloc (Nat.le_refl _) (.cells #[.string ⟨t.id.toArray⟩,.bool t.opn,.string ⟨t.contact.toArray⟩,.int .i64 t.prio,.string ⟨t.note.toArray⟩] 48)));clear HP HI8)
         all_goals (
          go_wp2_with (at_builtin; refine wp_appTuAt _ rfl (.tmp 108) (.tmp 110) 25 rfl U0.heap.size i1 _ Tryz.underlying25 hj1 hy0 hy1 hy2 rfl _ S1 rfl (by exact HI9.out.seen) ⟨_,0,none⟩ 1 t rfl (by exact tu_newP _ t _ rfl) (by omega) (by exact HI9.out.g.size) ?_; intro v5 w5 hown5 hgr5 hat5; have HI10:=hid (HI9.out.putS hgr5 hown5 hat5); clear hown5 hgr5 hat5)
          clear z0 z1 z2 z3 z4 HI9;go_roundw
          case rel=>exact ⟨j+1,_,_,_,S1++[t],by omega,rfl,by go_num,hid (HSn2.out.trans HX.out),HI10,by simp; omega,by first | omega | (simp; omega)⟩
          case measure=>simp [intOf]; omega)
      ·have hlt2':¬ (j:Int) < (tn:Int):=by omega
       have HE2:=hid (show tl2.foldl (stepT num) (T,S)=(T1,S1) by
        have h:=HE1.out
        rwa [show j=tl2.length by have:=HTN.out; omega,List.take_length] at h)
       clear HE1;go_wp2;clear c0 c1 c2 c3 c4 c5 c6
       go_loopw [13] (fun i wr3=>∃ (q:Nat) (vn:Value) (N1:List (List UInt8)),q≤nn∧i=.int .i64 q∧Hid ((nl2.take q).foldl stepN N=N1)∧Hid (RcI U0 b7 who wr3 vt vn vs T1 S1 N1)∧N1.length≤k * 16+q) (fun i _=>nn - (intOf i).toNat)
       case atStart=>exact ⟨0,_,N,by omega,rfl,hid rfl,HI,by omega⟩
       case round =>
        clear HI;obtain ⟨q,vn,N1,hq,rfl,HE3,HI,hlN1⟩:=hrel;obtain ⟨c0,c1,c2,c3,c4,c5,c6⟩:=HPB.out wr HI.out.g;simp only at c0 c1 c2 c3 c4 c5 c6;by_cases hlt3:q < nn
        ·have hlt3':(q:Int) < (nn:Int):=by omega
         have hql:q < nl2.length:=by rw [← HNN.out]; exact hlt3
         obtain ⟨ad3,hoa3,hab3,ys⟩:=HNC.out q hql;subst hoa3;have HSn3:=hid (show (nl2.take (q+1)).foldl stepN N=stepN N1 nl2[q] by rw [foldl_snocK,HE3.out]);have HYS:=hid (fun (u:World) (hu:U0.grownBy u (some b7))=>cell_below (HBW.out u hu) (by rw [add_block]; exact hab3) ys);generalize nl2[q]=s at ys HSn3 HYS;obtain ⟨xa,xc,hvn⟩:=own_formP HI.out.note;rw [show (strs N1).length=N1.length by simp [strs]] at hvn;subst hvn;clear ys hab3 HE3
         go_upto_region 26 with fail
         clear c0 c1 c2 c3 c4 c5 c6;have KH:=hid (fun (u:World) (hu:StrsAt u (.slice xa N1.length xc) N1)=>rhas17_same hu (by omega) s);have HSA:=hid (strsAt_own HI.out.note);obtain ⟨-,-,-,-,-,-,c6⟩:=HPB.out _ HI.out.g;simp only at c6;have x2:wr.cell? ⟨b7,2,none⟩=some (.slice xa N1.length xc):=HI.out.row.cell 2 (by simp);have y3:=HYS.out _ HI.out.g;by_cases hin:s ∈ N1
         ·have hq1:=decide_eq_true hin;rw [hq1] at KH;have HX:=hid (HSn3.out.trans (stepN_in (.inl hin)));clear hin hq1
          go_quiet (first | (go_at_call 26; exact Calls.quiet_of_same (KH.out _ HSA.out)))
          have HI7:=hid (HI.out.step (below_drewN wr nq));clear x2 y3 c6 KH;generalize World.drewN wr _=w7 at HI7 ⊢
          all_goals (
           skip
           go_wp2;go_roundw
           case rel=>exact ⟨q+1,_,N1,by omega,by go_num,HX,HI7,by omega⟩
           case measure=>simp [intOf]; omega)
         ·have hq1:=decide_eq_false hin;rw [hq1] at KH;by_cases h16:N1.length < 16
          ·have h16':(N1.length:Int) < 16:=by omega
           have HX:=hid (HSn3.out.trans (stepN_new hin h16));clear hin hq1
           go_quiet (first | (go_at_call 26; exact Calls.quiet_of_same (KH.out _ HSA.out)))
           have HI7:=hid (HI.out.step (below_drewN wr nq));clear x2 y3 c6 KH;generalize World.drewN wr _=w7 at HI7 ⊢
           all_goals (
            skip
            go_upto_region 27 with fail
            have HNd:=hid (HI7.out.step (Below.refl _ w7).drew);have HNa:=hid (HI7.out.step ((Below.refl _ w7).alloc (Nat.le_refl _) (.cells #[.string ⟨s.toArray⟩] 9)).drew);have yd:=HYS.out _ HNd.out.g;have c6:=(HPB.out _ HNd.out.g).c6;simp only at c6;have y2:w7.drew.cell? ⟨b7,2,none⟩=some (.slice xa N1.length xc):=HNd.out.row.cell 2 (by simp);have y3:(w7.alloc (.cells #[.string ⟨s.toArray⟩] 9)).drew.cell? ⟨b7,2,none⟩=some (.slice xa N1.length xc):=HNa.out.row.cell 2 (by simp);have hfz:=HNd.out.row.frozen 2;have hfz2:=HNa.out.row.frozen 2
            go_region_law (first
             | (refine step_appS rfl (.tmp 143) (.tmp 153) 26 rfl U0.heap.size 9 i2 _ 16 Tryz.underlying26 hk2 hv0 hv1 hv2 rfl _ (strs N1) (by first | rfl | simp [Act.eval,Act.put]) (by exact HNa.out.note) ⟨_,0,none⟩ 1 1 [.string ⟨s.toArray⟩] rfl rfl (by intro j2 u2 hj2; exact one_new _ _ _ j2 u2 hj2) (by intro u hu; simp at hu; subst hu; rfl) (by simp [strs]; unfold maxLen; omega) (by simp [strs]; omega) HNa.out.g.size ?_; intro v7 w8 ho7 hb7; have HP:=hid (HNa.out.putN hb7 (vn':=v7) (N':=N1++[s]) (by simpa [strs] using ho7)); have z2:w8.cell? ⟨b7,2,none⟩=some (.slice xa N1.length xc):=(HNa.out.midN hb7).cell 2 (by simp); have z3:=(HNa.out.midN hb7).frozen 2; obtain ⟨ya,yk,e7⟩:=own_formP ho7; rw [show (strs N1++[Value.string ⟨s.toArray⟩]).length=N1.length+1 by simp [strs]] at e7; subst e7; clear ho7 hb7))
            all_goals (
             clear HNd HNa yd c6 y2 y3 hfz hfz2 z2 z3;generalize World.setCell _ _ _=W8 at HP ⊢;go_wp2;go_roundw
             case rel=>exact ⟨q+1,_,N1++[s],by omega,by go_num,HX,HP,by simp; omega⟩
             case measure=>simp [intOf]; omega))
          ·have h16':¬ (N1.length:Int) < 16:=by omega
           have HX:=hid (HSn3.out.trans (stepN_in (.inr (by omega))));clear hin hq1
           go_quiet (first | (go_at_call 26; exact Calls.quiet_of_same (KH.out _ HSA.out)))
           have HI7:=hid (HI.out.step (below_drewN wr nq));clear x2 y3 c6 KH;generalize World.drewN wr _=w7 at HI7 ⊢
           all_goals (
            skip
            go_wp2;go_roundw
            case rel=>exact ⟨q+1,_,N1,by omega,by go_num,HX,HI7,by omega⟩
            case measure=>simp [intOf]; omega)
        ·have hlt3':¬ (q:Int) < (nn:Int):=by omega
         have HE4:=hid (show nl2.foldl stepN N=N1 by
          have h:=HE3.out
          rwa [show q=nl2.length by have:=HNN.out; omega,List.take_length] at h)
         have HEn:=hid (show (pbsL (cs.take (k+1))).foldl pubC (([],[]),[])=((T1,S1),N1) by rw [HSn.out,HE2.out,HE4.out]);go_wp2;go_roundw
         case rel=>exact ⟨k+1,_,_,_,T1,S1,N1,by omega,rfl,by go_num,HEn,HI,by omega,by omega,by omega⟩
         case measure=>simp [intOf]; omega
    ·have hlt':¬ (k:Int) < (n:Int):=by omega
     have HEn:=hid (show foldC (pbsL cs)=((T,S),N) by
      have h:=HE.out
      rwa [show k=cs.length by have:=HN.out; omega,List.take_length] at h)
     obtain ⟨va,vc,hvt⟩:=HI.out.tup.form;obtain ⟨na,nc,hvn⟩:=own_formP HI.out.note;subst hvt hvn;have HRW:=hid (grown_row HI.out.g HR4.out (by omega));have HBW:=hid (grown_bel HB0.out HI.out.g (Nat.le_of_lt hl47) hwU);have KP:=hid (fun v0 v1 v2=>keep3 HBW.out HRW.out v0 v1 v2);have hlU:w.heap.size < U0.heap.size:=by have:=HI.out.lt; omega
     have KT:=hid (fun v0 v1 v2=>show OwnU (((wr.setCell ⟨w.heap.size,0,none⟩ v0).setCell ⟨w.heap.size,1,none⟩ v1).setCell ⟨w.heap.size,2,none⟩ v2) w.heap.size (.slice va T.length vc) T from own_lower (ownsRow_setCell_below (a:=⟨w.heap.size,2,none⟩) (ownsRow_setCell_below (a:=⟨w.heap.size,1,none⟩) (ownsRow_setCell_below (a:=⟨w.heap.size,0,none⟩) HI.out.tup hlU v0) hlU v1) hlU v2) hwU);have KN:=hid (fun v0 v1 v2=>show Own (((wr.setCell ⟨w.heap.size,0,none⟩ v0).setCell ⟨w.heap.size,1,none⟩ v1).setCell ⟨w.heap.size,2,none⟩ v2) w.heap.size 9 (.slice na (strs N).length nc) (strs N) from own_lower (ownsRow_setCell_below (a:=⟨w.heap.size,2,none⟩) (ownsRow_setCell_below (a:=⟨w.heap.size,1,none⟩) (ownsRow_setCell_below (a:=⟨w.heap.size,0,none⟩) HI.out.note hlU v0) hlU v1) hlU v2) hwU);obtain ⟨s0,s1,s2,f0,f1,f2⟩:=HRW.out.rc3;obtain ⟨x0,x1,x2,-,-,-⟩:=HI.out.row.rc3;clear HE HRW HBW;go_wp2;have KEEP:=hid (KP.out (.string ⟨who.toArray⟩) (.slice va T.length vc) (.slice na (strs N).length nc));have KTT:=hid (KT.out (.string ⟨who.toArray⟩) (.slice va T.length vc) (.slice na (strs N).length nc));have KNN:=hid (KN.out (.string ⟨who.toArray⟩) (.slice va T.length vc) (.slice na (strs N).length nc));clear KP KT KN
     try simp only [Exit.inBlock,Exit.then]
     generalize World.setCell _ _ _=w9 at KEEP KTT KNN ⊢;obtain ⟨d0,d1,d2,_⟩:=KEEP.out.1.rc3;refine bodyPost_ret (v:=.tuple #[.agg #[.string ⟨who.toArray⟩,.slice va T.length vc,.slice na (strs N).length nc],.int .i64 0]) (by simp [results,Tryz.results12,go_sem,d0,d1,d2]; try rfl) rfl ?_
     exact ⟨_,_,rfl,by rw [HEn.out]; exact KTT.out,by rw [HEn.out]; exact KNN.out,KEEP.out.2⟩
end Go.Proofs.YtldkidljjbkmbaaGreatDoor
namespace Go.Proofs.YtldkidljjbkmbaaGreatDoor
open Go.RowKit Sc
theorem rxesc_list (l:List UInt8) (w:World) (h:l.length≤1048576) :
  Calls Tryz.prog 97 #[.string ⟨l.toArray⟩] w fun e w'=>e=.returned (.string ⟨(escX l).toArray⟩)∧w'=w:=rescaped_any ⟨l.toArray⟩ w (by rw [size_list]; exact h)
theorem glueA (a n e:List UInt8):((((((⟨a.toArray⟩:ByteArray)++⟨#[32]⟩)++⟨n.toArray⟩)++⟨#[61,34]⟩)++⟨e.toArray⟩)++⟨#[34]⟩)=⟨(a++([32]++n++[61,34]++e++[34])).toArray⟩:=by
 simp [ByteArray.mk_append_mk]
theorem glueL (a b:List UInt8):(⟨a.toArray⟩:ByteArray)++⟨b.toArray⟩=⟨(a++b).toArray⟩:=by
 rw [ByteArray.mk_append_mk]; try simp
theorem glueE (s i n:List UInt8):(((((⟨s.toArray⟩:ByteArray)++⟨#[62]⟩)++⟨i.toArray⟩)++⟨#[60,47]⟩)++⟨n.toArray⟩)++⟨#[62]⟩=⟨(s++([62]++i++([60,47]++n++[62]))).toArray⟩:=by
 simp [ByteArray.mk_append_mk]
def WrRes (v:Value) (k:Nat) (s:List UInt8) (n:Nat) (w:World):Prop :=
 Calls Tryz.prog 64 #[v,.int .i64 k] w fun e w'=>e=.returned (.tuple #[.string ⟨s.toArray⟩,.int .i64 n])∧Below w.heap.size w w'
set_option maxHeartbeats 8000000 in
set_option maxRecDepth 100000 in
theorem rwritten_step (N:Nat) (ih:∀ (t:XT),szX t≤N → ∀ (v:Value) (cs:List NdC) (k d:Nat) (post:List Nd) (w:World),NdsAt w v cs → cs.length≤1048576 → (∀ c ∈ cs,SmallN 1048576 c.nd) → (ndsL cs).drop k=flatX d t++post → (∀ x,post.head? = some x → x.deep≤(d:Int)) → (printX t).length≤1099511627776 → WrRes v k (printX t) (k+(flatX d t).length) w) :
  ∀ (t:XT),szX t≤N+1 → ∀ (v:Value) (cs:List NdC) (k d:Nat) (post:List Nd) (w:World),NdsAt w v cs → cs.length≤1048576 → (∀ c ∈ cs,SmallN 1048576 c.nd) → (ndsL cs).drop k=flatX d t++post → (∀ x,post.head? = some x → x.deep≤(d:Int)) → (printX t).length≤1099511627776 → WrRes v k (printX t) (k+(flatX d t).length) w:=by
 intro t ht v cs k d post w hv hz hsm hdrop hpost hpl;obtain ⟨nm,ps,tx,ks⟩:=t;have hpl2:=print_len nm ps tx ks;have HPl:=hid hpl;rw [flatX,List.cons_append] at hdrop;obtain ⟨hk,hnd,hdrop1⟩:=drop_nd hdrop;have HI:Hid (∀ (t:XT),szX t≤N → ∀ (k d:Nat) (post:List Nd) (w:World),NdsAt w v cs → (ndsL cs).drop k=flatX d t++post → (∀ x,post.head? = some x → x.deep≤(d:Int)) → (printX t).length≤1099511627776 → WrRes v k (printX t) (k+(flatX d t).length) w):=fun t ht k d post w hv=>ih t ht v cs k d post w hv hz hsm;have hvv:=hv;obtain ⟨ao,cap,rfl,hc⟩:=hv;obtain ⟨ad,hao,hab,c0,pa⟩:=hc k hk;subst hao;obtain ⟨s1,s2,s3,s4⟩:=hsm cs[k] (List.getElem_mem hk);have HV:=hid hvv
 have HC:Hid (∀ j (hj:j < cs.length),NdAt w ad j cs[j]):=fun j hj=>by
  obtain ⟨ad3,hao3,_,c3,_⟩:=hc j hj
  have:ad3=ad:=(Option.some.inj hao3).symm
  subst this; exact c3
 clear hc hvv ih hsm;rw [hnd] at pa s1 s2 s3 s4;simp only at pa s1 s2 s3 s4;obtain ⟨c0,c1,c2,c3⟩:=c0;rw [hnd] at c0 c1 c3;simp only at c0 c1 c3;obtain ⟨pao,pcap,hpa,hpc⟩:=pa.open;have HPar:=hid hpc;rw [hpa] at c2;have s3z:=s3.1;have HS3:=hid s3.2;have s5:=i64_of s4
 have HAt:Hid (∀ j (hj:j < ps.length) (S:List UInt8),S=[60]++nm++attrsT (ps.take j) → ((((((⟨S.toArray⟩:ByteArray)++⟨#[32]⟩)++⟨ps[j].name.toArray⟩)++⟨#[61,34]⟩)++⟨(escX ps[j].value).toArray⟩)++⟨#[34]⟩)=⟨([60]++nm++attrsT (ps.take (j+1))).toArray⟩):=fun j hj S hS=>by
  rw [glueA,attrsT_snoc hj,hS]; unfold attrT; simp
 have HA0:Hid ((⟨#[60]⟩:ByteArray)++⟨nm.toArray⟩=⟨([60]++nm++attrsT (ps.take 0)).toArray⟩):=show _=_ by rw [ByteArray.mk_append_mk]; simp [attrsT]
 have HAe:Hid (attrsT (ps.take ps.length)=attrsT ps):=show _=_ by rw [List.take_length]
 obtain ⟨pn,hpn⟩:∃ pn,pn=ps.length:=⟨_,rfl⟩
 rw [← hpn] at c2 HAe s3z;have HPN:=hid hpn;clear hpn hpc s3 s4;have hr0':=rc_row4 w (.int .i64 (d:Int)) (.string ⟨nm.toArray⟩) (.slice pao pn pcap) (.string ⟨tx.toArray⟩) 82;have hb0:Below w.heap.size w (w.alloc (.cells #[.int .i64 (d:Int),.string ⟨nm.toArray⟩,.slice pao pn pcap,.string ⟨tx.toArray⟩] 82)):=(Below.refl _ w).alloc (Nat.le_refl _) _;have hlt0:=alloc_lt w (.cells #[.int .i64 (d:Int),.string ⟨nm.toArray⟩,.slice pao pn pcap,.string ⟨tx.toArray⟩] 82);have q6:(k:Int) < (cs.length:Int):=by omega
 obtain ⟨n,hn⟩:∃ n,n=cs.length:=⟨_,rfl⟩
 rw [← hn] at hz q6 ⊢;have HL:=hid hn;have HD:=hid hdrop1;have HPo:=hid hpost;have HT:=hid ht;clear hn hdrop hdrop1 hpost ht hnd hpa pa;unfold WrRes
 go_enter Tryz.func64,Tryz.ntmps64
 go_wp2;generalize World.alloc _ _=W0 at hr0' hb0 hlt0 ⊢;have hr0:=hid hr0';have hzc:(escX tx).length≤6291456:=by have:=escX_len tx; omega
 clear hr0' c0 c1 c2 c3
 go_loopw [7,8] (fun sv i wr=>∃ (j q:Nat),j≤pn∧i=.int .i64 j∧sv=.string ⟨([60]++nm++attrsT (ps.take j)).toArray⟩∧wr=W0.drewN q) (fun _ i _=>pn - (intOf i).toNat)
 case atStart=>exact ⟨0,0,Nat.zero_le _,rfl,by rw [HA0.out],rfl⟩
 case round =>
  obtain ⟨j,q,hj,rfl,rfl,rfl⟩:=hrel;by_cases hlt:j < pn
  ·have hjl:j < ps.length:=by have:=HPN.out; omega
   obtain ⟨a,hpao,hpab,d0⟩:=HPar.out j hjl;subst hpao;obtain ⟨W,hW⟩:∃ W,W=W0.drewN q:=⟨_,rfl⟩
   have hrW:RowIs W w.heap.size 82 [.int .i64 (d:Int),.string ⟨nm.toArray⟩,.slice (some a) pn pcap,.string ⟨tx.toArray⟩]:=by rw [hW]; exact hr0.out.below (belowD _ _ _) hlt0
   obtain ⟨b0,b1,b2,b3,_,_,_,_⟩:=hrW.rc4;obtain ⟨d0,d1,d2⟩:=d0.below hb0 hpab;replace d0:=cellD hW d0;replace d1:=cellD hW d1;replace d2:=cellD hW d2;have hs:=HS3.out ps[j] (List.getElem_mem hjl);have KE:=hid (fun w'=>rxesc_list ps[j].value w' hs.2);have HG:=hid (HAt.out j hjl _ rfl)
   have z1:([60]++nm++attrsT (ps.take j)).length+4+ps[j].name.length+(escX ps[j].value).length≤1099511627776:=by
    have:=attrsT_len hjl
    rw [attrT_len] at this;simp only [List.length_append,List.length_cons,List.length_nil];omega
   have hEW:Hid (∀ m,∃ q',W.drewN m=W0.drewN q'):=fun m=>⟨q+m,by rw [hW,World.drewN_drewN]⟩
   have q7:(j:Int) < (pn:Int):=by omega
   rw [← hW];clear hW hrW HI HV HC HD HPo HT HAt HA0 HAe HPar HS3 hs hr0 hb0 hlt0;generalize ps[j]=P at d0 d1 d2 KE HG z1;obtain ⟨pn',pv,ph⟩:=P;simp only at d0 d1 d2 KE HG z1;generalize [60]++nm++attrsT (ps.take j)=S at HG z1 ⊢;have z2:=size_list S;have z3:=size_list pn';have z4:=size_list (escX pv);generalize escX pv=ev at KE HG z1 z4;go_wp2
   go_quiet (first | (go_at_call 97; exact Calls.quiet_of_same (KE.out _)))
   go_wp2;go_roundw
   case rel =>
    obtain ⟨q',hq'⟩:=hEW.out nq;exact ⟨j+1,q',by omega,by go_num,by rw [HG.out],hq'⟩
   case measure=>simp [intOf]; omega
  ·have hje:j=pn:=by omega
   subst hje;rw [HAe.out];have KE:=hid (fun w'=>rxesc_list tx w' s2);have hrq:=hid (hr0.out.below (belowD _ W0 q) hlt0);have hbq:Below w.heap.size w (W0.drewN q):=hb0.trans (belowD _ _ _);have hltq:w.heap.size < (W0.drewN q).heap.size:=hlt0;have hwk:IntKind.i64.wrap ((k:Int)+1)=(k:Int)+1:=by rw [IntKind.wrap_i64]; omega
   obtain ⟨S,hS⟩:∃ S,S=[60]++nm++attrsT ps:=⟨_,rfl⟩
   rw [← hS];have HSe:=hid hS;clear HAt HA0 HAe HPar HS3 hr0 hb0 hlt0 hS;generalize W0.drewN q=W1 at hrq hbq hltq ⊢;obtain ⟨b0,b1,b2,b3,_,_,_,_⟩:=hrq.out.rc4;go_wp2_with (go_at_call 97; refine (KE.out _).mono ?_; rintro e w' ⟨rfl,rfl⟩)
   clear b0 b1 b2 b3 KE
   go_loopw [9,10] (fun nx iv wr=>∃ (done rest:List XT) (x:Nat),nx=.int .i64 (x:Int)∧iv=.string ⟨(escX tx++printXs done).toArray⟩∧Hid (ks=done++rest)∧Hid (x=k+1+(flatXs (d+1) done).length)∧x≤n∧Hid ((ndsL cs).drop x=flatXs (d+1) rest++post)∧Below w.heap.size w wr∧w.heap.size < wr.heap.size∧Hid (RowIs wr w.heap.size 82 [.int .i64 (d:Int),.string ⟨nm.toArray⟩,.slice pao j pcap,.string ⟨tx.toArray⟩])) (fun nx _ _=>n - (intOf nx).toNat)
   case atStart=>exact ⟨[],ks,k+1,by go_num,by rw [printXs,List.append_nil],show _=_ from rfl,show _=_ by rw [flatXs]; rfl,by omega,HD,hbq,hltq,hrq⟩
   case round =>
    obtain ⟨done,rest,x,rfl,rfl,hdr,hx,hxn,hD2,hb,hl,hr⟩:=hrel;clear hrq hbq hltq;obtain ⟨b0,b1,b2,b3,_,_,_,_⟩:=hr.out.rc4;have hBW:Hid (∀ m,Below w.heap.size w (wr.drewN m)):=fun m=>hb.trans (belowD _ _ _)
    have z9:(escX tx++printXs done).length≤1099511627776:=by
     have h1:=HPl.out;have h2:=hpl2;rw [hdr.out,printXs_app,List.length_append] at h2;rw [hdr.out] at h1;rw [List.length_append]; omega
    cases rest with
    | nil =>
     by_cases hxl:x < n
     ·have hxc:x < cs.length:=by have:=HL.out; omega
      have q8:(x:Int) < (n:Int):=by omega
      have q8d:decide ((x:Int) < (n:Int))=true:=decide_eq_true q8;obtain ⟨e0,_,_,_⟩:=(HC.out x hxc).below hb hab
      have hle:cs[x].nd.deep≤(d:Int):=by
       have h1:=hD2.out;rw [flatXs,List.nil_append] at h1;refine HPo.out _ ?_
       rw [← h1,List.head?_drop]
       simp [ndsL,hxc]
      generalize cs[x].nd.deep=xd at e0 hle;have q9:decide ((d:Int) < xd)=false:=decide_eq_false (by omega);have hks:ks=done:=by rw [hdr.out,List.append_nil]
      clear HI HV HC HD HT;by_cases hI:escX tx++printXs done=[]
      ·have hP:Hid (printX (.mk nm ps tx ks)=S++[47,62]):=show _=_ by rw [hks,print_nil hI,HSe.out]
       rw [hI];have z5:S.length+2≤1099511627776:=by have h1:=HPl.out; rw [hP.out] at h1; simpa using h1
       have z6:=size_list S;have HG:=hid (glueB S #[47,62]);have hF:Hid (k+(flatX d (.mk nm ps tx ks)).length=x):=show _=_ by rw [hx.out,flatX,hks,List.length_cons]; omega
       clear hI HSe HPl hpl hpl2 hx hks hdr hD2;go_wp2
       go_quiet (fail)
       go_wp2;go_ret2;exact ⟨by rw [hP.out,hF.out]; simp only [← HG.out]; rfl,by first | exact hBW.out _ | exact hBW.out 0⟩
      ·have hP:Hid (printX (.mk nm ps tx ks)=S++([62]++(escX tx++printXs done)++([60,47]++nm++[62]))):=show _=_ by rw [hks,print_in hI,HSe.out]
       have z5:S.length+1+(escX tx++printXs done).length+2+nm.length+1≤1099511627776:=by
        have h1:=HPl.out;rw [hP.out] at h1;simp only [List.length_append,List.length_cons,List.length_nil] at h1 ⊢;omega
       have hF:Hid (k+(flatX d (.mk nm ps tx ks)).length=x):=show _=_ by rw [hx.out,flatX,hks,List.length_cons]; omega
       have r6:(escX tx++printXs done==([]:List UInt8))=false:=by simpa using hI
       have r6e:(escX tx++printXs done).isEmpty=false:=by rw [Bool.eq_false_iff]; intro h; exact hI (List.isEmpty_iff.1 h)
       clear HSe HPl hpl hpl2 hx hks hdr hD2 hzc z9;generalize escX tx++printXs done=I at hP z5 r6 r6e hI ⊢;have HG:=hid (glueE S I nm);have z6:=size_list S;have z7:=size_list I;have z8:=size_list nm;clear hI;go_wp2
       go_quiet (fail)
       go_wp2;go_ret2;exact ⟨by rw [hP.out,hF.out]; simp only [← HG.out]; rfl,by first | exact hBW.out _ | exact hBW.out 0⟩
     ·have q8:¬ (x:Int) < (n:Int):=by omega
      have q8d:decide ((x:Int) < (n:Int))=false:=decide_eq_false q8;have hks:ks=done:=by rw [hdr.out,List.append_nil]
      clear HI HV HC HD HT;by_cases hI:escX tx++printXs done=[]
      ·have hP:Hid (printX (.mk nm ps tx ks)=S++[47,62]):=show _=_ by rw [hks,print_nil hI,HSe.out]
       rw [hI];have z5:S.length+2≤1099511627776:=by have h1:=HPl.out; rw [hP.out] at h1; simpa using h1
       have z6:=size_list S;have HG:=hid (glueB S #[47,62]);have hF:Hid (k+(flatX d (.mk nm ps tx ks)).length=x):=show _=_ by rw [hx.out,flatX,hks,List.length_cons]; omega
       clear hI HSe HPl hpl hpl2 hx hks hdr hD2;go_wp2
       go_quiet (fail)
       go_wp2;go_ret2;exact ⟨by rw [hP.out,hF.out]; simp only [← HG.out]; rfl,by first | exact hBW.out _ | exact hBW.out 0⟩
      ·have hP:Hid (printX (.mk nm ps tx ks)=S++([62]++(escX tx++printXs done)++([60,47]++nm++[62]))):=show _=_ by rw [hks,print_in hI,HSe.out]
       have z5:S.length+1+(escX tx++printXs done).length+2+nm.length+1≤1099511627776:=by
        have h1:=HPl.out;rw [hP.out] at h1;simp only [List.length_append,List.length_cons,List.length_nil] at h1 ⊢;omega
       have hF:Hid (k+(flatX d (.mk nm ps tx ks)).length=x):=show _=_ by rw [hx.out,flatX,hks,List.length_cons]; omega
       have r6:(escX tx++printXs done==([]:List UInt8))=false:=by simpa using hI
       have r6e:(escX tx++printXs done).isEmpty=false:=by rw [Bool.eq_false_iff]; intro h; exact hI (List.isEmpty_iff.1 h)
       clear HSe HPl hpl hpl2 hx hks hdr hD2 hzc z9;generalize escX tx++printXs done=I at hP z5 r6 r6e hI ⊢;have HG:=hid (glueE S I nm);have z6:=size_list S;have z7:=size_list I;have z8:=size_list nm;clear hI;go_wp2
       go_quiet (fail)
       go_wp2;go_ret2;exact ⟨by rw [hP.out,hF.out]; simp only [← HG.out]; rfl,by first | exact hBW.out _ | exact hBW.out 0⟩
    | cons k1 rest =>
     have hD3:=hD2.out;obtain ⟨y,r,e1,hy⟩:=flat_head (d+1) k1;have hD4:=hD3;rw [flatXs,e1,List.cons_append,List.cons_append] at hD4;obtain ⟨hxc,hnx,_⟩:=drop_nd hD4;have hxl:x < n:=by have:=HL.out; omega
     have q8:(x:Int) < (n:Int):=by omega
     have q8d:decide ((x:Int) < (n:Int))=true:=decide_eq_true q8;obtain ⟨e0,_,_,_⟩:=(HC.out x hxc).below hb hab;rw [hnx,hy] at e0;have q9:decide ((d:Int) < ((d+1:Nat):Int))=true:=decide_eq_true (by omega);rw [flatXs,List.append_assoc] at hD3
     have hpk:(printX k1).length+(escX tx++printXs done).length≤1099511627776:=by
      have h1:=HPl.out;have h2:=hpl2;rw [hdr.out,printXs_app,printXs,List.length_append,List.length_append] at h2;rw [hdr.out] at h1;rw [List.length_append]; omega
     have KW:Hid (∀ w',Below w.heap.size w w' → WrRes (.slice (some ad) cs.length cap) x (printX k1) (x+(flatX (d+1) k1).length) w'):=fun w' hw'=>HI.out k1 (sz_in HT.out hdr.out) x (d+1) _ w' (HV.out.below hw') hD3 (post_head HPo.out) (by omega);rw [← HL.out] at KW;have hdr2:Hid (ks=(done++[k1])++rest):=show _=_ by rw [hdr.out]; simp
     have hx2:Hid (x+(flatX (d+1) k1).length=k+1+(flatXs (d+1) (done++[k1])).length):=show _=_ by
      rw [hx.out,flatXs_app,List.length_append]
      have:flatXs (d+1) [k1]=flatX (d+1) k1:=by rw [flatXs,flatXs,List.append_nil]
      rw [this]; omega
     have hD5:Hid ((ndsL cs).drop (x+(flatX (d+1) k1).length)=flatXs (d+1) rest++post):=drop_more hD3
     have hxn2:x+(flatX (d+1) k1).length≤n:=by
      have h1:=congrArg List.length hD3;rw [List.length_drop,ndsL_len,List.length_append] at h1
      have:=HL.out; omega
     have hpos:x < x+(flatX (d+1) k1).length:=by have:=flatX_pos (d+1) k1; omega
     have HP2:Hid (escX tx++printXs (done++[k1])=(escX tx++printXs done)++printX k1):=show _=_ by rw [printXs_app,printXs,printXs,List.append_nil,List.append_assoc]
     clear HI HV HC HD HPo HT HPl hpl hpl2 hD2 hD3 hD4 hdr hx HSe hy hnx e1;have HG:=hid (glueL (escX tx++printXs done) (printX k1));generalize escX tx++printXs done=I at HG HP2 hpk z9 ⊢;generalize printX k1=pk at HG HP2 hpk KW;generalize x+(flatX (d+1) k1).length=x2 at KW hx2 hD5 hxn2 hpos;have z6:=size_list I;have z7:=size_list pk;go_wp2
     go_quiet (fail)
     go_wp2_with (go_at_call 64; refine (KW.out _ (hBW.out _)).mono ?_; rintro e w5 ⟨rfl,hw5⟩)
     go_roundw
     case rel=>exact ⟨done++[k1],rest,x2,rfl,by rw [HP2.out,← HG.out],hdr2,hx2,hxn2,hD5,(hBW.out _).trans (hw5.mono (hBW.out _).size),Nat.lt_of_lt_of_le hl hw5.size,(hr.out.below (belowD _ _ _) hl).below hw5 hl⟩
     case measure=>simp [intOf]; omega
theorem rwritten_any:∀ (N:Nat) (t:XT),szX t≤N → ∀ (v:Value) (cs:List NdC) (k d:Nat) (post:List Nd) (w:World),NdsAt w v cs → cs.length≤1048576 → (∀ c ∈ cs,SmallN 1048576 c.nd) → (ndsL cs).drop k=flatX d t++post → (∀ x,post.head? = some x → x.deep≤(d:Int)) → (printX t).length≤1099511627776 → WrRes v k (printX t) (k+(flatX d t).length) w
 | 0,t,ht=>by obtain ⟨n,a,tx,ks⟩:=t; rw [szX] at ht; omega
 | N+1,t,ht=>rwritten_step N (rwritten_any N) t ht
theorem SmNd.smallM {x:Nd} (h:SmNd 4096 x):SmallN 1048576 x:=by
 obtain ⟨h1,h2,h3,h4,h5,h6⟩:=h;refine ⟨by omega,by omega,⟨by omega,fun p hp=>⟨by have:=(h4 p hp).1; omega,by have:=(h4 p hp).2; omega⟩⟩,?_⟩
 simp only [Lit.wf,IntKind.min,IntKind.max,IntKind.signed,IntKind.bits,Bool.and_eq_true,decide_eq_true_eq,if_true];omega
theorem glueP (l:List UInt8):(⟨#[60,63,120,109,108,32,118,101,114,115,105,111,110,61,34,49,46,48,34,32,101,110,99,111,100,105,110,103,61,34,85,84,70,45,56,34,63,62,10]⟩:ByteArray)++⟨l.toArray⟩=⟨(prologK++l).toArray⟩:=by
 rw [ByteArray.mk_append_mk]; simp [prologK]
set_option maxHeartbeats 2000000 in
set_option maxRecDepth 100000 in
theorem rprint13_ok (v:Value) (cs:List NdC) (t:XT) (w:World) (hz:cs.length≤1048576) (hsm:∀ c ∈ cs,SmallN 1048576 c.nd) (hv:NdsAt w v cs) (hc:checkX (ndsL cs)=0) (hf:flatX 0 t=ndsL cs) (hpl:(printX t).length≤1099511627776) :
  Calls Tryz.prog 44 #[v] w fun e w'=>e=.returned (.tuple #[.string ⟨(prologK++printX t).toArray⟩,.int .i64 0])∧Below w.heap.size w w':=by
 have hsm2:∀ c ∈ cs,SmallN 140737488355328 c.nd:=fun c hcm=>by
  obtain ⟨h1,h2,h3,h4⟩:=hsm c hcm;exact ⟨by omega,by omega,⟨by have:=h3.1; omega,fun p hp=>⟨by have:=(h3.2 p hp).1; omega,by have:=(h3.2 p hp).2; omega⟩⟩,h4⟩
 have KC:=hid (rcheck13_any v cs w (by omega) hsm2 hv);rw [hc] at KC;have KW:=hid (fun w' (h:Below w.heap.size w w')=>rwritten_any _ t (Nat.le_refl _) v cs 0 0 [] w' (hv.below h) hz hsm (by rw [List.drop_zero,hf,List.append_nil]) (fun x hx=>by simp at hx) hpl);have HG:=hid (glueP (printX t));generalize prologK++printX t=Z at HG ⊢;generalize printX t=P at KW HG hpl;generalize 0+(flatX 0 t).length=x at KW;have z1:=size_list P;unfold WrRes at KW;obtain ⟨ao,cap,rfl,_⟩:=hv;generalize cs.length=n at KC KW hz ⊢;clear hc hf hsm hsm2
 go_enter Tryz.func44,Tryz.ntmps44
 go_wp2_with fail
 refine KC.out.mono ?_
 rintro e w1 ⟨rfl,hw1⟩;go_wp2_with fail
 refine (KW.out _ hw1).mono ?_
 rintro e w2 ⟨rfl,hw2⟩;go_wp2;go_ret2;exact ⟨by rw [← HG.out]; rfl,hw1.trans (hw2.mono hw1.size)⟩
set_option maxHeartbeats 1000000 in
set_option maxRecDepth 100000 in
theorem ratr14_any (x y:ByteArray) (w:World) :
  Calls Tryz.prog 42 #[.string x,.string y] w fun e w'=>e=.returned (.agg #[.string x,.string y,.bool true])∧Below w.heap.size w w':=by
 have hr0':=rc_row3 w (.string ⟨#[]⟩) (.string ⟨#[]⟩) (.bool false) 78;have hb0:Below w.heap.size w (w.alloc (.cells #[.string ⟨#[]⟩,.string ⟨#[]⟩,.bool false] 78)):=(Below.refl _ w).alloc (Nat.le_refl _) _;have hlt0:=alloc_lt w (.cells #[.string ⟨#[]⟩,.string ⟨#[]⟩,.bool false] 78);obtain ⟨c0,c1,c2,f0,f1,f2⟩:=hr0'.rc3;have hr0:=hid hr0';clear hr0'
 go_enter Tryz.func42,Tryz.ntmps42
 go_wp2;have hr5:=rc_store3 hr0.out (.string x) (.string y) (.bool true);have hb5:=rc_below3 hb0 w.heap.size (Nat.le_refl _) (.string x) (.string y) (.bool true);generalize World.setCell _ _ _=w5 at hr5 hb5 ⊢;obtain ⟨d0,d1,d2,_,_,_⟩:=hr5.rc3
 try simp only [Exit.inBlock,Exit.then]
 refine bodyPost_ret (v:=.agg #[.string x,.string y,.bool true]) (by simp [results,Tryz.results42,go_sem,d0,d1,d2]; try rfl) rfl ?_
 exact ⟨rfl,(Below.refl _ w).alloc (Nat.le_refl _) _⟩
theorem draw_step {w1 u wa:World} (hw:Below u.heap.size u wa) (h1:u.os=w1.os) (h2:u.tape=w1.tape) (h3:u.output=w1.output) (h4:u.heap=w1.heap):Below w1.heap.size w1 wa:=by
 have h:Below w1.heap.size w1 u:=⟨h1,h2,h3,by rw [h4]; exact Nat.le_refl _,fun _ _=>by rw [h4]⟩
 exact h.trans (by rw [h4] at hw; exact hw)
end Go.Proofs.YtldkidljjbkmbaaGreatDoor
