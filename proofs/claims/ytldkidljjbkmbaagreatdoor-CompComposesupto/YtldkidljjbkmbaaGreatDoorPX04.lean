/-
  Parts, PubO, CompL, CompN, OpenPb, CpM, CpP, WCompAlone.
-/
import Derived.Test.YtldkidljjbkmbaaGreatDoorPX17
import Derived.Test.YtldkidljjbkmbaaGreatDoorPX07
set_option linter.unusedVariables false
set_option linter.unusedSimpArgs false
set_option maxRecDepth 20000
namespace Go.Proofs.YtldkidljjbkmbaaGreatDoor
open Go.RowKit Sc
theorem grown_refl (w:World) (r:Option Nat):w.grownBy w r:=⟨rfl,rfl,rfl,Nat.le_refl _,fun _ _ _=>rfl⟩
def pbV (c:PbC):Value:=.agg #[.int .i64 c.p.num,.string ⟨c.p.who.toArray⟩,.string ⟨c.p.tag.toArray⟩,.int .i64 c.p.til,.string ⟨c.p.doc.entity.toArray⟩,c.ts,c.ns]
theorem give_own {l:List Tu} {num:Nat} {id:List UInt8} (h:namedC l id=false):giveC l num 17 1 id=id:=by
 unfold giveC;rw [if_neg (by rw [h]; simp)]
theorem nodup_ofC:∀ {l:List Tu},distinctT l=true → (l.map Tu.id).Nodup
 | [],_=>List.nodup_nil
 | t :: l,h=>by
  unfold distinctT at h;simp only [Bool.and_eq_true,List.all_eq_true] at h;refine List.nodup_cons.2 ⟨fun hm=>?_,nodup_ofC h.2⟩
  obtain ⟨q,hq,e⟩:=List.mem_map.1 hm
  have:=h.1 q hq
  simp [e] at this
theorem alone_t (num:Int):∀ (r a:List Tu),((a++r).map Tu.id).Nodup → (a++r).length≤16 → r.foldl (stepT num) (a,a)=(a++r,a++r)
 | [],a,_,_=>by simp
 | t :: r,a,h,hl=>by
  have hid:namedC a t.id=false:=by
   cases e:namedC a t.id with
   | false=>rfl
   | true =>
    have hm:=named_mem.1 e;rw [List.map_append,List.nodup_append] at h;exact absurd rfl (h.2.2 t.id hm t.id (by simp))
  have hna:¬ t ∈ a:=fun hm=>by
   have:namedC a t.id=true:=named_mem.2 (List.mem_map_of_mem hm)
   rw [hid] at this; cases this
  have hla:a.length < 16:=by simp only [List.length_append,List.length_cons] at hl; omega
  have hst:stepT num (a,a) t=(a++[t],a++[t]):=by
   unfold stepT;rw [if_neg hna];simp only [tupC_take hla,give_own hid]
  rw [List.foldl_cons,hst,alone_t num r (a++[t]) (by simpa using h) (by simpa using hl)]
  simp
def dedC {α:Type} [DecidableEq α] (l:List α) (s:α):List α:=if s ∈ l then l else l++[s]
theorem alone_n:∀ (r a:List (List UInt8)),r.length+a.length≤16 → r.foldl stepN a=r.foldl dedC a
 | [],a,_=>rfl
 | s :: r,a,h=>by
  simp only [List.length_cons] at h
  have e:stepN a s=dedC a s:=by
   unfold stepN dedC;by_cases hm:s ∈ a
   ·rw [if_pos (.inl hm),if_pos hm]
   ·rw [if_neg (by rintro (e | e); exact hm e; omega),if_neg hm]
  rw [List.foldl_cons,List.foldl_cons,e];refine alone_n r _ ?_
  unfold dedC
  split
  ·omega
  ·simp only [List.length_append,List.length_singleton]; omega
theorem alone_plain {who:List UInt8} {p:Pb} {d:Dc} (h:compC who [p]=(d,0)):d=⟨who,p.doc.tuples,p.doc.notes.foldl dedC []⟩:=by
 obtain ⟨h1,h2,rfl⟩:=comp_parts h;obtain ⟨_,a,b,_,c,_⟩:=check_parts (chk_all h2 p (by simp));have e1:=alone_t p.num p.doc.tuples [] (by simpa using nodup_ofC c) (by simpa using a);have e2:=alone_n p.doc.notes [] (by simpa using b);simp only [foldC,List.foldl_cons,List.foldl_nil,pubC,e1,e2,List.nil_append]
end Go.Proofs.YtldkidljjbkmbaaGreatDoor
namespace Go.Proofs.YtldkidljjbkmbaaGreatDoor
open Go.RowKit Go.ChangeShapes Go.WideShapes Go.Deep
section
variable {H : Type} {enc : TypeId × Value → H} {W : World} {sp : Nat → Bool}
def PubIn (B:Nat) (W:World) (v:Value):Prop:=∃ c:PbC,v=pbV c∧PbGot W c∧SmallD B c.p.doc
theorem pub_upto {B:Nat} {r:Reach} {b0:Nat} {v:Value} {d:DataW H} {p:List MemPlace} (hv:Value.okWide Tryz.prog W r b0 43 v) (h:DataW.Trod enc Tryz.prog W 0 sp true 43 v d p)
  (hz:Rows.uptoBulk d≤B):PubIn B W v:=by
 obtain ⟨cs,rfl,hsz⟩:=okWide_struct Tryz.underlying43 hv;obtain ⟨fuel,hf0⟩:=h;obtain ⟨c,hc,hd,hg⟩:=open_pb hf0;obtain ⟨l⟩:=cs;simp only [Value.cells] at hc;refine ⟨c,?_,hg,pbB_upto hd hg.wf hz⟩
 simp only [pbV]
 congr 1
 apply Array.toList_inj.1
 rw [hc]; rfl
end
end Go.Proofs.YtldkidljjbkmbaaGreatDoor
namespace Go.Proofs.YtldkidljjbkmbaaGreatDoor
open Go.RowKit Go.Maps Go.WideMaps Sc
theorem pb_own1 (W:World) (B:Nat) (hB:B≤W.heap.size) (c:PbC):OwnPb (W.alloc (.cells #[.int .i64 c.p.num,.string ⟨c.p.who.toArray⟩,.string ⟨c.p.tag.toArray⟩,.int .i64 c.p.til,.string ⟨c.p.doc.entity.toArray⟩,c.ts,c.ns] 43)) B (.slice (some ⟨W.heap.size,0,none⟩) 1 1) [c] :=
 ⟨rfl,.inr ⟨_,_,(pbCells c).toArray,rfl,hB,heap_alloc_new _ _,Nat.le_refl _,by unfold maxLen; omega,rfl,by simp [pbsCells,pbCells]⟩⟩
theorem grown_trans {a b c:World} {r:Option Nat} (h:a.grownBy b r) (k:b.grownBy c r):a.grownBy c r :=
 ⟨k.os.trans h.os,k.tape.trans h.tape,k.output.trans h.output,Nat.le_trans h.size k.size,fun i hi hn=>by rw [k.block i (Nat.lt_of_lt_of_le hi h.size) hn,h.block i hi hn]⟩
theorem grown_below {a b:World} (h:Below a.heap.size a b) (r:Option Nat):a.grownBy b r:=⟨h.os,h.tape,h.output,h.size,fun k hk _=>h.block k hk⟩
theorem grown_row {a b:World} {r:Nat} {g:Nat} {e:TypeId} {l:List Value} (h:a.grownBy b (some r)) (hr:RowIs a g e l) (hne:g ≠ r):RowIs b g e l:=by
 unfold RowIs at *;rw [h.block g (Array.getElem?_eq_some_iff.1 hr).1 (fun e=>hne (by injection e))];exact hr
theorem grown_bel {a b w:World} {r A:Nat} (hb:Below A w a) (h:a.grownBy b (some r)) (hr:A≤r) (ha:A≤a.heap.size):Below A w b:=hb.grown h ha (fun g e=>by injection e with e; omega)
structure NtI (W0:World) (gw:Nat) (en:List UInt8) (ts:Value) (wr:World) (vn:Value) (acc:List (List UInt8)):Prop where
 g:W0.grownBy wr (some gw)
 row:RowIs wr gw 28 [.string ⟨en.toArray⟩,ts,vn]
 own:Own wr W0.heap.size 9 vn (strs acc)
 lt:gw < W0.heap.size
section
variable {W0 wr u : World} {gw : Nat} {en : List UInt8} {ts vn vn' : Value} {acc L : List (List UInt8)}
theorem NtI.step (h:NtI W0 gw en ts wr vn acc) (hb:Below wr.heap.size wr u):NtI W0 gw en ts u vn acc :=
 ⟨grown_trans h.g (grown_below hb _),h.row.below hb h.row.bl,h.own.below hb,h.lt⟩
theorem NtI.mid (h:NtI W0 gw en ts wr vn acc) (hg:wr.grownBy u vn.ownBlock):RowIs u gw 28 [.string ⟨en.toArray⟩,ts,vn] :=
 row_grown h.row hg fun e=>by have:=own_ge h.own gw e; have:=h.lt; omega
theorem NtI.put (h:NtI W0 gw en ts wr vn acc) (hg:wr.grownBy u vn.ownBlock) (ho:Own u W0.heap.size 9 vn' (strs L)):NtI W0 gw en ts (u.setCell ⟨gw,2,none⟩ vn') vn' L:=by
 have hm:=h.mid hg;have hs:=put_grown u gw 2 vn';refine ⟨⟨?_,?_,?_,?_,fun k hk hn=>?_⟩,by simpa using hm.set 2 vn',ownsRow_setCell_below (a:=⟨gw,2,none⟩) ho h.lt _,h.lt⟩
 ·rw [hs.os,hg.os,h.g.os]
 ·rw [hs.tape,hg.tape,h.g.tape]
 ·rw [hs.output,hg.output,h.g.output]
 ·exact Nat.le_trans h.g.size (Nat.le_trans hg.size hs.size)
 ·rw [hs.block k (Nat.lt_of_lt_of_le hk (Nat.le_trans h.g.size hg.size)) hn,hg.block k (Nat.lt_of_lt_of_le hk h.g.size) (fun e=>by have:=own_ge h.own k e.symm; omega),h.g.block k hk hn]
end
end Go.Proofs.YtldkidljjbkmbaaGreatDoor
namespace Go.Proofs.YtldkidljjbkmbaaGreatDoor.compAlone
open Go.RowKit Go.Maps Go.WideMaps Sc
theorem ded_snoc (ns:List (List UInt8)) (i:Nat) (hi:i < ns.length):(ns.take (i+1)).foldl dedC []=dedC ((ns.take i).foldl dedC []) ns[i]:=by
 rw [List.take_succ_eq_append_getElem hi,List.foldl_append]; rfl
set_option maxHeartbeats 4000000 in
set_option maxRecDepth 100000 in
theorem law_walk (w:World) (a0:ByteArray) (v1:Value) (b0:a0.size≤1048576) (k1:PubIn 1048576 w v1) :
  Calls Tryz.prog 5 #[.string a0,v1] w fun e w'=>e=.returned (.bool true)∧Below w.heap.size w w':=by
 obtain ⟨who,rfl⟩:=str_offC a0;have b0:who.length≤1048576:=by simpa [ByteArray.size] using b0
 obtain ⟨⟨p,ts,ns⟩,rfl,hg,hsd⟩:=k1;have KW:=hid awake17_any;obtain ⟨ta,tc,hts,htc⟩:=hg.tus;obtain ⟨na,nc,hns,hnc⟩:=hg.strs;simp only at hts hns htc hnc hsd;subst hts hns;have r0:=rp_row7 w (.int .i64 p.num) (.string ⟨p.who.toArray⟩) (.string ⟨p.tag.toArray⟩) (.int .i64 p.til) (.string ⟨p.doc.entity.toArray⟩) (.slice ta p.doc.tuples.length tc) (.slice na p.doc.notes.length nc) 43;have b1:Below w.heap.size w (w.alloc (.cells #[.int .i64 p.num,.string ⟨p.who.toArray⟩,.string ⟨p.tag.toArray⟩,.int .i64 p.til,.string ⟨p.doc.entity.toArray⟩,.slice ta p.doc.tuples.length tc,.slice na p.doc.notes.length nc] 43)):=(Below.refl _ w).alloc (Nat.le_refl _) _;have l1:=alloc_lt w (.cells #[.int .i64 p.num,.string ⟨p.who.toArray⟩,.string ⟨p.tag.toArray⟩,.int .i64 p.til,.string ⟨p.doc.entity.toArray⟩,.slice ta p.doc.tuples.length tc,.slice na p.doc.notes.length nc] 43);have hs1:(w.alloc (.cells #[.int .i64 p.num,.string ⟨p.who.toArray⟩,.string ⟨p.tag.toArray⟩,.int .i64 p.til,.string ⟨p.doc.entity.toArray⟩,.slice ta p.doc.tuples.length tc,.slice na p.doc.notes.length nc] 43)).heap.size=w.heap.size+1:=by simp
 have hok:PbsOk w [⟨p,.slice ta p.doc.tuples.length tc,.slice na p.doc.notes.length nc⟩]:=pbs_ok (fun x hx=>by rw [List.mem_singleton] at hx; subst hx; exact ⟨hg,hsd⟩);have hnum:p.num≤9223372036854775807:=hg.le;have HSD:=hid hsd;have HTC:=hid (show TusAt w (.slice ta p.doc.tuples.length tc) p.doc.tuples from hg.tus);have HNC:=hid hnc;have HST:=hid (show StrsAt w (.slice na p.doc.notes.length nc) p.doc.notes from hg.strs);clear htc hnc hg hsd;obtain ⟨x0,x1,x2,x3,x4,x5,x6,-,-,-,-,-,-,-⟩:=r0.rp7;obtain ⟨d,er,hd⟩:∃ d er,compC who [p]=(d,er):=⟨_,_,rfl⟩
 unfold pbV
 go_enter Tryz.func5,Tryz.ntmps5
 go_wp2_with fail
 clear x0 x1 x2 x3 x4 x5 x6;generalize w.alloc _=W1 at r0 b1 l1 hs1 ⊢;have hP:=pb_own1 W1 0 (Nat.zero_le _) ⟨p,.slice ta p.doc.tuples.length tc,.slice na p.doc.notes.length nc⟩;have b12:=(Below.refl W1.heap.size W1).alloc (Nat.le_refl _) (.cells #[.int .i64 p.num,.string ⟨p.who.toArray⟩,.string ⟨p.tag.toArray⟩,.int .i64 p.til,.string ⟨p.doc.entity.toArray⟩,.slice ta p.doc.tuples.length tc,.slice na p.doc.notes.length nc] 43);have HR0:=hid (r0.below b12 l1);have HB:=hid (b1.trans (b12.mono b1.size));have hP':OwnPb (W1.alloc (.cells #[.int .i64 p.num,.string ⟨p.who.toArray⟩,.string ⟨p.tag.toArray⟩,.int .i64 p.til,.string ⟨p.doc.entity.toArray⟩,.slice ta p.doc.tuples.length tc,.slice na p.doc.notes.length nc] 43)) 0 (.slice (some ⟨W1.heap.size,0,none⟩) 1 1) [⟨p,.slice ta p.doc.tuples.length tc,.slice na p.doc.notes.length nc⟩]:=hP;rw [hs1] at hP';generalize W1.alloc _=W2 at hP' HR0 HB ⊢;have KC:=ccomp_any (who:=who) hP'.pbsAt (hok.below HB.out) (by omega) (by show (1:Nat)≤2000000; omega) (fun x hx=>by rw [List.mem_singleton] at hx; subst hx; exact hnum);rw [show pbsL [⟨p,Value.slice ta p.doc.tuples.length tc,Value.slice na p.doc.notes.length nc⟩]=[p] from rfl,hd] at KC;unfold docV at KC;clear hP hP' hok r0 b1 l1 hs1 b12;refine KC.mono ?_
 rintro e w1 ⟨vt,vn,rfl,hG,hb1⟩;clear KC;simp only at hG ⊢;have HR0:=hid (HR0.out.below hb1 HR0.out.bl);have HB:=hid (HB.out.trans (hb1.mono HB.out.size));by_cases h0:er=0
 case neg =>
  have h0':(er != 0)=true:=by simpa using h0
  obtain ⟨ta',tc',na',nc',rfl,rfl⟩:=hG.forms;have bel:=hid (HB.out.alloc HB.out.size (.cells #[.string ⟨d.entity.toArray⟩,.slice ta' d.tuples.length tc',.slice na' d.notes.length nc'] 28));clear hG hb1 HR0 HB
  go_upto_region 2 with fail
  generalize World.alloc _ _=u1 at bel ⊢;go_wp2_with fail
  refine (KW.out _).mono ?_
  rintro e w4 ⟨rfl,hb4⟩;have bel:=hid (bel.out.trans (hb4.mono bel.out.size));clear hb4;go_wp2;go_ret;exact ⟨rfl,bel.out⟩
 subst h0;have hlt0:w.heap.size < w1.heap.size:=HR0.out.bl;have hck:=(right_plain (fun p hp=>by rw [List.mem_singleton] at hp; subst hp; exact hnum) hd).1;have hdd:=alone_plain hd;have hsm:=(small_checked hck).upB (C:=140737488355328) (by omega);have KS:=hid (fun (u:World) (ts ns ts' ns':Value) (h1:TusAt u ts d.tuples) (h2:StrsAt u ns d.notes) (h3:TusAt u ts' d.tuples) (h4:StrsAt u ns' d.notes)=>rsame14_any d ts ns ts' ns' u hsm h1 h2 h3 h4);subst hdd;unfold docV at KS;simp only at hG KS ⊢;clear hck hsm hd;obtain ⟨ta',tc',na',nc',rfl,rfl⟩:=hG.forms;simp only at hG ⊢;obtain ⟨dn,hdn⟩:∃ dn,dn=(p.doc.notes.foldl dedC []).length:=⟨_,rfl⟩
 have HDN:=hid hdn;have r3:=rc_row3 w1 (.string ⟨who.toArray⟩) (.slice ta' p.doc.tuples.length tc') (.slice na' (p.doc.notes.foldl dedC []).length nc') 28;have b3:Below w1.heap.size w1 (w1.alloc (.cells #[.string ⟨who.toArray⟩,.slice ta' p.doc.tuples.length tc',.slice na' (p.doc.notes.foldl dedC []).length nc'] 28)):=(Below.refl _ w1).alloc (Nat.le_refl _) _;have HR0:=hid (HR0.out.below b3 HR0.out.bl);have HLT:=hid (show ∀ g,(Value.slice ta' p.doc.tuples.length tc').ownBlock=some g → g < w1.heap.size from fun g e=>(World.ownsRow.lt hG.t g e).2);have HLN:=hid (show ∀ g,(Value.slice na' (p.doc.notes.foldl dedC []).length nc').ownBlock=some g → g < w1.heap.size from fun g e=>(World.ownsRow.lt hG.n g e).2);have HG:=hid (hG.below b3);have HB:=hid (HB.out.trans (b3.mono HB.out.size))
 go_upto_region 4 with fail
 have hg3:w1.heap.size < (w1.alloc (.cells #[.string ⟨who.toArray⟩,.slice ta' p.doc.tuples.length tc',.slice na' (p.doc.notes.foldl dedC []).length nc'] 28)).heap.size:=alloc_lt _ _;generalize w1.heap.size=gd at r3 hlt0 hg3 HLT HLN ⊢;generalize World.alloc _ _=W3 at r3 HR0 HG HB hg3 ⊢;have r4:=rc_row3 W3 (.string ⟨who.toArray⟩) (.slice ta p.doc.tuples.length tc) (.slice none 0 0) 28;have b4:Below W3.heap.size W3 (W3.alloc (.cells #[.string ⟨who.toArray⟩,.slice ta p.doc.tuples.length tc,.slice none 0 0] 28)):=(Below.refl _ W3).alloc (Nat.le_refl _) _;have hl4:=alloc_lt W3 (.cells #[.string ⟨who.toArray⟩,.slice ta p.doc.tuples.length tc,.slice none 0 0] 28);have RD:=hid (r3.below b4 hg3);obtain ⟨x0,x1,x2,x3,x4,x5,x6,-,-,-,-,-,-,-⟩:=HR0.out.rp7;have HG:=hid (HG.out.below b4);have hw3:w.heap.size < W3.heap.size:=by omega
 have HB:=hid (HB.out.trans (b4.mono HB.out.size));have HR4:=hid (HR0.out.below b4 HR0.out.bl)
 go_upto_region 5 with fail
 clear x0 x1 x2 x3 x4 x5 x6 HR0 r3 b4 hb1 hG b3;generalize W3.heap.size=gw at r4 hg3 hl4 hw3 ⊢;generalize World.alloc _ _=W0 at r4 HR4 HG HB hl4 RD ⊢;have HN0:=hid (show NtI W0 gw who (.slice ta p.doc.tuples.length tc) W0 (.slice none 0 0) [] from ⟨grown_refl _ _,r4,⟨rfl,.inl ⟨rfl,rfl⟩⟩,hl4⟩);obtain ⟨nn,hnn⟩:∃ nn,nn=p.doc.notes.length:=⟨_,rfl⟩
 have HNN:=hid hnn;have hz:=HSD.out.nl;rw [← hnn] at HR4 hz;clear r4 hnn hdn;obtain ⟨i2,hk2,hv0,hv1,hv2⟩:=info_parts infoStrC;go_wp2
 go_loopw [8] (fun i wr=>∃ (k:Nat) (vw:Value) (acc:List (List UInt8)),k≤nn∧i=.int .i64 k∧Hid ((p.doc.notes.take k).foldl dedC []=acc)∧acc.length≤k∧Hid (NtI W0 gw who (.slice ta p.doc.tuples.length tc) wr vw acc)) (fun i _=>nn - (intOf i).toNat)
 case atStart=>exact ⟨0,_,_,by omega,rfl,hid rfl,Nat.le_refl _,HN0⟩
 case round =>
  clear HN0;obtain ⟨k,vw,acc,hk,rfl,HE,hal,HN⟩:=hrel;obtain ⟨wa,wc,hvw⟩:=own_formP HN.out.own;rw [show (strs acc).length=acc.length by simp [strs]] at hvw;subst hvw;have HR:=hid (grown_row HN.out.g HR4.out (show w.heap.size ≠ gw by omega));obtain ⟨x0,x1,x2,x3,x4,x5,x6,-,-,-,-,-,-,-⟩:=HR.out.rp7;obtain ⟨y0,y1,y2,-,-,-⟩:=HN.out.row.rc3;by_cases hlt:k < nn
  ·have hlt':(k:Int) < (nn:Int):=by omega
   have hkl:k < p.doc.notes.length:=by rw [← HNN.out]; exact hlt
   obtain ⟨ad,hoa,hab,yk⟩:=HNC.out k hkl;subst hoa;have HSn:=hid (show (p.doc.notes.take (k+1)).foldl dedC []=dedC acc p.doc.notes[k] by rw [ded_snoc _ _ hkl,HE.out]);have HY:=hid (fun (u:World) (hu:W0.grownBy u (some gw))=>cell_below (grown_bel HB.out hu (by omega) (by omega)) (by rw [add_block]; exact hab) yk);generalize p.doc.notes[k]=s at HSn HY;obtain ⟨an,han⟩:∃ an,an=acc.length:=⟨_,rfl⟩
   have HAN:=hid han;rw [← han] at y2 hal;clear han yk hab HE;go_wp2;clear x0 x1 x2 x3 x4 x5 x6 y0 y1 y2
   go_loopw [9,10] (fun f i wr2=>∃ (m:Nat) (b:Bool),m≤an∧i=.int .i64 m∧f=.bool b∧Hid (b=decide (s ∈ acc.take m))∧Hid (Below wr.heap.size wr wr2)) (fun _ i _=>an - (intOf i).toNat)
   case atStart=>exact ⟨0,false,by omega,rfl,rfl,hid (by simp),hid (Below.refl _ _)⟩
   case round =>
    obtain ⟨m,b,hm,rfl,rfl,HF,HBw⟩:=hrel;have HN2:=hid (HN.out.step HBw.out);have HR2:=hid (HR.out.below HBw.out HR.out.bl);have ys:=HY.out _ HN2.out.g;obtain ⟨x0,x1,x2,x3,x4,x5,x6,-,-,-,-,-,-,-⟩:=HR2.out.rp7;obtain ⟨y0,y1,y2,-,-,-⟩:=HN2.out.row.rc3;rw [← HAN.out] at y2;by_cases hlm:m < an
    ·have hlm':(m:Int) < (an:Int):=by omega
     have hml:m < acc.length:=by rw [← HAN.out]; exact hlm
     cases b with
     | true =>
      have HF2:=hid (show true=decide (s ∈ acc.take (m+1)) by
       have h:=HF.out;rw [List.take_succ_eq_append_getElem hml]
       symm at h ⊢
       rw [decide_eq_true_iff] at h ⊢;exact List.mem_append_left _ h)
      go_wp2
      go_quiet (fail)
      go_wp2;go_roundw
      case rel=>exact ⟨m+1,true,by omega,by go_num,rfl,HF2,hid (HBw.out.trans ((below_drewN _ _).mono HBw.out.size))⟩
      case measure=>simp [intOf]; omega
     | false =>
      obtain ⟨ao,cap,hvv,hcell⟩:=strsAt_own HN2.out.own;obtain ⟨ad2,hao,_,z⟩:=hcell m hml
      injection hvv with g1 g2 g3
      subst g1;have HF0:=HF
      have HFm:=hid (show decide (s ∈ acc.take (m+1))=(acc[m]==s) by
       have h:=HF0.out;rw [List.take_succ_eq_append_getElem hml]
       symm at h
       rw [decide_eq_false_iff_not] at h;by_cases hq:acc[m]=s
       ·rw [hq]; simp
       ·rw [decide_eq_false (by
         intro hx
         rcases List.mem_append.1 hx with hx | hx
         ·exact h hx
         ·rw [List.mem_singleton] at hx; exact hq hx.symm)]
        simp [hq])
      subst hao;generalize acc[m]=t at z HFm;clear hcell g2 g3 HF HF0
      cases hq:(t==s) with
      | true =>
       rw [hq] at HFm;go_wp2
       go_quiet (fail)
       go_wp2;go_roundw
       case rel=>exact ⟨m+1,true,by omega,by go_num,rfl,hid HFm.out.symm,hid (HBw.out.trans ((below_drewN _ _).mono HBw.out.size))⟩
       case measure=>simp [intOf]; omega
      | false =>
       rw [hq] at HFm;go_wp2
       go_quiet (fail)
       go_wp2;go_roundw
       case rel=>exact ⟨m+1,false,by omega,by go_num,rfl,hid HFm.out.symm,hid (HBw.out.trans ((below_drewN _ _).mono HBw.out.size))⟩
       case measure=>simp [intOf]; omega
    ·have hlm':¬ (m:Int) < (an:Int):=by omega
     have HF2:=hid (show b=decide (s ∈ acc) by
      have h:=HF.out
      rwa [show m=acc.length by have:=HAN.out; omega,List.take_length] at h)
     clear HF
     cases b with
     | true =>
      have HA:=hid (show dedC acc s=acc by
       unfold dedC;rw [if_pos (by have h:=HF2.out; symm at h; rwa [decide_eq_true_iff] at h)])
      go_wp2;go_roundw
      case rel=>exact ⟨k+1,_,acc,by omega,by go_num,hid (HSn.out.trans HA.out),by have:=HAN.out; omega,HN2⟩
      case measure=>simp [intOf]; omega
     | false =>
      have HA:=hid (show dedC acc s=acc++[s] by
       unfold dedC;rw [if_neg (by have h:=HF2.out; symm at h; rwa [decide_eq_false_iff_not] at h)])
      go_upto_region 14 with fail
      clear x0 x1 x2 x3 x4 x5 x6 y0 y1 y2;have HNd:=hid (HN2.out.step (Below.refl _ wr).drew);have HNa:=hid (HN2.out.step ((Below.refl _ wr).alloc (Nat.le_refl _) (.cells #[.string ⟨s.toArray⟩] 9)).drew);have HRd:=hid (HR2.out.below (Below.refl _ wr).drew HR2.out.bl);have yd:=HY.out _ HNd.out.g;obtain ⟨x0,x1,x2,x3,x4,x5,x6,-,-,-,-,-,-,-⟩:=HRd.out.rp7;have y2:wr.drew.cell? ⟨gw,2,none⟩=some (.slice wa an wc):=by rw [HAN.out]; exact HNd.out.row.cell 2 (by simp)
      have y3:(wr.alloc (.cells #[.string ⟨s.toArray⟩] 9)).drew.cell? ⟨gw,2,none⟩=some (.slice wa an wc):=by rw [HAN.out]; exact HNa.out.row.cell 2 (by simp)
      have HO:Own ((wr.alloc (.cells #[.string ⟨s.toArray⟩] 9)).drew) W0.heap.size 9 (.slice wa an wc) (strs acc):=by rw [HAN.out]; exact HNa.out.own
      have HLO:=HNa.out.g.size;have hfz:=HNd.out.row.frozen 2;have hfz2:=HNa.out.row.frozen 2
      go_region_law (first
       | (refine step_appS rfl (.tmp 59) (.tmp 66) 26 rfl W0.heap.size 9 i2 _ 16 Tryz.underlying26 hk2 hv0 hv1 hv2 rfl _ (strs acc) (by first | rfl | simp [Act.eval,Act.put]) (by exact HO) ⟨_,0,none⟩ 1 1 [.string ⟨s.toArray⟩] rfl rfl (by intro j2 u2 hj2; exact one_new _ _ _ j2 u2 hj2) (by intro u hu; simp at hu; subst hu; rfl) (by simp [strs]; have:=HAN.out; unfold maxLen; omega) (by simp [strs]; have:=HAN.out; omega) HLO ?_; intro v7 w7 ho7 hb7; have HP:=hid (HNa.out.put (by rw [← HAN.out]; exact hb7) (vn':=v7) (L:=acc++[s]) (by simpa [strs] using ho7)); have z2:w7.cell? ⟨gw,2,none⟩=some (.slice wa an wc):=(by rw [HAN.out]; exact (HNa.out.mid (by rw [← HAN.out]; exact hb7)).cell 2 (by simp)); have z3:=(HNa.out.mid (by rw [← HAN.out]; exact hb7)).frozen 2; obtain ⟨xa,xk,e7⟩:=own_formP ho7; rw [show (strs acc++[Value.string ⟨s.toArray⟩]).length=an+1 by simp [strs,HAN.out]] at e7; subst e7; clear ho7 hb7))
      all_goals (
       have HPP:=hid HP.out;clear HP HNd HNa HO HRd;generalize World.setCell _ _ _=W8 at HPP ⊢;go_wp2;go_roundw
       case rel=>exact ⟨k+1,_,acc++[s],by omega,by go_num,hid (HSn.out.trans HA.out),by simp; have:=HAN.out; omega,HPP⟩
       case measure=>simp [intOf]; omega)
  ·have hlt':¬ (k:Int) < (nn:Int):=by omega
   have HE2:=hid (show acc=p.doc.notes.foldl dedC [] by
    have h:=HE.out;rw [show k=p.doc.notes.length by have:=HNN.out; omega,List.take_length] at h;exact h.symm)
   have HRD:=hid (grown_row HN.out.g RD.out (by omega));have hbw:=grown_bel HB.out HN.out.g (by omega) (by omega)
   have nb:∀ {v:Value},(∀ g,v.ownBlock=some g → g < gd) → v.ownBlock=none∨v.ownBlock ≠ some gw:=fun {v} h=>by
    cases hob:v.ownBlock with
    | none=>exact .inl rfl
    | some g=>exact .inr fun e=>by have:=h g hob; injection e with e; omega
   have hT:=World.ownsRow.kept HG.out.t HN.out.g (nb HLT.out);have hN:=World.ownsRow.kept HG.out.n HN.out.g (nb HLN.out);have hTT:TusAt wr (.slice ta' p.doc.tuples.length tc') p.doc.tuples:=OwnU.tusAt (show OwnU wr W2.heap.size _ _ from hT);have hNN:StrsAt wr (.slice na' (p.doc.notes.foldl dedC []).length nc') (p.doc.notes.foldl dedC []):=strsAt_own hN;have KSS:=hid (KS.out wr _ _ _ _ hTT hNN (HTC.out.below hbw) (by rw [← HE2.out]; exact strsAt_own HN.out.own));have bel:=hid hbw;obtain ⟨z0,z1,z2,-,-,-⟩:=HRD.out.rc3;clear nb hT hN hTT hNN hbw HE;go_wp2_with fail
   refine KSS.out.mono ?_
   rintro e w8 ⟨rfl,hb8⟩;have bel:=hid (bel.out.trans (hb8.mono bel.out.size));clear hb8 KSS;go_wp2_with fail
   refine (KW.out _).mono ?_
   rintro e w9 ⟨rfl,hb9⟩;have bel:=hid (bel.out.trans (hb9.mono bel.out.size));clear hb9;go_wp2;go_ret;exact ⟨rfl,bel.out⟩
end Go.Proofs.YtldkidljjbkmbaaGreatDoor.compAlone
