/-
  XPar, XParse, WC9, W15Awake.
-/
import Derived.Test.YtdbalahkmeknaaaGreatDoorPW33
import Derived.Deep.RegionHeld3
set_option linter.unusedVariables false
set_option linter.unusedSimpArgs false
set_option maxRecDepth 20000
namespace Go.Proofs.YtdbalahkmeknaaaGreatDoor
open Go.RowKit Sc
set_option maxHeartbeats 4000000 in
set_option maxRecDepth 100000 in
theorem attempt_any (b:Nat) (l:List UInt8) (w:World) (hrd:XrAt w b l (.slice none 0 0)) (hl:l.length≤4096) :
  Calls Tryz.prog 34 #[.func (.func 35) #[.pointer (some ⟨b,0,none⟩)] #[]] w fun e w'=>AttP (docC l) b w.heap.size w e w':=by
 have hmf:∀ (fn:Fn) (first cap:Array Value) (w:World),(Instr.makeFunc fn first cap).run Tryz.prog w=.ok (.func fn first cap) w:=fun _ _ _ _=>rfl;have hbw:=hrd.lt;have hrp:=(one_row w (.slice none 0 0) 40).below ((Below.refl _ (w.alloc (.cells #[.slice none 0 0] 40))).alloc (Nat.le_refl _) (.cells #[.int .i64 0] 27)) (by simp);have hrq:=one_row (w.alloc (.cells #[.slice none 0 0] 40)) (.int .i64 0) 27;rw [show (w.alloc (.cells #[.slice none 0 0] 40)).heap.size=w.heap.size+1 by simp] at hrq;have hb0:Below w.heap.size w ((w.alloc (.cells #[.slice none 0 0] 40)).alloc (.cells #[.int .i64 0] 27)):=((Below.refl _ w).alloc (Nat.le_refl _) _).alloc (by simp) _;have hsz:((w.alloc (.cells #[.slice none 0 0] 40)).alloc (.cells #[.int .i64 0] 27)).heap.size=w.heap.size+2:=by simp
 have hr0:=hrd.below hb0;have KD:=hid (doc_any b (w.heap.size+2) l _ hr0 (by omega) (Nat.le_of_eq hsz.symm) hl);have HB0:=hid hb0;have HRP:=hid hrp;have HRQ:=hid hrq;have HSZ:=hid hsz;clear hrd hr0 hb0 hrp hrq hsz;generalize docC l=R at KD ⊢
 cases R with
 | none =>
  simp only [DocP] at KD
  go_enter_defers Tryz.func34,Tryz.ntmps34
  go_wp2_with fail
  generalize World.alloc _ _=W0 at KD HB0 HRP HRQ HSZ ⊢;refine (KD.out).mono ?_
  rintro e w2 ⟨rfl,hf2⟩;have hp2:=hf2.row HRP.out (by omega) (by simp [Value.ownBlock]);have hq2:=hf2.row HRQ.out (by omega) (by simp [Value.ownBlock])
  have hq3:RowIs (w2.setCell ⟨w.heap.size,0,none⟩ (.slice none 0 0)) (w.heap.size+1) 27 [.int .i64 0]:=by
   unfold RowIs; rw [heap_setCell_other _ _ _ _ (show w.heap.size+1 ≠ w.heap.size by omega)]; exact hq2
  refine leaves_cons (f:=66) (args:=#[.pointer (some ⟨w.heap.size,0,none⟩),.pointer (some ⟨w.heap.size+1,0,none⟩)]) (by simp) (by simp [go_sem]) ?_
  refine (catch_panic ⟨w.heap.size,0,none⟩ ⟨w.heap.size+1,0,none⟩ _ _ [] w2 (hp2.cell 0 (by simp)) (hp2.frozen 0) (hq3.cell 0 (by simp)) (hq3.frozen 0)).mono ?_
  rintro e u' w'' ⟨rfl,rfl,rfl⟩
  have hp4:RowIs ((w2.setCell ⟨w.heap.size,0,none⟩ (.slice none 0 0)).setCell ⟨w.heap.size+1,0,none⟩ (.int .i64 130)) w.heap.size 40 [.slice none 0 0]:=by
   have:=hp2.set 0 (.slice none 0 0)
   unfold RowIs at this ⊢;rw [heap_setCell_other _ _ _ _ (show w.heap.size ≠ w.heap.size+1 by omega)]; simpa using this
  have hq4:RowIs ((w2.setCell ⟨w.heap.size,0,none⟩ (.slice none 0 0)).setCell ⟨w.heap.size+1,0,none⟩ (.int .i64 130)) (w.heap.size+1) 27 [.int .i64 130]:=by
   have:=hq3.set 0 (.int .i64 130)
   simpa using this
  have hfin:FrX b (.slice none 0 0) w (.slice none 0 0) ((w2.setCell ⟨w.heap.size,0,none⟩ (.slice none 0 0)).setCell ⟨w.heap.size+1,0,none⟩ (.int .i64 130)):=by
   have h1:=(FrX.of (v:=.slice none 0 0) (FrR.below (b:=b) HB0.out)).trans hf2;refine ⟨h1.os,h1.tape,h1.output,by simp only [World.size_setCell]; exact h1.size,fun c hc hn hv=>?_,h1.own⟩
   rw [heap_setCell_other _ _ _ _ (show c ≠ w.heap.size+1 by omega),heap_setCell_other _ _ _ _ (show c ≠ w.heap.size by omega)];exact h1.block c hc hn hv
  have c4:=hp4.cell 0 (by simp);have c5:=hq4.cell 0 (by simp);generalize World.setCell _ _ _=w4 at hfin c4 c5 ⊢;simp only [List.getElem_cons_zero] at c4 c5
  simp [Leaves,settle,results,Tryz.results34,go_sem,c4,c5,AttP,hfin]
 | some ns =>
  simp only [DocP] at KD
  go_enter_defers Tryz.func34,Tryz.ntmps34
  go_wp2_with fail
  generalize World.alloc _ _=W0 at KD HB0 HRP HRQ HSZ ⊢;refine (KD.out).mono ?_
  rintro e w2 ⟨v2,cs2,rfl,hk2,hown2,hf2⟩;have hp2:=hf2.row HRP.out (by omega) (by simp [Value.ownBlock]);have hq2:=hf2.row HRQ.out (by omega) (by simp [Value.ownBlock]);obtain ⟨xa,xc,hv2⟩:=hown2.form;obtain ⟨N2,hN2⟩:∃ N2,cs2.length=N2:=⟨_,rfl⟩
  rw [hN2] at hv2;subst hv2
  have hq3:RowIs (w2.setCell ⟨w.heap.size,0,none⟩ (.slice xa N2 xc)) (w.heap.size+1) 27 [.int .i64 0]:=by
   unfold RowIs; rw [heap_setCell_other _ _ _ _ (show w.heap.size+1 ≠ w.heap.size by omega)]; exact hq2
  have cp:=hp2.cell 0 (by simp);have fp:=hp2.frozen 0;have cq:=hq3.cell 0 (by simp);have fq:=hq3.frozen 0;simp only [List.getElem_cons_zero] at cp cq
  have hp4:RowIs ((w2.setCell ⟨w.heap.size,0,none⟩ (.slice xa N2 xc)).setCell ⟨w.heap.size+1,0,none⟩ (.int .i64 0)) w.heap.size 40 [.slice xa N2 xc]:=by
   have:=hp2.set 0 (.slice xa N2 xc)
   unfold RowIs at this ⊢;rw [heap_setCell_other _ _ _ _ (show w.heap.size ≠ w.heap.size+1 by omega)]; simpa using this
  have hq4:RowIs ((w2.setCell ⟨w.heap.size,0,none⟩ (.slice xa N2 xc)).setCell ⟨w.heap.size+1,0,none⟩ (.int .i64 0)) (w.heap.size+1) 27 [.int .i64 0]:=by
   have:=hq3.set 0 (.int .i64 0)
   simpa using this
  have hfin:FrX b (.slice none 0 0) w (.slice none 0 0) ((w2.setCell ⟨w.heap.size,0,none⟩ (.slice xa N2 xc)).setCell ⟨w.heap.size+1,0,none⟩ (.int .i64 0)):=by
   have h1:=(FrX.of (v:=.slice none 0 0) (FrR.below (b:=b) HB0.out)).trans hf2.none;refine ⟨h1.os,h1.tape,h1.output,by simp only [World.size_setCell]; exact h1.size,fun c hc hn hv=>?_,h1.own⟩
   rw [heap_setCell_other _ _ _ _ (show c ≠ w.heap.size+1 by omega),heap_setCell_other _ _ _ _ (show c ≠ w.heap.size by omega)];exact h1.block c hc hn hv
  have hown4:OwnN ((w2.setCell ⟨w.heap.size,0,none⟩ (.slice xa N2 xc)).setCell ⟨w.heap.size+1,0,none⟩ (.int .i64 0)) w.heap.size (.slice xa N2 xc) cs2:=by
   have h1:OwnN ((w2.setCell ⟨w.heap.size,0,none⟩ (.slice xa N2 xc)).setCell ⟨w.heap.size+1,0,none⟩ (.int .i64 0)) (w.heap.size+2) (.slice xa N2 xc) cs2 :=
    ⟨ownsRow_setCell_below (ownsRow_setCell_below hown2.1 (by simp) _) (by simp) _,fun c hc=>ownsRow_setCell_below (ownsRow_setCell_below (hown2.2 c hc) (by simp) _) (by simp) _⟩
   exact h1.mono (by omega)
  have c4:=hp4.cell 0 (by simp);have c5:=hq4.cell 0 (by simp);have HFIN:=hid hfin;have HOWN:=hid hown4;have HK2:=hid hk2;have C4:=hid c4;have C5:=hid c5;clear hp4 hq4 hfin hown4 hown2 hk2 hN2 c4 c5 hf2 hp2 hq2 hq3;go_wp2;generalize World.setCell _ _ _=w4 at HFIN HOWN C4 C5 ⊢;have c4:=C4.out;have c5:=C5.out;simp only [List.getElem_cons_zero] at c4 c5;refine leaves_cons (f:=66) (args:=#[.pointer (some ⟨w.heap.size,0,none⟩),.pointer (some ⟨w.heap.size+1,0,none⟩)]) (by simp) (by simp [go_sem]) ?_
  refine (catch_idle ⟨w.heap.size,0,none⟩ ⟨w.heap.size+1,0,none⟩ _).mono ?_
  rintro e u' w'' ⟨rfl,rfl,rfl⟩
  simp [Leaves,settle,results,Tryz.results34,go_sem,c4,c5]
  exact ⟨.slice xa N2 xc,cs2,rfl,HK2.out,HOWN.out,HFIN.out⟩
def ParP (R:List Nd × Int) (w:World) (e:Ending) (w':World):Prop:=∃ v' cs',e=.returned (.tuple #[v',.int .i64 R.2])∧ndsL cs'=R.1∧OwnN w' w.heap.size v' cs'∧Below w.heap.size w w'
theorem fr_below {w w':World} {o:Obj} (h:FrX w.heap.size (.slice none 0 0) (w.alloc o) (.slice none 0 0) w'):Below w.heap.size w w':=by
 have hb:Below w.heap.size w (w.alloc o):=(Below.refl _ w).alloc (Nat.le_refl _) o;refine ⟨h.os.trans hb.os,h.tape.trans hb.tape,h.output.trans hb.output,Nat.le_trans hb.size h.size,fun c hc=>?_⟩
 rw [h.block c (Nat.lt_of_lt_of_le hc hb.size) (by omega) (by simp [Value.ownBlock]),hb.block c hc]
set_option maxHeartbeats 1000000 in
set_option maxRecDepth 100000 in
theorem xparse_any (l:List UInt8) (w:World) (hl:l.length≤140737488355328) :
  Calls Tryz.prog 17 #[.string ⟨l.toArray⟩] w fun e w'=>ParP (parseX l) w e w':=by
 have hmf:∀ (fn:Fn) (first cap:Array Value) (w:World),(Instr.makeFunc fn first cap).run Tryz.prog w=.ok (.func fn first cap) w:=fun _ _ _ _=>rfl;have hP:=parseC_is l;generalize parseX l=R at hP ⊢;by_cases h:4096 < l.length
 ·rw [if_pos h] at hP;have HP:=hid hP;have r:(4096:Int) < (l.length:Int):=by omega
  clear hP
  go_enter Tryz.func17,Tryz.ntmps17
  go_wp2;go_ret2;rw [HP.out];exact ⟨.slice none 0 0,[],rfl,rfl,OwnN.nil _ _,Below.refl _ _⟩
 ·rw [if_neg h] at hP;have HP:=hid hP;have r:¬ (4096:Int) < (l.length:Int):=by omega
  have hrd:XrAt (w.alloc (.cells #[.string ⟨l.toArray⟩,.slice none 0 0] 64)) w.heap.size l (.slice none 0 0):=rc_row2 w _ _ _;have KA:=hid (attempt_any w.heap.size l _ hrd (by omega));have HFB:Hid (∀ w',FrX w.heap.size (.slice none 0 0) (w.alloc (.cells #[.string ⟨l.toArray⟩,.slice none 0 0] 64)) (.slice none 0 0) w' → Below w.heap.size w w'):=fun w' h=>fr_below h;have HSZ:Hid (w.heap.size≤(w.alloc (.cells #[.string ⟨l.toArray⟩,.slice none 0 0] 64)).heap.size):=show _≤_ by simp
  clear hP hrd;generalize docC l=o at KA HP
  cases o with
  | none =>
   simp only [AttP] at KA
   go_enter Tryz.func17,Tryz.ntmps17
   go_wp2_with fail
   generalize World.alloc _ _=W0 at KA HFB ⊢;refine (KA.out).mono ?_
   rintro e w2 ⟨rfl,hf2⟩;go_wp2;go_ret2;rw [HP.out];exact ⟨.slice none 0 0,[],rfl,rfl,OwnN.nil _ _,HFB.out _ hf2⟩
  | some ns =>
   simp only [AttP] at KA
   go_enter Tryz.func17,Tryz.ntmps17
   go_wp2_with fail
   generalize World.alloc _ _=W0 at KA HFB HSZ ⊢;refine (KA.out).mono ?_
   rintro e w2 ⟨v2,cs2,rfl,hk2,hown2,hf2⟩;go_wp2;go_ret2;rw [HP.out];exact ⟨v2,cs2,rfl,hk2,hown2.mono HSZ.out,HFB.out _ hf2⟩
theorem tree_len {l:List Nd} {t:XT} (hc:checkX l=0) (hf:flatX 0 t=l) (hs:∀ x ∈ l,SmallN 4096 x):(printX t).length≤1000000000:=by
 have h1:=printX_W 0 t;rw [hf] at h1;have h2:=ok_W (K:=4096) hc fun x hx=>by obtain ⟨a,b,c,_⟩:=hs x hx; exact ⟨a,b,c.2⟩
 omega
def saysB (d:Inf) (t:XT):Bool:=decide (checkI d=0∧(prologK++printX (treeI d)).length≤4096∧prologK++printX t=prologK++printX (treeI d))
set_option maxHeartbeats 4000000 in
set_option maxRecDepth 100000 in
theorem wsays_any (d:Inf) (ws v:Value) (cs:List NdC) (t:XT) (w:World) (hsm:SmallI 1048576 d) (hws:WtsAt w ws d.ws) (hck:checkX (ndsL cs)=0) (hf:flatX 0 t=ndsL cs) (hsn:∀ c ∈ cs,SmallN 4096 c.nd) (hv:NdsAt w v cs) :
  Calls Tryz.prog 30 #[infV d ws,v] w fun e w'=>e=.returned (.bool (saysB d t))∧Below w.heap.size w w':=by
 have htl:=tree_len hck hf (fun x hx=>by obtain ⟨c,hc,rfl⟩:=List.mem_map.1 hx; exact hsn c hc);have KB:=hid (fun (hc:checkI d ≠ 0) w' (h:Below w.heap.size w w')=>wprint_bad d ws w' hsm (hws.below h) hc);have KO:=hid (fun (hc:checkI d=0) w' (h:Below w.heap.size w w')=>wprint_ok d ws w' (hws.below h) hc);have KX:=hid (fun w' (h:Below w.heap.size w w')=>xprint_ok v cs t w' (fun c hcc=>smallN_up (hsn c hcc) (by decide)) (hv.below h) hck hf (by omega));have hB:saysB d t=decide (checkI d=0∧(prologK++printX (treeI d)).length≤4096∧prologK++printX t=prologK++printX (treeI d)):=rfl;generalize saysB d t=R at hB ⊢;have zZ:=size_list (prologK++printX (treeI d));generalize checkI d=C at KB KO hB;generalize prologK++printX (treeI d)=Z at KO hB zZ;generalize prologK++printX t=Y at KX hB;obtain ⟨va,vc,hvf⟩:=hv.form;obtain ⟨cn,hcn⟩:∃ cn,cn=cs.length:=⟨_,rfl⟩
 rw [← hcn] at hvf;subst hvf;obtain ⟨ta,tc,hwf,_,_⟩:=hws;obtain ⟨vr,rs,wl⟩:=d;simp only at hwf;obtain ⟨tn,htn⟩:∃ tn,tn=wl.length:=⟨_,rfl⟩
 rw [← htn] at hwf;subst hwf;unfold infV at KB KO ⊢;simp only at KB KO ⊢;have HB:=hid hB;clear hcn htn hB hsm hck hf hsn hv htl;have hbn:Below w.heap.size w (w.alloc (.cells #[.int .i64 vr,.string ⟨rs.toArray⟩,.slice ta tn tc] 24)):=(Below.refl _ w).alloc (Nat.le_refl _) _;obtain ⟨x0,x1,x2,_,_,_⟩:=(rc_row3 w (.int .i64 vr) (.string ⟨rs.toArray⟩) (.slice ta tn tc) 24).rc3
 go_enter Tryz.func30,Tryz.ntmps30
 go_upto_region 1 with fail
 generalize World.alloc w _=W0 at x0 x1 x2 hbn ⊢;by_cases hc:C=0
 case neg =>
  have q1:(C != 0)=true:=by simpa using hc
  have KB':=hid (KB.out hc W0 hbn);have hR:Hid (R=false):=show _=_ by rw [HB.out]; exact decide_eq_false (fun h=>hc h.1)
  clear KB KO KX HB hc;go_wp2_with fail
  refine KB'.out.mono ?_
  rintro e w1 ⟨rfl,hw1⟩;clear KB' x0 x1 x2;go_wp2;go_ret;exact ⟨ret_bool hR.out.symm,hbn.trans (hw1.mono hbn.size)⟩
 subst hc;have KO':=hid (KO.out rfl W0 hbn);clear KB KO;go_wp2_with fail
 refine KO'.out.mono ?_
 rintro e w1 ⟨rfl,hw1⟩;have hb1:=hbn.trans (hw1.mono hbn.size);clear KO' x0 x1 x2 hw1 hbn;by_cases h4:4096 < Z.length
 ·have q4:(4096:Int) < (Z.length:Int):=by omega
  have hR:Hid (R=false):=show _=_ by rw [HB.out]; exact decide_eq_false (fun h=>by have:=h.2.1; omega)
  clear HB KX;go_wp2;go_ret;exact ⟨ret_bool hR.out.symm,hb1⟩
 have q4:¬ (4096:Int) < (Z.length:Int):=by omega
 have KX':=hid (KX.out w1 hb1);clear KX;go_wp2_with fail
 refine KX'.out.mono ?_
 rintro e w2 ⟨rfl,hw2⟩;have hb2:=hb1.trans (hw2.mono hb1.size);clear KX' hw2 hb1
 have hR:Hid (R=(Y==Z)):=show _=_ by
  rw [HB.out];by_cases hq:Y=Z
  ·rw [decide_eq_true (by exact ⟨trivial,by omega,hq⟩),hq]; simp
  ·rw [decide_eq_false (fun h=>hq h.2.2)]; symm; rw [beq_eq_false_iff_ne]; exact hq
 clear HB h4
 cases hq:(Y==Z) with
 | true =>
  rw [hq] at hR;go_wp2;go_ret;exact ⟨ret_bool hR.out.symm,hb2⟩
 | false =>
  rw [hq] at hR;go_wp2;go_ret;exact ⟨ret_bool hR.out.symm,hb2⟩
set_option maxHeartbeats 4000000 in
set_option maxRecDepth 100000 in
theorem wparse_any (s:List UInt8) (w:World) (hs:s.length≤140737488355328) :
  Calls Tryz.prog 14 #[.string ⟨s.toArray⟩] w fun e w'=>IfP (parseI s) w e w':=by
 have KP:=hid (fun w'=>xparse_any s w' hs);obtain ⟨nl,er,hpv⟩:∃ x er,parseX s=(x,er):=⟨_,_,rfl⟩
 rw [hpv] at KP;unfold ParP at KP;simp only at KP;have hG:=hid (pa_new w);by_cases he:er=0
 case neg =>
  rw [parseI_err hpv he];have r1:(er != 0)=true:=by simpa using he
  clear hpv he hs
  go_enter Tryz.func14,Tryz.ntmps14
  go_wp2_with fail
  generalize World.alloc w _=W0 at hG ⊢;refine (KP.out _).mono ?_
  rintro e w1 ⟨v1,cs1,rfl,hnd,hown,hw1⟩;have hG1:=hid (hG.out.below hw1);obtain ⟨va,vc,hvf⟩:=hown.form;subst hvf;obtain ⟨n1,hn1⟩:∃ n1,n1=cs1.length:=⟨_,rfl⟩
  rw [← hn1];clear hn1 hnd hown hw1 hG KP;obtain ⟨y0,y1,y2,f0,f1,f2⟩:=hG1.out.res.rc3;have hD:=hid (hG1.out.done (.int .i64 0) (.string ⟨#[]⟩) (.slice none 0 0));go_wp2;generalize World.setCell _ _ _=w9 at hD ⊢;obtain ⟨d2,d3⟩:=hD.out;obtain ⟨e0,e1,e2,_,_,_⟩:=d2.rc3
  try simp only [Exit.inBlock,Exit.then]
  refine bodyPost_ret (v:=.tuple #[infV noI (.slice none 0 0),.int .i64 er]) (by simp [results,Tryz.results14,go_sem,e0,e1,e2,infV,noI]; try rfl) rfl ?_
  exact ⟨_,rfl,OwnW.nil _ _,d3⟩
 subst he;rw [parseI_yes hpv];have hsm:=parse_small hpv;have hck:=parseX_ok hpv;have hcx:=checkX_ok hck;obtain ⟨t,hf,hok⟩:=tree_of hck;rw [infoX_read hck hf hok];have hsi:=wread_small (l:=nl) (by omega) hsm;obtain ⟨R,hR⟩:∃ R,R=(if checkI (wreadR nl)=0∧(prologK++printX (treeI (wreadR nl))).length≤4096∧prologK++printX t=prologK++printX (treeI (wreadR nl)) then (wreadR nl,(0:Int)) else (noI,150)):=⟨_,rfl⟩
 rw [← hR]
 have hR2:R=if saysB (wreadR nl) t=true then (wreadR nl,0) else (noI,150):=by
  rw [hR];unfold saysB;simp only [decide_eq_true_eq]
 have HR:=hid hR2;clear hR hR2
 have KG:Hid (∀ (w':World) (v:Value) (cs:List NdC),ndsL cs=nl → NdsAt w' v cs → Calls Tryz.prog 29 #[v] w' fun e w2=>GuP (wreadR nl) w' e w2):=fun w' v cs hnd hv=>by
  have h:=wread_any v cs w' (by rw [← ndsL_len,hnd]; omega) (fun c hc=>smallN_up (hsm c.nd (by rw [← hnd]; exact List.mem_map.2 ⟨c,hc,rfl⟩)) (by decide)) hv;rw [hnd] at h;exact h
 have KS:Hid (∀ (w':World) (ws v:Value) (cs:List NdC),ndsL cs=nl → WtsAt w' ws (wreadR nl).ws → NdsAt w' v cs → Calls Tryz.prog 30 #[infV (wreadR nl) ws,v] w' fun e w2=>e=.returned (.bool (saysB (wreadR nl) t))∧Below w'.heap.size w' w2):=fun w' ws v cs hnd hws hv =>
  wsays_any (wreadR nl) ws v cs t w' hsi hws (by rw [hnd]; exact hck) (by rw [hnd]; exact hf) (fun c hc=>hsm c.nd (by rw [← hnd]; exact List.mem_map.2 ⟨c,hc,rfl⟩)) hv
 clear hpv hs hsm hck hcx hf hok hsi;generalize saysB (wreadR nl) t=SB at HR KS;generalize wreadR nl=d at HR KG KS;obtain ⟨vr,rs,wl⟩:=d;unfold GuP at KG;unfold infV at KG KS;simp only at KG KS
 go_enter Tryz.func14,Tryz.ntmps14
 go_wp2_with fail
 generalize World.alloc w _=W0 at hG ⊢;refine (KP.out _).mono ?_
 rintro e w1 ⟨v1,cs1,rfl,hnd,hown,hw1⟩;have hG1:=hid (hG.out.below hw1);have hNA:=hid hown.ndsAt;obtain ⟨va,vc,hvf⟩:=hown.form;obtain ⟨n1,hn1⟩:∃ n1,n1=cs1.length:=⟨_,rfl⟩
 rw [← hn1] at hvf;subst hvf;have HND:=hid hnd;have HW0:=hid (show w.heap.size < w1.heap.size from hG1.out.lt);clear hn1 hnd hown hw1 hG KP;go_wp2_with fail
 refine (KG.out w1 _ cs1 HND.out hNA.out).mono ?_
 rintro e w2 ⟨ws,rfl,hws,hw2⟩;have hG2:=hid (hG1.out.below hw2);have hNA2:=hid (hNA.out.below hw2);obtain ⟨ta,tc,hwf⟩:=hws.form;obtain ⟨tn,htn⟩:∃ tn,tn=wl.length:=⟨_,rfl⟩
 rw [← htn] at hwf;subst hwf;have hO3:=hid (hws.alloc (.cells #[.int .i64 vr,.string ⟨rs.toArray⟩,.slice ta tn tc] 24));have hG3:=hid (hG2.out.alloc (.cells #[.int .i64 vr,.string ⟨rs.toArray⟩,.slice ta tn tc] 24));have hNA3:=hid (hNA2.out.below ((Below.refl _ w2).alloc (Nat.le_refl _) (.cells #[.int .i64 vr,.string ⟨rs.toArray⟩,.slice ta tn tc] 24)));have hr3:=hid (rc_row3 w2 (.int .i64 vr) (.string ⟨rs.toArray⟩) (.slice ta tn tc) 24);have hl3:=hid (alloc_lt w2 (.cells #[.int .i64 vr,.string ⟨rs.toArray⟩,.slice ta tn tc] 24));clear htn hws hw2 hG1 hNA hG2 hNA2 KG
 go_upto_region 5 with fail
 generalize World.alloc w2 _=w3 at hO3 hG3 hNA3 hr3 hl3 ⊢;obtain ⟨y0,y1,y2,_,_,_⟩:=hr3.out.rc3;go_wp2_with fail
 refine (KS.out w3 _ _ cs1 HND.out hO3.out.wtsAt hNA3.out).mono ?_
 rintro e w4 ⟨rfl,hw4⟩;have hG4:=hid (hG3.out.below hw4);have hO4:=hid (hO3.out.below hw4);have hr4:=hid (hr3.out.below hw4 hl3.out);clear KS hw4 y0 y1 y2 hr3 hl3 hNA3 hO3 hG3;obtain ⟨z0,z1,z2,_,_,_⟩:=hr4.out.rc3;obtain ⟨y0,y1,y2,f0,f1,f2⟩:=hG4.out.res.rc3
 cases SB with
 | true =>
  have hR:Hid (R=(⟨vr,rs,wl⟩,0)):=show _=_ by rw [HR.out,if_pos rfl]
  have hD:=hid (hG4.out.done (.int .i64 vr) (.string ⟨rs.toArray⟩) (.slice ta tn tc));have hOD:=hid (hG4.out.own hO4.out HW0.out (.int .i64 vr) (.string ⟨rs.toArray⟩) (.slice ta tn tc));clear HR hG4 hO4 hr4;go_wp2;generalize World.setCell _ _ _=w9 at hD hOD ⊢;obtain ⟨d2,d3⟩:=hD.out;obtain ⟨e0,e1,e2,_,_,_⟩:=d2.rc3
  try simp only [Exit.inBlock,Exit.then]
  refine bodyPost_ret (v:=.tuple #[infV ⟨vr,rs,wl⟩ (.slice ta tn tc),.int .i64 0]) (by simp [results,Tryz.results14,go_sem,e0,e1,e2,infV]; try rfl) rfl ?_
  rw [hR.out];exact ⟨_,rfl,hOD.out,d3⟩
 | false =>
  have hR:Hid (R=(noI,150)):=show _=_ by rw [HR.out,if_neg (by simp)]
  have hD:=hid (hG4.out.done (.int .i64 0) (.string ⟨#[]⟩) (.slice none 0 0));clear HR hG4 hO4 hr4;go_wp2;generalize World.setCell _ _ _=w9 at hD ⊢;obtain ⟨d2,d3⟩:=hD.out;obtain ⟨e0,e1,e2,_,_,_⟩:=d2.rc3
  try simp only [Exit.inBlock,Exit.then]
  refine bodyPost_ret (v:=.tuple #[infV noI (.slice none 0 0),.int .i64 150]) (by simp [results,Tryz.results14,go_sem,e0,e1,e2,infV,noI]; try rfl) rfl ?_
  rw [hR.out];exact ⟨_,rfl,OwnW.nil _ _,d3⟩
def awkW:Wt:=⟨1,[99,64,100],[97,99,116,105,118,101],[115,117,98,115,99,114,105,98,101]⟩
def awkI:Inf:=⟨0,[97,64,98],[awkW]⟩
def awkS:List UInt8:=[60,119,97,116,99,104,101,114,105,110,102,111,47,62]
theorem awkI_is:checkI awkI=0:=by decide +kernel
theorem awkI_len:200 < (prologK++printX (treeI awkI)).length∧(prologK++printX (treeI awkI)).length≤4096:=by decide +kernel
theorem awkS_is:parseI awkS=(noI,150):=by decide +kernel
theorem wts_own1 (W:World) (B:Nat) (hB:B≤W.heap.size) (t:Wt) (g:Nat) (hg:g=W.heap.size):OwnW (W.alloc (.cells #[.int .i64 t.id,.string ⟨t.uri.toArray⟩,.string ⟨t.stat.toArray⟩,.string ⟨t.ev.toArray⟩] 51)) B (.slice (some ⟨g,0,none⟩) 1 1) [t]:=by
 subst hg;exact ⟨rfl,.inr ⟨_,_,(wtCells t).toArray,rfl,hB,heap_alloc_new _ _,Nat.le_refl _,by unfold maxLen; omega,rfl,by simp [wtsCells,wtCells]⟩⟩
theorem IfP.forms {R:Inf × Int} {w:World} {e:Ending} {w':World} (h:IfP R w e w'):∃ ta tk,e=.returned (.tuple #[.agg #[.int .i64 R.1.ver,.string ⟨R.1.res.toArray⟩,.slice ta R.1.ws.length tk],.int .i64 R.2])∧WtsAt w' (.slice ta R.1.ws.length tk) R.1.ws∧Below w.heap.size w w':=by
 obtain ⟨ws,rfl,h1,h2⟩:=h;have ht:=h1.wtsAt;obtain ⟨ta,tk,rfl⟩:=h1.form;exact ⟨ta,tk,rfl,ht,h2⟩
set_option maxHeartbeats 2000000 in
set_option maxRecDepth 100000 in
theorem one_any (w:World):Calls Tryz.prog 20 #[] w fun e w'=>∃ g:Nat,e=.returned (.agg #[.int .i64 0,.string ⟨#[97,64,98]⟩,.slice (some ⟨g,0,none⟩) 1 1])∧WtsAt w' (.slice (some ⟨g,0,none⟩) 1 1) awkI.ws∧Below w.heap.size w w':=by
 have h1:=rc_row3 w (.int .i64 0) (.string ⟨#[97,64,98]⟩) (.slice (some ⟨w.heap.size+1,0,none⟩) 1 1) 24;have hl:=alloc_lt w (.cells #[.int .i64 0,.string ⟨#[97,64,98]⟩,.slice (some ⟨w.heap.size+1,0,none⟩) 1 1] 24);have hs:(w.alloc (.cells #[.int .i64 0,.string ⟨#[97,64,98]⟩,.slice (some ⟨w.heap.size+1,0,none⟩) 1 1] 24)).heap.size=w.heap.size+1:=by simp
 have hb1:Below w.heap.size w (w.alloc (.cells #[.int .i64 0,.string ⟨#[97,64,98]⟩,.slice (some ⟨w.heap.size+1,0,none⟩) 1 1] 24)):=(Below.refl _ w).alloc (Nat.le_refl _) _
 go_enter Tryz.func20,Tryz.ntmps20
 go_wp2;generalize w.alloc (.cells #[.int .i64 0,.string ⟨#[97,64,98]⟩,.slice (some ⟨w.heap.size+1,0,none⟩) 1 1] 24)=W1 at h1 hl hs hb1 ⊢;have ho:=wts_own1 W1 w.heap.size hb1.size awkW (w.heap.size+1) hs.symm;have hr:=h1.below ((Below.refl _ W1).alloc (Nat.le_refl _) (.cells #[.int .i64 1,.string ⟨#[99,64,100]⟩,.string ⟨#[97,99,116,105,118,101]⟩,.string ⟨#[115,117,98,115,99,114,105,98,101]⟩] 51)) hl;have hb2:=hb1.alloc hb1.size (.cells #[.int .i64 1,.string ⟨#[99,64,100]⟩,.string ⟨#[97,99,116,105,118,101]⟩,.string ⟨#[115,117,98,115,99,114,105,98,101]⟩] 51);obtain ⟨e0,e1,e2,_,_,_⟩:=hr.rc3;have ht:=ho.wtsAt
 try simp only [Exit.inBlock,Exit.then]
 refine bodyPost_ret (v:=.agg #[.int .i64 0,.string ⟨#[97,64,98]⟩,.slice (some ⟨w.heap.size+1,0,none⟩) 1 1]) (by simp [results,Tryz.results20,go_sem,e0,e1,e2]; try rfl) rfl ?_
 exact ⟨w.heap.size+1,rfl,ht,hb2⟩
theorem wback_any (d:Inf) (w:World) (hc:checkI d=0) (hl:(prologK++printX (treeI d)).length≤4096) :
  Calls Tryz.prog 14 #[.string ⟨(prologK++printX (treeI d)).toArray⟩] w fun e w'=>IfP (d,0) w e w':=by
 have h:=wparse_any (prologK++printX (treeI d)) w (by omega);rw [info_back hc hl] at h;exact h
set_option maxHeartbeats 2000000 in
set_option maxRecDepth 100000 in
theorem awake15_any (w:World):Calls Tryz.prog 9 #[] w fun e w'=>e=.returned (.bool true)∧Below w.heap.size w w':=by
 have K1:=hid (fun w'=>one_any w');have K2:=hid (fun w' ws (h:WtsAt w' ws awkI.ws)=>wprint_ok awkI ws w' h awkI_is);have K3:Hid (∀ w',Calls Tryz.prog 14 #[.string ⟨(prologK++printX (treeI awkI)).toArray⟩] w' fun e w2=>∃ ta tk,e=.returned (.tuple #[.agg #[.int .i64 0,.string ⟨#[97,64,98]⟩,.slice ta 1 tk],.int .i64 0])∧WtsAt w2 (.slice ta 1 tk) awkI.ws∧Below w'.heap.size w' w2):=fun w'=>(wback_any awkI w' awkI_is awkI_len.2).mono fun e w2 h=>h.forms
 have K4:Hid (∀ w',Calls Tryz.prog 14 #[.string ⟨awkS.toArray⟩] w' fun e w2=>∃ ta tk,e=.returned (.tuple #[.agg #[.int .i64 0,.string ⟨#[]⟩,.slice ta 0 tk],.int .i64 150])∧Below w'.heap.size w' w2):=fun w'=>by
  have h:=wparse_any awkS w' (by decide);rw [awkS_is] at h;refine h.mono fun e w2 h=>?_
  obtain ⟨ta,tk,h1,_,h3⟩:=h.forms;exact ⟨ta,tk,h1,h3⟩
 have E4:Hid ((⟨#[60,119,97,116,99,104,101,114,105,110,102,111,47,62]⟩:ByteArray)=⟨awkS.toArray⟩):=rfl;have KS:=hid (fun w' ws ws' (h1:WtsAt w' ws awkI.ws) (h2:WtsAt w' ws' awkI.ws)=>rsame15_any awkI ws ws' w' (by decide) h1 h2);have hl:=awkI_len.1;have zZ:=size_list (prologK++printX (treeI awkI));unfold infV at K2 KS;rw [show awkI.ver=0 from rfl,show awkI.res=[97,64,98] from rfl] at K2 KS;generalize prologK++printX (treeI awkI)=Z at K2 K3 hl zZ;have q200:(200:Int) < (Z.length:Int):=by omega
 generalize awkI.ws=AW at K1 K2 K3 KS;clear hl
 go_enter Tryz.func9,Tryz.ntmps9
 go_wp2_with fail
 refine (K1.out _).mono ?_
 rintro e w1 ⟨g1,rfl,ht1,hw1⟩;go_wp2_with fail
 refine (K2.out _ _ ht1).mono ?_
 rintro e w2 ⟨rfl,hw2⟩;have hb2:=hw1.trans (hw2.mono hw1.size);clear hw1 hw2 ht1 K2;go_wp2_with fail
 refine (K3.out _).mono ?_
 rintro e w3 ⟨ta3,tk3,rfl,ht3,hw3⟩;have hb3:=hb2.trans (hw3.mono hb2.size);have hr4:=hid (rc_row3 w3 (.int .i64 0) (.string ⟨#[97,64,98]⟩) (.slice ta3 1 tk3) 24);have hl4:=hid (alloc_lt w3 (.cells #[.int .i64 0,.string ⟨#[97,64,98]⟩,.slice ta3 1 tk3] 24));have ht4:=hid (ht3.alloc (.cells #[.int .i64 0,.string ⟨#[97,64,98]⟩,.slice ta3 1 tk3] 24));have hb4:=hid (hb3.alloc hb3.size (.cells #[.int .i64 0,.string ⟨#[97,64,98]⟩,.slice ta3 1 tk3] 24));clear hb2 hw3 ht3 hb3 K3
 go_upto_region 3 with fail
 generalize World.alloc w3 _=W3 at hr4 hl4 ht4 hb4 ⊢;go_wp2_with fail
 rw [E4.out];refine (K4.out _).mono ?_
 rintro e w5 ⟨ta5,tk5,rfl,hw5⟩;have hr5:=hid (hr4.out.below hw5 hl4.out);have hl5:=hid (Nat.lt_of_lt_of_le hl4.out hw5.size);have ht5:=hid (ht4.out.below hw5);have hb5:=hid (hb4.out.trans (hw5.mono hb4.out.size));have hba:=(Below.refl _ w5).alloc (Nat.le_refl _) (.cells #[.int .i64 0,.string ⟨#[]⟩,.slice ta5 0 tk5] 24);have hr6:=hid (hr5.out.below hba hl5.out);have hl6:=hid (Nat.lt_of_lt_of_le hl5.out hba.size);have ht6:=hid (ht5.out.below hba);have hb6:=hid (hb5.out.trans (hba.mono hb5.out.size));clear hr4 hl4 ht4 hb4 hr5 hl5 ht5 hb5 hba hw5 K4
 go_upto_region 4 with fail
 generalize World.alloc w5 _=W5 at hr6 hl6 ht6 hb6 ⊢;obtain ⟨b,hb⟩:∃ b,b=w3.heap.size:=⟨_,rfl⟩
 rw [← hb] at hr6 hl6 ⊢;clear hb;have hR:=hid (show RowIs W5.drew b 24 [.int .i64 0,.string ⟨#[97,64,98]⟩,.slice ta3 1 tk3] from hr6.out);have hT:=hid (ht6.out.below (Below.refl _ W5).drew);have hlt:b < W5.drew.heap.size:=hl6.out;have hacc:Below w.heap.size w W5.drew:=hb6.out.drew;clear hr6 ht6 hl6 hb6;obtain ⟨x0,x1,x2,_,_,_⟩:=hR.out.rc3;go_wp2
 go_region_held3 (fun w'=>w'.cell? ⟨b,0,none⟩=some (.int .i64 0)∧w'.cell? ⟨b,1,none⟩=some (.string ⟨#[97,64,98]⟩)∧w'.cell? ⟨b,2,none⟩=some (.slice ta3 1 tk3)) (go_keep) (first
  | (go_at_call 20; refine (K1.out _).mono ?_; rintro e w7 ⟨g7,rfl,ht7,hw7⟩; have HT1:=hid ht7; have hR:=hid (RowIs.below hR.out hw7 hlt); have hT:=hid (hT.out.below hw7); have hacc:=hacc.trans (hw7.mono hacc.size); have hlt:=Nat.lt_of_lt_of_le hlt hw7.size; clear x0 x1 x2; obtain ⟨x0,x1,x2,_,_,_⟩:=hR.out.rc3; clear hw7 ht7)
  | (go_at_call 16; refine (KS.out _ _ _ hT.out HT1.out).mono ?_; rintro e w8 ⟨rfl,hw8⟩; have hR:=hid (RowIs.below hR.out hw8 hlt); have hacc:=hacc.trans (hw8.mono hacc.size); have hlt:=Nat.lt_of_lt_of_le hlt hw8.size; clear x0 x1 x2; obtain ⟨x0,x1,x2,_,_,_⟩:=hR.out.rc3; clear hw8))
 all_goals (
  go_wp2;go_ret;exact ⟨rfl,hacc⟩)
end Go.Proofs.YtdbalahkmeknaaaGreatDoor
