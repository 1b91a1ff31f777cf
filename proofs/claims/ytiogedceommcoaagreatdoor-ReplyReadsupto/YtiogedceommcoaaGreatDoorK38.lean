/-
  CNeed, CLoop, HHead2, HHead3, CAllow, CList, CHop, CBase0.
-/
import Derived.Test.YtiogedceommcoaaGreatDoorK37
set_option linter.unusedVariables false
set_option linter.unusedSimpArgs false
set_option maxRecDepth 20000
namespace Go.Proofs.YtiogedceommcoaaGreatDoor
open Go.RowKit Sc
set_option maxHeartbeats 2000000 in
set_option maxRecDepth 100000 in
theorem need1_any (s:List UInt8) (b g:Nat) (c:RqC) (w:World) (hs:s.length≤1048576) (hp:PtrAt w g b) (hr:RowIs w b 37 (rqCells c)) :
  Calls Tryz.prog 65 #[.string ⟨s.toArray⟩,.pointer (some ⟨g,0,none⟩)] w fun e w'=>e=.returned (.int .i64 (parseA s).2)∧∃ a:AdrC,a.a=(parseA s).1∧a.Own w' w.heap.size∧Upd b (c.frmC a) w w':=by
 have KP:=hid (fun w'=>aparse_any s w' hs);generalize parseA s=R at KP ⊢;obtain ⟨⟨ad,⟨us,uu,uh,up,upp,uhh⟩,app⟩,pn⟩:=R;unfold ParseRes adrV at KP;simp only at KP ⊢;have c0:=ptr_cell hp;have HR:=hid hr;have HP:=hid hp;have hbl:=row_lt hr;clear hr hp
 go_enter Tryz.func65,Tryz.ntmps65
 go_wp2
 go_region_law (go_simp; go_at_call 66; refine (KP.out _).mono ?_; rintro e w4 ⟨⟨p,h,q,rfl,hp,hh,hq⟩,hw4⟩; replace hw4:=(show Below w.heap.size w w4 from (Below.refl w.heap.size w).drew.trans hw4); have hr4:=HR.out.below hw4 hbl; have c4:=ptr_cell (HP.out.below hw4); obtain ⟨a1,k1,e1⟩:=hp.parsAt.form; obtain ⟨a2,k2,e2⟩:=hh.parsAt.form; obtain ⟨a3,k3,e3⟩:=hq.parsAt.form; subst e1 e2 e3; have y9:=hr4.cell 9 (by rw [rq_len]; decide); have f9:=hr4.frozen 9; have y10:=hr4.cell 10 (by rw [rq_len]; decide); have f10:=hr4.frozen 10; have y11:=hr4.cell 11 (by rw [rq_len]; decide); have f11:=hr4.frozen 11; have y12:=hr4.cell 12 (by rw [rq_len]; decide); have f12:=hr4.frozen 12; have y13:=hr4.cell 13 (by rw [rq_len]; decide); have f13:=hr4.frozen 13; have y14:=hr4.cell 14 (by rw [rq_len]; decide); have f14:=hr4.frozen 14; have y15:=hr4.cell 15 (by rw [rq_len]; decide); have f15:=hr4.frozen 15; have y16:=hr4.cell 16 (by rw [rq_len]; decide); have f16:=hr4.frozen 16; have HU:=hid ((Upd.refl hr4).frm ⟨⟨ad,⟨us,uu,uh,up,upp,uhh⟩,app⟩,.slice a1 upp.length k1,.slice a2 uhh.length k2,.slice a3 app.length k3⟩); have HO:=hid (And.intro hp (And.intro hh hq)))
 all_goals (
  unfold set8r at HU;simp only [Nat.reduceAdd] at HU;go_wp2;generalize World.setCell _ _ _=w7 at HU ⊢;go_ret;exact ⟨rfl,⟨⟨ad,⟨us,uu,uh,up,upp,uhh⟩,app⟩,.slice a1 upp.length k1,.slice a2 uhh.length k2,.slice a3 app.length k3⟩,rfl,AdrC.Own.upd (a:=⟨⟨ad,⟨us,uu,uh,up,upp,uhh⟩,app⟩,.slice a1 upp.length k1,.slice a2 uhh.length k2,.slice a3 app.length k3⟩) HO.out HU.out hbl,Upd.after hw4 HU.out⟩)
set_option maxHeartbeats 2000000 in
set_option maxRecDepth 100000 in
theorem need2_any (s:List UInt8) (b g:Nat) (c:RqC) (w:World) (hs:s.length≤1048576) (hp:PtrAt w g b) (hr:RowIs w b 37 (rqCells c)) :
  Calls Tryz.prog 67 #[.string ⟨s.toArray⟩,.pointer (some ⟨g,0,none⟩)] w fun e w'=>e=.returned (.int .i64 (parseA s).2)∧∃ a:AdrC,a.a=(parseA s).1∧a.Own w' w.heap.size∧Upd b (c.tooC a) w w':=by
 have KP:=hid (fun w'=>aparse_any s w' hs);generalize parseA s=R at KP ⊢;obtain ⟨⟨ad,⟨us,uu,uh,up,upp,uhh⟩,app⟩,pn⟩:=R;unfold ParseRes adrV at KP;simp only at KP ⊢;have c0:=ptr_cell hp;have HR:=hid hr;have HP:=hid hp;have hbl:=row_lt hr;clear hr hp
 go_enter Tryz.func67,Tryz.ntmps67
 go_wp2
 go_region_law (go_simp; go_at_call 66; refine (KP.out _).mono ?_; rintro e w4 ⟨⟨p,h,q,rfl,hp,hh,hq⟩,hw4⟩; replace hw4:=(show Below w.heap.size w w4 from (Below.refl w.heap.size w).drew.trans hw4); have hr4:=HR.out.below hw4 hbl; have c4:=ptr_cell (HP.out.below hw4); obtain ⟨a1,k1,e1⟩:=hp.parsAt.form; obtain ⟨a2,k2,e2⟩:=hh.parsAt.form; obtain ⟨a3,k3,e3⟩:=hq.parsAt.form; subst e1 e2 e3; have y17:=hr4.cell 17 (by rw [rq_len]; decide); have f17:=hr4.frozen 17; have y18:=hr4.cell 18 (by rw [rq_len]; decide); have f18:=hr4.frozen 18; have y19:=hr4.cell 19 (by rw [rq_len]; decide); have f19:=hr4.frozen 19; have y20:=hr4.cell 20 (by rw [rq_len]; decide); have f20:=hr4.frozen 20; have y21:=hr4.cell 21 (by rw [rq_len]; decide); have f21:=hr4.frozen 21; have y22:=hr4.cell 22 (by rw [rq_len]; decide); have f22:=hr4.frozen 22; have y23:=hr4.cell 23 (by rw [rq_len]; decide); have f23:=hr4.frozen 23; have y24:=hr4.cell 24 (by rw [rq_len]; decide); have f24:=hr4.frozen 24; have HU:=hid ((Upd.refl hr4).too ⟨⟨ad,⟨us,uu,uh,up,upp,uhh⟩,app⟩,.slice a1 upp.length k1,.slice a2 uhh.length k2,.slice a3 app.length k3⟩); have HO:=hid (And.intro hp (And.intro hh hq)))
 all_goals (
  unfold set8r at HU;simp only [Nat.reduceAdd] at HU;go_wp2;generalize World.setCell _ _ _=w7 at HU ⊢;go_ret;exact ⟨rfl,⟨⟨ad,⟨us,uu,uh,up,upp,uhh⟩,app⟩,.slice a1 upp.length k1,.slice a2 uhh.length k2,.slice a3 app.length k3⟩,rfl,AdrC.Own.upd (a:=⟨⟨ad,⟨us,uu,uh,up,upp,uhh⟩,app⟩,.slice a1 upp.length k1,.slice a2 uhh.length k2,.slice a3 app.length k3⟩) HO.out HU.out hbl,Upd.after hw4 HU.out⟩)
set_option maxHeartbeats 2000000 in
set_option maxRecDepth 100000 in
theorem need3_any (s:List UInt8) (b g:Nat) (c:RqC) (w:World) (hs:s.length≤1048576) (hp:PtrAt w g b) (hr:RowIs w b 37 (rqCells c)) :
  Calls Tryz.prog 68 #[.string ⟨s.toArray⟩,.pointer (some ⟨g,0,none⟩)] w fun e w'=>e=.returned (.int .i64 (if callB s=true then 0 else 100))∧Upd b (if callB s=true then c.cid s else c) w w':=by
 have KP:=hid (fun w'=>hcall_any s w' (by omega));generalize callB s=R at KP ⊢;have c0:=ptr_cell hp;have HR:=hid hr;have HP:=hid hp;have hbl:=row_lt hr;clear hr hp
 go_enter Tryz.func68,Tryz.ntmps68
 go_wp2_with fail
 refine (KP.out _).mono ?_
 rintro e w4 ⟨rfl,hw4⟩;have hr4:=HR.out.below hw4 hbl;have c4:=ptr_cell (HP.out.below hw4);have y27:=hr4.cell 27 (by rw [rq_len]; decide);have f27:=hr4.frozen 27;have HU:=hid ((Upd.refl hr4).cid s);have HW:=hid (Upd.refl hr4);clear c0
 cases R with
 | false =>
  go_wp2;go_ret;exact ⟨rfl,Upd.after hw4 HW.out⟩
 | true =>
  go_wp2;generalize World.setCell _ _ _=w7 at HU ⊢;go_ret;exact ⟨rfl,Upd.after hw4 HU.out⟩
set_option maxHeartbeats 2000000 in
set_option maxRecDepth 100000 in
theorem need4_any (s me:List UInt8) (b g gm:Nat) (c:RqC) (w:World) (hs:s.length≤1048576) (ht:TxtAt w gm me) (hp:PtrAt w g b) (hr:RowIs w b 37 (rqCells c)) :
  Calls Tryz.prog 70 #[.string ⟨s.toArray⟩,.pointer (some ⟨gm,0,none⟩),.pointer (some ⟨g,0,none⟩)] w fun e w'=>e=.returned (.int .i64 (if (seqV s).2.2 ≠ 0∨(seqV s).2.1 ≠ me then 80 else 0))∧Upd b (if (seqV s).2.2 ≠ 0∨(seqV s).2.1 ≠ me then c else c.seqC (seqV s).1) w w':=by
 have KP:=hid (fun w'=>hseq_any s w' (by omega));generalize seqV s=R at KP ⊢;obtain ⟨n,sm,sn⟩:=R;simp only at KP ⊢;obtain ⟨XE,hXE⟩:∃ x:Int,(if sn ≠ 0∨sm ≠ me then 80 else 0)=x:=⟨_,rfl⟩
 obtain ⟨XC,hXC⟩:∃ x:RqC,(if sn ≠ 0∨sm ≠ me then c else c.seqC n)=x:=⟨_,rfl⟩
 rw [hXE,hXC];have HXE:=hid hXE;have HXC:=hid hXC;clear hXE hXC;have HR:=hid hr;have HP:=hid hp;have HT:=hid ht;have hbl:=row_lt hr;clear hr hp ht
 go_enter Tryz.func70,Tryz.ntmps70
 go_wp2_with fail
 refine (KP.out _).mono ?_
 rintro e w4 ⟨rfl,hw4⟩;have hr4:=HR.out.below hw4 hbl;have c4:=ptr_cell (HP.out.below hw4);have t4:=txt_cell (HT.out.below hw4);have y28:=hr4.cell 28 (by rw [rq_len]; decide);have f28:=hr4.frozen 28;have HU:=hid ((Upd.refl hr4).seq n);have HW:=hid (Upd.refl hr4);by_cases h1:sn=0
 case neg =>
  have hne:(sn != 0)=true:=by simpa using h1
  rw [if_pos (Or.inl h1)] at HXE HXC;have e1:=HXE.out;have e2:=HXC.out;subst e1;subst e2;go_wp2;go_ret;exact ⟨rfl,Upd.after hw4 HW.out⟩
 subst h1;by_cases h2:sm=me
 case neg =>
  have hne:(sm==me)=false:=by simpa using h2
  rw [if_pos (Or.inr h2)] at HXE HXC;have e1:=HXE.out;have e2:=HXC.out;subst e1;subst e2;go_wp2;go_ret;exact ⟨rfl,Upd.after hw4 HW.out⟩
 subst h2;have hne:(sm==sm)=true:=by simp
 rw [if_neg (by simp)] at HXE HXC;have e1:=HXE.out;have e2:=HXC.out;subst e1;subst e2;go_wp2;generalize World.setCell _ _ _=w7 at HU ⊢;go_ret;exact ⟨rfl,Upd.after hw4 HU.out⟩
structure Sing where
 nm:List UInt8
 fn:Nat
 cap:Array Value
def singC (s:Sing):List Value:=[.string ⟨s.nm.toArray⟩,.func (.func s.fn) #[] s.cap]
def singCells (l:List Sing):List Value:=l.flatMap singC
theorem enters10 {f : FuncId} {fn : Func} {c : Code} (hf : Tryz.prog.funcs[f]? = some fn) (hn : (fn.name == "runtime.NumGoroutine") = false) (hb : fn.body = some c) : ∀ (args : Array Value) (w : World), (callFunc f args).run Tryz.prog w = .ok (.enter f args) w := fun args w => by
 have h1 : fn.name ≠ "runtime.NumGoroutine" := by simpa using hn
 simp [callFunc,hf,h1,hb]
theorem singCells_get (l:List Sing) (k:Nat) (hk:k < l.length):(singCells l)[k * 2]? = some (.string ⟨l[k].nm.toArray⟩)∧(singCells l)[k * 2+1]? = some (.func (.func l[k].fn) #[] l[k].cap):=by
 induction l generalizing k with
 | nil=>simp at hk
 | cons p ps ih =>
  have e:singCells (p :: ps)=singC p++singCells ps:=rfl
  cases k with
  | zero=>rw [e]; simp [singC]
  | succ k =>
   have:=ih k (by simpa using hk)
   rw [e,show (k+1) * 2=k * 2+2 by omega]
   simpa [singC] using this
theorem sing_cells {w:World} {bl:Nat} {l:List Sing} (h:RowIs w bl 104 (singCells l)) {k:Nat} (hk:k < l.length) :
  w.cell? ⟨bl,k * 2,none⟩=some (.string ⟨l[k].nm.toArray⟩)∧w.cell? ⟨bl,k * 2+1,none⟩=some (.func (.func l[k].fn) #[] l[k].cap):=by
 obtain ⟨h1,h2⟩:=singCells_get l k hk;unfold RowIs at h;exact ⟨arr_cell h (by simpa using h1),arr_cell h (by simpa using h2)⟩
def FirstE (F:Nat → Int) (n:Nat) (x:Int):Prop:=(x=0∧∀ j,j < n → F j=0)∨(x ≠ 0∧∃ k,k < n∧(∀ j,j < k → F j=0)∧F k=x)
def needF (m:Ms) (ls:List Sing) (E:Nat → Int) (k:Nat):Int:=if (oneV m (ls.getD k ⟨[],0,#[]⟩).nm).2=false then 100 else E k
theorem needF_at {m:Ms} {ls:List Sing} {E:Nat → Int} {k:Nat} (hk:k < ls.length):needF m ls E k=if (oneV m ls[k].nm).2=false then 100 else E k:=by
 unfold needF;rw [List.getD_eq_getElem?_getD,List.getElem?_eq_getElem hk]
 rfl
set_option maxHeartbeats 4000000 in
set_option maxRecDepth 100000 in
theorem readNeeded_any (m:Ms) (h:Value) (ls:List Sing) (bl b:Nat) (c0:RqC) (w0 w:World) (In:Nat → World → Prop) (E:Nat → Int)
  (hsm:SmallM 140737488355328 m) (hhl:m.headers.length≤4398046511104) (hat:HdrsAt w0 h m.headers) (hw0:Below w0.heap.size w0 w) (hb:w0.heap.size≤b)
  (hent:∀ s ∈ ls,∀ (args:Array Value) (w:World),(callFunc s.fn args).run Tryz.prog w=.ok (.enter s.fn args) w) (hnl:∀ s ∈ ls,s.nm.length≤1000) (hn:ls.length≤100) (hrow:RowIs w bl 104 (singCells ls)) (hblb:bl ≠ b) (hrq:RowIs w b 37 (rqCells c0))
  (hstab:∀ k wr w',In k wr → Below wr.heap.size wr w' → In k w') (hin:In 0 w)
  (hcall:∀ k (hk:k < ls.length) wr,In k wr → (oneV m ls[k].nm).2=true → Calls Tryz.prog ls[k].fn (#[.string ⟨(oneV m ls[k].nm).1.toArray⟩]++ls[k].cap) wr fun e w'=>e=.returned (.int .i64 (E k))∧(∃ c',Upd b c' wr w')∧(E k=0 → In (k+1) w')) :
  Calls Tryz.prog 23 #[msgV m h,.slice (some ⟨bl,0,none⟩) ls.length ls.length] w fun e w'=>∃ x,e=.returned (.int .i64 x)∧FirstE (needF m ls E) ls.length x∧(x=0 → In ls.length w')∧∃ c',Upd b c' w w':=by
 have hbl:=row_lt hrq;have KO:=hid (fun nm (hn:nm.length≤1000) w' (hb:Below w0.heap.size w0 w')=>fone_any m h nm w' hsm hhl (by omega) (hat.below hb));obtain ⟨ao,cap,hh0,_⟩:=hat.get;subst hh0;have A1:=(Below.refl w.heap.size w).alloc (Nat.le_refl _) (objM m (.slice ao m.headers.length cap));have HBX:=hid (boxM_new w m (.slice ao m.headers.length cap));have U1:Hid (∃ c',Upd b c' w (w.alloc (objM m (.slice ao m.headers.length cap)))):=⟨c0,Upd.of hrq A1⟩
 have HI1:=hid (hstab 0 _ _ hin A1);have HROW:=hid hrow;have HF:=hid (fun k (hk:k < ls.length)=>needF_at (m:=m) (E:=E) hk);have HC:=hid hcall;have HS:=hid hstab;have HL:=hid hnl;have HEN:=hid hent;have HW0:=hid hw0;have HB:=hid hb;have HBB:=hid hblb;have hltB:=row_lt hrow;generalize hF:needF m ls E=F at HF ⊢;clear hF hsm hhl hat hrow hcall hstab hnl hent hw0 hb hblb hrq A1 hin;obtain ⟨n,hnn⟩:∃ n,n=ls.length:=⟨_,rfl⟩
 rw [← hnn] at hn ⊢;have HN:=hid hnn;clear hnn hltB;generalize oneV m=OV at KO HC HF;obtain ⟨me,ta,st,re,hs,bo⟩:=m;unfold msgV at KO ⊢;unfold objM at HBX U1 HI1;simp only at KO HBX U1 HI1 ⊢
 go_enter Tryz.func23,Tryz.ntmps23
 go_wp2
 go_loopw [12] (fun i wr=>∃ k:Nat,k≤n∧i=.int .i64 k∧Hid (In k wr)∧Hid (∃ c',Upd b c' w wr)∧Hid (BoxM wr w.heap.size ⟨me,ta,st,re,hs,bo⟩ (.slice ao hs.length cap))∧Hid (∀ j,j < k → F j=0)∧Hid (w.heap.size < wr.heap.size)) (fun i _=>n - (intOf i).toNat)
 case atStart=>exact ⟨0,Nat.zero_le _,rfl,HI1,U1,HBX,hid (fun j hj=>absurd hj (Nat.not_lt_zero j)),hid (by simp)⟩
 case round =>
  clear HI1 U1 HBX;obtain ⟨k,hk,rfl,HI,HU,HX,HZ,HT⟩:=hrel;by_cases hlt:k < n
  ·have hkl:k < ls.length:=by have:=HN.out; omega
   obtain ⟨cu,hu⟩:=HU.out;obtain ⟨s0,s1⟩:=sing_cells (show RowIs wr bl 104 (singCells ls) from hu.one HROW.out HBB.out) hkl;have hnm:=HL.out _ (List.getElem_mem hkl);have hen:=HEN.out _ (List.getElem_mem hkl);have HK:=hid (HC.out k hkl);have HFK:=hid (HF.out k hkl);generalize hsk:ls[k]=sk at s0 s1 hnm hen HK HFK;obtain ⟨nm,fn,cp⟩:=sk;simp only at s0 s1 hnm hen HK HFK;have KN:=hid (KO.out nm hnm);have hob:=hu.outer0 HW0.out HB.out;have A2:=(Below.refl wr.heap.size wr).alloc (Nat.le_refl _) (.cells #[.string ⟨nm.toArray⟩,.func (.func fn) #[] cp] 104);have hob2:=hob.trans (A2.mono hob.size);have HX2:=hid (HX.out.below A2 HT.out);have q0:=hid (heap_alloc_new wr (.cells #[.string ⟨nm.toArray⟩,.func (.func fn) #[] cp] 104));have HI2:=hid (HS.out _ _ _ HI.out A2);have HU2:=hid (hu.below A2);have hT2:w.heap.size < (wr.alloc (.cells #[.string ⟨nm.toArray⟩,.func (.func fn) #[] cp] 104)).heap.size:=Nat.lt_of_lt_of_le HT.out A2.size;generalize OV nm=ov at KN HK HFK;obtain ⟨ot,ob⟩:=ov;simp only at KN HK HFK;generalize hek:E k=ek at HK HFK;obtain ⟨x0,x1,x2,x3,x4,x5⟩:=HX2.out;simp only at x0 x1 x2 x3 x4 x5;clear hsk hob A2 HI HU HL KO HC HF hu HX HT hek;go_wp2_with fail
   refine (KN.out _ hob2).mono ?_
   rintro e w3 ⟨rfl,hw3⟩;have HI3:=hid (HS.out _ _ _ HI2.out hw3);have HU3:=hid (HU2.out.below hw3);have HX3:=hid (HX2.out.below hw3 hT2);have hT3:=Nat.lt_of_lt_of_le hT2 hw3.size;have c1:=arr_cell (Below.one hw3 q0.out) (k:=1) rfl;clear x0 x1 x2 x3 x4 x5 HI2 HU2 HX2 hT2 q0 hw3 KN s0 s1 hob2
   cases ob with
   | false =>
    rw [if_pos rfl] at HFK;go_wp2;go_ret;exact ⟨100,rfl,Or.inr ⟨by decide,k,hlt,HZ.out,HFK.out⟩,fun e=>absurd e (by decide),_,HU3.out⟩
   | true =>
    rw [if_neg (by simp)] at HFK;go_wp2_with fail
    refine (HK.out w3 HI3.out (by first | rfl | trivial)).mono ?_
    rintro e w4 ⟨rfl,⟨c5,hu5⟩,hin5⟩;have HU5:=hid (HU3.out.trans hu5);have HX5:=hid (HX3.out.upd hu5 hT3 (by omega));have HT5:=hid (Nat.lt_of_lt_of_le hT3 hu5.size);have HI5:=hid hin5;clear HU3 HX3 hT3 hu5 hin5 HK c1 HI3;by_cases h0:ek=0
    ·subst h0;have HZ5:Hid (∀ j,j < k+1 → F j=0):=fun j hj=>by
      by_cases e:j=k
      ·rw [e]; exact HFK.out
      ·exact HZ.out j (by omega)
     have HI6:=hid (HI5.out rfl);clear HI5;go_wp2;go_roundw
     case rel=>exact ⟨k+1,by omega,by go_num,HI6,hid ⟨_,HU5.out⟩,HX5,HZ5,HT5⟩
     case measure=>simp [intOf]; omega
    ·have hne:(ek != 0)=true:=by simpa using h0
     go_wp2;go_ret;exact ⟨ek,rfl,Or.inr ⟨h0,k,hlt,HZ.out,HFK.out⟩,fun e=>absurd e h0,_,HU5.out⟩
  ·have hkn:k=n:=by omega
   subst hkn;go_wp2;go_ret;exact ⟨0,rfl,Or.inl ⟨rfl,HZ.out⟩,fun _=>HI.out,HU.out⟩
set_option maxHeartbeats 1000000 in
set_option maxRecDepth 100000 in
theorem hevent_any (s:List UInt8) (w:World) (hs:s.length≤1048576) :
  Calls Tryz.prog 129 #[.string ⟨s.toArray⟩] w fun e w'=>EvRes (eventV s) w w' e∧Below w.heap.size w w':=by
 obtain ⟨p0',ps0,hpt⟩:=partsG_cons 59 s pl0 [];have hpt2:partsV 59 s=p0' :: ps0:=hpt;have hmem:=h_mem_len 59 s;rw [hpt2] at hmem;have hp0:=hmem p0' (by simp);have htp:=trimL_len p0';have KP:=hid (fun w'=>parts_of hpt2 w' (by omega));have KTT:=hid (fun w'=>trim_list p0' w' (by omega));have KK:=hid (fun w'=>token_list (trimL p0') w' (by omega));have HML:Hid (∀ l ∈ ps0,l.length≤1048576):=fun l hl=>by have:=hmem l (by simp [hl]); omega
 have HV:=hid (eventV_of hpt2);clear hpt hpt2 hmem;generalize eventV s=R at HV ⊢;generalize trimL p0'=tp at KTT KK HV htp;have hr0:=row2_at w (.string ⟨#[]⟩) (.slice none 0 0) 33;have hb0:Below w.heap.size w (w.alloc (.cells #[.string ⟨#[]⟩,.slice none 0 0] 33)):=(Below.refl _ w).alloc (Nat.le_refl _) _;have hlt0:=alloc_lt w (.cells #[.string ⟨#[]⟩,.slice none 0 0] 33)
 go_enter Tryz.func129,Tryz.ntmps129
 go_wp2_with fail
 refine (KP.out _).mono ?_
 rintro e w5 ⟨g,cap,rfl,hcap,hgl,hcells,hw5⟩;have hg0:=hcells 0 (by simp);simp only [List.getElem_cons_zero] at hg0;have hr6:=hr0.below hw5 hlt0;have hb6:=hb0.trans (hw5.mono hb0.size);have hlt6:=Nat.lt_of_lt_of_le hlt0 hw5.size;have HC:=hid hcells;clear hcells hw5 KP hr0 hb0 hlt0;go_wp2_with fail
 refine (KTT.out _).mono ?_
 rintro e w6 ⟨rfl,hw6⟩;have HSA:Hid (StrsAt w6 (.slice (some ⟨g,1,none⟩) ps0.length (cap - 1)) ps0):=strs_tail HC.out hgl hw6;have HSB:Hid (ps0=[] → StrsAt w6 (.slice (some ⟨g,0,none⟩) ps0.length 0) ps0):=fun h=>by subst h; exact strs_none _ _ _
 have hr7:=hr6.below hw6 hlt6;have hb7:=hb6.trans (hw6.mono hb6.size);have hlt7:=Nat.lt_of_lt_of_le hlt6 hw6.size;clear HC hg0 hgl KTT hw6 hr6 hb6 hlt6;go_wp2_with fail
 all_goals (
  refine (afields_any _ ps0 w6 HML.out ?hstr).mono ?_
  case hstr=>first | with_reducible exact HSA.out | exact HSB.out (List.eq_nil_of_length_eq_zero (by omega))
  rintro e w9 ⟨fv,fn,rfl,⟨hfn,hfo⟩,hw9⟩;generalize fieldsV ps0=fr at HV hfn hfo;obtain ⟨fp,fm⟩:=fr;simp only at HV hfn hfo;subst hfn;obtain ⟨a3,k3,hfe⟩:=hfo.parsAt.form;subst hfe;have hr9:=hr7.below hw9 hlt7;have hb9:=hb7.trans (hw9.mono hb7.size);have HO9:=hid (OwnP.mono hfo (show w.heap.size+1≤_ by omega));clear hfo hw9 hr7 hb7 HSA HSB;obtain ⟨y0,y1,f0,f1⟩:=hr9.two2;by_cases hfz:fn=0
  case neg =>
   have HR:Hid (R=(noE,81)):=show _=_ by rw [HV.out,if_pos (Or.inr hfz)]
   have hne:(fn != 0)=true:=by simpa using hfz
   have hrA:=hrow_store2 hr9 (.string ⟨#[]⟩) (.slice none 0 0);have hbA:=store_below2 hb9 w.heap.size (Nat.le_refl _) (.string ⟨#[]⟩) (.slice none 0 0);have HA:=hid (And.intro hrA hbA);clear HV hrA hbA;go_wp2;generalize World.setCell _ _ _=wA at HA ⊢;obtain ⟨hrA,hbA⟩:=HA.out;obtain ⟨d0,d1,_,_⟩:=hrA.two2
   try simp only [Exit.inBlock,Exit.then]
   refine bodyPost_ret (v:=.tuple #[.agg #[.string ⟨#[]⟩,.slice none 0 0],.int .i64 81]) (by simp [results,Tryz.results129,go_sem,d0,d1]; try rfl) rfl ?_
   exact ⟨eres_none HR.out,hbA⟩
  subst hfz
  cases htk:tokenB tp with
  | false =>
   have HR:Hid (R=(noE,81)):=show _=_ by rw [HV.out,if_pos (Or.inl htk)]
   rw [htk] at KK;have hrA:=hrow_store2 hr9 (.string ⟨#[]⟩) (.slice none 0 0);have hbA:=store_below2 hb9 w.heap.size (Nat.le_refl _) (.string ⟨#[]⟩) (.slice none 0 0);have HA:=hid (And.intro hrA hbA);clear HV hrA hbA;go_wp2_with (go_at_call 44; refine (KK.out _).mono ?_; rintro e wx ⟨rfl,hwx⟩; rw [hwx])
   generalize World.setCell _ _ _=wA at HA ⊢;obtain ⟨hrA,hbA⟩:=HA.out;obtain ⟨d0,d1,_,_⟩:=hrA.two2
   try simp only [Exit.inBlock,Exit.then]
   refine bodyPost_ret (v:=.tuple #[.agg #[.string ⟨#[]⟩,.slice none 0 0],.int .i64 81]) (by simp [results,Tryz.results129,go_sem,d0,d1]; try rfl) rfl ?_
   exact ⟨eres_none HR.out,hbA⟩
  | true =>
   rw [htk] at KK;have HR:Hid (R=(⟨tp,fp⟩,0)):=show _=_ by rw [HV.out,if_neg (by simp [htk])]
   have hrA:=hrow_store2 hr9 (.string ⟨tp.toArray⟩) (.slice a3 fp.length k3);have hbA:=store_below2 hb9 w.heap.size (Nat.le_refl _) (.string ⟨tp.toArray⟩) (.slice a3 fp.length k3);have q3:=(OwnP.store2 HO9.out (Nat.lt_succ_self _) (.string ⟨tp.toArray⟩) (.slice a3 fp.length k3)).mono (Nat.le_succ w.heap.size);have HA:=hid (And.intro hrA (And.intro hbA q3));clear HV hrA hbA q3;go_wp2_with (go_at_call 44; refine (KK.out _).mono ?_; rintro e wx ⟨rfl,hwx⟩; rw [hwx])
   generalize World.setCell _ _ _=wA at HA ⊢;obtain ⟨hrA,hbA,q3⟩:=HA.out;obtain ⟨d0,d1,_,_⟩:=hrA.two2
   try simp only [Exit.inBlock,Exit.then]
   refine bodyPost_ret (v:=.tuple #[.agg #[.string ⟨tp.toArray⟩,.slice a3 fp.length k3],.int .i64 0]) (by simp [results,Tryz.results129,go_sem,d0,d1]; try rfl) rfl ?_
   refine ⟨?_,hbA⟩
   rw [HR.out];exact ⟨_,rfl,q3⟩)
theorem typeOk_two {t a b:List UInt8} {f:Bool} (h:cutL 47 t=(a,b,f)):typeOk t=(tokenB a && tokenB b):=by
 unfold typeOk;rw [h]
 cases f with
 | true=>rfl
 | false =>
  have hb:=cutL_not 47 t (by rw [h]);rw [h] at hb;simp only [Prod.mk.injEq] at hb;obtain ⟨_,hb,_⟩:=hb;subst hb
  have:tokenB []=false:=by decide +kernel
  simp [this]
set_option maxHeartbeats 1000000 in
set_option maxRecDepth 100000 in
theorem htype_any (s:List UInt8) (w:World) (hs:s.length≤1048576) :
  Calls Tryz.prog 133 #[.string ⟨s.toArray⟩] w fun e w'=>e=.returned (.tuple #[.string ⟨(typeT s).toArray⟩,.bool (typeOk (typeT s))])∧Below w.heap.size w w':=by
 obtain ⟨p0',ps0,hpt⟩:=partsG_cons 59 s pl0 [];have hpt2:partsV 59 s=p0' :: ps0:=hpt;have hmem:=h_mem_len 59 s;rw [hpt2] at hmem;have hp0:=hmem p0' (by simp);have htp:=trimL_len p0';have KP:=hid (fun w'=>parts_of hpt2 w' (by omega));have KTT:=hid (fun w'=>trim_list p0' w' (by omega));have KL:=hid (fun w'=>lower_list (trimL p0') w' (by omega));rw [typeT_of hpt2];have hll:(lowL (trimL p0')).length=(trimL p0').length:=by simp [lowL]
 generalize trimL p0'=tp at KTT KL htp hll ⊢;generalize lowL tp=t at KL hll ⊢;obtain ⟨a,b,f,hcut⟩:∃ a b f,cutL 47 t=(a,b,f):=⟨_,_,_,rfl⟩
 have hcl:=cutL_len 47 t;rw [hcut] at hcl;simp only at hcl;have KC:=hid (fun w'=>hcutS_of (c:=47) hcut w' (by omega));have KA:=hid (fun w'=>token_list a w' (by omega));have KB:=hid (fun w'=>token_list b w' (by omega));have HV:=hid (typeOk_two hcut);generalize typeOk t=R at HV ⊢;clear hpt hpt2 hmem hcut
 go_enter Tryz.func133,Tryz.ntmps133
 go_wp2_with fail
 refine (KP.out _).mono ?_
 rintro e w5 ⟨g,cap,rfl,hcap,hgl,hcells,hw5⟩;have hg0:=hcells 0 (by simp);simp only [List.getElem_cons_zero] at hg0;clear hcells KP;go_wp2_with fail
 refine (KTT.out _).mono ?_
 rintro e w6 ⟨rfl,hw6⟩;have hb6:=hw5.trans (hw6.mono hw5.size);clear hg0 KTT hw5 hw6;go_wp2_with fail
 refine (KL.out _).mono ?_
 rintro e w7 ⟨rfl,hw7⟩;have hb7:=hb6.trans (hw7.mono hb6.size);clear hb6 hw7 KL;go_wp2_with fail
 refine (KC.out _).mono ?_
 rintro e w8 ⟨rfl,hw8⟩;have hb8:=hb7.trans (hw8.mono hb7.size);clear KC hw8 hb7
 cases hta:tokenB a with
 | false =>
  rw [hta] at KA HV;go_wp2_with fail
  refine (KA.out _).mono ?_
  rintro e wx ⟨rfl,hwx⟩;rw [hwx];clear hwx;go_wp2;go_ret2;exact ⟨by rw [HV.out]; rfl,hb8⟩
 | true =>
  rw [hta] at KA HV;go_wp2_with fail
  refine (KA.out _).mono ?_
  rintro e wx ⟨rfl,hwx⟩;rw [hwx];clear hwx
  cases htb:tokenB b with
  | false =>
   rw [htb] at KB HV;go_wp2_with fail
   refine (KB.out _).mono ?_
   rintro e wx ⟨rfl,hwx⟩;rw [hwx];clear hwx;go_wp2;go_ret2;exact ⟨by rw [HV.out]; rfl,hb8⟩
  | true =>
   rw [htb] at KB HV;go_wp2_with fail
   refine (KB.out _).mono ?_
   rintro e wx ⟨rfl,hwx⟩;rw [hwx];clear hwx;go_wp2;go_ret2;exact ⟨by rw [HV.out]; rfl,hb8⟩
set_option maxHeartbeats 2000000 in
set_option maxRecDepth 100000 in
theorem allow1_any (s:List UInt8) (b g:Nat) (c:RqC) (w:World) (hs:s.length≤1048576) (hp:PtrAt w g b) (hr:RowIs w b 37 (rqCells c)) :
  Calls Tryz.prog 126 #[.string ⟨s.toArray⟩,.pointer (some ⟨g,0,none⟩)] w fun e w'=>e=.returned (.int .i64 (timeV s).2)∧Upd b (c.exp (timeV s).1) w w':=by
 have KP:=hid (fun w'=>htime_any s w' (by omega));generalize timeV s=R at KP ⊢;obtain ⟨t,tn⟩:=R;simp only at KP ⊢;have c0:=ptr_cell hp;have HR:=hid hr;have HP:=hid hp;have hbl:=row_lt hr;clear hr hp
 go_enter Tryz.func126,Tryz.ntmps126
 go_wp2
 go_region_law (go_simp; go_at_call 127; refine (KP.out _).mono ?_; rintro e w4 ⟨rfl,hw4⟩; replace hw4:=(show Below w.heap.size w w4 from (Below.refl w.heap.size w).drew.trans hw4); have hr4:=HR.out.below hw4 hbl; have c4:=ptr_cell (HP.out.below hw4); have y29:=hr4.cell 29 (by rw [rq_len]; decide); have f29:=hr4.frozen 29; have HU:=hid ((Upd.refl hr4).exp t))
 all_goals (
  go_wp2;generalize World.setCell _ _ _=w7 at HU ⊢;go_ret;exact ⟨rfl,Upd.after hw4 HU.out⟩)
set_option maxHeartbeats 2000000 in
set_option maxRecDepth 100000 in
theorem allow2_any (s:List UInt8) (b g:Nat) (c:RqC) (w:World) (hs:s.length≤1048576) (hp:PtrAt w g b) (hr:RowIs w b 37 (rqCells c)) :
  Calls Tryz.prog 128 #[.string ⟨s.toArray⟩,.pointer (some ⟨g,0,none⟩)] w fun e w'=>e=.returned (.int .i64 (eventV s).2)∧∃ v,OwnP w' w.heap.size v (eventV s).1.params∧Upd b (c.evt (eventV s).1 v) w w':=by
 have KP:=hid (fun w'=>hevent_any s w' hs);generalize eventV s=R at KP ⊢;obtain ⟨⟨en,ep⟩,tn⟩:=R;unfold EvRes evV at KP;simp only at KP ⊢;have c0:=ptr_cell hp;have HR:=hid hr;have HP:=hid hp;have hbl:=row_lt hr;clear hr hp
 go_enter Tryz.func128,Tryz.ntmps128
 go_wp2
 go_region_law (go_simp; go_at_call 129; refine (KP.out _).mono ?_; rintro e w4 ⟨⟨q,rfl,hq⟩,hw4⟩; replace hw4:=(show Below w.heap.size w w4 from (Below.refl w.heap.size w).drew.trans hw4); have hr4:=HR.out.below hw4 hbl; have c4:=ptr_cell (HP.out.below hw4); obtain ⟨a3,k3,e3⟩:=hq.parsAt.form; subst e3; have y30:=hr4.cell 30 (by rw [rq_len]; decide); have f30:=hr4.frozen 30; have y31:=hr4.cell 31 (by rw [rq_len]; decide); have f31:=hr4.frozen 31; have HU:=hid ((Upd.refl hr4).evt ⟨en,ep⟩ (.slice a3 ep.length k3)); have HO:=hid hq)
 all_goals (
  go_wp2
  try simp only at HU
  generalize World.setCell _ _ _=w7 at HU ⊢;go_ret;exact ⟨rfl,_,OwnP.upd HO.out HU.out hbl,Upd.after hw4 HU.out⟩)
set_option maxHeartbeats 2000000 in
set_option maxRecDepth 100000 in
theorem allow3_any (s:List UInt8) (b g:Nat) (c:RqC) (w:World) (hs:s.length≤1048576) (hp:PtrAt w g b) (hr:RowIs w b 37 (rqCells c)) :
  Calls Tryz.prog 130 #[.string ⟨s.toArray⟩,.pointer (some ⟨g,0,none⟩)] w fun e w'=>e=.returned (.int .i64 (listA s).2)∧∃ v cs,cs.map AdrC.a=(listA s).1∧OwnA w' w.heap.size v cs∧Upd b (c.con (listA s).1 v) w w':=by
 have KP:=hid (fun w'=>alist_any s w' hs);generalize listA s=R at KP ⊢;obtain ⟨ls,tn⟩:=R;unfold ListRes at KP;simp only at KP ⊢;have c0:=ptr_cell hp;have HR:=hid hr;have HP:=hid hp;have hbl:=row_lt hr;clear hr hp
 go_enter Tryz.func130,Tryz.ntmps130
 go_wp2
 go_region_law (go_simp; go_at_call 131; refine (KP.out _).mono ?_; rintro e w4 ⟨⟨v,cs,rfl,hcs,hq⟩,hw4⟩; replace hw4:=(show Below w.heap.size w w4 from (Below.refl w.heap.size w).drew.trans hw4); have hr4:=HR.out.below hw4 hbl; have c4:=ptr_cell (HP.out.below hw4); obtain ⟨a3,k3,e3⟩:=hq.form; subst e3; have y32:=hr4.cell 32 (by rw [rq_len]; decide); have f32:=hr4.frozen 32; have HU:=hid ((Upd.refl hr4).con ls (.slice a3 cs.length k3)); have HO:=hid hq; have HCS:=hid hcs; clear hcs)
 all_goals (
  go_wp2;generalize World.setCell _ _ _=w7 at HU ⊢;go_ret;exact ⟨rfl,_,cs,HCS.out,OwnA.upd HO.out HU.out hbl,Upd.after hw4 HU.out⟩)
set_option maxHeartbeats 2000000 in
set_option maxRecDepth 100000 in
theorem allow4_any (s:List UInt8) (b g:Nat) (c:RqC) (w:World) (hs:s.length≤1048576) (hp:PtrAt w g b) (hr:RowIs w b 37 (rqCells c)) :
  Calls Tryz.prog 132 #[.string ⟨s.toArray⟩,.pointer (some ⟨g,0,none⟩)] w fun e w'=>e=.returned (.int .i64 0)∧Upd b (c.typ (typeT s)) w w':=by
 have KP:=hid (fun w'=>htype_any s w' hs);generalize typeT s=t at KP ⊢;have c0:=ptr_cell hp;have HR:=hid hr;have HP:=hid hp;have hbl:=row_lt hr;clear hr hp
 go_enter Tryz.func132,Tryz.ntmps132
 go_wp2
 go_region_law (go_simp; go_at_call 133; refine (KP.out _).mono ?_; rintro e w4 ⟨rfl,hw4⟩; replace hw4:=(show Below w.heap.size w w4 from (Below.refl w.heap.size w).drew.trans hw4); have hr4:=HR.out.below hw4 hbl; have c4:=ptr_cell (HP.out.below hw4); have y35:=hr4.cell 35 (by rw [rq_len]; decide); have f35:=hr4.frozen 35; have HU:=hid ((Upd.refl hr4).typ t))
 all_goals (
  go_wp2;generalize World.setCell _ _ _=w7 at HU ⊢;go_ret;exact ⟨rfl,Upd.after hw4 HU.out⟩)
set_option maxHeartbeats 2000000 in
set_option maxRecDepth 100000 in
theorem allow5_any (s:List UInt8) (b g:Nat) (c:RqC) (w:World) (hs:s.length≤1048576) (hp:PtrAt w g b) (hr:RowIs w b 37 (rqCells c)) :
  Calls Tryz.prog 134 #[.string ⟨s.toArray⟩,.pointer (some ⟨g,0,none⟩)] w fun e w'=>e=.returned (.int .i64 (if tokenB s=true then 0 else 160))∧Upd b (if tokenB s=true then c.mat s else c) w w':=by
 have KP:=hid (fun w'=>token_b s w' (by omega));generalize tokenB s=R at KP ⊢;have HR:=hid hr;have HP:=hid hp;have hbl:=row_lt hr;clear hr hp
 go_enter Tryz.func134,Tryz.ntmps134
 go_wp2_with fail
 refine (KP.out _).mono ?_
 rintro e w4 ⟨rfl,hw4⟩;have hr4:=HR.out.below hw4 hbl;have c4:=ptr_cell (HP.out.below hw4);have y36:=hr4.cell 36 (by rw [rq_len]; decide);have f36:=hr4.frozen 36;have HU:=hid ((Upd.refl hr4).mat s);have HW:=hid (Upd.refl hr4)
 cases R with
 | false =>
  go_wp2;go_ret;exact ⟨rfl,Upd.after hw4 HW.out⟩
 | true =>
  go_wp2;generalize World.setCell _ _ _=w7 at HU ⊢;go_ret;exact ⟨rfl,Upd.after hw4 HU.out⟩
def needL (gm g:Nat):List Sing :=
 [⟨fromK,65,#[.pointer (some ⟨g,0,none⟩)]⟩,⟨toK,67,#[.pointer (some ⟨g,0,none⟩)]⟩,⟨callK,68,#[.pointer (some ⟨g,0,none⟩)]⟩,⟨cseqK,70,#[.pointer (some ⟨gm,0,none⟩),.pointer (some ⟨g,0,none⟩)]⟩]
def allowL (g:Nat):List Sing :=
 [⟨expireK,126,#[.pointer (some ⟨g,0,none⟩)]⟩,⟨eventK,128,#[.pointer (some ⟨g,0,none⟩)]⟩,⟨contactK,130,#[.pointer (some ⟨g,0,none⟩)]⟩,⟨typeK,132,#[.pointer (some ⟨g,0,none⟩)]⟩,⟨matchK,134,#[.pointer (some ⟨g,0,none⟩)]⟩]
theorem hmf10 (fn:Fn) (first cap:Array Value) (w:World):(Instr.makeFunc fn first cap).run Tryz.prog w=.ok (.func fn first cap) w:=rfl
set_option maxHeartbeats 2000000 in
set_option maxRecDepth 100000 in
theorem needed_any (me:List UInt8) (b:Nat) (w:World) :
  Calls Tryz.prog 24 #[.string ⟨me.toArray⟩,.pointer (some ⟨b,0,none⟩)] w fun e w'=>e=.returned (.slice (some ⟨w.heap.size+1+1,0,none⟩) 4 4)∧Below w.heap.size w w'∧TxtAt w' w.heap.size me∧PtrAt w' (w.heap.size+1) b∧RowIs w' (w.heap.size+1+1) 104 (singCells (needL w.heap.size (w.heap.size+1))):=by
 have hmf:=hmf10;have s1:(w.alloc (.cells #[.string ⟨me.toArray⟩] 9)).heap.size=w.heap.size+1:=by simp
 have s2:((w.alloc (.cells #[.string ⟨me.toArray⟩] 9)).alloc (.cells #[.pointer (some ⟨b,0,none⟩)] 60)).heap.size=w.heap.size+1+1:=by simp
 have A1:=(Below.refl w.heap.size w).alloc (Nat.le_refl _) (.cells #[.string ⟨me.toArray⟩] 9);have A2:=(Below.refl _ (w.alloc (.cells #[.string ⟨me.toArray⟩] 9))).alloc (Nat.le_refl _) (.cells #[.pointer (some ⟨b,0,none⟩)] 60);have A3:=(Below.refl _ ((w.alloc (.cells #[.string ⟨me.toArray⟩] 9)).alloc (.cells #[.pointer (some ⟨b,0,none⟩)] 60))).alloc (Nat.le_refl _) (.cells (singCells (needL w.heap.size (w.heap.size+1))).toArray 104);have HF:Hid (Below w.heap.size w (((w.alloc (.cells #[.string ⟨me.toArray⟩] 9)).alloc (.cells #[.pointer (some ⟨b,0,none⟩)] 60)).alloc (.cells (singCells (needL w.heap.size (w.heap.size+1))).toArray 104)) ∧
   TxtAt (((w.alloc (.cells #[.string ⟨me.toArray⟩] 9)).alloc (.cells #[.pointer (some ⟨b,0,none⟩)] 60)).alloc (.cells (singCells (needL w.heap.size (w.heap.size+1))).toArray 104)) w.heap.size me ∧
   PtrAt (((w.alloc (.cells #[.string ⟨me.toArray⟩] 9)).alloc (.cells #[.pointer (some ⟨b,0,none⟩)] 60)).alloc (.cells (singCells (needL w.heap.size (w.heap.size+1))).toArray 104)) (w.heap.size+1) b ∧
   RowIs (((w.alloc (.cells #[.string ⟨me.toArray⟩] 9)).alloc (.cells #[.pointer (some ⟨b,0,none⟩)] 60)).alloc (.cells (singCells (needL w.heap.size (w.heap.size+1))).toArray 104)) (w.heap.size+1+1) 104 (singCells (needL w.heap.size (w.heap.size+1)))):=by
  refine show _∧_∧_∧_ from ⟨(A1.trans (A2.mono (by simp))).trans (A3.mono (by simp; omega)),?_,?_,?_⟩
  ·unfold TxtAt; rw [A3.block _ (by simp; omega),A2.block _ (by simp),heap_alloc_new]
  ·unfold PtrAt; rw [A3.block _ (by simp),← s1,heap_alloc_new]
  ·unfold RowIs; rw [← s2,heap_alloc_new]
 clear A1 A2 A3 s1 s2
 go_enter Tryz.func24,Tryz.ntmps24
 go_wp2;go_ret;exact ⟨rfl,HF.out⟩
set_option maxHeartbeats 2000000 in
set_option maxRecDepth 100000 in
theorem allowed_any (b:Nat) (w:World) :
  Calls Tryz.prog 81 #[.pointer (some ⟨b,0,none⟩)] w fun e w'=>e=.returned (.slice (some ⟨w.heap.size+1,0,none⟩) 5 5)∧Below w.heap.size w w'∧PtrAt w' w.heap.size b∧RowIs w' (w.heap.size+1) 104 (singCells (allowL w.heap.size)):=by
 have hmf:=hmf10;have s1:(w.alloc (.cells #[.pointer (some ⟨b,0,none⟩)] 60)).heap.size=w.heap.size+1:=by simp
 have A1:=(Below.refl w.heap.size w).alloc (Nat.le_refl _) (.cells #[.pointer (some ⟨b,0,none⟩)] 60);have A2:=(Below.refl _ (w.alloc (.cells #[.pointer (some ⟨b,0,none⟩)] 60))).alloc (Nat.le_refl _) (.cells (singCells (allowL w.heap.size)).toArray 104);have HF:Hid (Below w.heap.size w ((w.alloc (.cells #[.pointer (some ⟨b,0,none⟩)] 60)).alloc (.cells (singCells (allowL w.heap.size)).toArray 104)) ∧
   PtrAt ((w.alloc (.cells #[.pointer (some ⟨b,0,none⟩)] 60)).alloc (.cells (singCells (allowL w.heap.size)).toArray 104)) w.heap.size b ∧
   RowIs ((w.alloc (.cells #[.pointer (some ⟨b,0,none⟩)] 60)).alloc (.cells (singCells (allowL w.heap.size)).toArray 104)) (w.heap.size+1) 104 (singCells (allowL w.heap.size))):=by
  refine show _∧_∧_ from ⟨A1.trans (A2.mono (by simp)),?_,?_⟩
  ·unfold PtrAt; rw [A2.block _ (by simp),heap_alloc_new]
  ·unfold RowIs; rw [← s1,heap_alloc_new]
 clear A1 A2 s1
 go_enter Tryz.func81,Tryz.ntmps81
 go_wp2;go_ret;exact ⟨rfl,HF.out⟩
def hopE (m:Ms):Int:=if (hopsV (allV m rViaK)).2 ≠ 0 then (hopsV (allV m rViaK)).2 else if (brV (hop0 m).params).2=false then 70 else 0
def hopC (m:Ms) (c:RqC):RqC:=if hopE m=0 then c.hop (brV (hop0 m).params).1 (whoH (hop0 m)) else c
set_option maxHeartbeats 2000000 in
set_option maxRecDepth 100000 in
theorem readHop_any (m:Ms) (h:Value) (b:Nat) (c:RqC) (w0 w:World) (hsm:SmallM 1048576 m) (hhl:m.headers.length≤1048576) (hat:HdrsAt w0 h m.headers) (hw0:Below w0.heap.size w0 w) (hb:w0.heap.size≤b) (hr:RowIs w b 37 (rqCells c)) :
  Calls Tryz.prog 22 #[msgV m h,.pointer (some ⟨b,0,none⟩)] w fun e w'=>e=.returned (.int .i64 (hopE m))∧Upd b (hopC m c) w w':=by
 have hbl:=row_lt hr;have hsm2:SmallM 140737488355328 m:=hsm.le (by omega);have KL:=hid (fun w' (hb:Below w0.heap.size w0 w')=>vlist_any m _ w' hsm2 (by omega) (hat.below hb) (all_small hsm _));have HS:=hid (hopsV_small (allV m rViaK));have HNE:=hid (@hops_some (allV m rViaK));obtain ⟨hl,hn,E1⟩:∃ hl hn,hopsV (allV m rViaK)=(hl,hn):=⟨_,_,rfl⟩
 have E1':hopsV (allV m viaK)=(hl,hn):=E1;rw [E1'] at KL;rw [E1] at HS HNE;simp only at HS HNE KL;have HV:Hid (hopE m=if hn ≠ 0 then hn else if (brV (hl.headD noH).params).2=false then 70 else 0):=show _=_ by
  unfold hopE hop0;rw [E1]
 have HVC:Hid (hopC m c=if hopE m=0 then c.hop (brV (hl.headD noH).params).1 (whoH (hl.headD noH)) else c):=show _=_ by
  unfold hopC hop0;rw [E1]
 generalize hopC m c=RC at HVC ⊢;generalize hopE m=R at HV HVC ⊢;obtain ⟨ao,cap,hh0,_⟩:=hat.get;subst hh0;have A1:=(Below.refl w.heap.size w).alloc (Nat.le_refl _) (objM m (.slice ao m.headers.length cap));have HBX:=hid (boxM_new w m (.slice ao m.headers.length cap));have hb1:=hw0.trans (A1.mono hw0.size);have HR:=hid hr;have HA:=hid A1;clear E1 E1' hsm hsm2 hat hr A1;obtain ⟨me,ta,st,re,hs,bo⟩:=m;simp only at hhl;unfold msgV at KL ⊢;unfold objM at HBX hb1 HA;simp only at KL HBX hb1 HA ⊢;obtain ⟨x0,x1,x2,x3,x4,x5⟩:=HBX.out;simp only at x0 x1 x2 x3 x4 x5
 go_enter Tryz.func22,Tryz.ntmps22
 go_wp2_with fail
 refine (KL.out _ hb1).mono ?_
 rintro e w1 ⟨⟨v,cs,rfl,hcs,hown⟩,hw1⟩;simp only at hcs;have hbw:Below w.heap.size w w1:=HA.out.trans (hw1.mono HA.out.size);have hlo:w.heap.size < w1.heap.size:=Nat.lt_of_lt_of_le (by simp) hw1.size;obtain ⟨va,vc,hve⟩:=hown.form;clear x0 x1 x2 x3 x4 x5 HBX KL hb1;by_cases hn0:hn=0
 case neg =>
  have hne:(hn != 0)=true:=by simpa using hn0
  rw [if_pos hn0] at HV;have hR:=HV.out;subst hR;rw [if_neg hn0] at HVC;subst hve;clear hown HNE HS;go_wp2;go_ret;exact ⟨rfl,by rw [HVC.out]; exact Upd.of HR.out hbw⟩
 subst hn0;have hln:=HNE.out rfl;have hsv:=HS.out.1
 cases cs with
 | nil=>exact absurd (show hl=[] by rw [← hcs]; rfl) hln
 | cons c0 cs' =>
 have hhd:hl.headD noH=c0.h:=by rw [← hcs]; rfl
 have hsc:SmallV 140737488355328 c0.h:=hsv _ (by rw [← hcs]; simp);rw [hhd] at HV HVC;rw [if_neg (by simp)] at HV;have hat0:=(hown.2 c0 (by simp)).at
 rcases hown.1.2 with ⟨_,h0⟩ | ⟨g,cap2,cur,hv2,hcc⟩
 ·simp at h0
 rw [hv2] at hve
 injection hve with e1 e2 e3
 subst e1;subst hv2;have cel:∀ j (u:Value),(hpCells c0)[j]? = some u → w1.cell? ⟨g,j,none⟩=some u:=fun j u hj=>by
  have:=World.ownsRow.cells hown.1 (g:=g) rfl j u (by have:=hopsCells_get (c0 :: cs') 0 (by simp) j u hj; simpa using this)
  unfold Addr.add at this
  split at this <;> simp_all
 obtain ⟨h0,q0⟩:=c0;obtain ⟨qa,qc,hq0⟩:=hat0.1.form;simp only at hq0;subst hq0;have y0:=cel 0 _ rfl;have y1:=cel 1 _ rfl;have y2:=cel 2 _ rfl;have hgl:=block_lt_of_cell y0;simp only at hgl;have KB:=hid (vbranch_any ⟨h0,.slice qa h0.params.length qc⟩ w1 hsc hat0);have KY:=hid (fun w' (x:HopC.At w' ⟨h0,.slice qa h0.params.length qc⟩)=>vby_any ⟨h0,.slice qa h0.params.length qc⟩ w' hsc x);have HAT:=hid hat0;clear hown cel hcs hln hsv HNE HS hcc e2 e3 hhd hat0;unfold hpV at KB KY;simp only at KB KY HV HVC;generalize whoH h0=sby at KY HVC;generalize brV h0.params=br at KB HV HVC;obtain ⟨bt,bb⟩:=br;simp only at KB HV HVC;go_wp2_with fail
 refine KB.out.mono ?_
 rintro e w2 ⟨rfl,hw2⟩;have hbw2:=hbw.trans (hw2.mono hbw.size);have z0:=cell_below hw2 (by simpa using hgl) y0;have z1:=cell_below hw2 (by simpa using hgl) y1;have z2:=cell_below hw2 (by simpa using hgl) y2;have HA2:=hid (HAT.out.below hw2);clear y0 y1 y2 KB hbw hw2
 cases bb with
 | false =>
  have hR:=HV.out;rw [if_pos rfl] at hR;subst hR;rw [if_neg (by decide)] at HVC;go_wp2;go_ret;exact ⟨rfl,by rw [HVC.out]; exact Upd.of HR.out hbw2⟩
 | true =>
  have hR:=HV.out;rw [if_neg (by simp)] at hR;subst hR;rw [if_pos rfl] at HVC;go_wp2_with fail
  refine (KY.out _ HA2.out).mono ?_
  rintro e w3 ⟨rfl,hw3⟩;have hbw3:=hbw2.trans (hw3.mono hbw2.size);have hr3:=HR.out.below hbw3 hbl;have y7:=hr3.cell 7 (by rw [rq_len]; decide);have f7:=hr3.frozen 7;have y8:=hr3.cell 8 (by rw [rq_len]; decide);have f8:=hr3.frozen 8;have HU:=hid ((Upd.refl hr3).hop bt sby);clear z0 z1 z2 KY;go_wp2;generalize World.setCell _ _ _=w7 at HU ⊢;go_ret;exact ⟨rfl,by rw [HVC.out]; exact Upd.after hbw3 HU.out⟩
theorem need_enters (gm g:Nat):∀ s ∈ needL gm g,∀ (args:Array Value) (w:World),(callFunc s.fn args).run Tryz.prog w=.ok (.enter s.fn args) w:=by
 intro s hs;simp only [needL,List.mem_cons,List.not_mem_nil,or_false] at hs
 rcases hs with rfl | rfl | rfl | rfl
 ·exact enters10 Tryz.func65 (by kernel_rfl) rfl
 ·exact enters10 Tryz.func67 (by kernel_rfl) rfl
 ·exact enters10 Tryz.func68 (by kernel_rfl) rfl
 ·exact enters10 Tryz.func70 (by kernel_rfl) rfl
def pre0 (m:Ms):Rq:={ noR with branch:=(brV (hop0 m).params).1,sentBy:=whoH (hop0 m),expires:=-1 }
def pre1 (m:Ms):Rq:={ pre0 m with frm:=(addressV m fromK).1 }
def pre2 (m:Ms):Rq:={ pre1 m with too:=(addressV m toK).1 }
def pre3 (m:Ms):Rq:={ pre2 m with callID:=(oneV m callK).1 }
def pre4 (m:Ms):Rq:={ pre3 m with seq:=(seqV (oneV m cseqK).1).1 }
def preB (m:Ms):Nat → Rq | 0=>pre0 m | 1=>pre1 m | 2=>pre2 m | 3=>pre3 m | _=>pre4 m
def needE (m:Ms):Nat → Int
 | 0=>(parseA (oneV m fromK).1).2
 | 1=>(parseA (oneV m toK).1).2
 | 2=>if callB (oneV m callK).1=true then 0 else 100
 | _=>if (seqV (oneV m cseqK).1).2.2 ≠ 0∨(seqV (oneV m cseqK).1).2.1 ≠ m.method then 80 else 0
end Go.Proofs.YtiogedceommcoaaGreatDoor
