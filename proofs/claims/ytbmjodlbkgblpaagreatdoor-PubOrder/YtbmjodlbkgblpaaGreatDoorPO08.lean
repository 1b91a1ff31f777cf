/-
  WStop, WSet, WSet2, WW, WNew, SvW, MpG, PsL, PsM.
-/
import Derived.Test.YtbmjodlbkgblpaaGreatDoorPO07
import Derived.Lib.SlicesCompact
set_option linter.unusedVariables false
set_option linter.unusedSimpArgs false
set_option maxRecDepth 20000
namespace Go.Proofs.YtbmjodlbkgblpaaGreatDoor
open Go.RowKit Go.Maps Go.WideMaps
section
variable {bw m B : Nat} {v : Value} {f : Nat → It} {n : Nat} {D : DataW Unit} {w : World} {l : List Tm}
theorem WH.drop {v':Value} {f':Nat → It} {w':World} {i:Nat} (h:WH bw m B v f (n+1) D w l) (hi:i < n+1) (hq:HQ bw m B v' w' f' n) (hre:Re n (swapF f i n) f') (hh:Heap itLt f (n+1) → Heap itLt f' n)
  (hm:w'.ownsMap Tryz.prog 3 ptrE m (n+1) (D.del (idK (f i).tm.2))):WH bw m B v' f' n (D.del (idK (f i).tm.2)) w' (stopT l (f i).tm.2):=by
 have hs:=Re.swap f hi (show n < n+1 by omega);have hl:swapF f i n n=f i:=swap_r f i n;have hids:=hs.ids h.q.inj h.k.ids;have hK:=h.k.drop hi hre (hh h.k.heap)
 -- each item that is left was there, and is another one
 have old:∀ j,j < n → ∃ a,a < n+1∧f' j=f a∧(f a).tm.2 ≠ (f i).tm.2:=fun j hj=>by
  obtain ⟨b,hb,eb⟩:=(hre.mem (f' j)).1 ⟨j,hj,rfl⟩;obtain ⟨a,ha,ea⟩:=(hs.mem (swapF f i n b)).1 ⟨b,by omega,rfl⟩;refine ⟨a,ha,by rw [← eb,← ea],fun e=>?_⟩
  have:=hids b n (by omega) (by omega) (by rw [← ea,hl]; exact e)
  omega
 have hsz:Maps.size (D.del (idK (f i).tm.2))=n:=by
  have:=Maps.size_del (k:=idK (f i).tm.2) (h.mp.tidy keyI)
  rw [if_pos ((h.has _).2 ⟨i,hi,rfl⟩),h.size] at this;omega
 refine ⟨hq,hK,by have:=own_tight hm; rwa [hsz] at this,fun id=>?_,fun j hj z=>?_,hsz,h.wlo,h.mlo,fun j hj=>?_⟩
 ·by_cases e:id=(f i).tm.2
  ·subst e;rw [Maps.has_del_same]
   constructor
   ·intro x; cases x
   ·rintro ⟨j,hj,ej⟩;obtain ⟨a,_,ea,hne⟩:=old j hj;exact absurd (by rw [← ea]; exact ej) hne
  ·rw [Maps.has_del_other (idK_ne e),h.has]
   constructor
   ·rintro ⟨a,ha,rfl⟩;have hm1:(f a).tm ∈ stopT l (f i).tm.2:=stop_mem.2 ⟨(h.k.mem _).2 ⟨a,ha,rfl⟩,e⟩;obtain ⟨j,hj,ej⟩:=(hK.mem _).1 hm1;exact ⟨j,hj,by rw [ej]⟩
   ·rintro ⟨j,hj,ej⟩;obtain ⟨a,ha,ea,_⟩:=old j hj;exact ⟨a,ha,by rw [← ea]; exact ej⟩
 ·obtain ⟨a,ha,ea,hne⟩:=old j hj;rw [ea,Maps.atKey_del_other (idK_ne hne)];exact h.at' a ha z
 ·obtain ⟨a,ha,ea,_⟩:=old j hj;rw [ea]; exact h.wf a ha
theorem hs_drop {v1:Value} {f1:Nat → It} {i k:Nat} (hi:i < n+1) (hre:Re n (swapF f i n) f1) (hv:v1.ownBlock=v.ownBlock) (hk:HS2 bw bw v1 f1 n k):HS2 bw bw v f (n+1) k:=by
 rcases hk with hk | hk | hk | ⟨j,hj,e⟩
 ·exact .inl hk
 ·exact .inl hk
 ·exact .inr (.inr (.inl (hv ▸ hk)))
 ·obtain ⟨b,hb,eb⟩:=(hre.mem (f1 j)).1 ⟨j,hj,rfl⟩;obtain ⟨a,ha,ea⟩:=((Re.swap f hi (show n < n+1 by omega)).mem (swapF f i n b)).1 ⟨b,by omega,rfl⟩;exact .inr (.inr (.inr ⟨a,ha,by rw [ea,eb]; exact e⟩))
theorem ws_drop {v1:Value} {f1:Nat → It} {i k:Nat} (hi:i < n+1) (hre:Re n (swapF f i n) f1) (hv:v1.ownBlock=v.ownBlock) (hk:WS bw m v1 f1 n k):WS bw m v f (n+1) k:=by
 rcases hk with hk | hk
 ·exact .inl hk
 ·exact .inr (hs_drop hi hre hv hk)
def TakeOut (B bw m:Nat) (v:Value) (f:Nat → It) (n:Nat) (w:World) (l:List Tm) (i:Nat) (w':World):Prop :=
 ∃ v' f' D',WH bw m B v' f' n D' w' (stopT l (f i).tm.2)∧(∀ k,WS bw m v' f' n k → WS bw m v f (n+1) k)∧Chg (WS bw m v f (n+1)) w w'
theorem take_out {v1:Value} {f1:Nat → It} {w1 w2:World} {i:Nat} {x y:Value} {o:Obj} (h:WH bw m B v f (n+1) D w l) (hi:i < n+1) (hq1:HQ bw m B v1 w1 f1 n) (hv1:v1.ownBlock=v.ownBlock) (hre1:Re n (swapF f i n) f1) (hh1:Heap itLt f (n+1) → Heap itLt f1 n)
  (hc1:Chg (HS2 bw bw v f (n+1)) (w.alloc o) w1) (hm2:w2.ownsMap Tryz.prog 3 ptrE m (n+1) (D.del (idK (f i).tm.2))) (hg2:w1.drew.grownBy w2 (some m)) :
  TakeOut B bw m v f n w l i ((w2.setCell ⟨w.heap.size,0,none⟩ x).setCell ⟨w.heap.size,1,none⟩ y):=by
 have NO1:¬ HS2 bw bw v1 f1 n m:=fun z=>h.no2 (hs_drop hi hre1 hv1 z);have W2:=h.drop hi (hq1.drew.grown hg2 NO1) hre1 hh1 hm2;have hsub:∀ k,WS bw m v1 f1 n k → WS bw m v f (n+1) k:=fun k hk=>ws_drop hi hre1 hv1 hk;have C2:Chg (WS bw m v f (n+1)) w w2:=((((Chg.refl _ w).alloc o).step hc1 fun k _ z=>.inr z).drew).grown hg2 fun k e _=>.inl (by injection e with e; exact e.symm);refine ⟨v1,f1,_,W2.chg (S:=fun k=>k=w.heap.size) (((Chg.refl (fun k=>k=w.heap.size) w2).setCell (p:=⟨w.heap.size,0,none⟩) (fun _=>rfl) x).setCell (p:=⟨w.heap.size,1,none⟩) (fun _=>rfl) y) (fun k hk e=>?_),hsub,(C2.setCell (p:=⟨w.heap.size,0,none⟩) (fun e=>absurd e (Nat.lt_irrefl _)) x).setCell (p:=⟨w.heap.size,1,none⟩) (fun e=>absurd e (Nat.lt_irrefl _)) y⟩
 have:=h.ws_w (hsub k hk)
 omega
set_option maxHeartbeats 4000000 in
set_option maxRecDepth 100000 in
theorem take_any (h:WH bw m B v f (n+1) D w l) {i:Nat} (hi:i < n+1) (hn:n+1≤1000000) :
  Calls Tryz.prog 108 #[.pointer (some ⟨bw,0,none⟩),.int .i64 i] w fun e w'=>e=.returned (.agg #[.int .i64 (f i).tm.1,.int .i64 (f i).tm.2])∧TakeOut B bw m v f n w l i w':=by
 have KR:=hid (fun (o:Obj)=>hremove_any (h.q.new o) hi hn);have hta:=as_item (f i).blk;have MC:=hid (fun (o:Obj) (w1:World) (hc:Chg (HS2 bw bw v f (n+1)) (w.alloc o) w1)=>own_chg (h.mp.alloc o) hc h.no2);have TO:=hid (fun (v1:Value) (f1:Nat → It) (w1 w2:World) (x y:Value) (o:Obj) a1 a2 a3 a4 a5 a6 a7=>take_out (v1:=v1) (f1:=f1) (w1:=w1) (w2:=w2) (x:=x) (y:=y) (o:=o) h hi a1 a2 a3 a4 a5 a6 a7);have RB:=hid (fun (w1:World) (hc:Chg (HS2 bw bw v f (n+1)) (w.alloc (.cells #[.int .i64 0,.int .i64 0] 167)) w1)=>(show RowIs (w.alloc (.cells #[.int .i64 0,.int .i64 0] 167)) w.heap.size 167 [.int .i64 0,.int .i64 0] by unfold RowIs; rw [heap_alloc_new]).chg hc (fun x=>absurd (h.ws_w (.inr x)) (Nat.lt_irrefl _)));have hwf:=hid (h.wf i hi);have hml:=hid (Nat.ne_of_gt h.mp.lt:w.heap.size ≠ m);clear h;unfold hV at KR
 go_enter Tryz.func108,Tryz.ntmps108
 go_wp2_with (go_at_call 133; refine (KR.out _).mono ?_; rintro e w1 ⟨rfl,v1,f1,hq1,hv1,hr1,hre1,hh1,hc1⟩; have cm1:w1.cell? ⟨bw,1,none⟩=some (.map (some m)):=hq1.wheel.cell 1 (by simp); have ci1:w1.cell? ⟨(f i).blk,1,none⟩=some (.int .i64 (f i).tm.2):=hr1.cell 1 (by simp [itemL]); have MB:=hid (fun e=>map_no_row (MC.out _ _ hc1) _ _ _ (by rw [e]; exact hr1):¬ m=(f i).blk); replace hq1:=hid hq1; replace hre1:=hid hre1; replace hh1:=hid hh1; replace hc1:=hid hc1; replace hr1:=hid hr1; replace hv1:=hid hv1)
 go_region_law (refine step_del rfl _ _ rfl (MC.out _ _ hc1.out).drew rfl rfl hwf.out ?_; intro w2 hm2 hg2)
 all_goals (
  have hr2:=(show RowIs w1.drew _ _ _ from hr1.out).gr hg2 (fun e=>MB.out (by injection e));have a20:w2.cell? ⟨(f i).blk,0,none⟩=some (.int .i64 (f i).tm.1):=hr2.cell 0 (by simp [itemL]);have a21:w2.cell? ⟨(f i).blk,1,none⟩=some (.int .i64 (f i).tm.2):=hr2.cell 1 (by simp [itemL]);have rb2:=(show RowIs w1.drew _ _ _ from RB.out _ hc1.out.drew).gr hg2 (fun e=>hml.out (by injection e with e; exact e.symm));have r0:w2.cell? ⟨w.heap.size,0,none⟩=some (.int .i64 0):=rb2.cell 0 (by simp);have r1:w2.cell? ⟨w.heap.size,1,none⟩=some (.int .i64 0):=rb2.cell 1 (by simp);have f0:=rb2.frozen 0;have f1':=rb2.frozen 1;have rb3:=(rb2.set 0 (.int .i64 (f i).tm.1)).set 1 (.int .i64 (f i).tm.2);have z0:=rb3.cell 0 (by simp);have z1:=rb3.cell 1 (by simp);simp only [List.set_cons_zero,List.set_cons_succ,List.getElem_cons_zero,List.getElem_cons_succ] at z0 z1;have TK:=hid (TO.out _ _ _ _ (.int .i64 (f i).tm.1) (.int .i64 (f i).tm.2) _ hq1.out hv1.out hre1.out hh1.out hc1.out hm2 hg2);clear hr2 rb2 rb3 hm2 hg2 hr1 hq1 hre1 hh1 hc1 MC TO RB;go_wp2;refine bodyPost_ret (v:=.agg #[.int .i64 (f i).tm.1,.int .i64 (f i).tm.2]) (by simp [results,Tryz.results108,go_sem,z0,z1]) rfl ⟨rfl,TK.out⟩)
set_option maxHeartbeats 4000000 in
set_option maxRecDepth 100000 in
theorem stop_any (h:WH bw m B v f n D w l) {id:Int} (hwf:(Lit.int .i64 id).wf=true) (hn:n≤1000000) :
  Calls Tryz.prog 80 #[.pointer (some ⟨bw,0,none⟩),.int .i64 id] w fun e w'=>e=.returned (.bool (whenT l id).isSome)∧∃ v' f' n' D',WH bw m B v' f' n' D' w' (stopT l id)∧n'≤n∧Chg (WS bw m v f n) w w':=by
 have cm:=h.mapAt;have MP:=hid h.mp;have KM:=hid (made_any h);by_cases hx:∃ i,i < n∧(f i).tm.2=id
 ·obtain ⟨i,hi,rfl⟩:=hx;obtain ⟨n,rfl⟩:∃ k,n=k+1:=⟨n - 1,by omega⟩
  obtain ⟨h1,h2⟩:=h.hasOne hi;have h3:=h.at' i hi;have cp:=(h.q.item i hi).cell 2 (by simp [itemL]);simp only [itemL,List.getElem_cons_zero,List.getElem_cons_succ] at cp;rw [h2];have KT:=hid (take_any h hi hn);clear h h2;have H1:=hid h1;have H3:=hid h3;have HW:=hid hwf;clear h1 h3 hwf
  go_enter Tryz.func80,Tryz.ntmps80
  go_wp2_with (first
   | (go_at_call 104; refine KM.out.mono ?_; rintro e w0 ⟨rfl,hw0⟩; rw [hw0]; clear hw0)
   | (at_lookup; refine wp_look_has rfl _ _ rfl MP.out rfl rfl HW.out H1.out H3.out ?_)
   | (go_at_call 108; refine KT.out.mono ?_; rintro e w1 ⟨rfl,v1,f1,D1,hw1,hs1,hc1⟩))
  go_ret;exact ⟨rfl,v1,f1,n,D1,hw1,by omega,hc1⟩
 ·obtain ⟨h1,h2⟩:=h.hasNot hx
  have hst:stopT l id=l:=by
   unfold stopT;rw [List.filter_eq_self];intro t ht
   have:=(when_none id).1 h2 t ht
   simp [this]
  have HH:=hid h;rw [h2];clear h h2 hx;have H1:=hid h1;have HW:=hid hwf;clear h1 hwf
  go_enter Tryz.func80,Tryz.ntmps80
  go_wp2_with (first
   | (go_at_call 104; refine KM.out.mono ?_; rintro e w0 ⟨rfl,hw0⟩; rw [hw0]; clear hw0)
   | (at_lookup; refine wp_look_no rfl _ _ rfl MP.out rfl rfl HW.out H1.out ?_))
  go_ret;exact ⟨rfl,v,f,n,D,by rw [hst]; exact HH.out,Nat.le_refl _,Chg.refl _ _⟩
theorem HQ.retime (h:HQ bw m B v w f n) {i:Nat} (hi:i < n) (a:Int):HQ bw m B v (w.setCell ⟨(f i).blk,0,none⟩ (.int .i64 a)) (putF f i ⟨(f i).blk,(a,(f i).tm.2)⟩) n:=by
 have hbl:∀ k,(putF f i ⟨(f i).blk,(a,(f i).tm.2)⟩ k).blk=(f k).blk:=fun k=>by
  by_cases e:k=i
  ·subst e; rw [put_at]
  ·rw [put_ne _ _ e]
 have hp:ptrs (putF f i ⟨(f i).blk,(a,(f i).tm.2)⟩) n=ptrs f n:=by
  unfold ptrs; apply List.map_congr_left; intro k _; unfold ptrV; rw [hbl]
 refine ⟨h.wheel.other (row_block_ne h.wheel (h.item i hi) (by decide)) _,by rw [hp]; exact own_other h.own (own_block_ne h.own (h.item i hi) (by decide)) _,fun k hk=>?_,fun j k hj hk e=>h.inj j k hj hk (by rw [hbl,hbl] at e; exact e),fun k hk=>by rw [hbl]; exact h.lo k hk⟩
 by_cases e:k=i
 ·subst e; rw [put_at]; exact (h.item k hk).set 0 _
 ·rw [put_ne _ _ e]; exact (h.item k hk).other (fun e'=>e (h.inj k i hk hi e')) _
theorem WH.fix {f':Nat → It} {w':World} {i:Nat} {a:Int} (h:WH bw m B v f n D w l) (hi:i < n) (hq:HQ bw m B v w' f' n) (hre:Re n (putF f i ⟨(f i).blk,(a,(f i).tm.2)⟩) f') (hh:FixOK itLt (putF f i ⟨(f i).blk,(a,(f i).tm.2)⟩) n i → Heap itLt f' n)
  (hm:w'.ownsMap Tryz.prog 3 ptrE m n D):WH bw m B v f' n D w' (setT l (f i).tm.2 a):=by
 have hP:∀ k,(putF f i ⟨(f i).blk,(a,(f i).tm.2)⟩ k).blk=(f k).blk∧(putF f i ⟨(f i).blk,(a,(f i).tm.2)⟩ k).tm.2=(f k).tm.2:=fun k=>by
  by_cases e:k=i
  ·subst e; rw [put_at]; exact ⟨rfl,rfl⟩
  ·rw [put_ne _ _ e]; exact ⟨rfl,rfl⟩
 have hK:=h.k.fix hi hre (hh (fix_ok it_ord h.k.heap hi fun k hk=>put_ne f _ hk))
 have old:∀ j,j < n → ∃ c,c < n∧(f' j).blk=(f c).blk∧(f' j).tm.2=(f c).tm.2:=fun j hj=>by
  obtain ⟨c,hc,ec⟩:=(hre.mem (f' j)).1 ⟨j,hj,rfl⟩;exact ⟨c,hc,by rw [← ec,(hP c).1],by rw [← ec,(hP c).2]⟩
 refine ⟨hq,hK,hm,fun id=>?_,fun j hj z=>?_,h.size,h.wlo,h.mlo,fun j hj=>?_⟩
 ·rw [h.has]
  constructor
  ·rintro ⟨c,hc,rfl⟩;obtain ⟨j,hj,ej⟩:=(hre.mem (putF f i ⟨(f i).blk,(a,(f i).tm.2)⟩ c)).2 ⟨c,hc,rfl⟩;exact ⟨j,hj,by rw [ej,(hP c).2]⟩
  ·rintro ⟨j,hj,rfl⟩;obtain ⟨c,hc,_,e⟩:=old j hj;exact ⟨c,hc,e.symm⟩
 ·obtain ⟨c,hc,e1,e2⟩:=old j hj;rw [e2,e1]; exact h.at' c hc z
 ·obtain ⟨c,hc,_,e2⟩:=old j hj;rw [e2]; exact h.wf c hc
theorem WH.push {v':Value} {f':Nat → It} {w':World} {b:Nat} {a id:Int} (h:WH bw m B v f n D w l) (hno:¬ ∃ i,i < n∧(f i).tm.2=id) (hwf:(Lit.int .i64 id).wf=true) (hb:∀ i,i < n → (f i).blk ≠ b) (hq:HQ bw m B v' w' f' (n+1))
  (hre:Re (n+1) (putF f n ⟨b,(a,id)⟩) f') (hh:Heap itLt f n → Heap itLt f' (n+1)) (hm:w'.ownsMap Tryz.prog 3 ptrE m (n+1) (D.put (idK id) (.lit (.int .i64 b)))) :
  WH bw m B v' f' (n+1) (D.put (idK id) (.lit (.int .i64 b))) w' (setT l id a):=by
 have hnl:∀ t ∈ l,t.2 ≠ id:=(when_none id).1 (h.hasNot hno).2;have hK:=h.k.push hnl hb hre (hh h.k.heap);have hisM:=h.mp.isMap
 have old:∀ j,j < n+1 → (f' j=⟨b,(a,id)⟩)∨∃ c,c < n∧f' j=f c:=fun j hj=>by
  obtain ⟨c,hc,ec⟩:=(hre.mem (f' j)).1 ⟨j,hj,rfl⟩;by_cases e:c=n
  ·subst e; rw [put_at] at ec; exact .inl ec.symm
  ·rw [put_ne _ _ e] at ec; exact .inr ⟨c,by omega,ec.symm⟩
 have new:∃ j,j < n+1∧f' j=⟨b,(a,id)⟩:=by
  obtain ⟨j,hj,e⟩:=(hre.mem ⟨b,(a,id)⟩).2 ⟨n,by omega,put_at f n _⟩;exact ⟨j,hj,e⟩
 have keep:∀ c,c < n → ∃ j,j < n+1∧f' j=f c:=fun c hc=>by
  obtain ⟨j,hj,e⟩:=(hre.mem (f c)).2 ⟨c,by omega,put_ne f _ (by omega)⟩;exact ⟨j,hj,e⟩
 have hsz:Maps.size (D.put (idK id) (.lit (.int .i64 b)))=n+1:=by
  rw [Maps.size_put (h.mp.tidy keyI),if_neg (by rw [(h.hasNot hno).1]; simp),h.size]
 refine ⟨hq,hK,hm,fun id'=>?_,fun j hj z=>?_,hsz,h.wlo,h.mlo,fun j hj=>?_⟩
 ·by_cases e:id'=id
  ·subst e;rw [Maps.has_put_same hisM (by trivial)];obtain ⟨j,hj,ej⟩:=new;simp only [true_iff];exact ⟨j,hj,by rw [ej]⟩
  ·rw [Maps.has_put_other (idK_ne e),h.has]
   constructor
   ·rintro ⟨c,hc,rfl⟩;obtain ⟨j,hj,ej⟩:=keep c hc;exact ⟨j,hj,by rw [ej]⟩
   ·rintro ⟨j,hj,rfl⟩
    rcases old j hj with ej | ⟨c,hc,ec⟩
    ·exact absurd (by rw [ej]) e
    ·exact ⟨c,hc,by rw [ec]⟩
 ·rcases old j hj with ej | ⟨c,hc,ec⟩
  ·rw [ej]; exact Maps.atKey_put_same hisM (by trivial) _ _
  ·rw [ec,Maps.atKey_put_other (idK_ne fun e=>hno ⟨c,hc,e⟩)];exact h.at' c hc z
 ·rcases old j hj with ej | ⟨c,hc,ec⟩
  ·rw [ej]; exact hwf
  ·rw [ec]; exact h.wf c hc
def SS (B bw m:Nat) (f:Nat → It) (n:Nat) (w:World) (k:Nat):Prop:=B≤k∧(k=m∨k=bw∨(∃ i,i < n∧(f i).blk=k)∨∃ cs,w.heap[k]? = some (.cells cs 162 (0,0)))
theorem WH.ss (h:WH bw m B v f n D w l) {k:Nat} (hk:WS bw m v f n k):SS B bw m f n w k:=by
 rcases hk with rfl | hk
 ·exact ⟨h.mlo,.inl rfl⟩
 ·obtain ⟨h1,h2⟩:=h.q.hs3 h.wlo h.wlo hk
  rcases h2 with h2 | h2 | h2 | h2
  ·exact ⟨h1,.inr (.inl h2)⟩
  ·exact ⟨h1,.inr (.inl h2)⟩
  ·exact ⟨h1,.inr (.inr (.inl h2))⟩
  ·exact ⟨h1,.inr (.inr (.inr h2))⟩
def WOut (B bw m:Nat) (f:Nat → It) (n:Nat) (w w':World) (l':List Tm):Prop:=∃ v' f' n' D',WH bw m B v' f' n' D' w' l'∧n'≤4096∧Chg (SS B bw m f n w) w w'
def badS (id a:Int):Prop:=id < 0∨a < 0∨1099511627776 < a
instance (id a:Int):Decidable (badS id a):=by unfold badS; infer_instance
def setE (l:List Tm) (id a:Int):Int:=if badS id a then 1 else if whenT l id=none∧4096≤l.length then 5 else 0
def setR (l:List Tm) (id a:Int):List Tm:=if badS id a then l else if whenT l id=none∧4096≤l.length then l else setT l id a
theorem set_new {id a:Int} {O:Obj} {w1:World} {p0:Value} (h:WH bw m B v f n D w l) (hx:¬ ∃ i,i < n∧(f i).tm.2=id) (hwf:(Lit.int .i64 id).wf=true) (rb0:RowIs (w.alloc O) w.heap.size 170 [.int .i64 a,.int .i64 id,p0])
  (hnb:∀ i,i < n → (f i).blk ≠ w.heap.size) (hg1:(w.alloc O).grownBy w1 (some m)) (hm1:w1.ownsMap Tryz.prog 3 ptrE m (n+1) (D.put (idK id) (.lit (.int .i64 w.heap.size)))) (hn:n+1≤4096) :
  Calls Tryz.prog 132 #[hV bw,.iface 162 (.pointer (some ⟨w.heap.size,0,none⟩))] w1 fun e w'=>e=.returned (.tuple #[])∧WOut B bw m f n w w' (setT l id a):=by
 have bwl:bw < w.heap.size:=(Array.getElem?_eq_some_iff.1 h.q.wheel).1;have hBw:B≤w.heap.size:=Nat.le_trans h.wlo (Nat.le_of_lt bwl);have ml:=h.mp.lt;have Q1:=(h.q.new O).grown hg1 h.no2;have rb1:=rb0.gr hg1 (fun e=>by injection e with e; omega);have hB1:B≤w1.heap.size:=Nat.le_trans (Nat.le_trans hBw (by simp)) hg1.size;refine (hpush_any Q1 (b:=w.heap.size) (t:=(a,id)) rb1 hnb hBw h.wlo (by omega) hB1).mono ?_
 rintro e w2 ⟨rfl,v2,f2,hq2,hre2,hh2,hc2⟩
 have no3:¬ HS3 B bw w.heap.size f n w1 m:=by
  rintro ⟨_,e | e | ⟨i,hi,e⟩ | ⟨cs,e⟩⟩
  ·exact map_no_row hm1 _ _ _ (by rw [e]; exact Q1.wheel)
  ·omega
  ·exact map_no_row hm1 _ _ _ (by rw [← e]; exact Q1.item i hi)
  ·exact map_no_row hm1 _ _ _ e
 refine ⟨rfl,v2,f2,n+1,_,h.push hx hwf hnb hq2 hre2 hh2 (own_chg hm1 hc2 no3),hn,?_⟩
 have c1:Chg (SS B bw m f n w) w w1:=((Chg.refl _ w).alloc O).grown hg1 fun k hk _=>by injection hk with hk; subst hk; exact h.ss (.inl rfl)
 refine c1.step hc2 ?_
 rintro k hk ⟨hB,e | e | e | ⟨cs,e⟩⟩
 ·exact ⟨hB,.inr (.inl e)⟩
 ·omega
 ·exact ⟨hB,.inr (.inr (.inl e))⟩
 ·by_cases hkm:k=m
  ·exact ⟨hB,.inl hkm⟩
  ·rw [hg1.block k (Nat.lt_of_lt_of_le hk (by simp)) (fun x=>hkm (by injection x)),Below.heap_alloc _ _ _ hk] at e;exact ⟨hB,.inr (.inr (.inr ⟨cs,e⟩))⟩
theorem WOut.old {o:Obj} {w':World} {l':List Tm} (h:WOut B bw m f n (w.alloc o) w' l'):WOut B bw m f n w w' l':=by
 obtain ⟨v',f',n',D',h1,h2,hc⟩:=h;refine ⟨v',f',n',D',h1,h2,((Chg.refl _ w).alloc o).step hc ?_⟩
 rintro k hk ⟨hB,e | e | e | ⟨cs,e⟩⟩
 ·exact ⟨hB,.inl e⟩
 ·exact ⟨hB,.inr (.inl e)⟩
 ·exact ⟨hB,.inr (.inr (.inl e))⟩
 ·rw [Below.heap_alloc _ _ _ hk] at e;exact ⟨hB,.inr (.inr (.inr ⟨cs,e⟩))⟩
theorem heap_size_alloc' (w:World) (o:Obj):(w.alloc o).heap.size=w.heap.size+1:=by simp
set_option maxHeartbeats 4000000 in
set_option maxRecDepth 100000 in
theorem add_any (h:WH bw m B v f n D w l) {id a:Int} (hx:¬ ∃ i,i < n∧(f i).tm.2=id) (hwf:(Lit.int .i64 id).wf=true) (hn:n+1≤4096) :
  Calls Tryz.prog 107 #[.pointer (some ⟨bw,0,none⟩),.agg #[.int .i64 a,.int .i64 id]] w fun e w'=>e=.returned (.tuple #[])∧WOut B bw m f n w w' (setT l id a):=by
 have cm:=h.mapAt;have bwl:bw < w.heap.size:=(Array.getElem?_eq_some_iff.1 h.q.wheel).1;obtain ⟨O1,hO1⟩:∃ O,O=Obj.cells #[.int .i64 a,.int .i64 id] 167:=⟨_,rfl⟩
 obtain ⟨O,hO⟩:∃ O,O=Obj.cells #[.int .i64 a,.int .i64 id,.int .i64 0] 170:=⟨_,rfl⟩
 have h1:=h.new O1;have cm2:=fun o=>(h1.new o).mapAt;have rb0:RowIs ((w.alloc O1).alloc O) (w.alloc O1).heap.size 170 [.int .i64 a,.int .i64 id,.int .i64 0]:=by unfold RowIs; rw [heap_alloc_new,hO]
 have hnb:∀ i,i < n → (f i).blk ≠ (w.alloc O1).heap.size:=fun i hi e=>by have:=(Array.getElem?_eq_some_iff.1 (h1.q.item i hi)).1; omega
 have FI:=hid (fun (w1:World) (hg1:((w.alloc O1).alloc O).drew.grownBy w1 (some m)) (hm1:w1.ownsMap Tryz.prog 3 ptrE m (n+1) (D.put (idK id) (.lit (.int .i64 (w.alloc O1).heap.size))))=>(set_new h1 hx hwf rb0 hnb (show ((w.alloc O1).alloc O).grownBy w1 (some m) from ⟨hg1.os,hg1.tape,hg1.output,hg1.size,hg1.block⟩) hm1 hn).mono (fun e w' (z:e=_∧WOut _ _ _ _ _ _ _ _)=>(⟨z.1,z.2.old⟩:e=.returned (.tuple #[])∧WOut B bw m f n w w' (setT l id a))));obtain ⟨w1,hrun,hm1,hg1⟩:=((h1.mp.alloc O).drew).update keyI Tryz.underlying102 (by unfold maxLen; omega) (key_int hwf) (show ptrE (.pointer (some ⟨(w.alloc O1).heap.size,0,none⟩))=some (.lit (.int .i64 (w.alloc O1).heap.size),[]) from rfl);have KP:=hid (FI.out _ hg1 hm1);clear FI hm1 hg1;have ci:=rb0.cell 1 (by simp);simp only [List.getElem_cons_zero,List.getElem_cons_succ] at ci;have z1:=two_new w a id;rw [hO1] at hrun KP ci cm2;rw [hO] at hrun ci;rw [heap_size_alloc'] at hrun KP ci;have cm2':=cell_dr (cm2 (Obj.cells #[.int .i64 a,.int .i64 id,.int .i64 0] 170));have ci':=cell_dr ci;clear h h1 rb0 hO hO1 hnb;have HW:=hid hwf;clear hwf hx;unfold hV at KP
 go_enter Tryz.func107,Tryz.ntmps107
 go_wp2
 go_region
 all_goals (
  go_wp2_with (go_at_call 132; refine KP.out.mono ?_; rintro e w2 ⟨rfl,hw2⟩)
  go_end0
  exact ⟨rfl,hw2⟩)
set_option maxHeartbeats 4000000 in
set_option maxRecDepth 100000 in
theorem move_any (h:WH bw m B v f n D w l) {i:Nat} {a:Int} (hi:i < n) (hn:n≤4096) :
  Calls Tryz.prog 105 #[.pointer (some ⟨bw,0,none⟩),.pointer (some ⟨(f i).blk,0,none⟩),.int .i64 a] w fun e w'=>e=.returned (.tuple #[])∧WOut B bw m f n w w' (setT l (f i).tm.2 a):=by
 have c0:=(h.q.item i hi).cell 0 (by simp [itemL]);have f0:=(h.q.item i hi).frozen 0;have cp:=((h.q.item i hi).set 0 (.int .i64 a)).cell 2 (by simp [itemL]);simp only [itemL,List.getElem_cons_zero,List.getElem_cons_succ,List.set_cons_zero] at c0 cp;have HQ1:=hid (h.q.retime hi a);have KF:=hid (fun (w':World) (hq:HQ bw m B v w' (putF f i ⟨(f i).blk,(a,(f i).tm.2)⟩) n)=>hfix_any hq hi (by omega));have HF:=hid (fun (f':Nat → It) (w':World) x y z u=>h.fix (f':=f') (w':=w') (a:=a) hi x y z u);have SSk:=hid (fun k (x:WS bw m v f n k)=>h.ss x);have NO:=hid h.no2;have MO:=hid (h.mp.setCell (a:=⟨(f i).blk,0,none⟩) (fun e=>NO.out (.inr (.inr (.inr ⟨i,hi,e.symm⟩)))) (.int .i64 a));clear h;unfold hV at KF
 go_enter Tryz.func105,Tryz.ntmps105
 go_wp2
 go_region_law (go_simp; go_at_call 131; refine (KF.out _ HQ1.out.drew).mono ?_; rintro e w1 ⟨rfl,f1,hq1,hre1,hh1,hc1⟩)
 go_wp2
 go_end0
 have hS:∀ k,HS v (putF f i ⟨(f i).blk,(a,(f i).tm.2)⟩) n k → HS v f n k:=fun k x=>by
  rcases x with x | ⟨j,hj,e⟩
  ·exact .inl x
  ·refine .inr ⟨j,hj,?_⟩
   by_cases e':j=i
   ·subst e'; rw [put_at] at e; exact e
   ·rw [put_ne _ _ e'] at e; exact e
 refine ⟨rfl,v,f1,n,D,HF.out _ _ hq1 hre1 hh1 (own_chg MO.out.drew hc1 fun x=>NO.out (.inr (.inr (hS _ x)))),hn,?_⟩
 exact (((Chg.refl _ w).setCell (p:=⟨(f i).blk,0,none⟩) (fun _=>SSk.out _ (.inr (.inr (.inr (.inr ⟨i,hi,rfl⟩))))) _).drew).step hc1 fun k _ x=>SSk.out k (.inr (.inr (.inr (hS k x))))
set_option maxHeartbeats 4000000 in
set_option maxRecDepth 100000 in
theorem set_any (h:WH bw m B v f n D w l) {id a:Int} (hwf:(Lit.int .i64 id).wf=true) (hn:n≤4096) :
  Calls Tryz.prog 79 #[.pointer (some ⟨bw,0,none⟩),.int .i64 id,.int .i64 a] w fun e w'=>e=.returned (.int .i64 (setE l id a))∧WOut B bw m f n w w' (setR l id a):=by
 have cm:=h.mapAt;have MP:=hid h.mp;have KM:=hid (made_any h);have KL:=hid (wlen_n h);unfold setE setR;by_cases hbad:badS id a
 ·rw [if_pos hbad,if_pos hbad];have HH:=hid h;clear h;unfold badS at hbad;by_cases h1:id < 0
  ·go_enter Tryz.func79,Tryz.ntmps79
   go_wp2_with (go_at_call 104; refine KM.out.mono ?_; rintro e w0 ⟨rfl,hw0⟩; rw [hw0]; clear hw0)
   go_ret;exact ⟨rfl,v,f,n,D,HH.out,hn,Chg.refl _ _⟩
  ·by_cases h2:a < 0
   ·go_enter Tryz.func79,Tryz.ntmps79
    go_wp2_with (go_at_call 104; refine KM.out.mono ?_; rintro e w0 ⟨rfl,hw0⟩; rw [hw0]; clear hw0)
    go_ret;exact ⟨rfl,v,f,n,D,HH.out,hn,Chg.refl _ _⟩
   ·have h3:1099511627776 < a:=by omega
    clear hbad
    go_enter Tryz.func79,Tryz.ntmps79
    go_wp2_with (go_at_call 104; refine KM.out.mono ?_; rintro e w0 ⟨rfl,hw0⟩; rw [hw0]; clear hw0)
    go_ret;exact ⟨rfl,v,f,n,D,HH.out,hn,Chg.refl _ _⟩
 ·rw [if_neg hbad,if_neg hbad];unfold badS at hbad;have h1:¬ id < 0:=fun x=>hbad (.inl x);have h2:¬ a < 0:=fun x=>hbad (.inr (.inl x));have h3:¬ 1099511627776 < a:=fun x=>hbad (.inr (.inr x));clear hbad;by_cases hx:∃ i,i < n∧(f i).tm.2=id
  ·obtain ⟨i,hi,rfl⟩:=hx;obtain ⟨g1,g2⟩:=h.hasOne hi;rw [g2,if_neg (by simp),if_neg (by simp)];have g3:=h.at' i hi;have KV:=hid (move_any h (a:=a) hi hn);clear h g2;have H1:=hid g1;have H3:=hid g3;have HW:=hid hwf;clear g1 g3 hwf
   go_enter Tryz.func79,Tryz.ntmps79
   go_wp2_with (first
    | (go_at_call 104; refine KM.out.mono ?_; rintro e w0 ⟨rfl,hw0⟩; rw [hw0]; clear hw0)
    | (at_lookup; refine wp_look_has rfl _ _ rfl MP.out rfl rfl HW.out H1.out H3.out ?_)
    | (go_at_call 105; refine KV.out.mono ?_; rintro e w1 ⟨rfl,hw1⟩))
   go_ret;exact ⟨rfl,hw1⟩
  ·obtain ⟨g1,g2⟩:=h.hasNot hx;by_cases hful:4096≤n
   ·have hl:4096≤l.length:=by rw [h.k.len]; exact hful
    rw [if_pos ⟨g2,hl⟩,if_pos ⟨g2,hl⟩];have hfi:(4096:Int)≤(n:Int):=by omega
    have HH:=hid h;clear h;have H1:=hid g1;have HW:=hid hwf;clear g1 g2 hwf hx hl
    go_enter Tryz.func79,Tryz.ntmps79
    go_wp2_with (first
     | (go_at_call 104; refine KM.out.mono ?_; rintro e w0 ⟨rfl,hw0⟩; rw [hw0]; clear hw0)
     | (go_at_call 106; refine KL.out.mono ?_; rintro e w0 ⟨rfl,hw0⟩; rw [hw0]; clear hw0)
     | (at_lookup; refine wp_look_no rfl _ _ rfl MP.out rfl rfl HW.out H1.out ?_))
    go_ret;exact ⟨rfl,v,f,n,D,HH.out,hn,Chg.refl _ _⟩
   ·have hl:¬ (whenT l id=none∧4096≤l.length):=fun x=>hful (by rw [← h.k.len]; exact x.2);rw [if_neg hl,if_neg hl];have hfi:¬ ((4096:Int)≤(n:Int)):=by omega
    have KA:=hid (add_any h (a:=a) hx hwf (by omega));clear h;have H1:=hid g1;have HW:=hid hwf;clear g1 g2 hwf hl hx
    go_enter Tryz.func79,Tryz.ntmps79
    go_wp2_with (first
     | (go_at_call 104; refine KM.out.mono ?_; rintro e w0 ⟨rfl,hw0⟩; rw [hw0]; clear hw0)
     | (go_at_call 106; refine KL.out.mono ?_; rintro e w0 ⟨rfl,hw0⟩; rw [hw0]; clear hw0)
     | (at_lookup; refine wp_look_no rfl _ _ rfl MP.out rfl rfl HW.out H1.out ?_)
     | (go_at_call 107; refine KA.out.mono ?_; rintro e w2 ⟨rfl,hw2⟩))
    go_ret;exact ⟨rfl,hw2⟩
end
structure Fr (B:Nat) (w w':World):Prop where
 below:Below B w w'
 keep:∀ (k:Nat) (cs:Array Value) (e:TypeId) (x:Nat × Nat),w.heap[k]? = some (Obj.cells cs e x) → e ≠ 106 → e ≠ 170 → e ≠ 162 → w'.heap[k]? = some (Obj.cells cs e x)
theorem Fr.row {B:Nat} {w w':World} {b:Nat} {e:TypeId} {l:List Value} (h:Fr B w w') (hr:RowIs w b e l) (n1:e ≠ 106) (n2:e ≠ 170) (n3:e ≠ 162):RowIs w' b e l:=by
 unfold RowIs at hr ⊢;exact h.keep _ _ _ _ hr n1 n2 n3
section
variable {bw m B U : Nat} {v : Value} {f : Nat → It} {n : Nat} {D : DataW Unit} {w w' : World} {l : List Tm}
theorem WH.fr (h:WH bw m B v f n D w l) (hc:Chg (SS B bw m f n w) w w'):Fr B w w':=by
 have hB:B≤w.heap.size:=Nat.le_trans h.wlo (Nat.le_of_lt (Array.getElem?_eq_some_iff.1 h.q.wheel).1);refine ⟨hc.below hB fun k hk=>hk.1,fun k cs e x hh n1 n2 n3=>?_⟩
 rw [hc.block k (Array.getElem?_eq_some_iff.1 hh).1]
 ·exact hh
 ·rintro ⟨_,rfl | rfl | ⟨i,hi,rfl⟩ | ⟨cs',e'⟩⟩
  ·exact map_no_row h.mp _ _ _ hh
  ·have:=h.q.wheel
   unfold RowIs at this;rw [this] at hh
   simp at hh
   exact n1 hh.2.1.symm
  ·have:=h.q.item i hi
   unfold RowIs at this;rw [this] at hh
   simp at hh
   exact n2 hh.2.1.symm
  ·rw [e'] at hh
   simp at hh
   exact n3 hh.2.1.symm
end
theorem WH.begin (w:World):WH (w.heap.size+1) w.heap.size w.heap.size (.slice none 0 0) (fun _=>⟨0,(0,0)⟩) 0 (.map []) ((w.alloc (.map #[] 0)).alloc (.cells #[.slice none 0 0,.map (some w.heap.size)] 106)) []:=by
 have hs:(w.alloc (.map #[] 0)).heap.size=w.heap.size+1:=by simp
 refine ⟨⟨?_,?_,fun i hi=>by omega,fun i j hi=>by omega,fun i hi=>by omega⟩,keeps_nil _,(World.ownsMap_made w _ _ _).alloc _,fun id=>?_,fun i hi=>by omega,rfl,by omega,Nat.le_refl _,fun i hi=>by omega⟩
 ·unfold RowIs;rw [← hs,heap_alloc_new]
 ·exact World.ownsRow_nil _ _ _ _
 ·constructor
  ·intro h; simp [Maps.has] at h
  ·rintro ⟨i,hi,_⟩; omega
theorem makeW (u:World):(Instr.makeMap 102 none).run Tryz.prog u=.ok (.map (some u.heap.size)) (u.alloc (.map #[] 0)):=by kernel_rfl
def WWm (m B b:Nat) (w:World) (l:List Tm):Prop:=∃ v f n D,WH b m B v f n D w l∧n≤4096
structure FrM (m B:Nat) (w w':World):Prop where
 fr:Fr B w w'
 map:∀ (k:Nat) (es:Array MapEntry) (c:Nat),k ≠ m → w.heap[k]? = some (Obj.map es c) → w'.heap[k]? = some (Obj.map es c)
section
variable {bw m B : Nat} {v : Value} {f : Nat → It} {n : Nat} {D : DataW Unit} {w w' : World} {l : List Tm}
theorem WH.frm (h:WH bw m B v f n D w l) (hc:Chg (SS B bw m f n w) w w'):FrM m B w w':=by
 refine ⟨h.fr hc,fun k es c hk hh=>?_⟩
 rw [hc.block k (Array.getElem?_eq_some_iff.1 hh).1]
 ·exact hh
 ·rintro ⟨_,rfl | rfl | ⟨i,hi,rfl⟩ | ⟨cs',e'⟩⟩
  ·exact hk rfl
  ·have:=h.q.wheel
   unfold RowIs at this;rw [this] at hh; simp at hh
  ·have:=h.q.item i hi
   unfold RowIs at this;rw [this] at hh; simp at hh
  ·rw [e'] at hh; simp at hh
theorem FrM.own {P:Program} {k:TypeId} {R:Value → Option (DataW Unit × List MemPlace)} {b N:Nat} {D:DataW Unit} (hf:FrM m B w w') (h:w.ownsMap P k R b N D) (hb:b ≠ m):w'.ownsMap P k R b N D:=by
 obtain ⟨es,clock,hh,F,hs,rfl⟩:=h;exact ⟨es,clock,hf.map b es clock hb hh,F,hs,rfl⟩
theorem WWm.lo (h:WWm m B bw w l):B≤w.heap.size:=by
 obtain ⟨v,f,n,D,h,hn⟩:=h;exact Nat.le_trans h.wlo (Nat.le_of_lt (Array.getElem?_eq_some_iff.1 h.q.wheel).1)
theorem WWm.chg {S:Nat → Prop} (h:WWm m B bw w l) (hc:Chg S w w') (hn:∀ k,B≤k → S k → k ≠ m∧∀ cs e x,w.heap[k]? = some (Obj.cells cs e x) → e ≠ 106∧e ≠ 170∧e ≠ 162):WWm m B bw w' l:=by
 obtain ⟨v,f,n,D,h,h4⟩:=h;refine ⟨v,f,n,D,h.chg hc fun k hk hS=>?_,h4⟩
 obtain ⟨hB,hs⟩:=h.ss hk;obtain ⟨n0,n1⟩:=hn k hB hS
 rcases hs with rfl | rfl | ⟨i,hi,rfl⟩ | ⟨cs,e⟩
 ·exact n0 rfl
 ·have:=h.q.wheel
  unfold RowIs at this;exact (n1 _ _ _ this).1 rfl
 ·have:=h.q.item i hi
  unfold RowIs at this;exact (n1 _ _ _ this).2.1 rfl
 ·exact (n1 _ _ _ e).2.2 rfl
theorem wmset_any (h:WWm m B bw w l) {id a:Int} (hwf:(Lit.int .i64 id).wf=true) :
  Calls Tryz.prog 79 #[.pointer (some ⟨bw,0,none⟩),.int .i64 id,.int .i64 a] w fun e w'=>e=.returned (.int .i64 (setE l id a))∧WWm m B bw w' (setR l id a)∧FrM m B w w':=by
 obtain ⟨v,f,n,D,h,hn⟩:=h;refine (set_any h hwf hn).mono ?_
 rintro e w' ⟨rfl,v',f',n',D',h',hn',hc⟩;exact ⟨rfl,⟨v',f',n',D',h',hn'⟩,h.frm hc⟩
set_option maxHeartbeats 1000000 in
set_option maxRecDepth 100000 in
theorem wmnew_any (w:World):Calls Tryz.prog 30 #[] w fun e w'=>e=.returned (.pointer (some ⟨w.heap.size+1,0,none⟩))∧w'=(w.alloc (.map #[] 0)).alloc (.cells #[.slice none 0 0,.map (some w.heap.size)] 106):=by
 have hm:=makeW
 go_enter Tryz.func30,Tryz.ntmps30
 go_wp2;go_ret;exact ⟨rfl,rfl⟩
theorem WWm.begin (w:World):WWm w.heap.size w.heap.size (w.heap.size+1) ((w.alloc (.map #[] 0)).alloc (.cells #[.slice none 0 0,.map (some w.heap.size)] 106)) []:=⟨_,_,_,_,WH.begin w,by omega⟩
end
structure MpG {α:Type} (kn:α → Lit) (dn:α → DataW Unit) (l:List α) (D:DataW Unit):Prop where
 has:∀ k,Maps.has D k=true ↔ ∃ x ∈ l,kn x=k
 at':∀ c ∈ l,∀ z,D.atKey (kn c) z=dn c
 size:Maps.size D=l.length
section
variable {α : Type} {kn : α → Lit} {dn : α → DataW Unit} {l : List α} {D : DataW Unit}
theorem MpG.nil (kn:α → Lit) (dn:α → DataW Unit):MpG kn dn [] (.map []):=⟨fun c=>by simp [Maps.has],fun c hc=>by simp at hc,rfl⟩
theorem MpG.hasNot (h:MpG kn dn l D) {k:Lit} (hno:∀ x ∈ l,kn x ≠ k):Maps.has D k=false:=by
 cases e:Maps.has D k
 ·rfl
 ·obtain ⟨x,hx,ex⟩:=(h.has k).1 e;exact absurd ex (hno x hx)
theorem MpG.add (h:MpG kn dn l D) (hM:IsMap D) (hT:Tidy D) {c:α} (hk:WideAt.IsKeyLit (kn c)) (hno:∀ x ∈ l,kn x ≠ kn c):MpG kn dn (l++[c]) (D.put (kn c) (dn c)):=by
 have hh:=h.hasNot hno;refine ⟨fun y=>?_,fun y hy z=>?_,?_⟩
 ·by_cases e:y=kn c
  ·rw [e,Maps.has_put_same hM hk];simp only [true_iff];exact ⟨c,by simp,rfl⟩
  ·rw [Maps.has_put_other e,h.has]
   constructor
   ·rintro ⟨x,hx,ex⟩; exact ⟨x,by simp [hx],ex⟩
   ·rintro ⟨x,hx,ex⟩
    rcases List.mem_append.1 hx with hx | hx
    ·exact ⟨x,hx,ex⟩
    ·simp at hx; subst hx; exact absurd ex.symm e
 ·rcases List.mem_append.1 hy with hy | hy
  ·rw [Maps.atKey_put_other (hno y hy)]; exact h.at' y hy z
  ·simp at hy; subst hy; exact Maps.atKey_put_same hM hk _ _
 ·rw [Maps.size_put hT,hh,h.size]; simp
theorem MpG.set (h:MpG kn dn l D) (hM:IsMap D) (hT:Tidy D) {i:Nat} (hi:i < l.length) {c:α} (hk:WideAt.IsKeyLit (kn c)) (he:kn c=kn l[i]) (hd:∀ j (hj:j < l.length),j ≠ i → kn l[j] ≠ kn l[i]):MpG kn dn (l.set i c) (D.put (kn c) (dn c)):=by
 have hh:Maps.has D (kn c)=true:=(h.has _).2 ⟨l[i],List.getElem_mem hi,he.symm⟩;refine ⟨fun y=>?_,fun y hy z=>?_,?_⟩
 ·by_cases e:y=kn c
  ·rw [e,Maps.has_put_same hM hk];simp only [true_iff];exact ⟨c,List.mem_iff_getElem.2 ⟨i,by simpa using hi,by simp⟩,rfl⟩
  ·rw [Maps.has_put_other e,h.has]
   constructor
   ·rintro ⟨x,hx,ex⟩;obtain ⟨j,hj,rfl⟩:=List.mem_iff_getElem.1 hx;have hji:j ≠ i:=fun e'=>by subst e'; exact e (ex.symm.trans he.symm)
    exact ⟨l[j],List.mem_iff_getElem.2 ⟨j,by simpa using hj,by rw [List.getElem_set_ne (Ne.symm hji)]⟩,ex⟩
   ·rintro ⟨x,hx,ex⟩;obtain ⟨j,hj,rfl⟩:=List.mem_iff_getElem.1 hx;by_cases hji:i=j
    ·subst hji; rw [List.getElem_set_self] at ex; exact absurd ex.symm e
    ·rw [List.getElem_set_ne hji] at ex;exact ⟨l[j]'(by simpa using hj),List.getElem_mem _,ex⟩
 ·obtain ⟨j,hj,rfl⟩:=List.mem_iff_getElem.1 hy;by_cases hji:i=j
  ·subst hji; rw [List.getElem_set_self]; exact Maps.atKey_put_same hM hk _ _
  ·have hj':j < l.length:=by simpa using hj
   rw [List.getElem_set_ne hji,Maps.atKey_put_other (by rw [he]; exact hd j hj' (Ne.symm hji))];exact h.at' _ (List.getElem_mem _) z
 ·rw [Maps.size_put hT,hh,h.size]; simp
theorem MpG.del (h:MpG kn dn l D) (hT:Tidy D) {p:α → Bool} {c:α} (hc:c ∈ l) (hp:∀ x ∈ l,p x=true ↔ kn x ≠ kn c) (hl:(l.filter p).length+1=l.length):MpG kn dn (l.filter p) (D.del (kn c)):=by
 have hh:Maps.has D (kn c)=true:=(h.has _).2 ⟨c,hc,rfl⟩;refine ⟨fun y=>?_,fun y hy z=>?_,?_⟩
 ·by_cases e:y=kn c
  ·rw [e,Maps.has_del_same]
   constructor
   ·intro x; cases x
   ·rintro ⟨x,hx,ex⟩;obtain ⟨h1,h2⟩:=List.mem_filter.1 hx;exact absurd ex ((hp x h1).1 h2)
  ·rw [Maps.has_del_other e,h.has]
   constructor
   ·rintro ⟨x,hx,ex⟩; exact ⟨x,List.mem_filter.2 ⟨hx,(hp x hx).2 (by rw [ex]; exact e)⟩,ex⟩
   ·rintro ⟨x,hx,ex⟩; exact ⟨x,(List.mem_filter.1 hx).1,ex⟩
 ·obtain ⟨h1,h2⟩:=List.mem_filter.1 hy;rw [Maps.atKey_del_other ((hp y h1).1 h2)]; exact h.at' y h1 z
 ·have:=Maps.size_del (k:=kn c) hT
  rw [hh,h.size] at this
  simp at this; omega
end
theorem filter_oneG {α:Type} {l:List α} {k:Nat} (hk:k < l.length) {p:α → Bool} (hp:∀ j (hj:j < l.length),p l[j]=true ↔ j ≠ k):(l.filter p).length+1=l.length∧l.filter p=l.take k++l.drop (k+1):=by
 induction l generalizing k with
 | nil=>simp at hk
 | cons a l ih =>
  cases k with
  | zero =>
   have h0:p a=false:=by
    have:=hp 0 (by simp)
    simp only [List.getElem_cons_zero,ne_eq,not_true_eq_false,iff_false] at this
    simpa using this
   have h1:l.filter p=l:=List.filter_eq_self.2 fun c hc=>by
    obtain ⟨j,hj,rfl⟩:=List.mem_iff_getElem.1 hc
    have:=(hp (j+1) (by simpa using hj)).2 (by omega)
    simpa using this
   simp [h0,h1]
  | succ k =>
   have h0:p a=true:=(hp 0 (by simp)).2 (by omega)
   have:=ih (k:=k) (by simpa using hk) fun j hj=>by
    have:=hp (j+1) (by simpa using hj)
    simp only [List.getElem_cons_succ] at this;rw [this]; omega
   rw [List.filter_cons_of_pos h0,List.length_cons,List.length_cons,List.take_succ_cons,List.drop_succ_cons,this.2];refine ⟨?_,rfl⟩
   have h3:=this.1;rw [this.2] at h3;omega
end Go.Proofs.YtbmjodlbkgblpaaGreatDoor
namespace Go.Proofs.YtbmjodlbkgblpaaGreatDoor
open Go.RowKit Sc
def notN (n:Int) (x:PbC):Bool:=!(x.p.num==n)
def endP (x:PbC):Tm:=(x.p.til,x.p.num)
def EndsP (l:List PbC) (r:List Tm):Prop:=r.Perm (l.map endP)
theorem set_permP (r:List Tm) (id a:Int):(setT r id a).Perm ((a,id) :: stopT r id):=by
 unfold setT;refine List.perm_middle.trans ?_
 rw [List.takeWhile_append_dropWhile]
theorem ends_stopP {l:List PbC} {r:List Tm} (hE:EndsP l r) (id:Int):EndsP (l.filter (notN id)) (stopT r id):=by
 unfold EndsP stopT;refine (hE.filter _).trans ?_
 rw [List.filter_map];refine List.Perm.of_eq ?_
 congr 1
theorem ends_newP {l:List PbC} {r:List Tm} (hE:EndsP l r) {x:PbC} (hno:∀ y ∈ l,y.p.num ≠ x.p.num):EndsP (l++[x]) (setT r x.p.num x.p.til):=by
 have h1:=ends_stopP hE x.p.num;rw [show l.filter (notN x.p.num)=l from List.filter_eq_self.2 fun y hy=>by have:=hno y hy; simp [notN,this]] at h1;unfold EndsP at *;refine (set_permP r x.p.num x.p.til).trans ?_
 rw [List.map_append];exact (List.Perm.cons _ h1).trans (List.perm_append_comm (l₁:=[endP x]) (l₂:=l.map endP))
theorem set_midP {l:List PbC} {k:Nat} (hk:k < l.length) (x:PbC):l.set k x=l.take k++[x]++l.drop (k+1):=by
 rw [List.set_eq_take_append_cons_drop,if_pos hk,List.append_assoc]; rfl
theorem ends_putP {l:List PbC} {r:List Tm} (hE:EndsP l r) {k:Nat} (hk:k < l.length) (hw:l.filter (notN l[k].p.num)=l.take k++l.drop (k+1)) {x:PbC} (he:x.p.num=l[k].p.num):EndsP (l.set k x) (setT r x.p.num x.p.til):=by
 have h1:=ends_stopP hE l[k].p.num;rw [hw,← he] at h1;unfold EndsP at *;refine (set_permP r x.p.num x.p.til).trans ?_
 rw [set_midP hk,List.append_assoc,List.map_append,List.map_append];refine (List.Perm.cons _ h1).trans ?_
 rw [List.map_append];exact List.perm_middle.symm
theorem perm_putP {l:List PbC} {k:Nat} (hk:k < l.length) (hw:l.filter (notN l[k].p.num)=l.take k++l.drop (k+1)) (x:PbC):(l.set k x).Perm (l.filter (notN l[k].p.num)++[x]):=by
 rw [hw,set_midP hk,List.append_assoc,List.append_assoc];refine List.Perm.append_left _ ?_
 exact List.perm_append_comm (l₁:=[x]) (l₂:=l.drop (k+1))
end Go.Proofs.YtbmjodlbkgblpaaGreatDoor
namespace Go.Proofs.YtbmjodlbkgblpaaGreatDoor
open Go.RowKit Go.Maps Go.WideMaps Sc
def numP:Value → Option (DataW Unit × List MemPlace)
 | .int .i64 n=>some (.lit (.int .i64 n),[])
 | _=>none
def sBp (s:ByteArray):DataW Unit:=.lit (.string s.data.toList)
def iBp (n:Int):DataW Unit:=.lit (.int .i64 n)
def sLp (l:List UInt8):DataW Unit:=.lit (.string l)
def slDp:Value → DataW Unit
 | .slice none n c=>.agg [.nil,iBp n,iBp c]
 | .slice (some ⟨b,o,none⟩) n c=>.agg [.agg [iBp b,iBp o],iBp n,iBp c]
 | _=>.nil
def SlF (v:Value):Prop:=(∃ n c,v=.slice none n c)∨∃ g n c,v=.slice (some ⟨g,0,none⟩) n c
def pbE:Value → Option (DataW Unit × List MemPlace)
 | .agg cs=>match cs.toList with
  | [.int .i64 n,.string a,.string b,.int .i64 t,.string e,.slice x xn xc,.slice y yn yc]=>some (.agg [iBp n,sBp a,sBp b,iBp t,sBp e,slDp (.slice x xn xc),slDp (.slice y yn yc)],[])
  | _=>none
 | _=>none
def pbD (c:PbC):DataW Unit:=.agg [iBp c.p.num,sLp c.p.who,sLp c.p.tag,iBp c.p.til,sLp c.p.doc.entity,slDp c.ts,slDp c.ns]
theorem numP_inv {v:Value} {n:Int} {ps:List MemPlace} (h:numP v=some (.lit (.int .i64 n),ps)):v=.int .i64 n:=by
 unfold numP at h
 split at h
 ·simp at h; rw [h.1]
 ·cases h
theorem strp_inv {s:ByteArray} {l:List UInt8} (h:sBp s=sLp l):s=⟨l.toArray⟩:=by
 unfold sBp sLp at h
 simp at h
 apply ByteArray.ext
 rw [← h]
theorem intp_inv {a b:Int} (h:iBp a=iBp b):a=b:=by
 unfold iBp at h
 simpa using h
theorem slDp_inv {x:Option Addr} {n c:Nat} {v:Value} (h:slDp (.slice x n c)=slDp v) (hv:SlF v):Value.slice x n c=v:=by
 rcases hv with ⟨m,d,rfl⟩ | ⟨g,m,d,rfl⟩
 ·cases x with
  | none =>
   simp only [slDp,DataW.agg.injEq,List.cons.injEq,and_true,true_and] at h;have h1:=intp_inv h.1;have h2:=intp_inv h.2;have e1:n=m:=by omega
   have e2:c=d:=by omega
   rw [e1,e2]
  | some a =>
   obtain ⟨ab,ao,ap⟩:=a
   cases ap <;> simp [slDp] at h
 ·cases x with
  | none=>simp [slDp] at h
  | some a =>
   obtain ⟨ab,ao,ap⟩:=a
   cases ap with
   | some p=>simp [slDp] at h
   | none =>
    simp only [slDp,DataW.agg.injEq,List.cons.injEq,and_true] at h;have h1:=intp_inv h.1.1;have h2:=intp_inv h.1.2;have h3:=intp_inv h.2.1;have h4:=intp_inv h.2.2;have e1:ab=g:=by omega
    have e2:ao=0:=by omega
    have e3:n=m:=by omega
    have e4:c=d:=by omega
    rw [e1,e2,e3,e4]
theorem pbE_mk {c:PbC} (h:SlF c.ts∧SlF c.ns):pbE (pbV c)=some (pbD c,[]):=by
 obtain ⟨⟨n,who,tag,til,en,tl,nl⟩,ts,ns⟩:=c;obtain ⟨h1,h2⟩:=h;simp only at h1 h2
 rcases h1 with ⟨_,_,rfl⟩ | ⟨_,_,_,rfl⟩ <;> rcases h2 with ⟨_,_,rfl⟩ | ⟨_,_,_,rfl⟩ <;> simp [pbE,pbV,pbD,sBp,sLp]
theorem pbE_inv {v:Value} {c:PbC} {ps:List MemPlace} (h:pbE v=some (pbD c,ps)) (hc:SlF c.ts∧SlF c.ns):v=pbV c:=by
 unfold pbE at h
 split at h
 ·rename_i cs
  split at h
  ·rename_i n a b t e x xn xc y yn yc hcs
   have h1:=(Prod.mk.inj (Option.some.inj h)).1;unfold pbD at h1
   injection h1 with h1
   injection h1 with e1 h1
   injection h1 with e2 h1
   injection h1 with e3 h1
   injection h1 with e4 h1
   injection h1 with e5 h1
   injection h1 with e6 h1
   injection h1 with e7 h1
   have:cs=#[.int .i64 n,.string a,.string b,.int .i64 t,.string e,.slice x xn xc,.slice y yn yc]:=by rw [← hcs]
   unfold pbV;rw [this,intp_inv e1,strp_inv e2,strp_inv e3,intp_inv e4,strp_inv e5,slDp_inv e6 hc.1,slDp_inv e7 hc.2]
  ·cases h
 ·cases h
theorem pbE_some {v:Value} {y:DataW Unit × List MemPlace} (h:pbE v=some y):∃ (n t:Int) (a b e:ByteArray) (x z:Option Addr) (xn xc zn zc:Nat),v=.agg #[.int .i64 n,.string a,.string b,.int .i64 t,.string e,.slice x xn xc,.slice z zn zc]:=by
 unfold pbE at h
 split at h
 ·rename_i cs
  split at h
  ·rename_i n a b t e x xn xc y yn yc hcs
   exact ⟨n,t,a,b,e,x,y,xn,xc,yn,yc,by rw [← hcs]⟩
  ·cases h
 ·cases h
def zeroP:PbC:=⟨⟨0,[],[],0,⟨[],[],[]⟩⟩,.slice none 0 0,.slice none 0 0⟩
end Go.Proofs.YtbmjodlbkgblpaaGreatDoor
