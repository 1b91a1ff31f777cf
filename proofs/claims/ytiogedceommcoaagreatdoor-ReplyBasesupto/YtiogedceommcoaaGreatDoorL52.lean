/-
  WReplyBases0, WReplyBases.
-/
import Derived.Test.YtiogedceommcoaaGreatDoorK29
import Derived.Test.YtiogedceommcoaaGreatDoorK30
import Derived.Test.YtiogedceommcoaaGreatDoorK41
import Derived.Test.YtiogedceommcoaaGreatDoorL48
set_option linter.unusedVariables false
set_option linter.unusedSimpArgs false
set_option maxRecDepth 20000
namespace Go.Proofs.YtiogedceommcoaaGreatDoor
open Go.RowKit Sc
theorem RqB.resReplyBases {R:Rq × Int} {B:Nat} {w':World} {e:Ending} (h:BaseRes R B w' e):ReadRes R w' e:=by
 obtain ⟨c,h1,h2,h3⟩:=h;exact ⟨c,h1,h2,h3.at,h3.sl⟩
set_option maxHeartbeats 8000000 in
set_option maxRecDepth 100000 in
theorem replyBases_of (hC:∀ (m:Ms) (h:Value) (w:World),SmallM 1048576 m → m.headers.length≤1048576 → HdrsAt w h m.headers → sumQ m≤6000 → Calls Tryz.prog 10 #[msgV m h] w fun e w'=>ReadRes (baseV m) w' e∧Below w.heap.size w w')
  (hW:∀ w:World,Calls Tryz.prog 9 #[] w fun e w'=>e=.returned (.bool true)∧Below w.heap.size w w')
  (m:Ms) (h:Value) (w:World) (hsm:SmallM 1048576 m) (hhl:m.headers.length≤1048576) (hat:HdrsAt w h m.headers) :
  Calls Tryz.prog 3 #[msgV m h] w fun e w'=>e=.returned (.bool true)∧Below w.heap.size w w':=by
 have hz:=zeroR0;have KS:=hid (fun w' (hb:Below w.heap.size w w')=>lsmall10 m h w' hsm hhl (hat.below hb));have KC:=hid (fun (hq:sumQ m≤6000) w' (hb:Below w.heap.size w w')=>hC m h w' hsm hhl (hat.below hb) hq);have KD:=hid (fun (hq:sumQ m≤6000) w' (hb:Below w.heap.size w w')=>(rbase_any m h w' hsm hhl (hat.below hb)).mono (fun e w'' (x:_∧Below w'.heap.size w' w'')=>(⟨RqB.resReplyBases x.1,x.2⟩:ReadRes (baseV m) w'' e∧Below w'.heap.size w' w'')));have KW:=hid hW;have HSR:=hid (fun (hq:sumQ m≤6000)=>small_base m);have HBX:=hid (boxM_new w m h);have hb0:Below w.heap.size w (w.alloc (objM m h)):=(Below.refl _ w).alloc (Nat.le_refl _) _;have hl0:=alloc_lt w (objM m h);obtain ⟨ao,cap,hh0⟩:=hat.form;subst hh0;generalize baseV m=R at KC KD HSR;clear hsm hhl hat hC hW;obtain ⟨me,ta,st,re,hs,bo⟩:=m;unfold msgV at KS KC KD ⊢;unfold objM at HBX hb0 hl0;simp only at KS KC KD HBX hb0 hl0 ⊢;generalize sumQ _=S at KS KC KD HSR;obtain ⟨x0,x1,x2,x3,x4,x5⟩:=HBX.out;simp only at x0 x1 x2 x3 x4 x5
 go_enter Tryz.func3,Tryz.ntmps3
 go_wp2_with fail
 refine (KS.out _ hb0).mono ?_
 rintro e w1 ⟨rfl,hw1⟩;have hb1:=hb0.trans (hw1.mono hb0.size);have HB1:=hid (HBX.out.below hw1 hl0);have hl1:=Nat.lt_of_lt_of_le hl0 hw1.size;clear x0 x1 x2 x3 x4 x5 HBX hw1 hb0 hl0 KS;by_cases hq:S≤6000
 case neg =>
  have hqd:decide (S≤6000)=false:=decide_eq_false hq;rw [hqd];clear KC KD HSR HB1;go_wp2_with fail
  refine (KW.out _).mono ?_
  rintro e w2 ⟨rfl,hw2⟩;go_wp2;go_ret;exact ⟨rfl,hb1.trans (hw2.mono hb1.size)⟩
 have hqd:decide (S≤6000)=true:=decide_eq_true hq;rw [hqd];replace KC:=hid (KC.out hq);replace KD:=hid (KD.out hq);replace HSR:=hid (HSR.out hq);obtain ⟨x0,x1,x2,x3,x4,x5⟩:=HB1.out;simp only at x0 x1 x2 x3 x4 x5;go_wp2_with fail
 refine (KC.out _ hb1).mono ?_
 rintro e w2 ⟨⟨c,hcr,rfl,hca,hcs⟩,hw2⟩;have hnw:(w2.alloc (.cells rq0 37)).heap[w2.heap.size]? = some (.cells rq0 37 (0,0)):=by rw [heap_alloc_new]
 unfold rqV;obtain ⟨CA,hCA⟩:∃ a,a=(rqCells c).toArray:=⟨_,rfl⟩
 rw [← hCA];have hone:CA.all (·.oneCell')=true:=by rw [hCA]; exact oneR hcs
 have hinf:(Tryz.prog.info? 37).map (·.size)=some CA.size:=by rw [hCA]; exact infoR
 have hsz:rq0.size=CA.size:=by rw [hCA]; rfl
 have A3:=(Below.refl _ w2).alloc (Nat.le_refl _) (.cells CA 37);have hb3:=hb1.trans ((hw2.trans (A3.mono hw2.size)).mono hb1.size);have HB3:=hid ((HB1.out.below hw2 hl1).below A3 (Nat.lt_of_lt_of_le hl1 hw2.size));have HA3:=hid (hca.below A3);have R3:Hid ((w2.alloc (.cells CA 37)).heap[w2.heap.size]? = some (.cells CA 37 (0,0))):=show _=_ by rw [heap_alloc_new]
 have hl3:w2.heap.size < (w2.alloc (.cells CA 37)).heap.size:=by simp
 have HCA:=hid hCA;clear x0 x1 x2 x3 x4 x5 HB1 hb1 hw2 A3 hca hCA KC;obtain ⟨x0,x1,x2,x3,x4,x5⟩:=HB3.out;simp only at x0 x1 x2 x3 x4 x5;go_wp2_with (refine wpList_store_row rfl 37 (.tmp 3) _ rfl w2.heap.size CA rfl rfl _ _ hnw hinf hsz hone ?_; rw [World.setRow_alloc_new])
 refine (KD.out _ hb3).mono ?_
 rintro e w4 ⟨⟨c',hcr',rfl,hca',hcs'⟩,hw4⟩;have hnw':(w4.alloc (.cells rq0 37)).heap[w4.heap.size]? = some (.cells rq0 37 (0,0)):=by rw [heap_alloc_new]
 unfold rqV;obtain ⟨CB,hCB⟩:∃ a,a=(rqCells c').toArray:=⟨_,rfl⟩
 rw [← hCB];have hone':CB.all (·.oneCell')=true:=by rw [hCB]; exact oneR hcs'
 have hinf':(Tryz.prog.info? 37).map (·.size)=some CB.size:=by rw [hCB]; exact infoR
 have hsz':rq0.size=CB.size:=by rw [hCB]; rfl
 have A5:=(Below.refl _ w4).alloc (Nat.le_refl _) (.cells CB 37);have hb5:=hid (hb3.trans ((hw4.trans (A5.mono hw4.size)).mono hb3.size));have R5:(w4.alloc (.cells CB 37)).heap[w2.heap.size]? = some (.cells CA 37 (0,0)):=by rw [A5.block _ (Nat.lt_of_lt_of_le hl3 hw4.size),hw4.block _ hl3]; exact R3.out
 have R5':(w4.alloc (.cells CB 37)).heap[w4.heap.size]? = some (.cells CB 37 (0,0)):=by rw [heap_alloc_new]
 have KM:=hid (rsame10_any c c' (w4.alloc (.cells CB 37)) (hcr'.trans hcr.symm) ((HA3.out.below hw4).below A5) (hca'.below A5) (by rw [hcr]; exact HSR.out));unfold rqV at KM;rw [← HCA.out,← hCB] at KM;have hee:(R.2==R.2)=true:=by simp
 clear x0 x1 x2 x3 x4 x5 HB3 hb3 hw4 A5 hca' hCB HA3 R3 hl3 HCA hnw KD HSR hcs hcs' hcr hcr';go_wp2_with (first
  | (refine wpList_store_row rfl 37 (.tmp 5) _ rfl w4.heap.size CB rfl rfl _ _ hnw' hinf' hsz' hone' ?_; rw [World.setRow_alloc_new])
  | (refine wpList_load_row rfl 37 (.tmp 3) rfl w2.heap.size rfl _ _ _ _ R5 Tryz.underlying37 rfl hinf ?_)
  | (refine wpList_load_row rfl 37 (.tmp 5) rfl w4.heap.size rfl _ _ _ _ R5' Tryz.underlying37 rfl hinf' ?_)
  | (go_at_call 12; refine KM.out.mono ?_; rintro e w6 ⟨rfl,hw6⟩)
  | (go_at_call 9; refine (KW.out _).mono ?_; rintro e w7 ⟨rfl,hw7⟩))
 go_ret;exact ⟨rfl,(hb5.out.trans (hw6.mono hb5.out.size)).trans (hw7.mono (Nat.le_trans hb5.out.size hw6.size))⟩
end Go.Proofs.YtiogedceommcoaaGreatDoor
namespace Go.Proofs.YtiogedceommcoaaGreatDoor.replyBases
open Go.RowKit Sc
theorem law_walk (w:World) (v0:Value) (k0:MsgGot 1048576 w v0) :
  Calls Tryz.prog 3 #[v0] w fun e w'=>e=.returned (.bool true)∧Below w.heap.size w w':=by
 obtain ⟨m,h,rfl,hat,hsm,hcnt,_⟩:=k0;exact replyBases_of (fun m h w a b c d=>code_base m h w a b c) awake10_any m h w hsm hsm.2.2.2.2.1 hat
end Go.Proofs.YtiogedceommcoaaGreatDoor.replyBases
