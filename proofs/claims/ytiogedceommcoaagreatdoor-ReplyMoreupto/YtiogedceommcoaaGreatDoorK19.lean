/-
  ReplyL, WReplyMore0, WReplyMore.
-/
import Derived.Test.YtiogedceommcoaaGreatDoorK12
import Derived.Test.YtiogedceommcoaaGreatDoorK30
import Derived.Test.YtiogedceommcoaaGreatDoorK41
set_option linter.unusedVariables false
set_option linter.unusedSimpArgs false
set_option maxRecDepth 20000
namespace Go.Proofs.YtiogedceommcoaaGreatDoor
open Go.RowKit Sc
def KeepR (a b:Rq):Prop:=b.method=a.method∧b.branch=a.branch∧b.callID=a.callID∧b.seq=a.seq∧b.fromTag=a.fromTag∧b.toTag=a.toTag∧b.body=a.body
theorem KeepR.trans {a b c:Rq} (h:KeepR a b) (k:KeepR b c):KeepR a c:=by
 obtain ⟨h1,h2,h3,h4,h5,h6,h7⟩:=h;obtain ⟨k1,k2,k3,k4,k5,k6,k7⟩:=k;exact ⟨k1.trans h1,k2.trans h2,k3.trans h3,k4.trans h4,k5.trans h5,k6.trans h6,k7.trans h7⟩
theorem keep_exp (m:Ms) (r:Rq):KeepR r (fExpV m r).1:=by unfold fExpV; split <;> exact ⟨rfl,rfl,rfl,rfl,rfl,rfl,rfl⟩
theorem keep_evt (m:Ms) (r:Rq):KeepR r (fEvtV m r).1:=by unfold fEvtV; split <;> exact ⟨rfl,rfl,rfl,rfl,rfl,rfl,rfl⟩
theorem keep_con (m:Ms) (r:Rq):KeepR r (fConV m r).1:=by unfold fConV; split <;> exact ⟨rfl,rfl,rfl,rfl,rfl,rfl,rfl⟩
theorem keep_typ (m:Ms) (r:Rq):KeepR r (fTypV m r).1:=by unfold fTypV; split <;> exact ⟨rfl,rfl,rfl,rfl,rfl,rfl,rfl⟩
theorem keep_mat (m:Ms) (r:Rq):KeepR r (fMatV m r).1:=by unfold fMatV; split <;> exact ⟨rfl,rfl,rfl,rfl,rfl,rfl,rfl⟩
theorem keep_then {a:Rq} {x:Rq × Int} {f:Rq → Rq × Int} (h:KeepR a x.1) (hf:∀ r,KeepR r (f r).1):KeepR a (thenV x f).1:=by
 unfold thenV
 split
 ·exact h
 ·exact h.trans (hf _)
theorem keep_fields (m:Ms) (r:Rq):KeepR r (fieldsR m r).1:=keep_then (keep_then (keep_then (keep_then (keep_exp m r) (keep_evt m)) (keep_con m)) (keep_typ m)) (keep_mat m)
theorem read_more {m:Ms} (h:(rreadV m).2=0):(baseV m).2=0∧KeepR (baseV m).1 (rreadV m).1∧(rreadV m).1.fromTag ≠ []∧(rreadV m).1.body=m.body∧(rreadV m).1.method=m.method:=by
 unfold rreadV at h ⊢
 split at h
 ·rename_i h1; exact absurd h h1
 ·split at h
  ·rename_i h2; exact absurd h h2
  ·split at h
   ·simp at h
   ·split at h
    ·rename_i h4; exact absurd h h4
    ·split at h
     ·rename_i h5; exact absurd h h5
     ·split at h
      ·simp at h
      ·rename_i a1 a2 a3 a4 a5 a6
       rw [if_neg a1,if_neg a2,if_neg a3,if_neg a4,if_neg a5,if_neg a6];have hb:(baseV m).2=0:=by
        apply Classical.byContradiction
        exact a1
       have k:=keep_fields m (baseV m).1;obtain ⟨k1,k2,k3,k4,k5,k6,k7⟩:=k;obtain ⟨e,_⟩:=base_ok hb;refine ⟨hb,⟨k1,k2,k3,k4,k5,k6,k7⟩,?_,?_,?_⟩
       ·simp only
        rw [k5]; exact a3
       ·simp only
        rw [k7,e]; rfl
       ·simp only
        rw [k1,e]; rfl
theorem read_bad (m:Ms):(rreadV m).2 ≠ 0 → (rreadV m).1=noR:=by
 intro h;unfold rreadV at h ⊢
 repeat' split
 all_goals first | rfl | skip
 all_goals simp_all
theorem numL_range {most:Int}:∀ (l:List UInt8) (n v:Int),allB 1 l=true → 0≤n → n≤most → numL most n l=some v → 0≤v∧v≤most
 | [],n,v,_,h0,h1,h=>by
  simp [numL] at h
  omega
 | b :: r,n,v,ha,h0,h1,h=>by
  rw [numL] at h
  split at h
  ·cases h
  ·rename_i hx
   have hb:=u8_bd b;have ha2:=List.all_eq_true.1 ha;have h3:=ha2 b (by simp);rw [isB_digit _ hb.1 hb.2] at h3;have h4:48≤(b.toNat:Int)∧(b.toNat:Int)≤57:=by simpa using h3
   exact numL_range r _ v (List.all_eq_true.2 fun x hx=>ha2 x (by simp [hx])) (by omega) (by omega) h
theorem numV_range {most:Int} (hm:0≤most) {l:List UInt8} (h:(numV most l).2=0):0≤(numV most l).1∧(numV most l).1≤most:=by
 unfold numV at h ⊢
 split at h
 ·simp at h
 ·rename_i hx
  rw [if_neg hx];have ha:allB 1 l=true:=by
   cases e:allB 1 l with
   | true=>rfl
   | false=>exact absurd (Or.inr e) hx
  cases e:numL most 0 l with
  | none=>rw [e] at h; simp at h
  | some v=>exact numL_range l 0 v ha (Int.le_refl _) hm e
theorem seq_range {s:List UInt8} (h:(seqV s).2.2=0):0≤(seqV s).1∧(seqV s).1≤2147483647:=by
 unfold seqV at h ⊢
 split at h
 ·simp at h
 ·rename_i hx
  rw [if_neg hx];exact numV_range (most:=maxS) (by decide) (Classical.byContradiction fun e=>hx (Or.inl e))
theorem base_seq (m:Ms):(baseV m).2=0 → 0≤(baseV m).1.seq∧(baseV m).1.seq≤2147483647:=by
 intro h;obtain ⟨e,_,h3⟩:=base_ok h;rw [e];exact seq_range h3
set_option maxHeartbeats 8000000 in
set_option maxRecDepth 100000 in
theorem replyMore_of (hC:∀ (m:Ms) (h:Value) (w:World),SmallM 1048576 m → m.headers.length≤1048576 → HdrsAt w h m.headers → sumQ m≤6000 → Calls Tryz.prog 13 #[msgV m h] w fun e w'=>ReadRes (rreadV m) w' e∧Below w.heap.size w w')
  (hB:∀ (m:Ms) (h:Value) (w:World),SmallM 1048576 m → m.headers.length≤1048576 → HdrsAt w h m.headers → sumQ m≤6000 → Calls Tryz.prog 10 #[msgV m h] w fun e w'=>ReadRes (baseV m) w' e∧Below w.heap.size w w')
  (hW:∀ w:World,Calls Tryz.prog 9 #[] w fun e w'=>e=.returned (.bool true)∧Below w.heap.size w w')
  (m:Ms) (h:Value) (w:World) (hsm:SmallM 1048576 m) (hhl:m.headers.length≤1048576) (hat:HdrsAt w h m.headers) :
  Calls Tryz.prog 7 #[msgV m h] w fun e w'=>e=.returned (.bool true)∧Below w.heap.size w w':=by
 have hz:=zeroR0;have KS:=hid (fun w' (hb:Below w.heap.size w w')=>lsmall10 m h w' hsm hhl (hat.below hb));have KC:=hid (fun (hq:sumQ m≤6000) w' (hb:Below w.heap.size w w')=>hC m h w' hsm hhl (hat.below hb) hq);have KD:=hid (fun (hq:sumQ m≤6000) w' (hb:Below w.heap.size w w')=>hB m h w' hsm hhl (hat.below hb) hq);have KW:=hid hW;have HM1:=hid (@read_more m);have HM2:=hid (read_bad m);have HM3:=hid (base_seq m);have HBX:=hid (boxM_new w m h);have hb0:Below w.heap.size w (w.alloc (objM m h)):=(Below.refl _ w).alloc (Nat.le_refl _) _;have hl0:=alloc_lt w (objM m h);obtain ⟨ao,cap,hh0⟩:=hat.form;subst hh0;generalize rreadV m=R at KC HM1 HM2;generalize baseV m=Q at KD HM1 HM3;clear hsm hhl hat hC hB hW;obtain ⟨me,ta,st,re,hs,bo⟩:=m;unfold msgV at KS KC KD ⊢;unfold objM at HBX hb0 hl0;simp only at KS KC KD HBX hb0 hl0 ⊢;simp only at HM1;generalize sumQ _=S at KS KC KD;obtain ⟨x0,x1,x2,x3,x4,x5⟩:=HBX.out;simp only at x0 x1 x2 x3 x4 x5
 go_enter Tryz.func7,Tryz.ntmps7
 go_wp2_with fail
 refine (KS.out _ hb0).mono ?_
 rintro e w1 ⟨rfl,hw1⟩;have hb1:=hb0.trans (hw1.mono hb0.size);have HB1:=hid (HBX.out.below hw1 hl0);have hl1:=Nat.lt_of_lt_of_le hl0 hw1.size;clear x0 x1 x2 x3 x4 x5 HBX hw1 hb0 hl0 KS;by_cases hq:S≤6000
 case neg =>
  have hqd:decide (S≤6000)=false:=decide_eq_false hq;rw [hqd];clear KC KD HB1;go_wp2_with fail
  refine (KW.out _).mono ?_
  rintro e w2 ⟨rfl,hw2⟩;go_wp2;go_ret;exact ⟨rfl,hb1.trans (hw2.mono hb1.size)⟩
 have hqd:decide (S≤6000)=true:=decide_eq_true hq;rw [hqd];replace KC:=hid (KC.out hq);replace KD:=hid (KD.out hq);obtain ⟨x0,x1,x2,x3,x4,x5⟩:=HB1.out;simp only at x0 x1 x2 x3 x4 x5;go_wp2_with fail
 refine (KC.out _ hb1).mono ?_
 rintro e w2 ⟨⟨c,hcr,rfl,hca,hcs⟩,hw2⟩;have hnw:(w2.alloc (.cells rq0 37)).heap[w2.heap.size]? = some (.cells rq0 37 (0,0)):=by rw [heap_alloc_new]
 unfold rqV;obtain ⟨CA,hCA⟩:∃ a,a=(rqCells c).toArray:=⟨_,rfl⟩
 rw [← hCA];have hone:CA.all (·.oneCell')=true:=by rw [hCA]; exact oneR hcs
 have hinf:(Tryz.prog.info? 37).map (·.size)=some CA.size:=by rw [hCA]; exact infoR
 have hsz:rq0.size=CA.size:=by rw [hCA]; rfl
 have A3:=(Below.refl _ w2).alloc (Nat.le_refl _) (.cells CA 37);have hb3:=hb1.trans ((hw2.trans (A3.mono hw2.size)).mono hb1.size);have hl3b:w.heap.size < (w2.alloc (.cells CA 37)).heap.size:=Nat.lt_of_lt_of_le hl1 (Nat.le_trans hw2.size (by simp));have HB3:=hid ((HB1.out.below hw2 hl1).below A3 (Nat.lt_of_lt_of_le hl1 hw2.size));have HA3:=hid (hca.below A3);have R3:Hid ((w2.alloc (.cells CA 37)).heap[w2.heap.size]? = some (.cells CA 37 (0,0))):=show _=_ by rw [heap_alloc_new]
 have hl3:w2.heap.size < (w2.alloc (.cells CA 37)).heap.size:=by simp
 have HCA:=hid hCA;clear x0 x1 x2 x3 x4 x5 HB1 hb1 hw2 A3 hca hCA KC;obtain ⟨x0,x1,x2,x3,x4,x5⟩:=HB3.out;simp only at x0 x1 x2 x3 x4 x5;go_wp2_with (refine wpList_store_row rfl 37 (.tmp 3) _ rfl w2.heap.size CA rfl rfl _ _ hnw hinf hsz hone ?_; rw [World.setRow_alloc_new])
 refine (KD.out _ hb3).mono ?_
 rintro e w4 ⟨⟨c',hcr',rfl,hca',hcs'⟩,hw4⟩;have hnw':(w4.alloc (.cells rq0 37)).heap[w4.heap.size]? = some (.cells rq0 37 (0,0)):=by rw [heap_alloc_new]
 unfold rqV;obtain ⟨CB,hCB⟩:∃ a,a=(rqCells c').toArray:=⟨_,rfl⟩
 rw [← hCB];have hone':CB.all (·.oneCell')=true:=by rw [hCB]; exact oneR hcs'
 have hinf':(Tryz.prog.info? 37).map (·.size)=some CB.size:=by rw [hCB]; exact infoR
 have hsz':rq0.size=CB.size:=by rw [hCB]; rfl
 have A5:=(Below.refl _ w4).alloc (Nat.le_refl _) (.cells CB 37);have hb5:=hid (hb3.trans ((hw4.trans (A5.mono hw4.size)).mono hb3.size));have R5:(w4.alloc (.cells CB 37)).heap[w2.heap.size]? = some (.cells CA 37 (0,0)):=by rw [A5.block _ (Nat.lt_of_lt_of_le hl3 hw4.size),hw4.block _ hl3]; exact R3.out
 have R5':(w4.alloc (.cells CB 37)).heap[w4.heap.size]? = some (.cells CB 37 (0,0)):=by rw [heap_alloc_new]
 have hr1:RowIs (w4.alloc (.cells CB 37)) w2.heap.size 37 (rqCells c):=by unfold RowIs; rw [← HCA.out]; exact R5
 have hr2:RowIs (w4.alloc (.cells CB 37)) w4.heap.size 37 (rqCells c'):=by unfold RowIs; rw [← hCB]; exact R5'
 have B5:=hid ((HB3.out.below hw4 hl3b).below A5 (Nat.lt_of_lt_of_le hl3b hw4.size));by_cases he:R.2=0
 case neg =>
  have hne:(R.2 != 0)=true:=by simpa using he
  have y0:(w4.alloc (.cells CB 37)).cell? ⟨w2.heap.size,0,none⟩=some (.string ⟨#[]⟩):=by
   have:=hr1.cell 0 (by rw [rq_len]; decide)
   rw [this]
   show some (txt c.r.method)=_
   rw [hcr,HM2.out he]
   rfl
  clear x0 x1 x2 x3 x4 x5 HB3 hb3 hw4 A5 hca' hCB HA3 R3 hl3 HCA hnw KD hcs hcs' hcr hcr' R5 R5' hr1 hr2 B5 HM1 HM2 HM3;go_wp2_with (first
   | (refine wpList_store_row rfl 37 (.tmp 5) _ rfl w4.heap.size CB rfl rfl _ _ hnw' hinf' hsz' hone' ?_; rw [World.setRow_alloc_new])
   | (go_at_call 9; refine (KW.out _).mono ?_; rintro e w7 ⟨rfl,hw7⟩))
  go_ret;exact ⟨rfl,hb5.out.trans (hw7.mono hb5.out.size)⟩
 obtain ⟨q0,⟨k1,k2,k3,k4,k5,k6,k7⟩,q1,q2,q3⟩:=HM1.out he;obtain ⟨s1,s2⟩:=HM3.out q0;have gy0:(w4.alloc (.cells CB 37)).cell? ⟨w2.heap.size,0,none⟩=some (.string ⟨R.1.method.toArray⟩):=by rw [← hcr]; exact hr1.cell 0 (by rw [rq_len]; decide)
 have gy7:(w4.alloc (.cells CB 37)).cell? ⟨w2.heap.size,7,none⟩=some (.string ⟨R.1.branch.toArray⟩):=by rw [← hcr]; exact hr1.cell 7 (by rw [rq_len]; decide)
 have gy25:(w4.alloc (.cells CB 37)).cell? ⟨w2.heap.size,25,none⟩=some (.string ⟨R.1.fromTag.toArray⟩):=by rw [← hcr]; exact hr1.cell 25 (by rw [rq_len]; decide)
 have gy26:(w4.alloc (.cells CB 37)).cell? ⟨w2.heap.size,26,none⟩=some (.string ⟨R.1.toTag.toArray⟩):=by rw [← hcr]; exact hr1.cell 26 (by rw [rq_len]; decide)
 have gy27:(w4.alloc (.cells CB 37)).cell? ⟨w2.heap.size,27,none⟩=some (.string ⟨R.1.callID.toArray⟩):=by rw [← hcr]; exact hr1.cell 27 (by rw [rq_len]; decide)
 have gy28:(w4.alloc (.cells CB 37)).cell? ⟨w2.heap.size,28,none⟩=some (.int .i64 R.1.seq):=by rw [← hcr]; exact hr1.cell 28 (by rw [rq_len]; decide)
 have gy37:(w4.alloc (.cells CB 37)).cell? ⟨w2.heap.size,37,none⟩=some (.string ⟨R.1.body.toArray⟩):=by rw [← hcr]; exact hr1.cell 37 (by rw [rq_len]; decide)
 have ky0:(w4.alloc (.cells CB 37)).cell? ⟨w4.heap.size,0,none⟩=some (.string ⟨Q.1.method.toArray⟩):=by rw [← hcr']; exact hr2.cell 0 (by rw [rq_len]; decide)
 have ky7:(w4.alloc (.cells CB 37)).cell? ⟨w4.heap.size,7,none⟩=some (.string ⟨Q.1.branch.toArray⟩):=by rw [← hcr']; exact hr2.cell 7 (by rw [rq_len]; decide)
 have ky25:(w4.alloc (.cells CB 37)).cell? ⟨w4.heap.size,25,none⟩=some (.string ⟨Q.1.fromTag.toArray⟩):=by rw [← hcr']; exact hr2.cell 25 (by rw [rq_len]; decide)
 have ky26:(w4.alloc (.cells CB 37)).cell? ⟨w4.heap.size,26,none⟩=some (.string ⟨Q.1.toTag.toArray⟩):=by rw [← hcr']; exact hr2.cell 26 (by rw [rq_len]; decide)
 have ky27:(w4.alloc (.cells CB 37)).cell? ⟨w4.heap.size,27,none⟩=some (.string ⟨Q.1.callID.toArray⟩):=by rw [← hcr']; exact hr2.cell 27 (by rw [rq_len]; decide)
 have ky28:(w4.alloc (.cells CB 37)).cell? ⟨w4.heap.size,28,none⟩=some (.int .i64 Q.1.seq):=by rw [← hcr']; exact hr2.cell 28 (by rw [rq_len]; decide)
 have ky37:(w4.alloc (.cells CB 37)).cell? ⟨w4.heap.size,37,none⟩=some (.string ⟨Q.1.body.toArray⟩):=by rw [← hcr']; exact hr2.cell 37 (by rw [rq_len]; decide)
 obtain ⟨_,_,_,_,_,bx5⟩:=B5.out;simp only at bx5
 try simp only at q2
 rw [k1] at gy0;rw [k2] at gy7;rw [k3] at gy27;rw [k4] at gy28;rw [k5] at gy25 q1;rw [k6] at gy26;rw [q2] at gy37;have hne:(R.2 != 0)=false:=by simp [he]
 have hq0:(Q.2==0)=true:=by simp [q0]
 have hf1:(Q.1.fromTag != [])=true:=by simpa using q1
 have hf2:Q.1.fromTag.isEmpty=false:=by simpa using q1
 have hf3:(Q.1.fromTag==[])=false:=by simpa using q1
 have hd1:decide (0≤Q.1.seq)=true:=decide_eq_true s1;have hd2:decide (Q.1.seq≤2147483647)=true:=decide_eq_true s2;clear x0 x1 x2 x3 x4 x5 HB3 hb3 hw4 A5 hca' hCB HA3 R3 hl3 HCA hnw KD hcs hcs' hcr hcr' R5 R5' hr1 hr2 B5 HM1 HM2 HM3 k1 k2 k3 k4 k5 k6 k7 q2 q3;rw [he,q0];generalize Q.1.method=z1 at *;generalize Q.1.branch=z2 at *;generalize Q.1.fromTag=z3 at *;generalize Q.1.toTag=z4 at *;generalize Q.1.callID=z5 at *;generalize Q.1.seq=z6 at *;go_wp2_with (first
  | (refine wpList_store_row rfl 37 (.tmp 5) _ rfl w4.heap.size CB rfl rfl _ _ hnw' hinf' hsz' hone' ?_; rw [World.setRow_alloc_new])
  | (go_at_call 9; refine (KW.out _).mono ?_; rintro e w7 ⟨rfl,hw7⟩))
 go_ret;exact ⟨rfl,hb5.out.trans (hw7.mono hb5.out.size)⟩
end Go.Proofs.YtiogedceommcoaaGreatDoor
namespace Go.Proofs.YtiogedceommcoaaGreatDoor.replyMore
open Go.RowKit Sc
theorem law_walk (w:World) (v0:Value) (k0:MsgGot 1048576 w v0) :
  Calls Tryz.prog 7 #[v0] w fun e w'=>e=.returned (.bool true)∧Below w.heap.size w w':=by
 obtain ⟨m,h,rfl,hat,hsm,hcnt,_⟩:=k0;exact replyMore_of code_read (fun m h w a b c d=>code_base m h w a b c) awake10_any m h w hsm hsm.2.2.2.2.1 hat
end Go.Proofs.YtiogedceommcoaaGreatDoor.replyMore
