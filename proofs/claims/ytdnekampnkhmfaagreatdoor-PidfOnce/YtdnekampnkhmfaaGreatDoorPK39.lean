/-
  PR9, P14All.
-/
import Derived.Test.YtdnekampnkhmfaaGreatDoorPK38
set_option linter.unusedVariables false
set_option linter.unusedSimpArgs false
set_option maxRecDepth 20000
namespace Go.Proofs.YtdnekampnkhmfaaGreatDoor
open Go.RowKit Sc
set_option maxHeartbeats 1000000 in
set_option maxRecDepth 100000 in
theorem rtexts_same (v1 v2:Value) (ps:List (List UInt8)) (w:World) (h1:StrsAt w v1 ps) (h2:StrsAt w v2 ps) (hl:ps.length≤281474976710656) :
  Calls Tryz.prog 42 #[v1,v2] w fun e w'=>e=.returned (.bool true)∧∃ q,w'=w.drewN q:=by
 obtain ⟨a1,c1,rfl,k1⟩:=h1;obtain ⟨a2,c2,rfl,k2⟩:=h2;have K1:=hid k1;have K2:=hid k2;obtain ⟨n,hn⟩:∃ n,n=ps.length:=⟨_,rfl⟩
 rw [← hn] at hl ⊢;have HN:=hid hn;clear k1 k2 hn
 go_enter Tryz.func42,Tryz.ntmps42
 go_wp2
 go_loopw [5] (fun i wr=>∃ (k q:Nat),k≤n∧i=.int .i64 k∧wr=w.drewN q) (fun i _=>n - (intOf i).toNat)
 case atStart=>exact ⟨0,0,Nat.zero_le _,rfl,rfl⟩
 case round =>
  obtain ⟨k,q,hk,rfl,rfl⟩:=hrel;by_cases hlt:k < n
  ·obtain ⟨d1,rfl,_,f1⟩:=K1.out k (by have:=HN.out; omega);obtain ⟨d2,rfl,_,f2⟩:=K2.out k (by have:=HN.out; omega);have q6:(k:Int) < (n:Int):=by omega
   generalize ps[k]=P at f1 f2;clear K1 K2;go_wp2
   go_quiet (fail)
   go_wp2;go_roundw
   case rel=>exact ⟨k+1,q+nq,by omega,by go_num,by first | rfl | rw [World.drewN_drewN]⟩
   case measure=>simp [intOf]; omega
  ·have q6:¬ (k:Int) < (n:Int):=by omega
   go_wp2;go_ret;exact ⟨rfl,q,rfl⟩
set_option maxHeartbeats 2000000 in
set_option maxRecDepth 100000 in
theorem rsame14_any (d:Dc) (ts ns ts' ns':Value) (w:World) (hsm:SmallD 140737488355328 d) (h1:TusAt w ts d.tuples) (h2:StrsAt w ns d.notes) (h3:TusAt w ts' d.tuples) (h4:StrsAt w ns' d.notes) :
  Calls Tryz.prog 17 #[docV d ts ns,docV d ts' ns'] w fun e w'=>e=.returned (.bool true)∧Below w.heap.size w w':=by
 obtain ⟨en,tl,nl⟩:=d;simp only at h1 h2 h3 h4;have hz1:=hsm.tl;have hz2:=hsm.nl;simp only at hz1 hz2;unfold docV
 simp only
 have KT:=hid (fun w' (hb:Below w.heap.size w w')=>rtexts_same ns ns' nl w' (h2.below hb) (h4.below hb) (by omega));obtain ⟨ta,tc,rfl,htc⟩:=h1;obtain ⟨ta',tc',rfl,htc'⟩:=h3;obtain ⟨na,nc,rfl,_⟩:=h2;obtain ⟨na',nc',rfl,_⟩:=h4;have HTC:=hid htc;have HTC2:=hid htc';obtain ⟨tn,htn⟩:∃ tn,tn=tl.length:=⟨_,rfl⟩
 obtain ⟨nn,hnn⟩:∃ nn,nn=nl.length:=⟨_,rfl⟩
 rw [← htn] at hz1 ⊢;rw [← hnn] at hz2 KT ⊢;have HTN:=hid htn;clear htc htc' htn hnn hsm;have r1:=rc_row3 w (.string ⟨en.toArray⟩) (.slice ta tn tc) (.slice na nn nc) 25;have b1:Below w.heap.size w (w.alloc (.cells #[.string ⟨en.toArray⟩,.slice ta tn tc,.slice na nn nc] 25)):=(Below.refl _ w).alloc (Nat.le_refl _) _;have l1:=alloc_lt w (.cells #[.string ⟨en.toArray⟩,.slice ta tn tc,.slice na nn nc] 25);have s1:(w.alloc (.cells #[.string ⟨en.toArray⟩,.slice ta tn tc,.slice na nn nc] 25)).heap.size=w.heap.size+1:=by simp
 have hR:RowIs ((w.alloc (.cells #[.string ⟨en.toArray⟩,.slice ta tn tc,.slice na nn nc] 25)).alloc (.cells #[.string ⟨en.toArray⟩,.slice ta' tn tc',.slice na' nn nc'] 25)) w.heap.size 25 [.string ⟨en.toArray⟩,.slice ta tn tc,.slice na nn nc]:=r1.below ((Below.refl _ _).alloc (Nat.le_refl _) _) l1;have hR2:=rc_row3 (w.alloc (.cells #[.string ⟨en.toArray⟩,.slice ta tn tc,.slice na nn nc] 25)) (.string ⟨en.toArray⟩) (.slice ta' tn tc') (.slice na' nn nc') 25;rw [s1] at hR2;have hB:Below w.heap.size w ((w.alloc (.cells #[.string ⟨en.toArray⟩,.slice ta tn tc,.slice na nn nc] 25)).alloc (.cells #[.string ⟨en.toArray⟩,.slice ta' tn tc',.slice na' nn nc'] 25)):=b1.alloc b1.size _;obtain ⟨x0,x1,x2,_,_,_⟩:=hR.rc3;obtain ⟨y0,y1,y2,_,_,_⟩:=hR2.rc3;clear r1 b1 l1 s1 hR hR2
 go_enter Tryz.func17,Tryz.ntmps17
 go_wp2_with fail
 generalize World.alloc (World.alloc w _) _=W at x0 x1 x2 y0 y1 y2 hB ⊢;refine (KT.out _ hB).mono ?_
 rintro e w1 ⟨rfl,q0,rfl⟩;go_wp2
 go_loopw [5] (fun i wr=>∃ (k q:Nat),k≤tn∧i=.int .i64 k∧wr=W.drewN q) (fun i _=>tn - (intOf i).toNat)
 case atStart=>exact ⟨0,q0,Nat.zero_le _,rfl,rfl⟩
 case round =>
  obtain ⟨k,q,hk,rfl,rfl⟩:=hrel;by_cases hlt:k < tn
  ·obtain ⟨d1,rfl,m1,f⟩:=HTC.out k (by have:=HTN.out; omega);obtain ⟨d2,rfl,m2,g⟩:=HTC2.out k (by have:=HTN.out; omega);have f:=f.below hB m1;have g:=g.below hB m2;have q6:(k:Int) < (tn:Int):=by omega
   generalize tl[k]=P at f g;obtain ⟨p0,p1,p2,p3,p4⟩:=P;obtain ⟨f0,f1,f2,f3,f4⟩:=f;obtain ⟨g0,g1,g2,g3,g4⟩:=g;simp only at f0 f1 f2 f3 f4 g0 g1 g2 g3 g4;have e0:(p0==p0)=true:=by simp
   have e2:(p2==p2)=true:=by simp
   have e3:(p3==p3)=true:=by simp
   have e4:(p4==p4)=true:=by simp
   clear HTC HTC2;go_wp2
   go_quiet (fail)
   go_wp2;go_roundw
   case rel=>exact ⟨k+1,q+nq,by omega,by go_num,by first | rfl | rw [World.drewN_drewN]⟩
   case measure=>simp [intOf]; omega
  ·have q6:¬ (k:Int) < (tn:Int):=by omega
   go_wp2;go_ret;exact ⟨rfl,hB.trans (below_drewN W q |>.mono hB.size)⟩
structure DocAt (w:World) (d:Dc) (ts ns:Value):Prop where
 t:TusAt w ts d.tuples
 n:StrsAt w ns d.notes
 c:CapTu ts
theorem DocAt.below {w w':World} {d:Dc} {ts ns:Value} (h:DocAt w d ts ns) (hb:Below w.heap.size w w'):DocAt w' d ts ns:=⟨h.t.below hb,h.n.below hb,h.c⟩
theorem DocAt.alloc {w:World} {d:Dc} {ts ns:Value} (h:DocAt w d ts ns) (o:Obj):DocAt (w.alloc o) d ts ns:=h.below ((Below.refl _ w).alloc (Nat.le_refl _) o)
theorem DcP.forms {R:Dc × Int} {w:World} {e:Ending} {w':World} (h:DcP R w e w'):∃ ta tk na nk,e=.returned (.tuple #[.agg #[.string ⟨R.1.entity.toArray⟩,.slice ta R.1.tuples.length tk,.slice na R.1.notes.length nk],.int .i64 R.2])∧DocAt w' R.1 (.slice ta R.1.tuples.length tk) (.slice na R.1.notes.length nk)∧Below w.heap.size w w':=by
 obtain ⟨ts,ns,rfl,h1,h2,h3⟩:=h;have hc:=ownT_cap h1;have ht:=h1.tusAt;have hn:=own_strsAt h2;obtain ⟨ta,tk,rfl⟩:=h1.form;obtain ⟨na,nk,hnf⟩:=own_sform h2;rw [strs_length] at hnf;subst hnf;exact ⟨ta,tk,na,nk,rfl,⟨ht,hn,hc⟩,h3⟩
end Go.Proofs.YtdnekampnkhmfaaGreatDoor
