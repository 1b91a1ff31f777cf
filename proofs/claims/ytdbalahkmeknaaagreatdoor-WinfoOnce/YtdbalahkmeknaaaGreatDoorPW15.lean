/-
  RX9, RX10, WinfoM, RefHost.
-/
import Derived.Test.YtdbalahkmeknaaaGreatDoorPW17
import Derived.Test.YtdbalahkmeknaaaGreatDoorPW10
set_option linter.unusedVariables false
set_option linter.unusedSimpArgs false
set_option maxRecDepth 20000
namespace Go.Proofs.YtdbalahkmeknaaaGreatDoor
open Go.RowKit Sc
theorem trimX_list (l:List UInt8) (w:World) (h:l.length≤140737488355328) :
  Calls Tryz.prog 83 #[.string ⟨l.toArray⟩] w fun e w'=>e=.returned (.string ⟨(xtrim l).toArray⟩)∧w'=w:=rtrimX_any ⟨l.toArray⟩ w (by rw [size_list]; exact h)
theorem box4 (wr:World) (v0 v1 v2 v3:Value) (t:TypeId):RowC4 (wr.alloc (.cells #[v0,v1,v2,v3] t)) wr.heap.size v0 v1 v2 v3:=(rc_row4 wr v0 v1 v2 v3 t).rc4
set_option maxHeartbeats 16000000 in
set_option maxRecDepth 100000 in
theorem rcheck13_any (v:Value) (cs:List NdC) (w:World) (hz:cs.length≤140737488355328) (hsm:∀ c ∈ cs,SmallN 140737488355328 c.nd) (hv:NdsAt w v cs) :
  Calls Tryz.prog 45 #[v] w fun e w'=>e=.returned (.int .i64 (checkX (ndsL cs)))∧Below w.heap.size w w':=by
 obtain ⟨ao,cap,rfl,hc⟩:=hv;have HC:=hid hc;have HS:=hid hsm;clear hc hsm;by_cases h0:cs.length < 1∨200 < cs.length
 ·have hR:=hid (chk_size h0);generalize checkX (ndsL cs)=R at hR ⊢;obtain ⟨n,hn⟩:∃ n,n=cs.length:=⟨_,rfl⟩
  rw [← hn] at h0 hz ⊢;clear HC HS hn;by_cases h1:n < 1
  ·have r1:(n:Int) < 1:=by omega
   have r1d:decide ((n:Int) < 1)=true:=decide_eq_true r1
   go_enter Tryz.func45,Tryz.ntmps45
   go_wp2;go_ret;exact ⟨ret_int hR.out.symm,Below.refl _ _⟩
  ·have r1:¬ (n:Int) < 1:=by omega
   have r1d:decide ((n:Int) < 1)=false:=decide_eq_false r1;have r2:(200:Int) < (n:Int):=by omega
   go_enter Tryz.func45,Tryz.ntmps45
   go_wp2;go_ret;exact ⟨ret_int hR.out.symm,Below.refl _ _⟩
 have hp:0 < cs.length:=by omega
 have h200:cs.length≤200:=by omega
 obtain ⟨ad,hao,hab,⟨z0,z1,z2,z3⟩,pz⟩:=HC.out 0 hp;subst hao;have HB:=hid (fun i (h:i < cs.length)=>@chk_bad cs i h);have HH:=hid (@chk_head cs hp);have HO:=hid (@chk_ok cs hp h200);generalize checkX (ndsL cs)=R at HB HH HO ⊢;obtain ⟨n,hn⟩:∃ n,n=cs.length:=⟨_,rfl⟩
 rw [← hn] at h200 hz ⊢;have HL:=hid hn;have r1:¬ (n:Int) < 1:=by omega
 have r1d:decide ((n:Int) < 1)=false:=decide_eq_false r1;have r2:¬ (200:Int) < (n:Int):=by omega
 have r2d:decide ((200:Int) < (n:Int))=false:=decide_eq_false r2;have r3:(0:Int) < (n:Int):=by omega
 clear hn h0 z1 z2 z3 pz;by_cases hdn:cs[0].nd.deep ≠ 0
 ·have hR:=hid (HH.out hdn);have r4:(cs[0].nd.deep==0)=false:=by simpa using hdn
  have r4n:(cs[0].nd.deep != 0)=true:=by simpa using hdn
  generalize cs[0].nd.deep=d0 at z0 r4 r4n;have z0':w.cell? ad=some (.int .i64 d0):=by simpa [Addr.add] using z0
  clear HC HS HB HH HO hdn
  go_enter Tryz.func45,Tryz.ntmps45
  go_wp2;go_ret;exact ⟨ret_int hR.out.symm,Below.refl _ _⟩
 have hd0:cs[0].nd.deep=0:=Classical.not_not.1 hdn;rw [hd0] at z0;have HO2:=hid (HO.out hd0);have z0':w.cell? ad=some (.int .i64 0):=by simpa [Addr.add] using z0
 clear HO HH
 go_enter Tryz.func45,Tryz.ntmps45
 go_wp2;clear z0 z0'
 go_loopw [3] (fun i wr=>∃ (j:Nat),j≤n∧i=.int .i64 j∧Below w.heap.size w wr∧Hid (∀ k (h:k < cs.length),k < j → okC cs k h)) (fun i _=>n - (intOf i).toNat)
 case atStart=>exact ⟨0,Nat.zero_le _,rfl,Below.refl _ _,fun k _ h=>absurd h (by omega)⟩
 case round =>
  obtain ⟨j,hjn,rfl,hb,ha⟩:=hrel;by_cases hlt:j < n
  ·have hj1:j < cs.length:=by have:=HL.out; omega
   obtain ⟨ad2,hao,hab2,c0,pa⟩:=HC.out j hj1;have ead:ad2=ad:=(Option.some.inj hao).symm;subst ead;obtain ⟨s1,s2,s3,s4⟩:=HS.out cs[j] (List.getElem_mem hj1);have c0:=c0.below hb hab2;have HBad:=hid (HB.out j hj1);have hok:okC cs j hj1=((0 < j → 1≤cs[j].nd.deep∧cs[j].nd.deep≤(cs[j - 1]'(by omega)).nd.deep+1)∧nodeOk cs[j].nd=true∧(∀ h2:j+1 < cs.length,cs[j].nd.deep < cs[j+1].nd.deep → cs[j].nd.text=[])):=rfl
   have HOk1:Hid ((0 < j → 1≤cs[j].nd.deep∧cs[j].nd.deep≤(cs[j - 1]'(by omega)).nd.deep+1) → nodeOk cs[j].nd=true → (∀ h2:j+1 < cs.length,cs[j].nd.deep < cs[j+1].nd.deep → cs[j].nd.text=[]) → ∀ k (h:k < cs.length),k < j+1 → okC cs k h):=fun a1 a2 a3 k h hk=>by
    by_cases hkj:k < j
    ·exact ha.out k h hkj
    ·have:k=j:=by omega
     subst this; exact ⟨a1,a2,a3⟩
   rw [hok] at HBad;obtain ⟨W0,hW0⟩:∃ W0,W0=wr.alloc (.cells #[.int .i64 cs[j].nd.deep,.string ⟨cs[j].nd.name.toArray⟩,cs[j].a,.string ⟨cs[j].nd.text.toArray⟩] 49):=⟨_,rfl⟩
   have hWb:Below w.heap.size w W0:=by rw [hW0]; exact hb.alloc hb.size _
   have hWr:Below wr.heap.size wr W0:=by rw [hW0]; exact (Below.refl _ wr).alloc (Nat.le_refl _) _
   have BX:RowC4 W0 wr.heap.size (.int .i64 cs[j].nd.deep) (.string ⟨cs[j].nd.name.toArray⟩) cs[j].a (.string ⟨cs[j].nd.text.toArray⟩):=by rw [hW0]; exact box4 _ _ _ _ _ _
   have hBW:Hid (∀ m,Below w.heap.size w (W0.drewN m)):=fun m=>hWb.trans (belowD _ _ _)
   have HX:Hid (∀ h:j+1 < n,∃ xd,W0.cell? (ad2.add ((j+1) * 4))=some (.int .i64 xd)∧xd=(cs[j+1]'(by have:=HL.out; omega)).nd.deep):=fun h=>by
    obtain ⟨ad3,hao3,hab3,c3,_⟩:=HC.out (j+1) (by have:=HL.out; omega)
    have:ad3=ad2:=(Option.some.inj hao3).symm
    subst this;exact ⟨_,(c3.below hWb hab2).c0,rfl⟩
   have HP:Hid ((h:0 < j) → ∃ pd,W0.cell? (ad2.add ((j - 1) * 4))=some (.int .i64 pd)∧pd=(cs[j - 1]'(by omega)).nd.deep∧0≤pd∧pd < 8):=fun h=>by
    obtain ⟨ad3,hao3,hab3,c3,_⟩:=HC.out (j - 1) (by omega)
    have:ad3=ad2:=(Option.some.inj hao3).symm
    subst this;have hk:=ha.out (j - 1) (by omega) (by omega);refine ⟨_,(c3.below hWb hab2).c0,rfl,?_,?_⟩
    ·by_cases h1:0 < j - 1
     ·have:=(hk.1 h1).1; omega
     ·have e:j - 1=0:=by omega
      have:(cs[j - 1]'(by omega)).nd.deep=0:=by simp only [e]; exact hd0
      omega
    ·exact (node_facts hk.2.1).1
   have KN:=hid (fun w'=>name_list cs[j].nd.name w' s1);have KS:=hid (fun w'=>signs_list cs[j].nd.text w' s2);have KT:=hid (fun w'=>trimX_list cs[j].nd.text w' s2);have KA:=hid (fun m=>rattrs_any cs[j].a cs[j].nd.attrs (W0.drewN m) s3 (pa.below (hBW.out m)));have s5:=i64_of s4;have hform:=pa.form;clear HC HS HB HO2 ha s1 s2 s3 s4 hok pa hWb hWr;generalize cs[j]=c at c0 HBad HOk1 hW0 BX KN KS KT KA s5 hform;obtain ⟨⟨cd,cn,ca,ct⟩,cv⟩:=c;simp only at c0 HBad HOk1 hW0 BX KN KS KT KA s5 hform;obtain ⟨pao,pcap,rfl⟩:=hform;obtain ⟨c0,c1,c2,c3⟩:=c0;simp only at c0 c1 c2 c3;have q6:(j:Int) < (n:Int):=by omega
   go_wp2;clear c0 c1 c2 c3;rw [← hW0];obtain ⟨b0,b1,b2,b3,_,_,_,_⟩:=BX;clear hW0;have hj2:((j:Int)+1).toNat=j+1:=by omega
   by_cases hj0:0 < j
   ·obtain ⟨pd,p0,hpd',hp1,hp2⟩:=HP.out hj0;have hpd:=hid hpd';clear hpd';have t0:(0:Int) < (j:Int):=by omega
    have t0d:decide ((0:Int) < (j:Int))=true:=decide_eq_true t0;have t5:((j - 1:Nat):Int) < (n:Int):=by omega
    have hwj:IntKind.i64.wrap ((j:Int) - 1)=((j - 1:Nat):Int):=by rw [IntKind.wrap_i64]; omega
    have hwp:IntKind.i64.wrap (pd+1)=pd+1:=by rw [IntKind.wrap_i64]; omega
    by_cases ht1:cd < 1
    ·have t1:decide (cd < 1)=true:=decide_eq_true ht1;have hR:=hid (HBad.out fun e=>absurd (e.1 hj0).1 (by omega));clear HBad HOk1 HX
     go_quiet (first | (go_at_call 80; exact Calls.quiet_of_same (KN.out _)) | (go_at_call 81; exact Calls.quiet_of (KA.out _)) | (go_at_call 82; exact Calls.quiet_of_same (KS.out _)) | (go_at_call 83; exact Calls.quiet_of_same (KT.out _)))
     go_wp2;go_ret;exact ⟨ret_int hR.out.symm,by first | exact hBW.out _ | (rw [World.drewN_drewN]; exact hBW.out _)⟩
    have t1:decide (cd < 1)=false:=decide_eq_false ht1;by_cases ht2:pd+1 < cd
    ·have t2:decide (pd+1 < cd)=true:=decide_eq_true ht2;have hR:=hid (HBad.out fun e=>absurd (e.1 hj0).2 (by rw [← hpd.out]; omega));clear HBad HOk1 HX
     go_quiet (first | (go_at_call 80; exact Calls.quiet_of_same (KN.out _)) | (go_at_call 81; exact Calls.quiet_of (KA.out _)) | (go_at_call 82; exact Calls.quiet_of_same (KS.out _)) | (go_at_call 83; exact Calls.quiet_of_same (KT.out _)))
     go_wp2;go_ret;exact ⟨ret_int hR.out.symm,by first | exact hBW.out _ | (rw [World.drewN_drewN]; exact hBW.out _)⟩
    have t2:decide (pd+1 < cd)=false:=decide_eq_false ht2;by_cases h8:8≤cd
    ·have r8:(8:Int)≤cd:=h8;have r8d:decide ((8:Int)≤cd)=true:=decide_eq_true h8;have hR:=hid (HBad.out fun e=>by have e2:=e.2.1; unfold nodeOk at e2; simp only at e2; simp at e2; omega);clear HBad HOk1 HX
     go_quiet (first | (go_at_call 80; exact Calls.quiet_of_same (KN.out _)) | (go_at_call 81; exact Calls.quiet_of (KA.out _)) | (go_at_call 82; exact Calls.quiet_of_same (KS.out _)) | (go_at_call 83; exact Calls.quiet_of_same (KT.out _)))
     go_wp2;go_ret;exact ⟨ret_int hR.out.symm,by first | exact hBW.out _ | (rw [World.drewN_drewN]; exact hBW.out _)⟩
    have r8:¬ (8:Int)≤cd:=h8;have r8d:decide ((8:Int)≤cd)=false:=decide_eq_false h8
    cases hnm:nameX cn with
    | false =>
     rw [hnm] at KN;have hR:=hid (HBad.out fun e=>by have e2:=e.2.1; unfold nodeOk at e2; simp only at e2; rw [hnm] at e2; simp at e2);clear HBad HOk1 HX
     go_quiet (first | (go_at_call 80; exact Calls.quiet_of_same (KN.out _)) | (go_at_call 81; exact Calls.quiet_of (KA.out _)) | (go_at_call 82; exact Calls.quiet_of_same (KS.out _)) | (go_at_call 83; exact Calls.quiet_of_same (KT.out _)))
     go_wp2;go_ret;exact ⟨ret_int hR.out.symm,by first | exact hBW.out _ | (rw [World.drewN_drewN]; exact hBW.out _)⟩
    | true =>
     rw [hnm] at KN
     cases hat:attrsOk ca with
     | false =>
      rw [hat] at KA;have hR:=hid (HBad.out fun e=>by have e2:=e.2.1; unfold nodeOk at e2; simp only at e2; rw [hat] at e2; simp at e2);clear HBad HOk1 HX
      go_quiet (first | (go_at_call 80; exact Calls.quiet_of_same (KN.out _)) | (go_at_call 81; exact Calls.quiet_of (KA.out _)) | (go_at_call 82; exact Calls.quiet_of_same (KS.out _)) | (go_at_call 83; exact Calls.quiet_of_same (KT.out _)))
      go_wp2;go_ret;exact ⟨ret_int hR.out.symm,by first | exact hBW.out _ | (rw [World.drewN_drewN]; exact hBW.out _)⟩
     | true =>
      rw [hat] at KA
      cases hsg:signsX ct with
      | false =>
       rw [hsg] at KS;have hR:=hid (HBad.out fun e=>by have e2:=e.2.1; unfold nodeOk at e2; simp only at e2; rw [hsg] at e2; simp at e2);clear HBad HOk1 HX
       go_quiet (first | (go_at_call 80; exact Calls.quiet_of_same (KN.out _)) | (go_at_call 81; exact Calls.quiet_of (KA.out _)) | (go_at_call 82; exact Calls.quiet_of_same (KS.out _)) | (go_at_call 83; exact Calls.quiet_of_same (KT.out _)))
       go_wp2;go_ret;exact ⟨ret_int hR.out.symm,by first | exact hBW.out _ | (rw [World.drewN_drewN]; exact hBW.out _)⟩
      | true =>
       rw [hsg] at KS;by_cases htr:xtrim ct=ct
       ·have r9:(xtrim ct==ct)=true:=by simp [htr]
        have r9n:(xtrim ct != ct)=false:=by simp [htr]
        have HOk2:=hid (HOk1.out (fun _=>⟨by omega,by rw [← hpd.out]; omega⟩) (by unfold nodeOk; simp only; rw [hnm,hat,hsg,decide_eq_true (by omega:cd < 8)]; simpa using htr));by_cases hn1:j+1 < n
        ·obtain ⟨xd,x0,hxd'⟩:=HX.out hn1;have hxd:=hid hxd';clear hxd';have q9:(j:Int)+1 < (n:Int):=by omega
         have q9d:decide ((j:Int)+1 < (n:Int))=true:=decide_eq_true q9;by_cases hgt:cd < xd
         ·have r5:decide (cd < xd)=true:=decide_eq_true hgt;by_cases hem:ct=[]
          ·subst hem;have hall:=hid (HOk2.out fun _ _=>rfl);clear HBad HOk1 HOk2 HX
           go_quiet (first | (go_at_call 80; exact Calls.quiet_of_same (KN.out _)) | (go_at_call 81; exact Calls.quiet_of (KA.out _)) | (go_at_call 82; exact Calls.quiet_of_same (KS.out _)) | (go_at_call 83; exact Calls.quiet_of_same (KT.out _)))
           go_wp2
           go_quiet (fail)
           go_wp2;go_roundw
           case rel=>exact ⟨j+1,by omega,by go_num,by first | exact hBW.out _ | (rw [World.drewN_drewN]; exact hBW.out _),hall⟩
           case measure=>simp [intOf]; omega
          ·have r6:(ct==([]:List UInt8))=false:=by simpa using hem
           have r6n:(ct != ([]:List UInt8))=true:=by simpa using hem
           have r6e:ct.isEmpty=false:=by cases ct with | nil=>exact absurd rfl hem | cons a b=>rfl
           have hR:=hid (HBad.out fun e=>hem (e.2.2 (by have:=HL.out; omega) (by rw [← hxd.out]; exact hgt)));clear HBad HOk1 HOk2 HX hxd
           go_quiet (first | (go_at_call 80; exact Calls.quiet_of_same (KN.out _)) | (go_at_call 81; exact Calls.quiet_of (KA.out _)) | (go_at_call 82; exact Calls.quiet_of_same (KS.out _)) | (go_at_call 83; exact Calls.quiet_of_same (KT.out _)))
           go_wp2
           go_quiet (fail)
           go_wp2;go_ret;exact ⟨ret_int hR.out.symm,by first | exact hBW.out _ | (rw [World.drewN_drewN]; exact hBW.out _)⟩
         ·have r5:decide (cd < xd)=false:=decide_eq_false hgt;have hall:=hid (HOk2.out fun h2 hlt=>absurd hlt (by rw [← hxd.out]; exact hgt));clear HBad HOk1 HOk2 HX hxd
          go_quiet (first | (go_at_call 80; exact Calls.quiet_of_same (KN.out _)) | (go_at_call 81; exact Calls.quiet_of (KA.out _)) | (go_at_call 82; exact Calls.quiet_of_same (KS.out _)) | (go_at_call 83; exact Calls.quiet_of_same (KT.out _)))
          go_wp2
          go_quiet (fail)
          go_wp2;go_roundw
          case rel=>exact ⟨j+1,by omega,by go_num,by first | exact hBW.out _ | (rw [World.drewN_drewN]; exact hBW.out _),hall⟩
          case measure=>simp [intOf]; omega
        ·have q9:¬ (j:Int)+1 < (n:Int):=by omega
         have q9d:decide ((j:Int)+1 < (n:Int))=false:=decide_eq_false q9;have hall:=hid (HOk2.out fun h2=>absurd h2 (by have:=HL.out; omega));clear HBad HOk1 HOk2 HX
         go_quiet (first | (go_at_call 80; exact Calls.quiet_of_same (KN.out _)) | (go_at_call 81; exact Calls.quiet_of (KA.out _)) | (go_at_call 82; exact Calls.quiet_of_same (KS.out _)) | (go_at_call 83; exact Calls.quiet_of_same (KT.out _)))
         go_wp2
         go_quiet (fail)
         go_wp2;go_roundw
         case rel=>exact ⟨j+1,by omega,by go_num,by first | exact hBW.out _ | (rw [World.drewN_drewN]; exact hBW.out _),hall⟩
         case measure=>simp [intOf]; omega
       ·have r9:(xtrim ct==ct)=false:=by simp [htr]
        have r9n:(xtrim ct != ct)=true:=by simp [htr]
        have hR:=hid (HBad.out fun e=>by have e2:=e.2.1; unfold nodeOk at e2; simp only at e2; rw [hnm,hat,hsg] at e2; simp at e2; exact htr e2.2);clear HBad HOk1 HX
        go_quiet (first | (go_at_call 80; exact Calls.quiet_of_same (KN.out _)) | (go_at_call 81; exact Calls.quiet_of (KA.out _)) | (go_at_call 82; exact Calls.quiet_of_same (KS.out _)) | (go_at_call 83; exact Calls.quiet_of_same (KT.out _)))
        go_wp2;go_ret;exact ⟨ret_int hR.out.symm,by first | exact hBW.out _ | (rw [World.drewN_drewN]; exact hBW.out _)⟩
   ·have t0:¬ (0:Int) < (j:Int):=by omega
    have t0d:decide ((0:Int) < (j:Int))=false:=decide_eq_false t0;by_cases h8:8≤cd
    ·have r8:(8:Int)≤cd:=h8;have r8d:decide ((8:Int)≤cd)=true:=decide_eq_true h8;have hR:=hid (HBad.out fun e=>by have e2:=e.2.1; unfold nodeOk at e2; simp only at e2; simp at e2; omega);clear HBad HOk1 HX
     go_quiet (first | (go_at_call 80; exact Calls.quiet_of_same (KN.out _)) | (go_at_call 81; exact Calls.quiet_of (KA.out _)) | (go_at_call 82; exact Calls.quiet_of_same (KS.out _)) | (go_at_call 83; exact Calls.quiet_of_same (KT.out _)))
     go_wp2;go_ret;exact ⟨ret_int hR.out.symm,by first | exact hBW.out _ | (rw [World.drewN_drewN]; exact hBW.out _)⟩
    have r8:¬ (8:Int)≤cd:=h8;have r8d:decide ((8:Int)≤cd)=false:=decide_eq_false h8
    cases hnm:nameX cn with
    | false =>
     rw [hnm] at KN;have hR:=hid (HBad.out fun e=>by have e2:=e.2.1; unfold nodeOk at e2; simp only at e2; rw [hnm] at e2; simp at e2);clear HBad HOk1 HX
     go_quiet (first | (go_at_call 80; exact Calls.quiet_of_same (KN.out _)) | (go_at_call 81; exact Calls.quiet_of (KA.out _)) | (go_at_call 82; exact Calls.quiet_of_same (KS.out _)) | (go_at_call 83; exact Calls.quiet_of_same (KT.out _)))
     go_wp2;go_ret;exact ⟨ret_int hR.out.symm,by first | exact hBW.out _ | (rw [World.drewN_drewN]; exact hBW.out _)⟩
    | true =>
     rw [hnm] at KN
     cases hat:attrsOk ca with
     | false =>
      rw [hat] at KA;have hR:=hid (HBad.out fun e=>by have e2:=e.2.1; unfold nodeOk at e2; simp only at e2; rw [hat] at e2; simp at e2);clear HBad HOk1 HX
      go_quiet (first | (go_at_call 80; exact Calls.quiet_of_same (KN.out _)) | (go_at_call 81; exact Calls.quiet_of (KA.out _)) | (go_at_call 82; exact Calls.quiet_of_same (KS.out _)) | (go_at_call 83; exact Calls.quiet_of_same (KT.out _)))
      go_wp2;go_ret;exact ⟨ret_int hR.out.symm,by first | exact hBW.out _ | (rw [World.drewN_drewN]; exact hBW.out _)⟩
     | true =>
      rw [hat] at KA
      cases hsg:signsX ct with
      | false =>
       rw [hsg] at KS;have hR:=hid (HBad.out fun e=>by have e2:=e.2.1; unfold nodeOk at e2; simp only at e2; rw [hsg] at e2; simp at e2);clear HBad HOk1 HX
       go_quiet (first | (go_at_call 80; exact Calls.quiet_of_same (KN.out _)) | (go_at_call 81; exact Calls.quiet_of (KA.out _)) | (go_at_call 82; exact Calls.quiet_of_same (KS.out _)) | (go_at_call 83; exact Calls.quiet_of_same (KT.out _)))
       go_wp2;go_ret;exact ⟨ret_int hR.out.symm,by first | exact hBW.out _ | (rw [World.drewN_drewN]; exact hBW.out _)⟩
      | true =>
       rw [hsg] at KS;by_cases htr:xtrim ct=ct
       ·have r9:(xtrim ct==ct)=true:=by simp [htr]
        have r9n:(xtrim ct != ct)=false:=by simp [htr]
        have HOk2:=hid (HOk1.out (fun h=>absurd h hj0) (by unfold nodeOk; simp only; rw [hnm,hat,hsg,decide_eq_true (by omega:cd < 8)]; simpa using htr));by_cases hn1:j+1 < n
        ·obtain ⟨xd,x0,hxd'⟩:=HX.out hn1;have hxd:=hid hxd';clear hxd';have q9:(j:Int)+1 < (n:Int):=by omega
         have q9d:decide ((j:Int)+1 < (n:Int))=true:=decide_eq_true q9;by_cases hgt:cd < xd
         ·have r5:decide (cd < xd)=true:=decide_eq_true hgt;by_cases hem:ct=[]
          ·subst hem;have hall:=hid (HOk2.out fun _ _=>rfl);clear HBad HOk1 HOk2 HX
           go_quiet (first | (go_at_call 80; exact Calls.quiet_of_same (KN.out _)) | (go_at_call 81; exact Calls.quiet_of (KA.out _)) | (go_at_call 82; exact Calls.quiet_of_same (KS.out _)) | (go_at_call 83; exact Calls.quiet_of_same (KT.out _)))
           go_wp2
           go_quiet (fail)
           go_wp2;go_roundw
           case rel=>exact ⟨j+1,by omega,by go_num,by first | exact hBW.out _ | (rw [World.drewN_drewN]; exact hBW.out _),hall⟩
           case measure=>simp [intOf]; omega
          ·have r6:(ct==([]:List UInt8))=false:=by simpa using hem
           have r6n:(ct != ([]:List UInt8))=true:=by simpa using hem
           have r6e:ct.isEmpty=false:=by cases ct with | nil=>exact absurd rfl hem | cons a b=>rfl
           have hR:=hid (HBad.out fun e=>hem (e.2.2 (by have:=HL.out; omega) (by rw [← hxd.out]; exact hgt)));clear HBad HOk1 HOk2 HX hxd
           go_quiet (first | (go_at_call 80; exact Calls.quiet_of_same (KN.out _)) | (go_at_call 81; exact Calls.quiet_of (KA.out _)) | (go_at_call 82; exact Calls.quiet_of_same (KS.out _)) | (go_at_call 83; exact Calls.quiet_of_same (KT.out _)))
           go_wp2
           go_quiet (fail)
           go_wp2;go_ret;exact ⟨ret_int hR.out.symm,by first | exact hBW.out _ | (rw [World.drewN_drewN]; exact hBW.out _)⟩
         ·have r5:decide (cd < xd)=false:=decide_eq_false hgt;have hall:=hid (HOk2.out fun h2 hlt=>absurd hlt (by rw [← hxd.out]; exact hgt));clear HBad HOk1 HOk2 HX hxd
          go_quiet (first | (go_at_call 80; exact Calls.quiet_of_same (KN.out _)) | (go_at_call 81; exact Calls.quiet_of (KA.out _)) | (go_at_call 82; exact Calls.quiet_of_same (KS.out _)) | (go_at_call 83; exact Calls.quiet_of_same (KT.out _)))
          go_wp2
          go_quiet (fail)
          go_wp2;go_roundw
          case rel=>exact ⟨j+1,by omega,by go_num,by first | exact hBW.out _ | (rw [World.drewN_drewN]; exact hBW.out _),hall⟩
          case measure=>simp [intOf]; omega
        ·have q9:¬ (j:Int)+1 < (n:Int):=by omega
         have q9d:decide ((j:Int)+1 < (n:Int))=false:=decide_eq_false q9;have hall:=hid (HOk2.out fun h2=>absurd h2 (by have:=HL.out; omega));clear HBad HOk1 HOk2 HX
         go_quiet (first | (go_at_call 80; exact Calls.quiet_of_same (KN.out _)) | (go_at_call 81; exact Calls.quiet_of (KA.out _)) | (go_at_call 82; exact Calls.quiet_of_same (KS.out _)) | (go_at_call 83; exact Calls.quiet_of_same (KT.out _)))
         go_wp2
         go_quiet (fail)
         go_wp2;go_roundw
         case rel=>exact ⟨j+1,by omega,by go_num,by first | exact hBW.out _ | (rw [World.drewN_drewN]; exact hBW.out _),hall⟩
         case measure=>simp [intOf]; omega
       ·have r9:(xtrim ct==ct)=false:=by simp [htr]
        have r9n:(xtrim ct != ct)=true:=by simp [htr]
        have hR:=hid (HBad.out fun e=>by have e2:=e.2.1; unfold nodeOk at e2; simp only at e2; rw [hnm,hat,hsg] at e2; simp at e2; exact htr e2.2);clear HBad HOk1 HX
        go_quiet (first | (go_at_call 80; exact Calls.quiet_of_same (KN.out _)) | (go_at_call 81; exact Calls.quiet_of (KA.out _)) | (go_at_call 82; exact Calls.quiet_of_same (KS.out _)) | (go_at_call 83; exact Calls.quiet_of_same (KT.out _)))
        go_wp2;go_ret;exact ⟨ret_int hR.out.symm,by first | exact hBW.out _ | (rw [World.drewN_drewN]; exact hBW.out _)⟩
  ·have hR:=hid (HO2.out fun i hi=>ha.out i hi (by have:=HL.out; omega));clear HC HS HB HO2 ha;go_wp2;go_ret;exact ⟨ret_int hR.out.symm,hb⟩
theorem rxesc_list (l:List UInt8) (w:World) (h:l.length≤1048576) :
  Calls Tryz.prog 84 #[.string ⟨l.toArray⟩] w fun e w'=>e=.returned (.string ⟨(escX l).toArray⟩)∧w'=w:=rescaped_any ⟨l.toArray⟩ w (by rw [size_list]; exact h)
theorem glueA (a n e:List UInt8):((((((⟨a.toArray⟩:ByteArray)++⟨#[32]⟩)++⟨n.toArray⟩)++⟨#[61,34]⟩)++⟨e.toArray⟩)++⟨#[34]⟩)=⟨(a++([32]++n++[61,34]++e++[34])).toArray⟩:=by
 simp [ByteArray.mk_append_mk]
theorem glueL (a b:List UInt8):(⟨a.toArray⟩:ByteArray)++⟨b.toArray⟩=⟨(a++b).toArray⟩:=by
 rw [ByteArray.mk_append_mk]; try simp
theorem glueE (s i n:List UInt8):(((((⟨s.toArray⟩:ByteArray)++⟨#[62]⟩)++⟨i.toArray⟩)++⟨#[60,47]⟩)++⟨n.toArray⟩)++⟨#[62]⟩=⟨(s++([62]++i++([60,47]++n++[62]))).toArray⟩:=by
 simp [ByteArray.mk_append_mk]
def WrRes (v:Value) (k:Nat) (s:List UInt8) (n:Nat) (w:World):Prop :=
 Calls Tryz.prog 46 #[v,.int .i64 k] w fun e w'=>e=.returned (.tuple #[.string ⟨s.toArray⟩,.int .i64 n])∧Below w.heap.size w w'
set_option maxHeartbeats 8000000 in
set_option maxRecDepth 100000 in
theorem rwritten_step (N:Nat) (ih:∀ (t:XT),szX t≤N → ∀ (v:Value) (cs:List NdC) (k d:Nat) (post:List Nd) (w:World),NdsAt w v cs → cs.length≤1048576 → (∀ c ∈ cs,SmallN 1048576 c.nd) → (ndsL cs).drop k=flatX d t++post → (∀ x,post.head? = some x → x.deep≤(d:Int)) → (printX t).length≤1099511627776 → WrRes v k (printX t) (k+(flatX d t).length) w) :
  ∀ (t:XT),szX t≤N+1 → ∀ (v:Value) (cs:List NdC) (k d:Nat) (post:List Nd) (w:World),NdsAt w v cs → cs.length≤1048576 → (∀ c ∈ cs,SmallN 1048576 c.nd) → (ndsL cs).drop k=flatX d t++post → (∀ x,post.head? = some x → x.deep≤(d:Int)) → (printX t).length≤1099511627776 → WrRes v k (printX t) (k+(flatX d t).length) w:=by
 intro t ht v cs k d post w hv hz hsm hdrop hpost hpl;obtain ⟨nm,ps,tx,ks⟩:=t;have hpl2:=print_len nm ps tx ks;have HPl:=hid hpl;rw [flatX,List.cons_append] at hdrop;obtain ⟨hk,hnd,hdrop1⟩:=drop_nd hdrop;have HI:Hid (∀ (t:XT),szX t≤N → ∀ (k d:Nat) (post:List Nd) (w:World),NdsAt w v cs → (ndsL cs).drop k=flatX d t++post → (∀ x,post.head? = some x → x.deep≤(d:Int)) → (printX t).length≤1099511627776 → WrRes v k (printX t) (k+(flatX d t).length) w):=fun t ht k d post w hv=>ih t ht v cs k d post w hv hz hsm;have hvv:=hv;obtain ⟨ao,cap,rfl,hc⟩:=hv;obtain ⟨ad,hao,hab,c0,pa⟩:=hc k hk;subst hao;obtain ⟨s1,s2,s3,s4⟩:=hsm cs[k] (List.getElem_mem hk);have HV:=hid hvv
 have HC:Hid (∀ j (hj:j < cs.length),NdAt w ad j cs[j]):=fun j hj=>by
  obtain ⟨ad3,hao3,_,c3,_⟩:=hc j hj
  have:ad3=ad:=(Option.some.inj hao3).symm
  subst this; exact c3
 clear hc hvv ih hsm;rw [hnd] at pa s1 s2 s3 s4;simp only at pa s1 s2 s3 s4;obtain ⟨c0,c1,c2,c3⟩:=c0;rw [hnd] at c0 c1 c3;simp only at c0 c1 c3;obtain ⟨pao,pcap,hpa,hpc⟩:=pa.open;have HPar:=hid hpc;rw [hpa] at c2;have s3z:=s3.1;have HS3:=hid s3.2;have s5:=i64_of s4
 have HAt:Hid (∀ j (hj:j < ps.length) (S:List UInt8),S=[60]++nm++attrsT (ps.take j) → ((((((⟨S.toArray⟩:ByteArray)++⟨#[32]⟩)++⟨ps[j].name.toArray⟩)++⟨#[61,34]⟩)++⟨(escX ps[j].value).toArray⟩)++⟨#[34]⟩)=⟨([60]++nm++attrsT (ps.take (j+1))).toArray⟩):=fun j hj S hS=>by
  rw [glueA,attrsT_snoc hj,hS]; unfold attrT; simp
 have HA0:Hid ((⟨#[60]⟩:ByteArray)++⟨nm.toArray⟩=⟨([60]++nm++attrsT (ps.take 0)).toArray⟩):=show _=_ by rw [ByteArray.mk_append_mk]; simp [attrsT]
 have HAe:Hid (attrsT (ps.take ps.length)=attrsT ps):=show _=_ by rw [List.take_length]
 obtain ⟨pn,hpn⟩:∃ pn,pn=ps.length:=⟨_,rfl⟩
 rw [← hpn] at c2 HAe s3z;have HPN:=hid hpn;clear hpn hpc s3 s4;have hr0':=rc_row4 w (.int .i64 (d:Int)) (.string ⟨nm.toArray⟩) (.slice pao pn pcap) (.string ⟨tx.toArray⟩) 49;have hb0:Below w.heap.size w (w.alloc (.cells #[.int .i64 (d:Int),.string ⟨nm.toArray⟩,.slice pao pn pcap,.string ⟨tx.toArray⟩] 49)):=(Below.refl _ w).alloc (Nat.le_refl _) _;have hlt0:=alloc_lt w (.cells #[.int .i64 (d:Int),.string ⟨nm.toArray⟩,.slice pao pn pcap,.string ⟨tx.toArray⟩] 49);have q6:(k:Int) < (cs.length:Int):=by omega
 obtain ⟨n,hn⟩:∃ n,n=cs.length:=⟨_,rfl⟩
 rw [← hn] at hz q6 ⊢;have HL:=hid hn;have HD:=hid hdrop1;have HPo:=hid hpost;have HT:=hid ht;clear hn hdrop hdrop1 hpost ht hnd hpa pa;unfold WrRes
 go_enter Tryz.func46,Tryz.ntmps46
 go_wp2;generalize World.alloc _ _=W0 at hr0' hb0 hlt0 ⊢;have hr0:=hid hr0';have hzc:(escX tx).length≤6291456:=by have:=escX_len tx; omega
 clear hr0' c0 c1 c2 c3
 go_loopw [7,8] (fun sv i wr=>∃ (j q:Nat),j≤pn∧i=.int .i64 j∧sv=.string ⟨([60]++nm++attrsT (ps.take j)).toArray⟩∧wr=W0.drewN q) (fun _ i _=>pn - (intOf i).toNat)
 case atStart=>exact ⟨0,0,Nat.zero_le _,rfl,by rw [HA0.out],rfl⟩
 case round =>
  obtain ⟨j,q,hj,rfl,rfl,rfl⟩:=hrel;by_cases hlt:j < pn
  ·have hjl:j < ps.length:=by have:=HPN.out; omega
   obtain ⟨a,hpao,hpab,d0⟩:=HPar.out j hjl;subst hpao;obtain ⟨W,hW⟩:∃ W,W=W0.drewN q:=⟨_,rfl⟩
   have hrW:RowIs W w.heap.size 49 [.int .i64 (d:Int),.string ⟨nm.toArray⟩,.slice (some a) pn pcap,.string ⟨tx.toArray⟩]:=by rw [hW]; exact hr0.out.below (belowD _ _ _) hlt0
   obtain ⟨b0,b1,b2,b3,_,_,_,_⟩:=hrW.rc4;obtain ⟨d0,d1,d2⟩:=d0.below hb0 hpab;replace d0:=cellD hW d0;replace d1:=cellD hW d1;replace d2:=cellD hW d2;have hs:=HS3.out ps[j] (List.getElem_mem hjl);have KE:=hid (fun w'=>rxesc_list ps[j].value w' hs.2);have HG:=hid (HAt.out j hjl _ rfl)
   have z1:([60]++nm++attrsT (ps.take j)).length+4+ps[j].name.length+(escX ps[j].value).length≤1099511627776:=by
    have:=attrsT_len hjl
    rw [attrT_len] at this;simp only [List.length_append,List.length_cons,List.length_nil];omega
   have hEW:Hid (∀ m,∃ q',W.drewN m=W0.drewN q'):=fun m=>⟨q+m,by rw [hW,World.drewN_drewN]⟩
   have q7:(j:Int) < (pn:Int):=by omega
   rw [← hW];clear hW hrW HI HV HC HD HPo HT HAt HA0 HAe HPar HS3 hs hr0 hb0 hlt0;generalize ps[j]=P at d0 d1 d2 KE HG z1;obtain ⟨pn',pv,ph⟩:=P;simp only at d0 d1 d2 KE HG z1;generalize [60]++nm++attrsT (ps.take j)=S at HG z1 ⊢;have z2:=size_list S;have z3:=size_list pn';have z4:=size_list (escX pv);generalize escX pv=ev at KE HG z1 z4;go_wp2
   go_quiet (first | (go_at_call 84; exact Calls.quiet_of_same (KE.out _)))
   go_wp2;go_roundw
   case rel =>
    obtain ⟨q',hq'⟩:=hEW.out nq;exact ⟨j+1,q',by omega,by go_num,by rw [HG.out],hq'⟩
   case measure=>simp [intOf]; omega
  ·have hje:j=pn:=by omega
   subst hje;rw [HAe.out];have KE:=hid (fun w'=>rxesc_list tx w' s2);have hrq:=hid (hr0.out.below (belowD _ W0 q) hlt0);have hbq:Below w.heap.size w (W0.drewN q):=hb0.trans (belowD _ _ _);have hltq:w.heap.size < (W0.drewN q).heap.size:=hlt0;have hwk:IntKind.i64.wrap ((k:Int)+1)=(k:Int)+1:=by rw [IntKind.wrap_i64]; omega
   obtain ⟨S,hS⟩:∃ S,S=[60]++nm++attrsT ps:=⟨_,rfl⟩
   rw [← hS];have HSe:=hid hS;clear HAt HA0 HAe HPar HS3 hr0 hb0 hlt0 hS;generalize W0.drewN q=W1 at hrq hbq hltq ⊢;obtain ⟨b0,b1,b2,b3,_,_,_,_⟩:=hrq.out.rc4;go_wp2_with (go_at_call 84; refine (KE.out _).mono ?_; rintro e w' ⟨rfl,rfl⟩)
   clear b0 b1 b2 b3 KE
   go_loopw [9,10] (fun nx iv wr=>∃ (done rest:List XT) (x:Nat),nx=.int .i64 (x:Int)∧iv=.string ⟨(escX tx++printXs done).toArray⟩∧Hid (ks=done++rest)∧Hid (x=k+1+(flatXs (d+1) done).length)∧x≤n∧Hid ((ndsL cs).drop x=flatXs (d+1) rest++post)∧Below w.heap.size w wr∧w.heap.size < wr.heap.size∧Hid (RowIs wr w.heap.size 49 [.int .i64 (d:Int),.string ⟨nm.toArray⟩,.slice pao j pcap,.string ⟨tx.toArray⟩])) (fun nx _ _=>n - (intOf nx).toNat)
   case atStart=>exact ⟨[],ks,k+1,by go_num,by rw [printXs,List.append_nil],show _=_ from rfl,show _=_ by rw [flatXs]; rfl,by omega,HD,hbq,hltq,hrq⟩
   case round =>
    obtain ⟨done,rest,x,rfl,rfl,hdr,hx,hxn,hD2,hb,hl,hr⟩:=hrel;clear hrq hbq hltq;obtain ⟨b0,b1,b2,b3,_,_,_,_⟩:=hr.out.rc4;have hBW:Hid (∀ m,Below w.heap.size w (wr.drewN m)):=fun m=>hb.trans (belowD _ _ _)
    have z9:(escX tx++printXs done).length≤1099511627776:=by
     have h1:=HPl.out;have h2:=hpl2;rw [hdr.out,printXs_app,List.length_append] at h2;rw [hdr.out] at h1;rw [List.length_append]; omega
    cases rest with
    | nil =>
     by_cases hxl:x < n
     ·have hxc:x < cs.length:=by have:=HL.out; omega
      have q8:(x:Int) < (n:Int):=by omega
      have q8d:decide ((x:Int) < (n:Int))=true:=decide_eq_true q8;obtain ⟨e0,_,_,_⟩:=(HC.out x hxc).below hb hab
      have hle:cs[x].nd.deep≤(d:Int):=by
       have h1:=hD2.out;rw [flatXs,List.nil_append] at h1;refine HPo.out _ ?_
       rw [← h1,List.head?_drop]
       simp [ndsL,hxc]
      generalize cs[x].nd.deep=xd at e0 hle;have q9:decide ((d:Int) < xd)=false:=decide_eq_false (by omega);have hks:ks=done:=by rw [hdr.out,List.append_nil]
      clear HI HV HC HD HT;by_cases hI:escX tx++printXs done=[]
      ·have hP:Hid (printX (.mk nm ps tx ks)=S++[47,62]):=show _=_ by rw [hks,print_nil hI,HSe.out]
       rw [hI];have z5:S.length+2≤1099511627776:=by have h1:=HPl.out; rw [hP.out] at h1; simpa using h1
       have z6:=size_list S;have HG:=hid (glueB S #[47,62]);have hF:Hid (k+(flatX d (.mk nm ps tx ks)).length=x):=show _=_ by rw [hx.out,flatX,hks,List.length_cons]; omega
       clear hI HSe HPl hpl hpl2 hx hks hdr hD2;go_wp2
       go_quiet (fail)
       go_wp2;go_ret2;exact ⟨by rw [hP.out,hF.out]; simp only [← HG.out]; rfl,by first | exact hBW.out _ | exact hBW.out 0⟩
      ·have hP:Hid (printX (.mk nm ps tx ks)=S++([62]++(escX tx++printXs done)++([60,47]++nm++[62]))):=show _=_ by rw [hks,print_in hI,HSe.out]
       have z5:S.length+1+(escX tx++printXs done).length+2+nm.length+1≤1099511627776:=by
        have h1:=HPl.out;rw [hP.out] at h1;simp only [List.length_append,List.length_cons,List.length_nil] at h1 ⊢;omega
       have hF:Hid (k+(flatX d (.mk nm ps tx ks)).length=x):=show _=_ by rw [hx.out,flatX,hks,List.length_cons]; omega
       have r6:(escX tx++printXs done==([]:List UInt8))=false:=by simpa using hI
       have r6e:(escX tx++printXs done).isEmpty=false:=by rw [Bool.eq_false_iff]; intro h; exact hI (List.isEmpty_iff.1 h)
       clear HSe HPl hpl hpl2 hx hks hdr hD2 hzc z9;generalize escX tx++printXs done=I at hP z5 r6 r6e hI ⊢;have HG:=hid (glueE S I nm);have z6:=size_list S;have z7:=size_list I;have z8:=size_list nm;clear hI;go_wp2
       go_quiet (fail)
       go_wp2;go_ret2;exact ⟨by rw [hP.out,hF.out]; simp only [← HG.out]; rfl,by first | exact hBW.out _ | exact hBW.out 0⟩
     ·have q8:¬ (x:Int) < (n:Int):=by omega
      have q8d:decide ((x:Int) < (n:Int))=false:=decide_eq_false q8;have hks:ks=done:=by rw [hdr.out,List.append_nil]
      clear HI HV HC HD HT;by_cases hI:escX tx++printXs done=[]
      ·have hP:Hid (printX (.mk nm ps tx ks)=S++[47,62]):=show _=_ by rw [hks,print_nil hI,HSe.out]
       rw [hI];have z5:S.length+2≤1099511627776:=by have h1:=HPl.out; rw [hP.out] at h1; simpa using h1
       have z6:=size_list S;have HG:=hid (glueB S #[47,62]);have hF:Hid (k+(flatX d (.mk nm ps tx ks)).length=x):=show _=_ by rw [hx.out,flatX,hks,List.length_cons]; omega
       clear hI HSe HPl hpl hpl2 hx hks hdr hD2;go_wp2
       go_quiet (fail)
       go_wp2;go_ret2;exact ⟨by rw [hP.out,hF.out]; simp only [← HG.out]; rfl,by first | exact hBW.out _ | exact hBW.out 0⟩
      ·have hP:Hid (printX (.mk nm ps tx ks)=S++([62]++(escX tx++printXs done)++([60,47]++nm++[62]))):=show _=_ by rw [hks,print_in hI,HSe.out]
       have z5:S.length+1+(escX tx++printXs done).length+2+nm.length+1≤1099511627776:=by
        have h1:=HPl.out;rw [hP.out] at h1;simp only [List.length_append,List.length_cons,List.length_nil] at h1 ⊢;omega
       have hF:Hid (k+(flatX d (.mk nm ps tx ks)).length=x):=show _=_ by rw [hx.out,flatX,hks,List.length_cons]; omega
       have r6:(escX tx++printXs done==([]:List UInt8))=false:=by simpa using hI
       have r6e:(escX tx++printXs done).isEmpty=false:=by rw [Bool.eq_false_iff]; intro h; exact hI (List.isEmpty_iff.1 h)
       clear HSe HPl hpl hpl2 hx hks hdr hD2 hzc z9;generalize escX tx++printXs done=I at hP z5 r6 r6e hI ⊢;have HG:=hid (glueE S I nm);have z6:=size_list S;have z7:=size_list I;have z8:=size_list nm;clear hI;go_wp2
       go_quiet (fail)
       go_wp2;go_ret2;exact ⟨by rw [hP.out,hF.out]; simp only [← HG.out]; rfl,by first | exact hBW.out _ | exact hBW.out 0⟩
    | cons k1 rest =>
     have hD3:=hD2.out;obtain ⟨y,r,e1,hy⟩:=flat_head (d+1) k1;have hD4:=hD3;rw [flatXs,e1,List.cons_append,List.cons_append] at hD4;obtain ⟨hxc,hnx,_⟩:=drop_nd hD4;have hxl:x < n:=by have:=HL.out; omega
     have q8:(x:Int) < (n:Int):=by omega
     have q8d:decide ((x:Int) < (n:Int))=true:=decide_eq_true q8;obtain ⟨e0,_,_,_⟩:=(HC.out x hxc).below hb hab;rw [hnx,hy] at e0;have q9:decide ((d:Int) < ((d+1:Nat):Int))=true:=decide_eq_true (by omega);rw [flatXs,List.append_assoc] at hD3
     have hpk:(printX k1).length+(escX tx++printXs done).length≤1099511627776:=by
      have h1:=HPl.out;have h2:=hpl2;rw [hdr.out,printXs_app,printXs,List.length_append,List.length_append] at h2;rw [hdr.out] at h1;rw [List.length_append]; omega
     have KW:Hid (∀ w',Below w.heap.size w w' → WrRes (.slice (some ad) cs.length cap) x (printX k1) (x+(flatX (d+1) k1).length) w'):=fun w' hw'=>HI.out k1 (sz_in HT.out hdr.out) x (d+1) _ w' (HV.out.below hw') hD3 (post_head HPo.out) (by omega);rw [← HL.out] at KW;have hdr2:Hid (ks=(done++[k1])++rest):=show _=_ by rw [hdr.out]; simp
     have hx2:Hid (x+(flatX (d+1) k1).length=k+1+(flatXs (d+1) (done++[k1])).length):=show _=_ by
      rw [hx.out,flatXs_app,List.length_append]
      have:flatXs (d+1) [k1]=flatX (d+1) k1:=by rw [flatXs,flatXs,List.append_nil]
      rw [this]; omega
     have hD5:Hid ((ndsL cs).drop (x+(flatX (d+1) k1).length)=flatXs (d+1) rest++post):=drop_more hD3
     have hxn2:x+(flatX (d+1) k1).length≤n:=by
      have h1:=congrArg List.length hD3;rw [List.length_drop,ndsL_len,List.length_append] at h1
      have:=HL.out; omega
     have hpos:x < x+(flatX (d+1) k1).length:=by have:=flatX_pos (d+1) k1; omega
     have HP2:Hid (escX tx++printXs (done++[k1])=(escX tx++printXs done)++printX k1):=show _=_ by rw [printXs_app,printXs,printXs,List.append_nil,List.append_assoc]
     clear HI HV HC HD HPo HT HPl hpl hpl2 hD2 hD3 hD4 hdr hx HSe hy hnx e1;have HG:=hid (glueL (escX tx++printXs done) (printX k1));generalize escX tx++printXs done=I at HG HP2 hpk z9 ⊢;generalize printX k1=pk at HG HP2 hpk KW;generalize x+(flatX (d+1) k1).length=x2 at KW hx2 hD5 hxn2 hpos;have z6:=size_list I;have z7:=size_list pk;go_wp2
     go_quiet (fail)
     go_wp2_with (go_at_call 46; refine (KW.out _ (hBW.out _)).mono ?_; rintro e w5 ⟨rfl,hw5⟩)
     go_roundw
     case rel=>exact ⟨done++[k1],rest,x2,rfl,by rw [HP2.out,← HG.out],hdr2,hx2,hxn2,hD5,(hBW.out _).trans (hw5.mono (hBW.out _).size),Nat.lt_of_lt_of_le hl hw5.size,(hr.out.below (belowD _ _ _) hl).below hw5 hl⟩
     case measure=>simp [intOf]; omega
theorem rwritten_any:∀ (N:Nat) (t:XT),szX t≤N → ∀ (v:Value) (cs:List NdC) (k d:Nat) (post:List Nd) (w:World),NdsAt w v cs → cs.length≤1048576 → (∀ c ∈ cs,SmallN 1048576 c.nd) → (ndsL cs).drop k=flatX d t++post → (∀ x,post.head? = some x → x.deep≤(d:Int)) → (printX t).length≤1099511627776 → WrRes v k (printX t) (k+(flatX d t).length) w
 | 0,t,ht=>by obtain ⟨n,a,tx,ks⟩:=t; rw [szX] at ht; omega
 | N+1,t,ht=>rwritten_step N (rwritten_any N) t ht
theorem distinctW_front:∀ a b:List Wt,distinctW (a++b)=true → distinctW a=true
 | [],b,_=>rfl
 | t :: a,b,h=>by
  rw [List.cons_append,distinctW,List.all_append] at h;simp only [Bool.and_eq_true] at h;rw [distinctW,distinctW_front a b h.2,h.1.1]; rfl
theorem wts_snoc {l:List Wt} {j:Nat} (hj:j < l.length) (ha:wtsOk (l.take j)=true) (h1:wtP l[j]=true) (h2:(l.take j).all (fun q=>!(q.id==l[j].id))=true):wtsOk (l.take (j+1))=true:=by
 simp only [wtsOk,Bool.and_eq_true] at ha ⊢;rw [List.take_succ_eq_append_getElem hj,List.all_append,distinctW_snoc,ha.1,ha.2,h2]
 simp [h1]
theorem chkI_is {d:Inf} (h0:0≤d.ver) (h1:d.ver≤2147483647) (h2:(hostV d.res).2=0) (h3:d.ws.length≤198):checkI d=if wtsOk d.ws=true then 0 else 150:=by
 unfold checkI wtsOk;rw [if_neg (by simp only [not_or,Int.not_lt,Nat.not_lt]; exact ⟨h0,h1,by simp [h2],h3⟩)]
theorem wts_twice {l:List Wt} {j m:Nat} (hj:j < l.length) (hm:m < j) (h1:((l[m]'(by omega)).id==l[j].id)=true):wtsOk l=false:=by
 unfold wtsOk
 have:distinctW l=false:=by
  cases hd:distinctW l with
  | false=>rfl
  | true =>
   exfalso
   have e:l=l.take (j+1)++l.drop (j+1):=by simp
   rw [e] at hd;have h2:=distinctW_front _ _ hd;rw [List.take_succ_eq_append_getElem hj,distinctW_snoc] at h2;simp only [Bool.and_eq_true,List.all_eq_true] at h2;have h3:=h2.2 (l[m]'(by omega)) (by rw [List.mem_take_iff_getElem]; exact ⟨m,by omega,rfl⟩);rw [h1] at h3
   simp at h3
 rw [this]; simp
theorem checkI_bad1 {d:Inf} (h:d.ver < 0∨2147483647 < d.ver∨(hostV d.res).2 ≠ 0∨198 < d.ws.length):checkI d=150:=by unfold checkI; rw [if_pos h]
set_option maxHeartbeats 400000 in
theorem refscheme_any (s:ByteArray) (w:World) :
  Calls Tryz.prog 91 #[.string s] w fun e w'=>e=.returned (.bool (schemeB s.data.toList))∧w'=w:=by
 have hb:schemeB s.data.toList=(s.toList==[115,105,112] || (s.toList==[115,105,112,115] || s.toList==[112,114,101,115])):=by rw [ByteArray.toList_eq]; rfl
 have HB:Hid _:=hb; clear hb
 cases h1:(s.toList==[115,105,112]) <;> cases h2:(s.toList==[115,105,112,115]) <;> cases h3:(s.toList==[112,114,101,115])
 all_goals (
  rw [h1,h2,h3] at HB
  go_enter Tryz.func91,Tryz.ntmps91
  go_wp2;go_ret;exact ⟨ret_bool HB.out.symm,rfl⟩)
theorem lab_empty {t:ByteArray} (h:t.size=0):labB t.data.toList=false:=by
 unfold labB; rw [len_data]; simp [h]
theorem lab_cls {t:ByteArray} (h:allB 64 t.data.toList=false):labB t.data.toList=false:=by
 unfold labB; simp [h]
theorem lab_first {t:ByteArray} (hp:0 < t.size) (h:t[0]=45):labB t.data.toList=false:=by
 unfold labB; rw [getD_s t 0 hp,h]; simp
theorem lab_last {t:ByteArray} (hp:t.size - 1 < t.size) (h:t[t.size - 1]=45):labB t.data.toList=false:=by
 unfold labB; rw [len_data,getD_s t _ hp,h]; simp
theorem lab_fine {t:ByteArray} (hp:0 < t.size) (ha:allB 64 t.data.toList=true) (h:¬ t[0]=45) (hq:t.size - 1 < t.size) (h2:¬ t[t.size - 1]=45):labB t.data.toList=true:=by
 unfold labB;rw [len_data,getD_s t 0 hp,getD_s t _ hq,ha]
 simp [h,h2]; omega
end Go.Proofs.YtdbalahkmeknaaaGreatDoor
