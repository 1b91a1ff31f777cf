/-
  RefCheck, RefPlace, RefUne, RefWritten, RefParams, RefQuo.
-/
import Derived.Test.YtiogedceommcoaaGreatDoorK03
import Derived.Test.YtiogedceommcoaaGreatDoorK11
set_option linter.unusedVariables false
set_option linter.unusedSimpArgs false
set_option maxRecDepth 20000
namespace Go.Proofs.YtiogedceommcoaaGreatDoor
open Go.RowKit Sc
set_option maxHeartbeats 2000000 in
set_option maxRecDepth 100000 in
theorem refcheck_any (u:Uri) (p h:Value) (w:World) (hsm:SmallU 140737488355328 u) (hp:ParsAt w p u.params) (hh:ParsAt w h u.headers) :
  Calls Tryz.prog 90 #[uriV u p h] w fun e w'=>e=.returned (.int .i64 (checkV u))∧Below w.heap.size w w':=by
 obtain ⟨s1,s2,s3,s4,s5⟩:=hsm;have hcv:checkV u=checkV u:=rfl
 conv at hcv=>rhs; unfold checkV
 have hbox:=box_new w u p h;have hbw:Below w.heap.size w (w.alloc (.cells #[.string ⟨u.scheme.toArray⟩,.string ⟨u.user.toArray⟩,.string ⟨u.host.toArray⟩,.int .i64 u.port,p,h] 29)):=(Below.refl _ w).alloc (Nat.le_refl _) _;have hws:w.heap.size < (w.alloc (.cells #[.string ⟨u.scheme.toArray⟩,.string ⟨u.user.toArray⟩,.string ⟨u.host.toArray⟩,.int .i64 u.port,p,h] 29)).heap.size:=by simp
 unfold uriV
 cases e1:schemeB u.scheme with
 | false =>
  rw [e1] at hcv; simp at hcv
  have HV:Hid _:=hcv; clear hcv
  go_enter Tryz.func90,Tryz.ntmps90
  go_wp2_with (go_at_call 84; refine (refscheme_list _ _).mono ?_; rintro e w' ⟨rfl,rfl⟩)
  go_ret;exact ⟨ret_int HV.out.symm,hbw⟩
 | true =>
  rw [e1,if_neg (by simp)] at hcv;by_cases e2:64 < u.user.length
  ·rw [if_pos e2] at hcv;have HV:Hid _:=hcv; clear hcv
   go_enter Tryz.func90,Tryz.ntmps90
   go_wp2_with (go_at_call 84; refine (refscheme_list _ _).mono ?_; rintro e w' ⟨rfl,rfl⟩)
   go_ret;exact ⟨ret_int HV.out.symm,hbw⟩
  ·rw [if_neg e2] at hcv
   go_enter Tryz.func90,Tryz.ntmps90
   go_wp2_with (go_at_call 84; refine (refscheme_list _ _).mono ?_; rintro e w' ⟨rfl,rfl⟩)
   refine (refhost_list _ _ s3).mono ?_
   rintro e w2 ⟨rfl,hw2⟩;have hb2:=hbw.trans (hw2.mono hbw.size);have hx2:=hbox.below hw2 hws;have hs2:w.heap.size < w2.heap.size:=Nat.lt_of_lt_of_le hws hw2.size;obtain ⟨g0,g1,g2,g3,g4,g5⟩:=hx2;have hx2:Hid (BoxU w2 w.heap.size u p h):=⟨g0,g1,g2,g3,g4,g5⟩
   clear hbox hbw hws hw2
   cases e3:hostB u.host with
   | false =>
    rw [e3,if_pos rfl] at hcv;have HV:Hid _:=hcv; clear hcv
    go_wp2;go_ret;exact ⟨ret_int HV.out.symm,hb2⟩
   | true =>
    rw [e3,if_neg (by simp)] at hcv;by_cases e4:u.port < 0∨65535 < u.port
    ·rw [if_pos e4] at hcv;have HV:Hid _:=hcv; clear hcv
     by_cases e5:u.port < 0
     ·clear e4;go_wp2;go_ret;exact ⟨ret_int HV.out.symm,hb2⟩
     ·have e6:65535 < u.port:=by omega
      clear e4;go_wp2;go_ret;exact ⟨ret_int HV.out.symm,hb2⟩
    ·rw [if_neg e4] at hcv;have e5:0≤u.port:=by omega
     have e6:u.port≤65535:=by omega
     clear e4;go_wp2_with fail
     refine (list_any _ u.params _ s4 (hp.below hb2)).mono ?_
     rintro e w3 ⟨rfl,hw3⟩;have hb3:=hb2.trans (hw3.mono hb2.size);have hx3:=hx2.out.below hw3 hs2;have hs3:w.heap.size < w3.heap.size:=Nat.lt_of_lt_of_le hs2 hw3.size;clear g0 g1 g2 g3 g4 g5 hx2 hb2 hw3;obtain ⟨g0,g1,g2,g3,g4,g5⟩:=hx3;have hx3:Hid (BoxU w3 w.heap.size u p h):=⟨g0,g1,g2,g3,g4,g5⟩
     cases e7:listB u.params with
     | false =>
      rw [e7,if_pos rfl] at hcv;have HV:Hid _:=hcv; clear hcv
      go_wp2;go_ret;exact ⟨ret_int HV.out.symm,hb3⟩
     | true =>
      rw [e7,if_neg (by simp)] at hcv;go_wp2_with fail
      refine (list_any _ u.headers _ s5 (hh.below hb3)).mono ?_
      rintro e w4 ⟨rfl,hw4⟩;have hb4:=hb3.trans (hw4.mono hb3.size);have hx4:=hx3.out.below hw4 hs3;clear g0 g1 g2 g3 g4 g5 hx3 hb3 hw4 hs2;obtain ⟨g0,g1,g2,g3,g4,g5⟩:=hx4
      cases e8:listB u.headers with
      | false =>
       rw [e8,if_pos rfl] at hcv;have HV:Hid _:=hcv; clear hcv
       go_wp2;go_ret;exact ⟨ret_int HV.out.symm,hb4⟩
      | true =>
       rw [e8,if_neg (by simp)] at hcv;have HV:Hid _:=hcv; clear hcv
       have h4:=hh.below hb4;have h16:u.headers.length≤140737488355328:=s5.1;obtain ⟨n,hn⟩:∃ n,n=u.headers.length:=⟨_,rfl⟩
       rcases h4 with ⟨rfl,hnil⟩ | ⟨a,cap,rfl,hc⟩
       ·have hall:Hid (checkV u=0):=show _=_ by rw [HV.out,hnil]; rfl
        go_wp2
        go_loop [3] (fun i=>i=.int .i64 0) (fun i=>0)
        case atStart=>rfl
        case round =>
         subst hrel;go_wp2;go_ret;exact ⟨ret_int hall.out.symm,hb4⟩
       ·have HC:Hid _:=hc; clear hc
        rw [← hn] at h16 g5 ⊢;go_wp2
        go_loop [3] (fun i=>∃ k:Nat,k≤n∧i=.int .i64 k∧Hid ((u.headers.take k).all (·.has)=true)) (fun i=>n - (intOf i).toNat)
        case atStart=>exact ⟨0,by omega,rfl,rfl⟩
        case round =>
         obtain ⟨k,hk,rfl,hal⟩:=hrel;by_cases hlt:k < n
         ·have hkl:k < u.headers.length:=by omega
          obtain ⟨c0,c1,c2⟩:=(HC.out k hkl).2
          cases hhas:u.headers[k].has with
          | true =>
           have hal2:Hid ((u.headers.take (k+1)).all (·.has)=true):=has_snoc hkl hal.out hhas;rw [hhas] at c2;clear hal;go_wp2
           go_round
           case rel=>exact ⟨k+1,by omega,by go_num,hal2⟩
           case measure=>simp [intOf]; omega
          | false =>
           have hbad:Hid (checkV u=34):=show _=_ by rw [HV.out,has_bad hkl hhas]; rfl
           rw [hhas] at c2;clear hal;go_wp2;go_ret;exact ⟨ret_int hbad.out.symm,hb4⟩
         ·have hall:Hid (checkV u=0):=show _=_ by
           have:=hal.out
           rw [List.take_of_length_le (by omega)] at this;rw [HV.out,this]; rfl
          clear hal;go_wp2;go_ret;exact ⟨ret_int hall.out.symm,hb4⟩
set_option maxHeartbeats 1000000 in
set_option maxRecDepth 100000 in
theorem place_row (a:Addr) (cap:Nat) (ps:List Par) (nm:List UInt8) (w:World) (hnm:nm.length≤140737488355328) (hsm:SmallP 140737488355328 ps) (hc:∀ k (hk:k < ps.length),a.block < w.heap.size∧ParAt w a k ps[k]) :
  Calls Tryz.prog 118 #[.slice (some a) ps.length cap,.string ⟨nm.toArray⟩] w fun e w'=>(∃ r:Int,e=.returned (.int .i64 r)∧((r=-1∧findV ps nm=none)∨∃ (k:Nat) (hk:k < ps.length),r=k∧findV ps nm=some ps[k]))∧Below w.heap.size w w':=by
 have HC:Hid _:=hc; clear hc
 have HS:Hid _:=hsm.2;have hz:=hsm.1;clear hsm;obtain ⟨n,hn⟩:∃ n,n=ps.length:=⟨_,rfl⟩
 have HG:Hid (∀ r:Int,((r=-1∧findV ps nm=none)∨∃ (k:Nat) (hk:k < ps.length),r=k∧findV ps nm=some ps[k]) → (∃ r':Int,Ending.returned (.int .i64 r)=.returned (.int .i64 r')∧((r'=-1∧findV ps nm=none)∨∃ (k:Nat) (hk:k < ps.length),r'=k∧findV ps nm=some ps[k]))):=fun r h=>⟨r,rfl,h⟩
 rw [← hn] at hz;rw [show Value.slice (some a) ps.length cap=.slice (some a) n cap by rw [hn]];have HN:Hid _:=hn; clear hn
 go_enter Tryz.func118,Tryz.ntmps118
 go_wp2
 go_loopw [5] (fun i wr=>∃ k:Nat,k≤n∧i=.int .i64 k∧Below w.heap.size w wr∧Hid (findV (ps.take k) nm=none)) (fun i _=>n - (intOf i).toNat)
 case atStart=>exact ⟨0,by omega,rfl,Below.refl _ _,rfl⟩
 case round =>
  obtain ⟨k,hk,rfl,hb,hfn⟩:=hrel;by_cases hlt:k < n
  ·have hkl:k < ps.length:=by have:=HN.out; omega
   obtain ⟨hab,hpa⟩:=HC.out k hkl;obtain ⟨c0,c1,c2⟩:=hpa.below hb hab;have hss:=HS.out ps[k] (List.getElem_mem hkl);have hs1:sameB ps[k].name nm=true → Hid (findV ps nm=some ps[k]):=fun h=>find_hit hkl hfn.out h;have hs2:sameB ps[k].name nm=false → Hid (findV (ps.take (k+1)) nm=none):=fun h=>find_snoc hkl hfn.out h;have HE:Hid (∀ p,p=ps[k] → findV ps nm=some p → findV ps nm=some ps[k]):=fun p e h=>by rw [← e]; exact h
   clear hpa hfn hab;have hB:=hb.size
   cases hsb:sameB ps[k].name nm with
   | true =>
    have hv:=hs1 hsb;clear hs1 hs2;go_wp2_with fail
    refine (refsame_list ps[k].name nm _ hss.1 hnm).mono ?_
    rintro e w2 ⟨rfl,hw2⟩;rw [hsb];have hb2:=hb.trans (hw2.mono hB);clear hw2 c0 c1 c2;go_wp2;go_ret;exact ⟨HG.out _ (Or.inr ⟨k,hkl,rfl,hv.out⟩),hb2⟩
   | false =>
    have hv:=hs2 hsb;clear hs1 hs2;go_wp2_with fail
    refine (refsame_list ps[k].name nm _ hss.1 hnm).mono ?_
    rintro e w2 ⟨rfl,hw2⟩;rw [hsb];have hb2:=hb.trans (hw2.mono hB);clear hw2 c0 c1 c2;go_wp2;go_roundw
    case rel=>exact ⟨k+1,by omega,by go_num,hb2,hv⟩
    case measure=>simp [intOf]; omega
  ·have hv:Hid (findV ps nm=none):=show _=_ by
    have:=hfn.out
    rwa [List.take_of_length_le (by have:=HN.out; omega)] at this
   clear hfn;go_wp2;go_ret;exact ⟨HG.out _ (Or.inl ⟨rfl,hv.out⟩),hb⟩
set_option maxHeartbeats 400000 in
theorem place_nil (a:Option Addr) (cap:Nat) (nm:List UInt8) (w:World) :
  Calls Tryz.prog 118 #[.slice a 0 cap,.string ⟨nm.toArray⟩] w fun e w'=>e=.returned (.int .i64 (-1))∧Below w.heap.size w w':=by
 go_enter Tryz.func118,Tryz.ntmps118
 go_wp2
 go_loop [5] (fun i=>i=.int .i64 0) (fun i=>0)
 case atStart=>rfl
 case round =>
  subst hrel;go_wp2;go_ret;exact ⟨rfl,Below.refl _ _⟩
theorem place_any (v:Value) (ps:List Par) (nm:List UInt8) (w:World) (hnm:nm.length≤140737488355328) (hsm:SmallP 140737488355328 ps) (h:ParsAt w v ps) :
  Calls Tryz.prog 118 #[v,.string ⟨nm.toArray⟩] w fun e w'=>(∃ r:Int,e=.returned (.int .i64 r)∧((r=-1∧findV ps nm=none)∨∃ (k:Nat) (hk:k < ps.length),r=k∧findV ps nm=some ps[k]))∧Below w.heap.size w w':=by
 rcases h with ⟨rfl,rfl⟩ | ⟨a,cap,rfl,hc⟩
 ·refine (place_nil none 0 nm w).mono ?_
  rintro e w' ⟨rfl,hb⟩;exact ⟨⟨-1,rfl,Or.inl ⟨rfl,rfl⟩⟩,hb⟩
 ·exact place_row a cap ps nm w hnm hsm hc
theorem place_none {ps:List Par} {nm:List UInt8} (hf:findV ps nm=none) (v:Value) (w:World) (hnm:nm.length≤140737488355328) (hsm:SmallP 140737488355328 ps) (h:ParsAt w v ps) :
  Calls Tryz.prog 118 #[v,.string ⟨nm.toArray⟩] w fun e w'=>e=.returned (.int .i64 (-1))∧Below w.heap.size w w':=by
 refine (place_any v ps nm w hnm hsm h).mono ?_
 rintro e w' ⟨⟨r,rfl,⟨rfl,_⟩ | ⟨k,hk,_,h2⟩⟩,hb⟩
 ·exact ⟨rfl,hb⟩
 ·rw [hf] at h2; cases h2
theorem place_some {ps:List Par} {nm:List UInt8} {q:Par} (hf:findV ps nm=some q) (v:Value) (w:World) (hnm:nm.length≤140737488355328) (hsm:SmallP 140737488355328 ps) (h:ParsAt w v ps) :
  Calls Tryz.prog 118 #[v,.string ⟨nm.toArray⟩] w fun e w'=>(∃ (k:Nat) (a:Addr) (cap:Nat),e=.returned (.int .i64 k)∧k < ps.length∧v=.slice (some a) ps.length cap∧a.block < w.heap.size∧ParAt w a k q)∧Below w.heap.size w w':=by
 refine (place_any v ps nm w hnm hsm h).mono ?_
 rintro e w' ⟨⟨r,rfl,⟨rfl,h2⟩ | ⟨k,hk,rfl,h2⟩⟩,hb⟩
 ·rw [hf] at h2; cases h2
 ·rcases h with ⟨rfl,rfl⟩ | ⟨a,cap,rfl,hc⟩
  ·simp at hk
  ·rw [hf,Option.some.injEq] at h2;subst h2;exact ⟨⟨k,a,cap,rfl,hk,rfl,(hc k hk).1,(hc k hk).2⟩,hb⟩
set_option maxHeartbeats 1000000 in
theorem refvalue_any (v:Value) (ps:List Par) (nm:List UInt8) (w:World) (hnm:nm.length≤140737488355328) (hsm:SmallP 140737488355328 ps) (h:ParsAt w v ps) :
  Calls Tryz.prog 76 #[v,.string ⟨nm.toArray⟩] w fun e w'=>e=.returned (.tuple #[.string ⟨(valV ps nm).1.toArray⟩,.bool (valV ps nm).2])∧Below w.heap.size w w':=by
 have hl:=hsm.1
 cases hf:findV ps nm with
 | none =>
  have HV:Hid (valV ps nm=([],false)):=show _=_ by rw [valV,hf]
  have K:=hid (place_none hf v w hnm hsm h);clear hf h hsm
  go_enter Tryz.func76,Tryz.ntmps76
  go_wp2_with fail
  refine K.out.mono ?_
  rintro e w1 ⟨rfl,hw1⟩;go_wp2;go_ret2;exact ⟨ret_val HV.out,hw1⟩
 | some q =>
  have HV:Hid (valV ps nm=(q.value,true)):=show _=_ by rw [valV,hf]
  have K:=hid (place_some hf v w hnm hsm h);clear hf h hsm
  go_enter Tryz.func76,Tryz.ntmps76
  go_wp2_with fail
  refine K.out.mono ?_
  rintro e w1 ⟨⟨k,a,cap,rfl,hk,rfl,hab,hpa⟩,hw1⟩;obtain ⟨c0,c1,c2⟩:=hpa.below hw1 hab;clear hpa hab K;go_wp2;go_ret2;exact ⟨ret_val HV.out,hw1⟩
def mtB (j:Nat) (c:Int):Bool:=((hexd j).toNat:Int)==c || ((lowb (hexd j)).toNat:Int)==c
def wfrom:Nat → Nat → Int → Int
 | 0,_,_=>-1
 | n+1,k,c=>if mtB k c then k else wfrom n (k+1) c
def worthV (c:Int):Int:=wfrom 16 0 c
theorem wfrom_step {k:Nat} {c:Int} (hk:k < 16) (h:mtB k c=false):wfrom (16 - k) k c=wfrom (16 - (k+1)) (k+1) c:=by
 rw [show 16 - k=(16 - (k+1))+1 by omega,wfrom,if_neg (by simp [h])]
theorem wfrom_hit {k:Nat} {c:Int} (hk:k < 16) (h:mtB k c=true):wfrom (16 - k) k c=k:=by
 rw [show 16 - k=(16 - (k+1))+1 by omega,wfrom,if_pos h]
theorem worth_hex {b:UInt8} (h:isB b.toNat 4=true):worthV b.toNat=hexv b.toNat:=by
 have hh:∀ n:Fin 256,isB (n.val:Int) 4=true → worthV (n.val:Int)=hexv (n.val:Int):=by decide +kernel
 exact hh ⟨b.toNat,b.toNat_lt⟩ h
theorem worth_not {b:UInt8} (h:isB b.toNat 4=false):worthV b.toNat=-1:=by
 have hh:∀ n:Fin 256,isB (n.val:Int) 4=false → worthV (n.val:Int)=-1:=by decide +kernel
 exact hh ⟨b.toNat,b.toNat_lt⟩ h
theorem hexAt (k:Nat) (hk:k < 16):((ByteArray.mk #[48,49,50,51,52,53,54,55,56,57,65,66,67,68,69,70])[k]'hk)=hexd k:=by
 have hh:∀ n:Fin 16,((ByteArray.mk #[48,49,50,51,52,53,54,55,56,57,65,66,67,68,69,70])[n.val]'n.isLt)=hexd n.val:=by decide +kernel
 exact hh ⟨k,hk⟩
theorem low1 (k:Nat) (hk:k < 16) (w:World) :
  Calls Tryz.prog 83 #[.string ((ByteArray.mk #[48,49,50,51,52,53,54,55,56,57,65,66,67,68,69,70]).extract k (k+1))] w fun e w'=>e=.returned (.string ⟨#[lowb (hexd k)]⟩)∧Below w.heap.size w w':=by
 have hh:∀ n:Fin 16,(ByteArray.mk #[48,49,50,51,52,53,54,55,56,57,65,66,67,68,69,70]).extract n.val (n.val+1)=⟨#[hexd n.val]⟩:=by decide +kernel
 rw [hh ⟨k,hk⟩];exact reflower_txt ⟨#[hexd k]⟩ w (by simp [ByteArray.size])
theorem byte0 (b:UInt8):((ByteArray.mk #[b])[0]'(Nat.one_pos))=b:=rfl
set_option maxHeartbeats 1000000 in
theorem worth_any (c:Int) (w:World) :
  Calls Tryz.prog 169 #[.int .u8 c] w fun e w'=>e=.returned (.int .i64 (worthV c))∧Below w.heap.size w w':=by
 go_enter Tryz.func169,Tryz.ntmps169
 go_wp2
 go_loopw [3] (fun i wr=>∃ k:Nat,k≤16∧i=.int .i64 k∧Below w.heap.size w wr∧Hid (worthV c=wfrom (16 - k) k c)) (fun i _=>16 - (intOf i).toNat)
 case atStart=>exact ⟨0,Nat.zero_le _,rfl,Below.refl _ _,rfl⟩
 case round =>
  obtain ⟨k,hk,rfl,hb,hw⟩:=hrel;by_cases hlt:k < 16
  ·have hx:=hexAt k hlt;have hy:=byte0 (lowb (hexd k));by_cases h1:((hexd k).toNat:Int)=c
   ·have h1':(((hexd k).toNat:Int)==c)=true:=by simpa using h1
    have hv:Hid (worthV c=k):=by show _=_; rw [hw.out,wfrom_hit hlt (by simp [mtB,h1'])]
    clear h1 hw;go_wp2;go_ret;exact ⟨ret_int hv.out.symm,hb⟩
   ·have h1':(((hexd k).toNat:Int)==c)=false:=by simpa using h1
    by_cases h2:((lowb (hexd k)).toNat:Int)=c
    ·have h2':(((lowb (hexd k)).toNat:Int)==c)=true:=by simpa using h2
     have hv:Hid (worthV c=k):=by show _=_; rw [hw.out,wfrom_hit hlt (by simp [mtB,h2'])]
     clear h1 h2 hw;go_wp2_with (go_at_call 83; refine (low1 k hlt _).mono ?_; rintro e w2 ⟨rfl,hb2⟩)
     go_ret;exact ⟨ret_int hv.out.symm,hb.trans (hb2.mono hb.size)⟩
    ·have h2':(((lowb (hexd k)).toNat:Int)==c)=false:=by simpa using h2
     have hw':Hid (worthV c=wfrom (16 - (k+1)) (k+1) c):=by show _=_; rw [hw.out,wfrom_step hlt (by simp [mtB,h1',h2'])]
     clear h1 h2 hw;go_wp2_with (go_at_call 83; refine (low1 k hlt _).mono ?_; rintro e w2 ⟨rfl,hb2⟩)
     go_roundw
     case rel=>exact ⟨k+1,by omega,by go_num,hb.trans (hb2.mono hb.size),hw'⟩
     case measure=>simp [intOf]; omega
  ·have hk16:k=16:=by omega
   subst hk16;go_wp2;go_ret;exact ⟨ret_int hw.out.symm,hb⟩
set_option maxHeartbeats 2000000 in
theorem refunescape_any (s:ByteArray) (w:World) (hs:s.size≤140737488355328) :
  Calls Tryz.prog 136 #[.string s] w fun e w'=>e=.returned (.tuple #[.string ⟨(unescV s.data.toList).1.toArray⟩,.int .i64 (unescV s.data.toList).2])∧Below w.heap.size w w':=by
 obtain ⟨i0,hi,hz0,hz1,hz2⟩:=info_parts info5
 go_enter Tryz.func136,Tryz.ntmps136
 go_wp2_with fail
 go_loopw [4,5] (fun v i wr=>∃ (k:Nat) (acc:List UInt8),k≤s.size∧i=.int .i64 k∧acc.length≤k∧Own wr w.heap.size 5 v (Lib.byteCells acc)∧Below w.heap.size w wr∧w.heap.size≤wr.heap.size ∧
   Hid (UneAt s.data.toList acc (s.data.toList.drop k))) (fun _ i _=>s.size - (intOf i).toNat)
 case atStart=>exact ⟨0,[],Nat.zero_le _,rfl,Nat.le_refl _,Own.nil _ _ _,Below.refl _ _,Nat.le_refl _,show UneAt _ _ _ by rw [List.drop_zero]; exact uneAt0 _⟩
 case round =>
  obtain ⟨k,acc,hk,rfl,hac,hown,hb,hB,hu⟩:=hrel;by_cases hlt:k < s.size
  ·have hu':=hu.out;rw [drop_cons s k hlt] at hu';by_cases h37:(s[k].toNat:Int)=37
   ·have c1:((s[k].toNat:Int) != 37)=false:=by simp [h37]
    by_cases hsh:k+2 < s.size
    ·rw [drop_cons s (k+1) (by omega),drop_cons s (k+1+1) (by omega)] at hu';by_cases hx1:isB s[k+1].toNat 4=true
     ·by_cases hx2:isB s[k+2].toNat 4=true
      ·have hn:Hid (UneAt s.data.toList (acc++[hxb s[k+1] s[k+2]]) (s.data.toList.drop (k+1+1+1))):=uneAt_hex hu' h37 hx1 hx2;have hw1:=worth_hex hx1;have hw2:=worth_hex hx2;have hd1:=hexv_bd hx1;have hd2:=hexv_bd hx2;have hv:=hxb_toNat hx1 hx2;clear hu hu' h37;go_wp2_with (go_at_call 169; refine (worth_any _ _).mono ?_; rintro e w5 ⟨rfl,h5⟩; replace hown:=hown.below h5; replace hb:=hb.trans (h5.mono hB); replace hB:=Nat.le_trans hB h5.size; clear h5)
       replace hown:=hown.drew;replace hb:=hb.drew;have q1:IntKind.i64.wrap ((k:Int)+1)=(k:Int)+1:=by simp [IntKind.wrap,IntKind.signed,IntKind.bits]; omega
       have q2:IntKind.i64.wrap ((k:Int)+2)=(k:Int)+2:=by simp [IntKind.wrap,IntKind.signed,IntKind.bits]; omega
       have q3:((k:Int)+1).toNat=k+1:=by omega
       have q4:((k:Int)+2).toNat=k+2:=by omega
       have q5:(0:Int)≤(k:Int)+1:=by omega
       have q6:(k:Int)+1 < (s.size:Int):=by omega
       have q7:(0:Int)≤(k:Int)+2:=by omega
       have q8:(k:Int)+2 < (s.size:Int):=by omega
       have m1:IntKind.i64.wrap (16 * hexv s[k+1].toNat)=16 * hexv s[k+1].toNat:=by simp [IntKind.wrap,IntKind.signed,IntKind.bits]; omega
       have m2:IntKind.i64.wrap (16 * hexv s[k+1].toNat+hexv s[k+2].toNat)=16 * hexv s[k+1].toNat+hexv s[k+2].toNat:=by simp [IntKind.wrap,IntKind.signed,IntKind.bits]; omega
       have m3:IntKind.u8.wrap (16 * hexv s[k+1].toNat+hexv s[k+2].toNat)=((hxb s[k+1] s[k+2]).toNat:Int):=by rw [hv]; simp [IntKind.wrap,IntKind.signed,IntKind.bits]; omega
       clear hv
       go_region_law (first | (refine step_app rfl (.tmp 43) (.tmp 57) 143 rfl w.heap.size 5 i0 (.int .u8 0) 1 Tryz.underlying143 hi hz0 hz1 hz2 rfl _ _ rfl (by exact hown.alloc _) ⟨_,0,none⟩ 1 1 (Lib.byteCells [hxb s[k+1] s[k+2]]) rfl rfl (by exact one_new _ _ _) (byteCells_one _) (by rw [Lib.byteCells_length]; unfold maxLen; omega) (by rw [Lib.byteCells_length]; omega) w (by exact hb.alloc hB _) (by simp; omega) ?_; intro v3 w3 hown3 hb3 hB3) | (go_simp; go_at_call 169; refine (worth_any _ _).mono ?_; rintro e w5 ⟨rfl,h5⟩; replace hown:=hown.below h5; replace hb:=hb.trans (h5.mono hB); replace hB:=Nat.le_trans hB h5.size; clear h5))
       all_goals
        rw [byteCells_snoc] at hown3;go_wp2;go_roundw
        case rel=>exact ⟨k+1+1+1,_,by omega,by go_num,by simp; omega,hown3,hb3,hB3,hn⟩
        case measure=>simp [intOf]; omega
      ·have hx2':isB s[k+2].toNat 4=false:=by simpa using hx2
       have hv:Hid (unescV s.data.toList=([],12)):=unescV_none (uneAt_bad hu' h37 (by rw [hx1,hx2']; rfl));have hw1:=worth_hex hx1;have hw2:=worth_not hx2';have hd1:=hexv_bd hx1;clear hu hu' h37 hx1 hx2 hx2';go_wp2_with (go_at_call 169; refine (worth_any _ _).mono ?_; rintro e w5 ⟨rfl,h5⟩; replace hown:=hown.below h5; replace hb:=hb.trans (h5.mono hB); replace hB:=Nat.le_trans hB h5.size; clear h5)
       go_ret2;exact ⟨ret_str [] 12 hv.out,hb⟩
     ·have hx1':isB s[k+1].toNat 4=false:=by simpa using hx1
      have hv:Hid (unescV s.data.toList=([],12)):=unescV_none (uneAt_bad hu' h37 (by rw [hx1']; rfl));have hw1:=worth_not hx1';clear hu hu' h37 hx1 hx1';go_wp2_with (go_at_call 169; refine (worth_any _ _).mono ?_; rintro e w5 ⟨rfl,h5⟩; replace hown:=hown.below h5; replace hb:=hb.trans (h5.mono hB); replace hB:=Nat.le_trans hB h5.size; clear h5)
      go_ret2;exact ⟨ret_str [] 12 hv.out,hb⟩
    ·have hv:Hid (unescV s.data.toList=([],12)):=unescV_none (uneAt_short hu' h37 (by rw [List.length_drop,len_data]; omega));clear hu hu' h37;go_wp2;go_ret2;exact ⟨ret_str [] 12 hv.out,hb⟩
   ·have c1:((s[k].toNat:Int) != 37)=true:=by simp [h37]
    have hn:Hid (UneAt s.data.toList (acc++[s[k]]) (s.data.toList.drop (k+1))):=uneAt_plain hu' h37;clear hu hu' h37;go_wp2_with (at_builtin; refine wp_app _ rfl (.tmp 14) (.tmp 18) 143 rfl w.heap.size 5 i0 (.int .u8 0) 1 Tryz.underlying143 hi hz0 hz1 hz2 rfl _ _ rfl (by exact hown.alloc _) ⟨_,0,none⟩ 1 1 (Lib.byteCells [s[k]]) rfl rfl (by exact one_new _ _ _) (byteCells_one _) (by rw [Lib.byteCells_length]; unfold maxLen; omega) (by rw [Lib.byteCells_length]; omega) w (by exact hb.alloc hB _) (by simp; omega) ?_; intro v3 w3 hown3 hb3 hB3)
    rw [byteCells_snoc] at hown3;go_wp2;go_roundw
    case rel=>exact ⟨k+1,_,by omega,by go_num,by simp; omega,hown3,hb3,hB3,hn⟩
    case measure=>simp [intOf]; omega
  ·have hu':=hu.out;rw [drop_all s k (by omega)] at hu';have hv:Hid (unescV s.data.toList=(acc,0)):=unescV_some (uneAt_end hu');have hcv:=conv_own (P:=Tryz.prog) _ Tryz.underlying143 Tryz.underlying5 Tryz.underlying9 hown;clear hu hu';go_wp2;go_ret2;exact ⟨ret_str acc 0 hv.out,hb⟩
set_option maxHeartbeats 1000000 in
theorem written_any (s keep:ByteArray) (w:World) (hs:s.size≤140737488355328) (hk:keep.size≤maxLen) :
  Calls Tryz.prog 86 #[.string s,.string keep] w fun e w'=>e=.returned (.tuple #[.string ⟨(writtenV keep.data.toList s.data.toList).1.toArray⟩,.bool (writtenV keep.data.toList s.data.toList).2])∧Below w.heap.size w w':=by
 go_enter Tryz.func86,Tryz.ntmps86
 go_wp2
 go_loop [6] (fun i=>∃ k:Nat,k≤s.size∧i=.int .i64 k∧Hid ((s.data.toList.take k).all (okw keep.data.toList)=true)) (fun i=>s.size - (intOf i).toNat)
 case atStart=>exact ⟨0,by omega,rfl,rfl⟩
 case round =>
  obtain ⟨k,hk',rfl,hall⟩:=hrel;by_cases hlt:k < s.size
  ·have hbd:=u8_bd s[k];by_cases h37:s[k]=37
   ·have e37:((s[k].toNat:Int) != 37)=false:=by rw [h37]; rfl
    have ha:Hid ((s.data.toList.take (k+1)).all (okw keep.data.toList)=true):=okw_snoc hlt hall.out (by simp [okw,h37]);clear h37 hall;go_wp2
    go_round
    case rel=>exact ⟨k+1,by omega,by go_num,ha⟩
    case measure=>simp [intOf]; omega
   ·have e37:((s[k].toNat:Int) != 37)=true:=by
     have:=u8_ne (b:=37) h37
     simp only [bne,Bool.not_eq_true']; exact this
    by_cases hx:isB s[k].toNat 16=true
    ·have hx2:(bits BinOp.and IntKind.i64 (cls s[k].toNat) 16==0)=false:=by simpa [isB] using hx
     have ha:Hid ((s.data.toList.take (k+1)).all (okw keep.data.toList)=true):=okw_snoc hlt hall.out (by simp [okw,hx]);clear h37 hall hx;go_wp2_with (go_at_call 77; refine (refclass_any _ _ hbd.1 hbd.2).mono ?_; rintro e w' ⟨rfl,rfl⟩)
     go_round
     case rel=>exact ⟨k+1,by omega,by go_num,ha⟩
     case measure=>simp [intOf]; omega
    ·have hx2:(bits BinOp.and IntKind.i64 (cls s[k].toNat) 16==0)=true:=by simpa [isB] using hx
     by_cases hh:hasL s[k] keep.data.toList=true
     ·have ha:Hid ((s.data.toList.take (k+1)).all (okw keep.data.toList)=true):=okw_snoc hlt hall.out (by simp [okw,hh]);clear h37 hall hx;go_wp2_with (first
       | (go_at_call 77; refine (refclass_any _ _ hbd.1 hbd.2).mono ?_; rintro e w' ⟨rfl,rfl⟩)
       | (go_at_call 85; refine (has3_any keep s[k] _ hk).mono ?_; rintro e w' ⟨rfl,rfl⟩))
      go_round
      case rel=>exact ⟨k+1,by omega,by go_num,ha⟩
      case measure=>simp [intOf]; omega
     ·have hh':hasL s[k] keep.data.toList=false:=by simpa using hh
      have hb:Hid (writtenV keep.data.toList s.data.toList=([],false)):=written_bad hlt (by
       simp only [okw,Bool.or_eq_false_iff,beq_eq_false_iff_ne,ne_eq];exact ⟨h37,by simpa using hx,hh'⟩)
      clear h37 hall hx hh;go_wp2_with (first
       | (go_at_call 77; refine (refclass_any _ _ hbd.1 hbd.2).mono ?_; rintro e w' ⟨rfl,rfl⟩)
       | (go_at_call 85; refine (has3_any keep s[k] _ hk).mono ?_; rintro e w' ⟨rfl,rfl⟩))
      go_ret2;exact ⟨ret_wr (x:=[]) hb.out,Below.refl _ _⟩
  ·rw [take_all s k (by omega)] at hall;have hv:=written_all hall.out;have HV:Hid _:=hv; clear hv hall
   go_wp2_with (go_at_call 136; refine (refunescape_any _ _ hs).mono ?_; rintro e w1 ⟨rfl,hw1⟩)
   all_goals go_ret2
   all_goals exact ⟨ret_wr HV.out,hw1⟩
theorem written_list (s keep:List UInt8) (w:World) (hs:s.length≤1048576) (hk:keep.length≤64) :
  Calls Tryz.prog 86 #[.string ⟨s.toArray⟩,.string ⟨keep.toArray⟩] w fun e w'=>e=.returned (.tuple #[.string ⟨(writtenV keep s).1.toArray⟩,.bool (writtenV keep s).2])∧Below w.heap.size w w' :=
 written_any ⟨s.toArray⟩ ⟨keep.toArray⟩ w (by rw [size_list]; omega) (by rw [size_list]; unfold maxLen; omega)
set_option maxHeartbeats 2000000 in
set_option maxRecDepth 100000 in
theorem params_any (v:Value) (ls:List (List UInt8)) (keep:List UInt8) (w:World) (hk:keep.length≤64) (hn:ls.length≤1048577) (hl:∀ l ∈ ls,l.length≤1048576) (hv:StrsAt w v ls) :
  Calls Tryz.prog 89 #[v,.string ⟨keep.toArray⟩] w fun e w'=>∃ v' b,e=.returned (.tuple #[v',.bool b])∧ParsRes keep ls w w' v' b∧Below w.heap.size w w':=by
 obtain ⟨i0,hi,hz0,hz1,hz2⟩:=info_parts infoPar;obtain ⟨ao,cap,rfl,hc⟩:=hv;have HC:Hid _:=hc; clear hc
 have HL:Hid _:=hl; clear hl
 obtain ⟨n,hn'⟩:∃ n,n=ls.length:=⟨_,rfl⟩
 rw [← hn'] at hn ⊢;have HN:Hid _:=hn'; clear hn'
 go_enter Tryz.func89,Tryz.ntmps89
 go_wp2
 go_loopw [6,7] (fun x i wr=>∃ (k:Nat) (ps:List Par),k≤n∧i=.int .i64 k∧Hid (parsOf keep (ls.take k)=some ps)∧ps.length=k∧OwnP wr w.heap.size x ps∧Below w.heap.size w wr∧w.heap.size≤wr.heap.size) (fun _ i _=>n - (intOf i).toNat)
 case atStart=>exact ⟨0,[],by omega,rfl,rfl,rfl,OwnP.nil _ _,Below.refl _ _,Nat.le_refl _⟩
 case round =>
  obtain ⟨k,ps,hkn,rfl,hps,hpl,hown,hb,hB⟩:=hrel;by_cases hlt:k < n
  ·have hkl:k < ls.length:=by have:=HN.out; omega
   obtain ⟨a,hao,hab,hcell⟩:=HC.out k hkl;have hcell2:=cell_below hb (by rw [add_block]; exact hab) hcell;have hll:=HL.out _ (List.getElem_mem hkl);have hcl:=cutL_len 61 ls[k];subst hao;clear hcell;go_wp2_with fail
   refine (cut3_list ls[k] 61 _ (by omega)).mono ?_
   rintro e w' ⟨rfl,q,rfl⟩;have hown1:=hown.below (below_drewN _ q);have hb1:=hb.trans ((below_drewN _ q).mono hB);go_wp2_with fail
   refine (written_list (cutL 61 ls[k]).1 keep _ (by omega) hk).mono ?_
   rintro e w3 ⟨rfl,hw3⟩;have hown3:=hown1.below hw3;have hb3:=hb1.trans (hw3.mono hb1.size);go_wp2_with fail
   refine (written_list (cutL 61 ls[k]).2.1 keep _ (by omega) hk).mono ?_
   rintro e w4 ⟨rfl,hw4⟩;have hown4:=hown3.below hw4;have hb4:=hb3.trans (hw4.mono hb3.size);have hB4:=hb4.size;clear hown hown1 hown3 hb hb1 hb3 hw3 hw4 hB hcell2;have hsn:parsOf keep (ls.take (k+1))=match parsOf keep (ls.take k),parOf keep ls[k] with | some ps,some p=>some (ps++[p]) | _,_=>none:=by
    rw [List.take_succ_eq_append_getElem hkl];exact parsOf_snoc keep _ _
   rw [hps.out] at hsn;have hpbad:=@parsOf_bad keep ls k hkl;have hpsome:=@parOf_some keep ls[k];have hpnone:=@parOf_none keep ls[k];generalize cutL 61 ls[k]=c3 at hpsome hpnone ⊢;obtain ⟨ca,cb,cc⟩:=c3;simp only at hpsome hpnone ⊢;generalize writtenV keep ca=wa at hpsome hpnone ⊢;generalize writtenV keep cb=wb at hpsome hpnone ⊢;obtain ⟨na,ha⟩:=wa;obtain ⟨nb,hbb⟩:=wb;simp only at hpsome hpnone ⊢;have HPB:Hid _:=hpbad; clear hpbad
   have HPN:Hid _:=hpnone; clear hpnone
   have HPS:Hid _:=hpsome; clear hpsome
   have HSN:Hid _:=hsn; clear hsn
   cases ha with
   | false =>
    have hnone:Hid (parsOf keep ls=none):=HPB.out (HPN.out (by simp));go_wp2;go_ret2
    first | exact ⟨.slice none 0 0,false,rfl,Or.inr ⟨hnone.out,rfl,rfl⟩,hb4⟩ | exact ⟨.slice none 0 0,Or.inl ⟨rfl,Or.inr ⟨hnone.out,rfl,rfl⟩,hb4⟩⟩
   | true =>
    cases hbb with
    | false =>
     have hnone:Hid (parsOf keep ls=none):=HPB.out (HPN.out (by simp));go_wp2;go_ret2
     first | exact ⟨.slice none 0 0,false,rfl,Or.inr ⟨hnone.out,rfl,rfl⟩,hb4⟩ | exact ⟨.slice none 0 0,Or.inl ⟨rfl,Or.inr ⟨hnone.out,rfl,rfl⟩,hb4⟩⟩
    | true =>
     have hsn2:Hid (parsOf keep (ls.take (k+1))=some (ps++[⟨na,nb,cc⟩])):=show _=_ by rw [HSN.out,HPS.out rfl rfl]
     have hnew:∀ (j:Nat) (u:Value),(parCells ⟨na,nb,cc⟩)[j]? = some u → (w4.alloc (.cells #[.string ⟨na.toArray⟩,.string ⟨nb.toArray⟩,.bool cc] 158)).cell? ((⟨w4.heap.size,0,none⟩:Addr).add j)=some u:=by
      intro j u hj;have e:(⟨w4.heap.size,0,none⟩:Addr).add j=⟨w4.heap.size,j,none⟩:=by unfold Addr.add; split <;> simp_all
      rw [e];unfold World.cell?;rw [heap_alloc_new]
      simpa [parCells] using hj
     have HNW:Hid _:=hnew; clear hnew HSN HPS HPN HPB
     go_wp2_with (at_builtin; refine wp_appP _ rfl (.tmp 48) (.tmp 53) 27 rfl w.heap.size i0 _ Tryz.underlying27 hi hz0 hz1 hz2 rfl _ ps rfl (hown4.alloc _) ⟨w4.heap.size,0,none⟩ 1 ⟨na,nb,cc⟩ rfl (by exact HNW.out) (by omega) w (hb4.alloc hB4 _) (by simp; omega) ?_; intro v5 w5 hown5 hb5 hB5)
     go_wp2;go_roundw
     case rel=>exact ⟨k+1,ps++[⟨na,nb,cc⟩],by omega,by go_num,hsn2,by simp; omega,hown5,hb5,hB5⟩
     case measure=>simp [intOf]; omega
  ·have hend:Hid (parsOf keep ls=some ps):=show _=_ by
    have h:=hps.out;have e:=HN.out;rw [List.take_of_length_le (by omega)] at h; exact h
   clear hps;go_wp2;go_ret2
   first | exact ⟨_,_,rfl,Or.inl ⟨ps,hend.out,rfl,hown⟩,hb⟩ | exact ⟨_,Or.inr ⟨rfl,Or.inl ⟨ps,hend.out,rfl,hown⟩,hb⟩⟩
set_option maxHeartbeats 1000000 in
theorem refunquote_short (s:ByteArray) (w:World) (h2:s.size < 2) :
  Calls Tryz.prog 139 #[.string s] w fun e w'=>e=.returned (.tuple #[.string ⟨(unquoteV s.data.toList).1.toArray⟩,.int .i64 (unquoteV s.data.toList).2])∧Below w.heap.size w w':=by
 have hv:Hid (unquoteV s.data.toList=([],11)):=unquoteV_bad (Or.inl (by rw [len_data]; exact h2))
 go_enter Tryz.func139,Tryz.ntmps139
 go_wp2;go_ret2;exact ⟨ret_str [] 11 hv.out,Below.refl _ _⟩
set_option maxHeartbeats 1000000 in
theorem refunquote_first (s:ByteArray) (w:World) (hs:s.size≤140737488355328) (h2:2≤s.size) (hp0:0 < s.size) (h0:((s[0]'hp0).toNat:Int) ≠ 34) :
  Calls Tryz.prog 139 #[.string s] w fun e w'=>e=.returned (.tuple #[.string ⟨(unquoteV s.data.toList).1.toArray⟩,.int .i64 (unquoteV s.data.toList).2])∧Below w.heap.size w w':=by
 have hv:Hid (unquoteV s.data.toList=([],11)):=unquoteV_bad (Or.inr (Or.inl (by rw [first_at hp0]; intro e; injection e with e; omega)));have e0:(((s[0]'hp0).toNat:Int) != 34)=true:=by simp [h0]
 clear h0
 go_enter Tryz.func139,Tryz.ntmps139
 go_wp2;go_ret2;exact ⟨ret_str [] 11 hv.out,Below.refl _ _⟩
set_option maxHeartbeats 1000000 in
theorem refunquote_last (s:ByteArray) (w:World) (hs:s.size≤140737488355328) (h2:2≤s.size) (hp0:0 < s.size) (hp1:s.size - 1 < s.size) (h0:((s[0]'hp0).toNat:Int)=34) (h1:((s[s.size - 1]'hp1).toNat:Int) ≠ 34) :
  Calls Tryz.prog 139 #[.string s] w fun e w'=>e=.returned (.tuple #[.string ⟨(unquoteV s.data.toList).1.toArray⟩,.int .i64 (unquoteV s.data.toList).2])∧Below w.heap.size w w':=by
 have hv:Hid (unquoteV s.data.toList=([],11)):=unquoteV_bad (Or.inr (Or.inr (by rw [last_at hp1]; intro e; injection e with e; omega)));have e0:(((s[0]'hp0).toNat:Int) != 34)=false:=by simp [h0]
 have e1:(((s[s.size - 1]'hp1).toNat:Int) != 34)=true:=by simp [h1]
 have ht1:((s.size:Int) - 1).toNat=s.size - 1:=by omega
 clear h0 h1
 go_enter Tryz.func139,Tryz.ntmps139
 go_wp2;go_ret2;exact ⟨ret_str [] 11 hv.out,Below.refl _ _⟩
theorem mid_cons (s:ByteArray) (k m:Nat) (hk:k < m) (hm:m≤s.size):mid s.data.toList k m=s[k] :: mid s.data.toList (k+1) m:=by
 rw [mid,drop_cons s k (by omega),show m - k=(m - (k+1))+1 by omega,List.take_succ_cons]; rfl
theorem mid_nil (l:List UInt8) (k m:Nat) (h:m≤k):mid l k m=[]:=by rw [mid,show m - k=0 by omega,List.take_zero]
set_option maxHeartbeats 400000 in
theorem broken_any (c:Int) (w:World) :
  Calls Tryz.prog 170 #[.int .u8 c] w fun e w'=>e=.returned (.bool (barB c))∧w'=w:=by
 go_enter Tryz.func170,Tryz.ntmps170
 go_wp2
 all_goals go_ret
 all_goals (refine ⟨ret_bool ?_,rfl⟩; unfold barB; rw [Bool.eq_iff_iff]; simp; omega)
set_option maxHeartbeats 400000 in
theorem refbare_any (c:Int) (w:World) :
  Calls Tryz.prog 171 #[.int .u8 c] w fun e w'=>e=.returned (.bool (bareB c))∧w'=w:=by
 go_enter Tryz.func171,Tryz.ntmps171
 go_wp2
 all_goals go_ret
 all_goals (refine ⟨ret_bool ?_,rfl⟩; unfold bareB; rw [Bool.eq_iff_iff]; simp; omega)
set_option maxHeartbeats 2000000 in
theorem refunquote_marks (s:ByteArray) (w:World) (hs:s.size≤140737488355328) (h2:2≤s.size) (hp0:0 < s.size) (hp1:s.size - 1 < s.size) (h0:((s[0]'hp0).toNat:Int)=34) (h1:((s[s.size - 1]'hp1).toNat:Int)=34) :
  Calls Tryz.prog 139 #[.string s] w fun e w'=>e=.returned (.tuple #[.string ⟨(unquoteV s.data.toList).1.toArray⟩,.int .i64 (unquoteV s.data.toList).2])∧Below w.heap.size w w':=by
 obtain ⟨i0,hi,hz0,hz1,hz2⟩:=info_parts info5;have hok:Hid (¬ (s.data.toList.length < 2∨s.data.toList[0]?.map (·.toNat) ≠ some 34∨s.data.toList[s.data.toList.length - 1]?.map (·.toNat) ≠ some 34)):=marks_ok h2 hp0 hp1 h0 h1;have e0:(((s[0]'hp0).toNat:Int) != 34)=false:=by simp [h0]
 have e1:(((s[s.size - 1]'hp1).toNat:Int) != 34)=false:=by simp [h1]
 have ht1:((s.size:Int) - 1).toNat=s.size - 1:=by omega
 have hld:=len_data s;have HL:Hid (s.data.toList.length=s.size):=hld;clear h0 h1 hld
 go_enter Tryz.func139,Tryz.ntmps139
 go_wp2_with fail
 go_loopw [4,5] (fun v i wr=>∃ (k:Nat) (acc:List UInt8),1≤k∧k≤s.size - 1∧i=.int .i64 k∧acc.length≤k∧Own wr w.heap.size 5 v (Lib.byteCells acc)∧Below w.heap.size w wr∧w.heap.size≤wr.heap.size ∧
   Hid (UnqAt (mid s.data.toList 1 (s.data.toList.length - 1)) acc (mid s.data.toList k (s.size - 1)))) (fun _ i _=>s.size - (intOf i).toNat)
 case atStart=>exact ⟨1,[],Nat.le_refl _,by omega,rfl,by simp,Own.nil _ _ _,Below.refl _ _,Nat.le_refl _,show UnqAt _ _ _ by rw [HL.out]; exact unqAt0 _⟩
 case round =>
  clear e0 e1 HL;obtain ⟨k,acc,hk1,hk,rfl,hac,hown,hb,hB,hu⟩:=hrel;by_cases hlt:k < s.size - 1
  ·by_cases hes:(s[k].toNat:Int)=92∧k < s.size - 2
   ·obtain ⟨h92,hlt1⟩:=hes;have hks:k < s.size:=by omega
    have hks1:k+1 < s.size:=by omega
    have hu':=hu.out;rw [mid_cons s k (s.size - 1) hlt (by omega),mid_cons s (k+1) (s.size - 1) (by omega) (by omega)] at hu';have c1:((s[k].toNat:Int)==92)=true:=by simpa using h92
    by_cases hbad:badB s[k+1].toNat=true
    ·have hv:Hid (unquoteV s.data.toList=([],11)):=unquoteV_none hok.out (unqAt_bad hu' h92 hbad);clear hu hu' h92;by_cases hbr:barB s[k+1].toNat=true
     ·go_wp2_with (go_at_call 170; refine (broken_any _ _).mono ?_; rintro e w' ⟨rfl,rfl⟩)
      go_ret2;exact ⟨ret_str [] 11 hv.out,hb⟩
     ·have hbr':barB s[k+1].toNat=false:=by simpa using hbr
      have h127:127 < (s[k+1].toNat:Int):=by rw [badB,hbr'] at hbad; simpa using hbad
      clear hbr hbad;go_wp2_with (go_at_call 170; refine (broken_any _ _).mono ?_; rintro e w' ⟨rfl,rfl⟩)
      go_ret2;exact ⟨ret_str [] 11 hv.out,hb⟩
    ·have hbad':badB s[k+1].toNat=false:=by simpa using hbad
     have hn:Hid (UnqAt (mid s.data.toList 1 (s.data.toList.length - 1)) (acc++[s[k+1]]) (mid s.data.toList (k+1+1) (s.size - 1))):=unqAt_esc hu' h92 hbad';obtain ⟨hbr,h127⟩:=badB_split hbad';clear hu hu' h92 hbad hbad';go_wp2_with (first
      | (go_at_call 170; refine (broken_any _ _).mono ?_; rintro e w' ⟨rfl,rfl⟩)
      | (at_builtin; refine wp_app _ rfl (.tmp 54) (.tmp 56) 143 rfl w.heap.size 5 i0 (.int .u8 0) 1 Tryz.underlying143 hi hz0 hz1 hz2 rfl _ _ rfl (hown.alloc _) ⟨_,0,none⟩ 1 1 (Lib.byteCells [s[k+1]]) rfl rfl (by exact one_new _ _ _) (byteCells_one _) (by rw [Lib.byteCells_length]; unfold maxLen; omega) (by rw [Lib.byteCells_length]; omega) w (hb.alloc hB _) (by simp; omega) ?_; intro v3 w3 hown3 hb3 hB3))
     rw [byteCells_snoc] at hown3;go_roundw
     case rel=>exact ⟨k+1+1,_,by omega,by omega,by go_num,by simp; omega,hown3,hb3,hB3,hn⟩
     case measure=>simp [intOf]; omega
   ·have hks:k < s.size:=by omega
    have hu':=hu.out;rw [mid_cons s k (s.size - 1) hlt (by omega)] at hu';have hside:(s[k].toNat:Int) ≠ 92∨mid s.data.toList (k+1) (s.size - 1)=[]:=by
     by_cases h92:(s[k].toNat:Int)=92
     ·right; exact mid_nil _ _ _ (by have:=fun h=>hes ⟨h92,h⟩; omega)
     ·left; exact h92
    by_cases hba:bareB s[k].toNat=true
    ·have hn:Hid (UnqAt (mid s.data.toList 1 (s.data.toList.length - 1)) (acc++[s[k]]) (mid s.data.toList (k+1) (s.size - 1))):=unqAt_bare hu' hside hba;by_cases h92:(s[k].toNat:Int)=92
     ·rw [h92] at hba; exact absurd hba (by decide)
     ·have c1:((s[k].toNat:Int)==92)=false:=by simpa using h92
      clear hu hu' hside hes h92;go_wp2_with (first
       | (go_at_call 171; refine (refbare_any _ _).mono ?_; rintro e w' ⟨rfl,rfl⟩)
       | (at_builtin; refine wp_app _ rfl (.tmp 54) (.tmp 56) 143 rfl w.heap.size 5 i0 (.int .u8 0) 1 Tryz.underlying143 hi hz0 hz1 hz2 rfl _ _ rfl (hown.alloc _) ⟨_,0,none⟩ 1 1 (Lib.byteCells [s[k]]) rfl rfl (by exact one_new _ _ _) (byteCells_one _) (by rw [Lib.byteCells_length]; unfold maxLen; omega) (by rw [Lib.byteCells_length]; omega) w (hb.alloc hB _) (by simp; omega) ?_; intro v3 w3 hown3 hb3 hB3))
      rw [byteCells_snoc] at hown3;go_roundw
      case rel=>exact ⟨k+1,_,by omega,by omega,by go_num,by simp; omega,hown3,hb3,hB3,hn⟩
      case measure=>simp [intOf]; omega
    ·have hba':bareB s[k].toNat=false:=by simpa using hba
     have hv:Hid (unquoteV s.data.toList=([],11)):=unquoteV_none hok.out (unqAt_not hu' hside hba');by_cases h92:(s[k].toNat:Int)=92
     ·have c1:((s[k].toNat:Int)==92)=true:=by simpa using h92
      have c2:¬ (k < s.size - 2):=fun h=>hes ⟨h92,h⟩;clear hu hu' hside hes h92 hba;go_wp2_with (go_at_call 171; refine (refbare_any _ _).mono ?_; rintro e w' ⟨rfl,rfl⟩)
      go_ret2;exact ⟨ret_str [] 11 hv.out,hb⟩
     ·have c1:((s[k].toNat:Int)==92)=false:=by simpa using h92
      clear hu hu' hside hes h92 hba;go_wp2_with (go_at_call 171; refine (refbare_any _ _).mono ?_; rintro e w' ⟨rfl,rfl⟩)
      go_ret2;exact ⟨ret_str [] 11 hv.out,hb⟩
  ·have hu':=hu.out;rw [mid_nil _ k (s.size - 1) (by omega)] at hu';have hv:Hid (unquoteV s.data.toList=(acc,0)):=unquoteV_some hok.out (unqAt_end hu');have hcv:=conv_own (P:=Tryz.prog) _ Tryz.underlying143 Tryz.underlying5 Tryz.underlying9 hown;clear hu hu';go_wp2;go_ret2;exact ⟨ret_str acc 0 hv.out,hb⟩
theorem refunquote_any (s:ByteArray) (w:World) (hs:s.size≤140737488355328) :
  Calls Tryz.prog 139 #[.string s] w fun e w'=>e=.returned (.tuple #[.string ⟨(unquoteV s.data.toList).1.toArray⟩,.int .i64 (unquoteV s.data.toList).2])∧Below w.heap.size w w':=by
 by_cases h2:2≤s.size
 ·have hp0:0 < s.size:=by omega
  have hp1:s.size - 1 < s.size:=by omega
  by_cases h0:((s[0]'hp0).toNat:Int)=34
  ·by_cases h1:((s[s.size - 1]'hp1).toNat:Int)=34
   ·exact refunquote_marks s w hs h2 hp0 hp1 h0 h1
   ·exact refunquote_last s w hs h2 hp0 hp1 h0 h1
  ·exact refunquote_first s w hs h2 hp0 h0
 ·exact refunquote_short s w (by omega)
theorem quo_c1 (l:List UInt8) (b:UInt8) (h:bareB b.toNat=true):Lib.byteCells (quo l)++Lib.byteCells [b]=Lib.byteCells (quo (l++[b])):=by
 rw [quo_snoc1 l b h,← Lib.byteCells_append]
theorem quo_c2 (l:List UInt8) (b:UInt8) (h:bareB b.toNat=false):Lib.byteCells (quo l)++Lib.byteCells [92]++Lib.byteCells [b]=Lib.byteCells (quo (l++[b])):=by
 rw [quo_snoc2 l b h,← Lib.byteCells_append,← Lib.byteCells_append]
end Go.Proofs.YtiogedceommcoaaGreatDoor
