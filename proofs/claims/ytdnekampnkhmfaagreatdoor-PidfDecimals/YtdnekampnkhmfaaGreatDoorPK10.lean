/-
  PidfL, RefDig, PR3, WPidfDecimals.
-/
import Derived.Test.YtdnekampnkhmfaaGreatDoorPK38
import Derived.Test.YtdnekampnkhmfaaGreatDoorPK04
set_option linter.unusedVariables false
set_option linter.unusedSimpArgs false
set_option maxRecDepth 20000
namespace Go.Proofs.YtdnekampnkhmfaaGreatDoor
open Go.RowKit Sc
theorem dec_bad {n:Int} (h:n < 0∨1000 < n):decL n=[]:=by unfold decL; rw [if_pos h]
theorem dec_none:thouV []=-1:=by decide +kernel
theorem dig_ext (i:Int) (h0:0≤i) (h1:i < 10):(ByteArray.mk #[48,49,50,51,52,53,54,55,56,57]).extract i.toNat (i+1).toNat=⟨[digb i.toNat].toArray⟩:=by
 obtain ⟨n,rfl⟩:=Int.eq_ofNat_of_zero_le h0;have h:∀ n:Fin 10,(ByteArray.mk #[48,49,50,51,52,53,54,55,56,57]).extract n.val (n.val+1)=⟨[digb n.val].toArray⟩:=by decide +kernel
 exact h ⟨n,by omega⟩
set_option maxHeartbeats 600000 in
theorem refdigits_any (k:Nat):∀ (n:Int) (w:World),n≤k → 0≤n → n≤9223372036854775807 →
  Calls Tryz.prog 51 #[.int .i64 n] w fun e w'=>e=.returned (.string ⟨(digL n.toNat).toArray⟩)∧∃ q,w'=w.drewN q:=by
 induction k with
 | zero =>
  intro n w hk h0 h1;have hn:n=0:=by omega
  subst hn
  go_enter Tryz.func51,Tryz.ntmps51
  go_wp2_with fail
  go_ret;exact ⟨by rw [digL_small (by omega)]; rfl,0,rfl⟩
 | succ k ih =>
  intro n w hk h0 h1;by_cases hn:n < 10
  ·have hE:Hid ((ByteArray.mk #[48,49,50,51,52,53,54,55,56,57]).extract n.toNat (n+1).toNat=⟨(digL n.toNat).toArray⟩):=by
    show _=_; rw [dig_ext n h0 hn,digL_small (by omega)]
   go_enter Tryz.func51,Tryz.ntmps51
   go_wp2_with fail
   go_ret;exact ⟨by rw [← hE.out]; rfl,0,rfl⟩
  ·have hq0:0≤n / 10:=by omega
   have hi:=fun w=>ih (n / 10) w (by omega) hq0 (by omega);have HI:Hid (∀ w:World,Calls Tryz.prog 51 #[.int .i64 (n / 10)] w fun e w'=>e=.returned (.string ⟨(digL (n / 10).toNat).toArray⟩)∧∃ q,w'=w.drewN q):=hi;clear hi ih;have e1:IntKind.i64.wrap (n.tdiv 10)=n / 10:=by rw [Int.tdiv_eq_ediv_of_nonneg h0]; simp [IntKind.wrap,IntKind.signed,IntKind.bits]; omega
   have e2:n.tmod 10=n % 10:=Int.tmod_eq_emod_of_nonneg h0;have e3:IntKind.i64.wrap (n % 10+1)=n % 10+1:=by simp [IntKind.wrap,IntKind.signed,IntKind.bits]; omega
   have e4:IntKind.i64.wrap (n % 10)=n % 10:=by simp [IntKind.wrap,IntKind.signed,IntKind.bits]; omega
   have g1:0≤n % 10:=by omega
   have e5:(ByteArray.mk #[48,49,50,51,52,53,54,55,56,57]).extract (n % 10).toNat (n % 10+1).toNat=⟨[digb (n % 10).toNat].toArray⟩:=dig_ext _ g1 (by omega);have g5:(digL (n / 10).toNat).length+1≤9223372036854775807:=by have:=digL_len19 (n:=(n / 10).toNat) (by omega); omega
   have hE:Hid ((ByteArray.mk (digL (n / 10).toNat).toArray)++⟨[digb (n % 10).toNat].toArray⟩=⟨(digL n.toNat).toArray⟩):=by
    show _=_
    rw [ByteArray.mk_append_mk,digL_big (n:=n.toNat) (by omega)];have a1:n.toNat / 10=(n / 10).toNat:=by omega
    have a2:digb (n % 10).toNat=digb n.toNat:=by unfold digb; congr 2; omega
    rw [a1,a2]
   have g2:n % 10 < 10:=by omega
   have g3:n % 10≤n % 10+1:=by omega
   have g4:n % 10+1≤10:=by omega
   go_enter Tryz.func51,Tryz.ntmps51
   go_wp2_with fail
   go_quiet ((go_at_call 51; exact Calls.quiet_of (HI.out _)))
   clear e1 e2 e3 e4 e5;go_wp2_with fail
   go_ret;exact ⟨by rw [← hE.out]; rfl,nq,rfl⟩
theorem pad_dig {n:Nat} (h:n < 1000):List.replicate (3 - (digL n).length) 48++digL n=d3 n:=by
 have hz:∀ m:Nat,digb m=UInt8.ofNat (48+m % 10):=fun m=>rfl;by_cases h1:n < 10
 ·rw [digL_small h1];have e1:n / 100 % 10=0:=by omega
  have e2:n / 10 % 10=0:=by omega
  simp only [d3,e1,e2,hz,List.length_cons,List.length_nil]
  rfl
 ·rw [digL_big h1];by_cases h2:n < 100
  ·rw [digL_small (by omega)];have e1:n / 100 % 10=0:=by omega
   simp only [d3,e1,hz,List.length_append,List.length_cons,List.length_nil]
   rfl
  ·rw [digL_big (by omega),digL_small (by omega)];have e1:n / 10 / 10 % 10=n / 100 % 10:=by omega
   simp only [d3,hz,e1,List.length_append,List.length_cons,List.length_nil]
   rfl
theorem dig_len {n:Nat} (h:n < 1000):1≤(digL n).length∧(digL n).length≤3:=by
 by_cases h1:n < 10
 ·rw [digL_small h1]; simp
 ·rw [digL_big h1];by_cases h2:n < 100
  ·rw [digL_small (by omega)]; simp
  ·rw [digL_big (by omega),digL_small (by omega)]; simp
theorem strip_ne_all:∀ n:Fin 1000,n.val=0∨stripZ (d3 n.val) ≠ []:=by decide +kernel
theorem strip_ne {n:Nat} (h0:0 < n) (h:n < 1000):stripZ (d3 n) ≠ []:=by
 rcases strip_ne_all ⟨n,h⟩ with e | e
 ·exact absurd e (by simp only; omega)
 ·exact e
set_option maxHeartbeats 1000000 in
set_option maxRecDepth 100000 in
theorem rdec_any (n:Int) (w:World):Calls Tryz.prog 21 #[.int .i64 n] w fun e w'=>e=.returned (.string ⟨(decL n).toArray⟩)∧∃ q,w'=w.drewN q:=by
 have hv:decL n=if n < 0∨1000 < n then [] else if n=0 then [48] else if n=1000 then [49] else [48,46]++stripZ (d3 n.toNat):=rfl
 generalize decL n=R at hv ⊢;by_cases h0:n < 0
 ·rw [if_pos (.inl h0)] at hv;have HV:=hid hv;clear hv
  go_enter Tryz.func21,Tryz.ntmps21
  go_wp2;go_ret;exact ⟨by rw [HV.out]; rfl,0,rfl⟩
 by_cases h1:1000 < n
 ·rw [if_pos (.inr h1)] at hv;have HV:=hid hv;clear hv
  go_enter Tryz.func21,Tryz.ntmps21
  go_wp2;go_ret;exact ⟨by rw [HV.out]; rfl,0,rfl⟩
 rw [if_neg (by omega)] at hv;by_cases h2:n=0
 ·rw [if_pos h2] at hv;have HV:=hid hv;subst h2;clear hv
  go_enter Tryz.func21,Tryz.ntmps21
  go_wp2;go_ret;exact ⟨by rw [HV.out]; rfl,0,rfl⟩
 by_cases h3:n=1000
 ·rw [if_neg h2,if_pos h3] at hv;have HV:=hid hv;subst h3;clear hv
  go_enter Tryz.func21,Tryz.ntmps21
  go_wp2;go_ret;exact ⟨by rw [HV.out]; rfl,0,rfl⟩
 rw [if_neg h2,if_neg h3] at hv;have HV:=hid hv;have q2:(n==0)=false:=by rw [beq_eq_false_iff_ne]; exact h2
 have q3:(n==1000)=false:=by rw [beq_eq_false_iff_ne]; exact h3
 have KD:=hid (fun w'=>refdigits_any n.toNat n w' (by omega) (by omega) (by omega));obtain ⟨k,hk⟩:∃ k,k=n.toNat:=⟨_,rfl⟩
 have hkn:(k:Int)=n:=by omega
 rw [← hk] at KD HV;have hdl:=dig_len (n:=k) (by omega);have HPD:=hid (pad_dig (n:=k) (by omega));have HNE:=hid (strip_ne (n:=k) (by omega) (by omega));clear hv hk h2 h3;generalize digL k=D at KD hdl HPD;generalize d3 k=T at HV HPD HNE;clear hkn
 go_enter Tryz.func21,Tryz.ntmps21
 go_wp2_with fail
 refine (KD.out _).mono ?_
 rintro e w1 ⟨rfl,q,rfl⟩;go_wp2
 go_loop [3] (fun v=>∃ i:Nat,v=.string ⟨(List.replicate i 48++D).toArray⟩∧D.length+i≤3) (fun v=>3 - lenV v)
 case atStart=>exact ⟨0,by simp,by omega⟩
 case round =>
  obtain ⟨i,rfl,hi⟩:=hrel;have zz:=size_list (List.replicate i 48++D);have hll:(List.replicate i 48++D).length=D.length+i:=by simp; omega
  rw [hll] at zz;by_cases h3:D.length+i=3
  ·have ei:3 - D.length=i:=by omega
   rw [ei] at HPD;have r5:¬ ((D.length+i:Nat):Int) < 3:=by omega
   rw [HPD.out] at zz hll ⊢;have hTl:T.length=3:=by omega
   rw [h3] at zz;clear HPD KD;go_wp2
   go_loop [3] (fun v=>∃ u:ByteArray,v=.string u∧u.size≤3∧Hid (stripZ u.data.toList=stripZ T)) (fun v=>lenV v)
   case atStart=>exact ⟨⟨T.toArray⟩,rfl,by omega,show _=_ by simp⟩
   case round =>
    obtain ⟨u,rfl,hu,hd⟩:=hrel;have hu0:0 < u.size:=by
     apply Classical.byContradiction
     intro hh;have e:u.data.toList=[]:=List.eq_nil_of_length_eq_zero (by rw [len_data]; omega)
     have:=hd.out
     rw [e] at this;exact HNE.out this.symm
    have hlt:u.size - 1 < u.size:=by omega
    have hbd:=u8_bd u[u.size - 1];have hw1:IntKind.i64.wrap ((u.size:Int) - 1)=((u.size - 1:Nat):Int):=by rw [IntKind.wrap_i64]; omega
    have hn1:((u.size:Int) - 1).toNat=u.size - 1:=by omega
    by_cases hx:u[u.size - 1]=48
    ·have p1:((u[u.size - 1].toNat:Int)==48)=true:=u8_eq (b:=48) hx;have hd2:Hid (stripZ (u.extract 0 (u.size - 1)).data.toList=stripZ T):=show _=_ by rw [stripB_step u hlt hx]; exact hd.out
     have hz:(u.extract 0 (u.size - 1)).size < u.size∧(u.extract 0 (u.size - 1)).size≤3:=by rw [ByteArray.size_extract]; omega
     clear hd hx HV;go_wp2
     go_round
     case rel=>exact ⟨_,rfl,hz.2,hd2⟩
     case measure=>exact hz.1
    ·have p1:((u[u.size - 1].toNat:Int)==48)=false:=u8_ne (b:=48) hx;have hE:Hid (R=[48,46]++u.data.toList):=show _=_ by rw [HV.out,← hd.out,stripB_stop u hlt hx]
     have hgl:Hid ((⟨#[48,46]⟩:ByteArray)++u=⟨([48,46]++u.data.toList).toArray⟩):=show _=_ by apply ByteArray.ext; simp
     clear hd hx HV;go_wp2;go_ret;exact ⟨by rw [hE.out,← hgl.out]; rfl,q,rfl⟩
  ·have r5:((D.length+i:Nat):Int) < 3:=by omega
   have hgl:=glueLL [48] (List.replicate i 48++D);have hrep:[48]++(List.replicate i 48++D)=List.replicate (i+1) 48++D:=by rw [List.replicate_succ]; rfl
   rw [hrep] at hgl;have HGL:=hid hgl;clear hgl hrep HPD KD;go_wp2
   go_round
   case rel=>exact ⟨i+1,by rw [← HGL.out],by omega⟩
   case measure =>
    have zy:((⟨#[48]⟩:ByteArray)++⟨(List.replicate i 48++D).toArray⟩).size=D.length+i+1:=by rw [ByteArray.size_append,zz]; show 1+_=_; omega
    show 3 - ((⟨#[48]⟩:ByteArray)++⟨(List.replicate i 48++D).toArray⟩).size < 3 - (⟨(List.replicate i 48++D).toArray⟩:ByteArray).size
    rw [zy,zz];omega
end Go.Proofs.YtdnekampnkhmfaaGreatDoor
namespace Go.Proofs.YtdnekampnkhmfaaGreatDoor.pidfDecimals
open Go.RowKit Sc
theorem thouC_neg {l:List UInt8} (h:thouV l < 0):thouC l=(0,false):=by unfold thouC; rw [if_pos h]
theorem thouC_pos {l:List UInt8} (h:¬ thouV l < 0):thouC l=(thouV l,true):=by unfold thouC; rw [if_neg h]
theorem back_yes {n:Int} (h0:0≤n) (h1:n≤1000):thouC (decL n)=(n,true):=by rw [thouC_pos (by rw [dec_back h0 h1]; omega),dec_back h0 h1]
theorem back_no {n:Int} (h:n < 0∨1000 < n):thouC (decL n)=(0,false):=by rw [thouC_neg]; rw [dec_bad h,dec_none]; decide
theorem dec_len (n:Int):(decL n).length≤5:=by
 by_cases h:n < 0∨1000 < n
 ·rw [dec_bad h]; decide
 ·exact (dec_signs (by omega) (by omega)).2
set_option maxHeartbeats 2000000 in
set_option maxRecDepth 100000 in
theorem law_walk (a0:Int) (a1:ByteArray) (w0:(Lit.int .i64 a0).wf=true) (b1:a1.size≤140737488351232) (w:World) :
  Calls Tryz.prog 5 #[.int .i64 a0,.string a1] w fun e w'=>e=.returned (.bool true)∧Below w.heap.size w w':=by
 have hs0:a1=⟨a1.data.toList.toArray⟩:=by apply ByteArray.ext; simp
 have hl:=len_data a1;have K1:=hid (fun w'=>pthou_any a1.data.toList w' (by omega));have K2:=hid (fun w'=>rthou_any a1.data.toList w' (by omega));have K3:=hid (fun w'=>pdec_any a0 w');have K4:=hid (fun w'=>rdec_any a0 w');have K5:=hid (fun w'=>pthou_any (decL a0) w' (by have:=dec_len a0; omega));rw [← hs0] at K1 K2;have hK1:Hid (thouV a1.data.toList < 0 → thouC a1.data.toList=(0,false)):=fun h=>thouC_neg h;have hK2:Hid (¬ thouV a1.data.toList < 0 → thouC a1.data.toList=(thouV a1.data.toList,true)):=fun h=>thouC_pos h;have hB1:Hid (0≤a0 → a0≤1000 → thouC (decL a0)=(a0,true)):=fun h h'=>back_yes h h';have hB2:Hid (a0 < 0∨1000 < a0 → thouC (decL a0)=(0,false)):=fun h=>back_no h;have w0:=i64_of w0;generalize thouV a1.data.toList=V at K2 hK1 hK2;generalize thouC a1.data.toList=C at K1 hK1 hK2;generalize thouC (decL a0)=D at K5 hB1 hB2;generalize decL a0=L at K3 K4 K5;clear hs0 hl;have hC:∃ c b,C=(c,b)∧((c=0∧b=false∧V < 0)∨(c=V∧b=true∧0≤V)):=by
  by_cases h:V < 0
  ·exact ⟨0,false,hK1.out h,.inl ⟨rfl,rfl,h⟩⟩
  ·exact ⟨V,true,hK2.out h,.inr ⟨rfl,rfl,by omega⟩⟩
 have hD:∃ c b,D=(c,b)∧((c=0∧b=false∧(a0 < 0∨1000 < a0))∨(c=a0∧b=true∧0≤a0∧a0≤1000)):=by
  by_cases h:a0 < 0∨1000 < a0
  ·exact ⟨0,false,hB2.out h,.inl ⟨rfl,rfl,h⟩⟩
  ·exact ⟨a0,true,hB1.out (by omega) (by omega),.inr ⟨rfl,rfl,by omega,by omega⟩⟩
 obtain ⟨c,b,rfl,hC⟩:=hC;obtain ⟨c',b',rfl,hD⟩:=hD;simp only at K1 K5;clear hK1 hK2 hB1 hB2
 rcases hC with ⟨rfl,rfl,hV⟩ | ⟨rfl,rfl,hV⟩
 all_goals
  rcases hD with ⟨hcc,rfl,hN⟩ | ⟨hcc,rfl,hN,hN2⟩
  all_goals
   rw [hcc] at K5;clear hcc c'
   go_enter Tryz.func5,Tryz.ntmps5
   go_wp2_with fail
   refine (K1.out _).mono ?_
   rintro e w1 ⟨rfl,q1,rfl⟩;go_wp2_with fail
   refine (K2.out _).mono ?_
   rintro e w2 ⟨rfl,q2,hw2⟩;have hb2:Below w.heap.size w w2:=by rw [hw2]; exact (below_drewN w q1).trans ((below_drewN _ q2).mono (Nat.le_refl _))
   clear hw2 K1 K2;go_wp2_with fail
   refine (K3.out _).mono ?_
   rintro e w3 ⟨rfl,hw3⟩;have hb3:=hb2.trans (hw3.mono hb2.size);clear hb2 hw3;go_wp2_with fail
   refine (K4.out _).mono ?_
   rintro e w4 ⟨rfl,q4,hw4⟩;have hb4:Below w.heap.size w w4:=by rw [hw4]; exact hb3.trans ((below_drewN _ q4).mono hb3.size)
   clear hb3 hw4 K4;have r0:(L.toArray != L.toArray)=false:=by simp
   first
    | (have r1:¬ (0:Int)≤V:=by omega)
    | skip
   go_wp2_with fail
   refine (K3.out _).mono ?_
   rintro e w5 ⟨rfl,hw5⟩;have hb5:=hb4.trans (hw5.mono hb4.size);clear hb4 hw5 K3 r0;go_wp2_with fail
   refine (K5.out _).mono ?_
   rintro e w6 ⟨rfl,q6,hw6⟩;have hb6:Below w.heap.size w w6:=by rw [hw6]; exact hb5.trans ((below_drewN _ q6).mono hb5.size)
   clear hb5 hw6 K5
   first
    | (have r2:¬ (0:Int)≤a0:=by omega)
    | (have r2:(0:Int)≤a0:=by omega; have r3:a0≤1000:=by omega)
    | (have hN':=hN; by_cases r2:(0:Int)≤a0 <;> first | (have r3:¬ a0≤1000:=by omega) | skip)
   all_goals
    go_wp2_with (go_at_call 10; refine (awake14_any _).mono ?_; rintro e w7 ⟨rfl,hw7⟩)
    go_ret;exact ⟨rfl,hb6.trans (hw7.mono hb6.size)⟩
end Go.Proofs.YtdnekampnkhmfaaGreatDoor.pidfDecimals
