/-
  VList, VWho, VBy, HRef2, HRef3, HopsL, AAwake, AOnceL, ReqKit, TailQ, RBase2, HRef4, RReason, RPieces, RFields, RReadL, RRead.
-/
import Derived.Test.YtiogedceommcoaaGreatDoorK24
import Derived.Maps.AppendAt
import Derived.Deep.Cut
set_option linter.unusedVariables false
set_option linter.unusedSimpArgs false
set_option maxRecDepth 20000
namespace Go.Proofs.YtiogedceommcoaaGreatDoor
open Go.RowKit Sc
theorem hopsV_1 {vals:List (List UInt8)} {n:Int} (h:hopsG [] (restQ vals 0)=([],n)) (hn:n ≠ 0):hopsV vals=([],n):=by rw [hopsV_is,h]; simp [hn]
theorem hopsV_2 {vals:List (List UInt8)} (h:hopsG [] (restQ vals 0)=([],0)):hopsV vals=([],100):=by rw [hopsV_is,h]; simp
theorem hopsV_3 {vals:List (List UInt8)} {out:List Hop} (h:hopsG [] (restQ vals 0)=(out,0)) (hn:out ≠ []):hopsV vals=(out,0):=by rw [hopsV_is,h]; simp [hn]
theorem partsG_count (sep:Int):∀ (l:List UInt8) (p:Pl) (cur:List UInt8),(partsG sep p cur l).length≤l.length+1
 | [],p,cur=>by rw [partsG]; simp
 | b :: r,p,cur=>by
  rw [partsG]
  split
  ·have:=partsG_count sep r (pst p b.toNat).1 []; simp; omega
  ·have:=partsG_count sep r (pst p b.toNat).1 (cur++[b]); simp; omega
theorem parts_count (sep:Int) (l:List UInt8):(partsV sep l).length≤l.length+1:=partsG_count sep l pl0 []
set_option maxHeartbeats 2000000 in
set_option maxRecDepth 100000 in
theorem vlist_any (m:Ms) (h:Value) (w:World) (hsm:SmallM 140737488355328 m) (hhl:m.headers.length≤4398046511104) (hat:HdrsAt w h m.headers) (hvl:∀ l ∈ allV m viaK,l.length≤1048576) :
  Calls Tryz.prog 61 #[msgV m h] w fun e w'=>HopsRes (hopsV (allV m viaK)) w w' e∧Below w.heap.size w w':=by
 obtain ⟨i0,hi,hz0,hz1,hz2⟩:=info_parts infoHop;have KA:=hid (fun w' (hb:Below w.heap.size w w')=>fall_any m h viaK w' hsm hhl (by decide) (hat.below hb));have hnl:(allV m viaK).length≤4398046511104:=by
  unfold allV;rw [List.length_map];exact Nat.le_trans (List.length_filter_le _ _) hhl
 have HBX:=hid (boxM_new w m h);have hb0:Below w.heap.size w (w.alloc (objM m h)):=(Below.refl _ w).alloc (Nat.le_refl _) _;have H1:=hid (fun n=>@hopsV_1 (allV m viaK) n);have H2:=hid (@hopsV_2 (allV m viaK));have H3:=hid (fun o=>@hopsV_3 (allV m viaK) o);have HVL:=hid hvl;obtain ⟨ah,ch,rfl⟩:=hat.form;clear hsm hhl hat hvl;obtain ⟨me,ta,st,re,hs,bo⟩:=m;unfold msgV at KA ⊢;unfold objM at HBX hb0;simp only at KA HBX hb0 ⊢;generalize allV _ viaK=vals at KA H1 H2 H3 HVL hnl ⊢;generalize hopsV vals=R at H1 H2 H3 ⊢;obtain ⟨F,hF⟩:∃ F,hopsG [] (restQ vals 0)=F:=⟨_,rfl⟩
 rw [hF] at H1 H2 H3;have HF0:Hid (F=hopsG [] (restQ vals 0)):=hF.symm;clear hF;obtain ⟨n,hn⟩:∃ n,n=vals.length:=⟨_,rfl⟩
 rw [← hn] at hnl;have HN:=hid hn;clear hn;obtain ⟨x0,x1,x2,x3,x4,x5⟩:=HBX.out;simp only at x0 x1 x2 x3 x4 x5;unfold viaK at KA
 go_enter Tryz.func61,Tryz.ntmps61
 go_wp2_with fail
 refine (KA.out _ hb0).mono ?_
 rintro e w1 ⟨v0,rfl,hov,hw1⟩;have hb1:=hb0.trans (hw1.mono hb0.size);obtain ⟨va,vc,hve,hvc⟩:=hov.txts;subst hve;rw [← HN.out];have HC:=hid hvc;clear hvc KA hov hw1 hb0 HBX x0 x1 x2 x3 x4 x5;go_wp2
 go_loopw [4,14] (fun x i wr=>∃ (k:Nat) (cs:List HopC),k≤n∧i=.int .i64 k∧Hid (F=hopsG (cs.map HopC.h) (restQ vals k))∧Hid (cs.length≤16)∧Hid (OwnV wr w1.heap.size x cs)∧Below w1.heap.size w1 wr∧w1.heap.size≤wr.heap.size) (fun _ i _=>n - (intOf i).toNat)
 case atStart=>exact ⟨0,[],by omega,rfl,HF0,hid (by simp),hid (OwnV.nil _ _),Below.refl _ _,Nat.le_refl _⟩
 case round =>
  clear HF0;obtain ⟨k,cs0,hkn,rfl,hF,hcl,hown,hb,hB⟩:=hrel;by_cases hlt:k < n
  ·have hkl:k < vals.length:=by have:=HN.out; omega
   obtain ⟨a,hao,hab,hcell⟩:=HC.out k hkl;subst hao;have hcell2:=cell_below hb (by rw [add_block]; exact hab) hcell;have hll:=HVL.out _ (List.getElem_mem hkl);have hnx:=hop_next hkl;have HF:Hid (F=hopsG (cs0.map HopC.h) (partsV 44 vals[k]++restQ vals (k+1))):=show _=_ by rw [hF.out,hnx]
   obtain ⟨qs,hqs⟩:∃ qs,partsV 44 vals[k]=qs:=⟨_,rfl⟩
   have KP:=hid (fun w'=>parts_own hqs w' hll);have HQL:Hid (∀ l ∈ qs,l.length≤1048576):=fun l hl=>by have:=p_mem_len 44 vals[k] l (by rw [hqs]; exact hl); omega
   have hqn:qs.length≤1048577:=by
    have:=parts_count 44 vals[k]
    rw [hqs] at this;omega
   rw [hqs] at HF;clear hcell hnx hF hqs hll;obtain ⟨xa,xc,hxe⟩:=hown.out.form;subst hxe;go_wp2_with fail
   refine (KP.out _).mono ?_
   rintro e w2 ⟨pa,pc,rfl,hop,hw2⟩;have HO2:=hid (hown.out.below hw2);have HP2:=hid (hop.lower hB);have hb2:=hb.trans (hw2.mono hB);have hB2:=Nat.le_trans hB hw2.size;clear hown hop hb hB hw2 KP hcell2;obtain ⟨n2,hn2⟩:∃ n2,n2=qs.length:=⟨_,rfl⟩
   rw [← hn2] at HP2 hqn ⊢;have HN2:=hid hn2;clear hn2;go_wp2
   go_loopw [4,21] (fun x i wr=>∃ (j:Nat) (cs:List HopC),j≤n2∧i=.int .i64 j∧Hid (F=hopsG (cs.map HopC.h) (qs.drop j++restQ vals (k+1)))∧Hid (cs.length≤16)∧Hid (OwnV wr w1.heap.size x cs)∧Hid (Own wr w1.heap.size 9 (.slice pa n2 pc) (strs qs))∧Below w1.heap.size w1 wr∧w1.heap.size≤wr.heap.size) (fun _ i _=>n2 - (intOf i).toNat)
   case atStart=>exact ⟨0,cs0,by omega,rfl,HF,hcl,HO2,HP2,hb2,hB2⟩
   case round =>
    clear HF HO2 HP2 hb2 hB2 hcl;obtain ⟨j,cs,hjn,rfl,hF,hcl,hown,hop,hb,hB⟩:=hrel;obtain ⟨xa,xc,hxe⟩:=hown.out.form;subst hxe;by_cases hlt2:j < n2
    ·have hjl:j < qs.length:=by have:=HN2.out; omega
     obtain ⟨ao,cap,he,hcs⟩:=hop.out.txts;obtain ⟨a,hao,hab,hcell⟩:=hcs j hjl;subst hao;simp only [Value.slice.injEq] at he;obtain ⟨hpa,hq1,hq2⟩:=he;subst hpa;clear hq1 hq2;have hll:=HQL.out _ (List.getElem_mem hjl);have KV:=hid (fun w'=>vparse_any qs[j] w' hll);have hon:=@hop_on F qs (restQ vals (k+1)) (cs.map HopC.h) j;have hbad:=@hop_bad F qs (restQ vals (k+1)) (cs.map HopC.h) j;have hful:=@hop_full F qs (restQ vals (k+1)) (cs.map HopC.h) j;obtain ⟨x,er,hpv⟩:∃ x er,parseH qs[j]=(x,er):=⟨_,_,rfl⟩
     rw [hpv] at KV;have hcl2:=hcl.out;by_cases he:er=0
     ·subst he;obtain ⟨ho,po,ps⟩:=x;unfold HopRes hpV at KV;simp only at KV;by_cases hf:cs.length < 16
      ·have hnext:=hid (hon hjl hF.out hpv (by simpa using hf));have hfn:((cs.length:Int)==16)=false:=by simp; omega
       clear hon hbad hful hpv hF hcs hab hll;go_wp2_with fail
       refine (KV.out _).mono ?_
       rintro e w3 ⟨⟨q,rfl,o3⟩,hw3⟩;have HC3:Hid (HopC.Own w3 w1.heap.size ⟨⟨ho,po,ps⟩,q⟩):=OwnP.mono o3 hB;obtain ⟨a3,k3,e3⟩:=o3.parsAt.form;subst e3;have hown2:=hown.out.below hw3;have hop2:=hop.out.below hw3;have hb3:=hb.trans (hw3.mono hB);have hB3:=hb3.size;clear o3 hown hop hw3 KV hb hcell;have HNW:=hid (fun (wx:World) (t:TypeId)=>new_hop wx ⟨⟨ho,po,ps⟩,.slice a3 ps.length k3⟩ t);simp only at HNW;have HNV:=hid (HNW.out (w3.alloc (.cells #[.string ⟨ho.toArray⟩,.int .i64 po,.slice a3 ps.length k3] 71)));rw [show (w3.alloc (.cells #[.string ⟨ho.toArray⟩,.int .i64 po,.slice a3 ps.length k3] 71)).heap.size=w3.heap.size+1 by simp] at HNV;clear HNW;have hA:=hid ((Below.refl _ w3).alloc (Nat.le_refl _) (.cells #[.string ⟨ho.toArray⟩,.int .i64 po,.slice a3 ps.length k3] 71));have hA2:=hid (fun o=>hA.out.trans (((Below.refl _ _).alloc (Nat.le_refl _) o).mono hA.out.size));have hO3:=hid (fun o=>hown2.below (hA2.out o));have hP3:=hid (fun o=>hop2.below (hA2.out o));have hC3:=hid (fun o=>HC3.out.below (hA2.out o));have hb4:=hid (fun o=>hb3.trans ((hA2.out o).mono hB3));clear hown2 hop2 HC3 hA hb3;go_wp2_with (at_builtin; refine wp_appV _ rfl (.tmp 36) (.tmp 38) 66 rfl w1.heap.size i0 _ Tryz.underlying66 hi hz0 hz1 hz2 rfl _ cs rfl (hO3.out _) ⟨_,0,none⟩ 1 ⟨⟨ho,po,ps⟩,.slice a3 ps.length k3⟩ (hC3.out _) rfl (by exact HNV.out _) (by omega) w1 (hb4.out _) (by simp; omega) ?_; intro v5 w5 hown5 hkeep hb5 hB5)
       have HO5:=hid hown5;have HP5:=hid (hkeep _ _ _ (hP3.out _));clear hown5 hkeep hP3;go_wp2;go_roundw
       case rel=>exact ⟨j+1,cs++[⟨⟨ho,po,ps⟩,.slice a3 ps.length k3⟩],by omega,by go_num,hid (by rw [List.map_append]; exact hnext.out),hid (by simp; omega),HO5,HP5,hb5,hB5⟩
       case measure=>simp [intOf]; omega
      ·have hft:((cs.length:Int)==16)=true:=by simp; omega
       have HR2:Hid (R=([],4)):=H1.out _ (hful hjl hF.out hpv (by simp; omega)) (by decide);clear hon hbad hful hpv hF hcs hab hll;go_wp2_with fail
       refine (KV.out _).mono ?_
       rintro e w3 ⟨⟨q,rfl,o3⟩,hw3⟩;obtain ⟨a3,k3,e3⟩:=o3.parsAt.form;subst e3;have hb3:=hb.trans (hw3.mono hB);have hb4:=fun o=>hb3.alloc hb3.size o;clear o3 hw3 KV hb hcell;go_wp2;go_ret2;exact ⟨hsres_bad HR2.out,hb1.trans ((hb4 _).mono hb1.size)⟩
     ·have hne:(er != 0)=true:=by simpa using he
      have hne2:(er==0)=false:=by simpa using he
      have HR2:Hid (R=([],er)):=H1.out _ (hbad hjl hF.out hpv he) he;clear hon hbad hful hpv hF hcs hab hll;obtain ⟨ho,po,ps⟩:=x;unfold HopRes hpV at KV;simp only at KV;go_wp2_with fail
      refine (KV.out _).mono ?_
      rintro e w3 ⟨⟨q,rfl,o3⟩,hw3⟩;obtain ⟨a3,k3,e3⟩:=o3.parsAt.form;subst e3;have hb3:=hb.trans (hw3.mono hB);have hb4:=fun o=>hb3.alloc hb3.size o;clear o3 hw3 KV hb hcell;go_wp2;go_ret2;exact ⟨hsres_bad HR2.out,hb1.trans ((hb4 _).mono hb1.size)⟩
    ·have hF2:=hid (hop_done (by have:=HN2.out; omega) hF.out);clear hF hop;go_wp2;go_roundw
     case rel=>exact ⟨k+1,cs,by omega,by go_num,hF2,hcl,hown,hb,hB⟩
     case measure=>simp [intOf]; omega
  ·have hF2:F=(cs0.map HopC.h,0):=by
    have:=hF.out
    rw [hop_over (by have:=HN.out; omega),hopsG] at this;exact this
   obtain ⟨xa,xc,hxe⟩:=hown.out.form;subst hxe;by_cases hz:cs0=[]
   ·subst hz;have HR2:Hid (R=([],100)):=H2.out hF2;clear hF2 hF hown;go_wp2;go_ret2;exact ⟨hsres_bad HR2.out,hb1.trans (hb.mono hb1.size)⟩
   ·have HR2:Hid (R=(cs0.map HopC.h,0)):=H3.out _ hF2 (by simpa using hz);have hz2:cs0.length ≠ 0:=fun k=>hz (List.eq_nil_of_length_eq_zero k);have hz3:((cs0.length:Int)==0)=false:=by simp; omega
    clear hF2 hF;go_wp2;go_ret2;exact ⟨⟨_,cs0,by rw [HR2.out]; rfl,by rw [HR2.out],hown.out.mono hb1.size⟩,hb1.trans (hb.mono hb1.size)⟩
theorem valV_len {ps:List Par} (h:SmallP 140737488355328 ps) (nm:List UInt8):(valV ps nm).1.length≤140737488355328:=by
 unfold valV
 cases hf:findV ps nm with
 | none=>simp
 | some p=>exact (h.2 p (List.mem_of_find?_eq_some hf)).2
theorem ret_sv {R:List UInt8 × Bool} {x:List UInt8} {b:Bool} (h:R=(x,b)):Ending.returned (.tuple #[.string ⟨x.toArray⟩,.bool b])=.returned (.tuple #[.string ⟨R.1.toArray⟩,.bool R.2]):=by rw [h]
theorem cookie_of (s:List UInt8) (w:World) :
  Calls Tryz.prog 111 #[.string ⟨s.toArray⟩,.string ⟨#[122,57,104,71,52,98,75]⟩] w fun e w'=>e=.returned (.bool (List.isPrefixOf cookieK s))∧w'=w:=sh_HasPrefix ⟨s.toArray⟩ ⟨#[122,57,104,71,52,98,75]⟩ w
theorem digits_i64 (n:Int) (w:World) (h0:-9223372036854775808≤n) (h1:n≤9223372036854775807) :
  Calls Tryz.prog 50 #[.int .i64 n] w fun e w'=>e=.returned (.string ⟨(digI n).toArray⟩)∧Below w.heap.size w w':=by
 unfold digI;by_cases h:n < 0
 ·rw [if_pos h]; exact (digits_neg n w h).mono fun e w' k=>⟨k.1,by rw [k.2]; exact Below.refl _ _⟩
 ·rw [if_neg h]; exact digits_nat n w (by omega) h1
set_option maxHeartbeats 1000000 in
set_option maxRecDepth 100000 in
theorem vbranch_any (c:HopC) (w:World) (hsm:SmallV 140737488355328 c.h) (hat:c.At w) :
  Calls Tryz.prog 62 #[hpV c.h c.q] w fun e w'=>e=.returned (.tuple #[.string ⟨(brV c.h.params).1.toArray⟩,.bool (brV c.h.params).2])∧Below w.heap.size w w':=by
 obtain ⟨a,q⟩:=c;obtain ⟨h3,hcap⟩:=hat;simp only at h3 hcap hsm ⊢;have KV:=hid (fun w' (hb:Below w.heap.size w w')=>value_any q a.params branchK w' (by decide) hsm.2.1 (h3.below hb));have hvl:=valV_len hsm.2.1 branchK;have hbv:brV a.params=brOf (valV a.params branchK).1:=rfl;have hbx:=boxV_new w a q;have hb0:Below w.heap.size w (w.alloc (objV a q)):=(Below.refl _ w).alloc (Nat.le_refl _) _;obtain ⟨a3,c3,rfl⟩:=h3.form;clear h3 hsm hcap;obtain ⟨ho,po,ps⟩:=a;unfold hpV;unfold objV at hb0 hbx;simp only at KV hb0 hbx hbv hvl ⊢;generalize brV ps=R at hbv ⊢;generalize valV ps branchK=vv at KV hbv hvl;obtain ⟨vt,vb⟩:=vv;simp only at KV hbv hvl;have HR:=hid hbv;clear hbv;obtain ⟨x0,x1,x2⟩:=hbx;simp only at x0 x1 x2;unfold branchK at KV
 go_enter Tryz.func62,Tryz.ntmps62
 go_wp2_with fail
 refine (KV.out _ hb0).mono ?_
 rintro e w1 ⟨rfl,hw1⟩;have hb1:=hb0.trans (hw1.mono hb0.size);clear KV hw1 x0 x1 x2 hb0;by_cases h7:vt.length=7
 ·have HV:=hid (HR.out.trans (br_seven h7));have h7':((vt.length:Int)==7)=true:=by simp; omega
  clear HR;go_wp2;go_ret2;exact ⟨by rw [HV.out]; rfl,hb1⟩
 ·have h7':((vt.length:Int)==7)=false:=by simp; omega
  have KP:=hid (fun w'=>cookie_of vt w')
  cases hpf:List.isPrefixOf cookieK vt with
  | false =>
   rw [hpf] at KP;have HV:=hid (HR.out.trans (br_no hpf));clear HR hpf;go_wp2_with fail
   refine (KP.out _).mono ?_
   rintro e w2 ⟨rfl,rfl⟩;go_wp2;go_ret2;exact ⟨by rw [HV.out]; rfl,hb1⟩
  | true =>
   rw [hpf] at KP;have HV:=hid (HR.out.trans (br_yes h7 hpf));clear HR hpf;go_wp2_with fail
   refine (KP.out _).mono ?_
   rintro e w2 ⟨rfl,rfl⟩;go_wp2;go_ret2;exact ⟨ret_sv HV.out,hb1⟩
end Go.Proofs.YtiogedceommcoaaGreatDoor
namespace Go.Proofs.YtiogedceommcoaaGreatDoor
open Go.RowKit Sc
open Go.Sort
theorem whoglue (a d:List UInt8):((⟨a.toArray⟩:ByteArray)++(⟨#[58]⟩:ByteArray))++⟨d.toArray⟩=⟨(a++[58]++d).toArray⟩:=by
 have e0:(⟨#[58]⟩:ByteArray)=⟨[58].toArray⟩:=rfl;rw [e0,ByteArray.mk_append_mk,ByteArray.mk_append_mk]
set_option maxHeartbeats 1000000 in
set_option maxRecDepth 100000 in
theorem vby_any (c:HopC) (w:World) (hsm:SmallV 140737488355328 c.h) (hat:c.At w) :
  Calls Tryz.prog 63 #[hpV c.h c.q] w fun e w'=>e=.returned (.string ⟨(whoH c.h).toArray⟩)∧Below w.heap.size w w':=by
 obtain ⟨a,q⟩:=c;obtain ⟨h3,hcap⟩:=hat;simp only at h3 hcap hsm ⊢;have hpo:=hsm.port;have hho:=hsm.1;have KD:=hid (fun w'=>digits_i64 (if a.port=0 then 5060 else a.port) w' (by split <;> omega) (by split <;> omega));have hdl:=digI_len (n:=if a.port=0 then 5060 else a.port) (by split <;> omega);have HR:Hid (whoH a=a.host++[58]++digI (if a.port=0 then 5060 else a.port)):=show _=_ from rfl
 have hbx:=boxV_new w a q;have hb0:Below w.heap.size w (w.alloc (objV a q)):=(Below.refl _ w).alloc (Nat.le_refl _) _;have hlt:=alloc_lt w (objV a q);obtain ⟨a3,c3,rfl⟩:=h3.form;clear h3 hsm hcap;obtain ⟨ho,po,ps⟩:=a;unfold hpV;unfold objV at hb0 hbx hlt;simp only at KD hb0 hbx hlt hpo hho hdl HR ⊢;generalize whoH _=R at HR ⊢;have HBX:=hid hbx;clear hbx;obtain ⟨x0,x1,x2⟩:=HBX.out;simp only at x0 x1 x2;by_cases hp:po=0
 ·rw [if_pos hp] at KD hdl HR;subst hp;generalize digI _=dl at KD hdl HR;replace x0:=cell_regrown x0;replace x1:=cell_regrown x1;replace x2:=cell_regrown x2;have c:=hid (fun (d:Nat) (os:Array Obj)=>Calls.regrown_of (KD.out (grow (redrawn (w.alloc (.cells #[.string ⟨ho.toArray⟩,.int .i64 0,.slice a3 ps.length c3] 71)) d) os)));clear KD HBX
  go_enter Tryz.func63,Tryz.ntmps63
  go_wp2;refine wp_region_quiet_below followsMixed5 (by kernel_rfl) ?_
  repeat (go_big_quiet_step (with_reducible exact c.out _ _))
  refine wpQuiet_nil ?_
  intro _ hw';obtain ⟨⟨dq,osq⟩,hw''⟩:=hw';subst hw'';have hb1:=below_re5 hb0 dq osq;clear c x0 x1 x2 hb0;go_wp2;go_ret;exact ⟨by rw [HR.out,← whoglue]; rfl,hb1⟩
 ·have hp1:(po==0)=false:=by simpa using hp
  rw [if_neg hp] at KD hdl HR;generalize digI _=dl at KD hdl HR;replace x0:=cell_regrown x0;replace x1:=cell_regrown x1;replace x2:=cell_regrown x2;have c:=hid (fun (d:Nat) (os:Array Obj)=>Calls.regrown_of (KD.out (grow (redrawn (w.alloc (.cells #[.string ⟨ho.toArray⟩,.int .i64 po,.slice a3 ps.length c3] 71)) d) os)));clear KD HBX
  go_enter Tryz.func63,Tryz.ntmps63
  go_wp2;refine wp_region_quiet_below followsMixed5 (by kernel_rfl) ?_
  repeat (go_big_quiet_step (with_reducible exact c.out _ _))
  refine wpQuiet_nil ?_
  intro _ hw';obtain ⟨⟨dq,osq⟩,hw''⟩:=hw';subst hw'';have hb1:=below_re5 hb0 dq osq;clear c x0 x1 x2 hb0;go_wp2;go_ret;exact ⟨by rw [HR.out,← whoglue]; rfl,hb1⟩
end Go.Proofs.YtiogedceommcoaaGreatDoor
namespace Go.Proofs.YtiogedceommcoaaGreatDoor
open Go.RowKit Sc
theorem OwnP.store2 {w:World} {B:Nat} {v:Value} {ps:List Par} (h:OwnP w B v ps) {b:Nat} (hb:b < B) (v0 v1:Value):OwnP ((w.setCell ⟨b,0,none⟩ v0).setCell ⟨b,1,none⟩ v1) B v ps :=
 ownsRow_setCell_below (ownsRow_setCell_below h hb _) hb _
structure Two2 (w:World) (b:Nat) (v0 v1:Value):Prop where
 c0:w.cell? ⟨b,0,none⟩=some v0
 c1:w.cell? ⟨b,1,none⟩=some v1
 f0:w.frozen? ⟨b,0,none⟩=false
 f1:w.frozen? ⟨b,1,none⟩=false
theorem RowIs.two2 {w:World} {b:Nat} {e:TypeId} {v0 v1:Value} (h:RowIs w b e [v0,v1]):Two2 w b v0 v1:=⟨h.cell 0 (by simp),h.cell 1 (by simp),h.frozen 0,h.frozen 1⟩
theorem hrow_store2 {w:World} {b:Nat} {e:TypeId} {u0 u1:Value} (h:RowIs w b e [u0,u1]) (v0 v1:Value):RowIs ((w.setCell ⟨b,0,none⟩ v0).setCell ⟨b,1,none⟩ v1) b e [v0,v1]:=by
 have:=(h.set 0 v0).set 1 v1
 simpa using this
theorem store_below2 {B:Nat} {a w:World} (h:Below B a w) (b:Nat) (hb:B≤b) (v0 v1:Value):Below B a ((w.setCell ⟨b,0,none⟩ v0).setCell ⟨b,1,none⟩ v1):=(h.setCell hb _).setCell hb _
theorem row2_at (w:World) (v0 v1:Value) (t:TypeId):RowIs (w.alloc (.cells #[v0,v1] t)) w.heap.size t [v0,v1]:=by
 unfold RowIs; rw [heap_alloc_new]
theorem hG_mem_len (sep:Int):∀ (l:List UInt8) (p:Pl) (cur x:List UInt8),x ∈ partsG sep p cur l → x.length≤cur.length+l.length
 | [],p,cur,x,h=>by rw [partsG] at h; simp at h; subst h; simp
 | b :: r,p,cur,x,h=>by
  rw [partsG] at h
  split at h
  ·rcases List.mem_cons.1 h with rfl | h
   ·omega
   ·have:=hG_mem_len sep r _ _ x h; simp at this ⊢; omega
  ·have:=hG_mem_len sep r _ _ x h; simp at this ⊢; omega
theorem h_mem_len (sep:Int) (l:List UInt8):∀ x ∈ partsV sep l,x.length≤l.length:=fun x h=>by have:=hG_mem_len sep l pl0 [] x h; simpa using this
def EvRes (R:Ev × Int) (w w':World) (e:Ending):Prop:=∃ q,e=.returned (.tuple #[evV R.1 q,.int .i64 R.2])∧OwnP w' w.heap.size q R.1.params
theorem eres_none {R:Ev × Int} {n:Int} {w w':World} (h:R=(noE,n)):EvRes R w w' (.returned (.tuple #[.agg #[.string ⟨#[]⟩,.slice none 0 0],.int .i64 n])):=by
 subst h;exact ⟨.slice none 0 0,rfl,OwnP.nil _ _⟩
end Go.Proofs.YtiogedceommcoaaGreatDoor
namespace Go.Proofs.YtiogedceommcoaaGreatDoor
open Go.RowKit Go.Sort Sc
theorem ret_seq {R:Int × List UInt8 × Int} {n:Int} {m:List UInt8} {e:Int} (h:R=(n,m,e)):Ending.returned (.tuple #[.int .i64 n,.string ⟨m.toArray⟩,.int .i64 e])=.returned (.tuple #[.int .i64 R.1,.string ⟨R.2.1.toArray⟩,.int .i64 R.2.2]):=by rw [h]
end Go.Proofs.YtiogedceommcoaaGreatDoor
namespace Go.Proofs.YtiogedceommcoaaGreatDoor
open Go.RowKit Sc
theorem hopsG_small:∀ (qs:List (List UInt8)) (out:List Hop),(∀ a ∈ out,SmallV 140737488355328 a) → out.length≤16 → (∀ a ∈ (hopsG out qs).1,SmallV 140737488355328 a)∧(hopsG out qs).1.length≤16
 | [],out,h,hl=>⟨h,hl⟩
 | q :: qs,out,h,hl=>by
  rw [hopsG]
  split
  ·exact ⟨fun a ha=>by simp at ha,by simp⟩
  ·split
   ·exact ⟨fun a ha=>by simp at ha,by simp⟩
   ·refine hopsG_small qs (out++[(parseH q).1]) (fun a ha=>?_) (by simp; omega)
    rcases List.mem_append.1 ha with ha | ha
    ·exact h a ha
    ·simp at ha; subst ha; exact parseH_small
theorem hopsV_small (vs:List (List UInt8)):(∀ a ∈ (hopsV vs).1,SmallV 140737488355328 a)∧(hopsV vs).1.length≤16:=by
 have h:=hopsG_small (vs.flatMap (partsV 44)) [] (fun a ha=>by simp at ha) (by simp);unfold hopsV
 split
 ·exact ⟨fun a ha=>by simp at ha,by simp⟩
 ·split
  ·exact ⟨fun a ha=>by simp at ha,by simp⟩
  ·exact h
set_option maxHeartbeats 400000 in
theorem tag_any (c:AdrC) (w:World) (hsm:SmallP 140737488355328 c.a.params) (hat:c.At w) :
  Calls Tryz.prog 25 #[adrV c.a c.p c.h c.q] w fun e w'=>e=.returned (.string ⟨(valV c.a.params [116,97,103]).1.toArray⟩)∧Below w.heap.size w w':=by
 obtain ⟨a,p,h,q⟩:=c;obtain ⟨h1,h2,h3,hcap⟩:=hat;simp only at h1 h2 h3 hcap hsm ⊢;have KV:=hid (fun w' (hb:Below w.heap.size w w')=>value_any q a.params [116,97,103] w' (by decide) hsm (h3.below hb));have hbx:=boxA_new w a p h q;have hb0:Below w.heap.size w (w.alloc (objA a p h q)):=(Below.refl _ w).alloc (Nat.le_refl _) _;obtain ⟨a1,c1,rfl⟩:=h1.form;obtain ⟨a2,c2,rfl⟩:=h2.form;obtain ⟨a3,c3,rfl⟩:=h3.form;clear h1 h2 h3 hsm hcap;obtain ⟨d,u,ps⟩:=a;obtain ⟨us,uu,uh,up,upp,uhh⟩:=u;unfold adrV;unfold objA at hb0 hbx;simp only at KV hb0 hbx ⊢;generalize valV ps [116,97,103]=vv at KV ⊢;obtain ⟨vt,vb⟩:=vv;simp only at KV ⊢;obtain ⟨x0,x1,x2,x3,x4,x5,x6,x7⟩:=hbx;simp only at x0 x1 x2 x3 x4 x5 x6 x7
 go_enter Tryz.func25,Tryz.ntmps25
 go_wp2_with fail
 refine (KV.out _ hb0).mono ?_
 rintro e w1 ⟨rfl,hw1⟩;go_wp2;go_ret;exact ⟨rfl,hb0.trans (hw1.mono hb0.size)⟩
theorem tail_none {d u r:List UInt8} {a:Adr} {n:Int} (h:tailV d u r=(a,n)) (hn:n ≠ 0):a=noA:=by
 unfold tailV at h
 split at h
 ·exact (Prod.mk.inj h).1.symm
 ·split at h
  ·exact (Prod.mk.inj h).1.symm
  ·split at h
   ·exact (Prod.mk.inj h).1.symm
   ·exact absurd (Prod.mk.inj h).2.symm hn
theorem parseA_none {s:List UInt8} {a:Adr} {n:Int} (h:parseA s=(a,n)) (hn:n ≠ 0):a=noA:=by
 unfold parseA parseT at h
 split at h
 ·split at h
  ·exact (Prod.mk.inj h).1.symm
  ·split at h
   ·exact (Prod.mk.inj h).1.symm
   ·exact tail_none h hn
 ·split at h
  ·exact (Prod.mk.inj h).1.symm
  ·exact tail_none h hn
theorem small_may:∀ (ps b:List Par),mayGo b ps=true → ∀ p ∈ ps,p.name.length≤140737488355328∧p.value.length≤140737488355328
 | [],b,h,p,hp=>by simp at hp
 | q :: ps,b,h,p,hp=>by
  rw [mayGo,Bool.and_eq_true] at h
  rcases List.mem_cons.1 hp with rfl | hp
  ·obtain ⟨m1,_,m3,_,_⟩:=may_facts h.1;obtain ⟨_,t2,_⟩:=tok_facts m1;omega
  ·exact small_may ps _ h.2 p hp
theorem smallP_ok {ps:List Par} (h:listB ps=true):SmallP 140737488355328 ps:=by
 have hl:=listB_ok h;refine ⟨by have:=hl.1; omega,fun p hp=>?_⟩
 have:=parB_ok (hl.2 p hp)
 omega
theorem smallU_ok {u:Uri} (h:checkV u=0):SmallU 140737488355328 u:=by
 obtain ⟨k1,k2,k3,k4,k5,k6,k7,k8⟩:=check_ok h;have hl1:=schemeB_ok k1;have hl3:=hostB_ok k3;exact ⟨by omega,by omega,by omega,smallP_ok k6,smallP_ok k7⟩
theorem smallA_ok {a:Adr} (h:checkA a=0):SmallA 140737488355328 a:=by
 obtain ⟨k1,_,k3,k4,k5⟩:=checkA_ok h;exact ⟨by omega,smallU_ok k3,by omega,small_may _ _ k5⟩
theorem followsMixed10:Tryz.prog.follows .mixedOrders=true:=by kernel_rfl
theorem smallA_none:SmallA 140737488355328 noA:=by
 refine ⟨by decide,⟨by decide,by decide,by decide,⟨by decide,?_⟩,⟨by decide,?_⟩⟩,⟨by decide,?_⟩⟩ <;> (intro p hp; simp [noA,noU] at hp)
theorem rsmall_parsed (s:List UInt8):SmallA 140737488355328 (parseA s).1:=by
 by_cases h:(parseA s).2=0
 ·exact smallA_ok (parseA_checked (show parseA s=((parseA s).1,0) by rw [← h]))
 ·have:=parseA_none (show parseA s=((parseA s).1,(parseA s).2) from rfl) h
  rw [this]; exact smallA_none
theorem all_small {B:Nat} {m:Ms} (h:SmallM B m) (nm:List UInt8):∀ l ∈ allV m nm,l.length≤B:=by
 intro l hl;unfold allV at hl;simp only [List.mem_map,List.mem_filter] at hl;obtain ⟨x,⟨hx,_⟩,rfl⟩:=hl;exact (h.2.2.2.2.2 x hx).2
theorem one_small {B:Nat} {m:Ms} (h:SmallM B m) (nm:List UInt8):(oneV m nm).1.length≤B:=by
 unfold oneV
 split
 ·rename_i x hx; exact all_small h nm x (by rw [hx]; simp)
 ·simp
theorem adr_small {m:Ms} {nm:List UInt8}:SmallA 140737488355328 (addressV m nm).1:=by
 unfold addressV
 split
 ·exact smallA_none
 ·exact rsmall_parsed _
end Go.Proofs.YtiogedceommcoaaGreatDoor
namespace Go.Proofs.YtiogedceommcoaaGreatDoor
section
variable {P : Program} {md : Region.Mode} {C : World → Prop} {Q' : Exit → Act → World → Prop} {Q1 : Act → Prop}
theorem wpAny_more {ops:Array Oper}:∀ (f:Nat) (listed:Array Bool) (a:Act) (w:World),wpAny P md ops Q' f listed a w → wpAny P md ops Q' (f+1) listed a w:=by
 intro f
 induction f with
 | zero=>intro listed a w h; exact ⟨fun _=>h.2,fun i hi=>by rw [h.1] at hi; cases hi⟩
 | succ f ih=>intro listed a w h; exact ⟨h.1,fun i hi=>wpOp_mono (fun a w k=>ih _ a w k) (h.2 i hi)⟩
theorem wpAny_plus {ops:Array Oper} {f:Nat} {listed:Array Bool} {a:Act} {w:World} (h:wpAny P md ops Q' f listed a w) (g:Nat):wpAny P md ops Q' (g+f) listed a w:=by
 induction g with
 | zero=>rw [Nat.zero_add]; exact h
 | succ g ih=>rw [Nat.succ_add]; exact wpAny_more _ _ _ _ ih
structure LRel (n N:Nat) (listed l1:Array Bool):Prop where
 s:listed.size=N
 s1:l1.size=n
 lo:∀ i,i < n → listed[i]? = l1[i]?
 hi:∀ i,n≤i → i < N → listed[i]? = some false
def endL (n N:Nat):Array Bool:=Array.replicate n true++Array.replicate (N - n) false
theorem LRel.end {n N:Nat} {listed l1:Array Bool} (h:LRel n N listed l1) (hn:n≤N) (hall:∀ i,i < n → l1[i]? = some true):listed=endL n N:=by
 apply Array.ext_getElem?
 intro i;unfold endL;rw [Array.getElem?_append,Array.size_replicate];by_cases hi:i < n
 ·rw [if_pos hi,h.lo i hi,hall i hi,Array.getElem?_replicate,if_pos hi]
 ·rw [if_neg hi,Array.getElem?_replicate];by_cases hN:i < N
  ·rw [if_pos (by omega),h.hi i (by omega) hN]
  ·rw [if_neg (by omega),Array.getElem?_eq_none (by rw [h.s]; omega)]
theorem LRel.set {n N:Nat} {listed l1:Array Bool} (h:LRel n N listed l1) (hn:n≤N) {i:Nat} (hi:i < n):LRel n N (listed.setIfInBounds i true) (l1.setIfInBounds i true):=by
 refine ⟨by simp [h.s],by simp [h.s1],fun j hj=>?_,fun j hj hN=>?_⟩
 ·rw [Array.getElem?_setIfInBounds,Array.getElem?_setIfInBounds];by_cases e:i=j
  ·rw [if_pos e,if_pos e,h.s,h.s1,if_pos (by omega),if_pos hi]
  ·rw [if_neg e,if_neg e]; exact h.lo j hj
 ·rw [Array.getElem?_setIfInBounds,if_neg (by omega)]; exact h.hi j hj hN
theorem LRel.getD {n N:Nat} {listed l1:Array Bool} (h:LRel n N listed l1) {i:Nat} (hi:i < n) (d:Bool):listed.getD i d=l1.getD i d:=by
 have:=h.lo i hi
 rw [Array.getD_eq_getD_getElem?,Array.getD_eq_getD_getElem?,this]
theorem take_at {l:List Oper} {n i:Nat} (hi:i < n):(l.take n).toArray[i]? = l.toArray[i]? := by
 rw [List.getElem?_toArray,List.getElem?_toArray,List.getElem?_take,if_pos hi]
theorem take_lt {l:List Oper} {n i:Nat} {o:Oper} (h:(l.take n).toArray[i]? = some o):i < n:=by
 rw [List.getElem?_toArray] at h
 have:=(List.getElem?_eq_some_iff.1 h).1
 simp at this
 omega
theorem wanted_take {l:List Oper} {n:Nat} {o:Oper} {tmps:Array Value} (h:∀ g b,o.guard=some (g,b) → g < n):Region.wanted o (yielded (l.take n).toArray tmps)=Region.wanted o (yielded l.toArray tmps):=by
 unfold Region.wanted
 cases hg:o.guard with
 | none=>rfl
 | some x =>
  obtain ⟨g,b⟩:=x
  have:=h g b hg
  simp only [yielded,take_at this]
theorem qOp_take {l:List Oper} {n i:Nat} (hi:i < n) {K:Act → Prop} {a:Act} (hg:∀ o,l[i]? = some o → ∀ g b,o.guard=some (g,b) → g < n) (h:qOp P (l.take n).toArray C i K a):qOp P l.toArray C i K a:=by
 unfold qOp at *;rw [take_at hi] at h
 cases ho:l.toArray[i]? with
 | none=>simp only [ho] at h; exact h
 | some o =>
  simp only [ho] at h ⊢;rw [wanted_take (hg o (by rw [← List.getElem?_toArray]; exact ho))] at h;exact h
end
end Go.Proofs.YtiogedceommcoaaGreatDoor
namespace Go.Proofs.YtiogedceommcoaaGreatDoor
open Go.RowKit Sc
theorem RqB.sl {B:Nat} {c:RqC} {w':World} (h:RqB B c w'):c.Sl :=
 ⟨by rw [h.tp]; exact nil_sl,by rw [h.th]; exact nil_sl,pars_sl h.frm.1.parsAt,pars_sl h.frm.2.1.parsAt,pars_sl h.frm.2.2.parsAt,pars_sl h.too.1.parsAt,pars_sl h.too.2.1.parsAt,pars_sl h.too.2.2.parsAt,by rw [h.eq]; exact nil_sl,by rw [h.co]; exact nil_sl,by rw [h.ro]; exact nil_sl,by rw [h.ac]; exact nil_sl⟩
def BaseRes (R:Rq × Int) (B:Nat) (w':World) (e:Ending):Prop:=∃ c:RqC,c.r=R.1∧e=.returned (.tuple #[rqV c,.int .i64 R.2])∧RqB B c w'
theorem base_none {R:Rq × Int} {n:Int} {B:Nat} {w':World} (h:R=(noR,n)):BaseRes R B w' (.returned (.tuple #[.agg rq0,.int .i64 n])):=by
 subst h;exact ⟨noC,rfl,rfl,⟨⟨OwnP.nil _ _,OwnP.nil _ _,OwnP.nil _ _⟩,⟨OwnP.nil _ _,OwnP.nil _ _,OwnP.nil _ _⟩,rfl,rfl,rfl,rfl,rfl,rfl,rfl,rfl,⟨rfl,rfl,rfl⟩⟩⟩
structure BaseIn (w:World) (m:Ms) (h:Value) (wr:World):Prop where
 bx:BoxM wr w.heap.size m h
 rs:wr.heap[w.heap.size+1]? = some (.cells rq0 37 (0,0))
 no:wr.heap[w.heap.size+1+1]? = some (.cells rq0 37 (0,0))
 b:Below w.heap.size w wr
 lt:w.heap.size+1+1 < wr.heap.size
theorem base_in (w:World) (m:Ms) (h:Value):BaseIn w m h (((w.alloc (objM m h)).alloc (.cells rq0 37)).alloc (.cells rq0 37)):=by
 have s1:(w.alloc (objM m h)).heap.size=w.heap.size+1:=by simp
 have s2:((w.alloc (objM m h)).alloc (.cells rq0 37)).heap.size=w.heap.size+1+1:=by simp
 have A1:=(Below.refl w.heap.size w).alloc (Nat.le_refl _) (objM m h);have A2:=(Below.refl _ (w.alloc (objM m h))).alloc (Nat.le_refl _) (.cells rq0 37);have A3:=(Below.refl _ ((w.alloc (objM m h)).alloc (.cells rq0 37))).alloc (Nat.le_refl _) (.cells rq0 37);refine ⟨((boxM_new w m h).below A2 (by simp)).below A3 (by simp; omega),?_,?_,(A1.trans (A2.mono (by simp))).trans (A3.mono (by simp; omega)),by simp⟩
 ·rw [A3.block _ (by simp),← s1,heap_alloc_new]
 ·rw [← s2,heap_alloc_new]
theorem hops_some {vs:List (List UInt8)} (h:(hopsV vs).2=0):(hopsV vs).1 ≠ []:=by
 unfold hopsV at h ⊢
 split at h
 ·rename_i h1; exact absurd h h1
 ·split at h
  ·simp at h
  ·rename_i h1 h2; rw [if_neg h1,if_neg h2]; exact h2
theorem OwnP.setRow {w:World} {B:Nat} {v:Value} {ps:List Par} (h:OwnP w B v ps) {g:Nat} (hg:g < B) (cs:Array Value):OwnP (w.setRow g cs) B v ps:=by
 obtain ⟨h1,h2⟩:=h;refine ⟨h1,?_⟩
 rcases h2 with h2 | ⟨k,cap,cur,hv,hk,hh,r⟩
 ·exact Or.inl h2
 ·exact Or.inr ⟨k,cap,cur,hv,hk,by rw [setRow_other _ _ _ _ (by omega)]; exact hh,r⟩
theorem oneR {c:RqC} (h:c.Sl):(rqCells c).toArray.all (·.oneCell')=true:=Array.all_eq_true_iff_forall_mem.2 fun v hv=>rq_one h v (by simpa using hv)
theorem typeT_of {s p0:List UInt8} {ps:List (List UInt8)} (h:partsV 59 s=p0 :: ps):typeT s=lowL (trimL p0):=by
 unfold typeT; rw [h]; rfl
theorem reason_at {n:Int} {k:Nat} (hk:k < 14) (h:(reasonsT.map Prod.fst)[k]! = n):reasonV n=(reasonsT.map Prod.snd)[k]! := by
 subst h
 have:∀ k,k < 14 → reasonV (reasonsT.map Prod.fst)[k]! = (reasonsT.map Prod.snd)[k]! := by decide
 exact this k hk
theorem reason_no {n:Int} (h:∀ k,k < 14 → (reasonsT.map Prod.fst)[k]! ≠ n):reasonV n=statusK++(if n < 0 then [] else digL n.toNat):=by
 have:reasonsT.find? (fun x=>x.1==n)=none:=by
  rw [List.find?_eq_none];intro x hx e;obtain ⟨k,hk,rfl⟩:=List.getElem_of_mem hx;have hl:k < 14:=hk;refine h k hl ?_
  rw [List.getElem!_eq_getElem?_getD,List.getElem?_map,List.getElem?_eq_getElem hk]
  simpa using e
 unfold reasonV;rw [this]
theorem arr_cell {w:World} {b:Nat} {e:TypeId} {a:Array Value} (h:w.heap[b]? = some (.cells a e (0,0))) {k:Nat} {v:Value} (hv:a[k]? = some v):w.cell? ⟨b,k,none⟩=some v:=by
 unfold World.cell?;rw [h]
 simpa using hv
theorem fm_take {α β:Type} (f:α → List β) (l:List α) (k:Nat) (hk:k < l.length):(l.take (k+1)).flatMap f=(l.take k).flatMap f++f l[k]:=by
 rw [List.take_succ_eq_append_getElem hk,List.flatMap_append]; simp
theorem fm_le {α β:Type} (f:α → List β) (l:List α) (k:Nat):((l.take k).flatMap f).length≤(l.flatMap f).length:=by
 conv=>rhs; rw [← List.take_append_drop k l,List.flatMap_append,List.length_append]
 omega
theorem wp_appAt {P:Program} (w:World) {ops:Array Oper} {rest:List Oper} {o:Oper} {a:Act} {Q:Exit → Act → World → Prop} (hgd:o.guard=none)
  (s x:Operand) (t:TypeId) (ho:o.op=Op.call { callee:=Callee.builtin Builtin.append,args:=#[s,x],argTypes:=#[t,t] }) (B:Nat) (e:TypeId) (i:TypeInfo)
  (z:Value) (ht:P.underlying t=some (TypeDesc.slice e)) (hi:P.info? e=some i) (hz:i.zero=some z) (hsize:i.size=1) (hby:i.bytes=16) (hzs:z.cells.size=1)
  (v:Value) (xs:List (List UInt8)) (hs:a.eval s=v) (hown:Own w B e v (strs xs)) (ad:Addr) (c:Nat) (p:List UInt8) (hx:a.eval x=Value.slice (some ad) 1 c)
  (hnews:w.cell? ad=some (.string ⟨p.toArray⟩)) (hlen:xs.length+1≤8796093022208) (hB:B≤w.heap.size)
  (h:∀ (v':Value) (w':World),Own w' B e v' (strs (xs++[p])) → w.grownBy w' v.ownBlock → (v'.ownBlock=v.ownBlock∨v'.ownBlock=some w.heap.size) → wpList P ops Q rest (a.put o.dst v') w'):wpList P ops Q (o :: rest) a w:=by
 refine wpList_append_own_at w hgd s x t ho B e i z 1 16 ht hi hz hsize hby hzs (by decide) v (strs xs).length (strs xs) hs hown ad 1 c [.string ⟨p.toArray⟩] hx (by simp) ?_ (by intro u hu; simp at hu; subst hu; rfl) (by rw [strs_length]; unfold maxLen; omega) (by rw [strs_length]; omega) hB ?_
 ·intro j u hj
  match j,hj with
  | 0,hj=>simp at hj; subst hj; simpa [Addr.add] using hnews
 ·intro v' w' hown' hgr _ hat;refine h v' w' ?_ hgr hat
  have e:strs (xs++[p])=strs xs++[.string ⟨p.toArray⟩]:=by simp [strs]
  unfold Own;rw [e,List.length_append];exact hown'
structure PcIn (w1:World) (pa:Option Addr) (qs:List (List UInt8)) (x:Value) (acc:List (List UInt8)) (wr:World):Prop where
 own:Own wr w1.heap.size 9 x (strs acc)
 ps:∀ j (hj:j < qs.length),∃ a,pa=some a∧a.block < wr.heap.size∧wr.cell? (a.add j)=some (.string ⟨qs[j].toArray⟩)∧x.ownBlock ≠ some a.block
 b:Below w1.heap.size w1 wr
theorem own_lt {w:World} {B g:Nat} {e:TypeId} {v:Value} {xs:List Value} (h:Own w B e v xs) (hg:v.ownBlock=some g):B≤g∧g < w.heap.size:=by
 rcases h.2 with ⟨h2,_⟩ | ⟨g',cap,cur,hv,hb,hh,_⟩
 ·rw [h2] at hg; cases hg
 ·rw [hv] at hg
  simp [Value.ownBlock] at hg
  subst hg;exact ⟨hb,(Array.getElem?_eq_some_iff.1 hh).1⟩
theorem PcIn.below {w1:World} {pa:Option Addr} {qs acc:List (List UInt8)} {x:Value} {wr w':World} (h:PcIn w1 pa qs x acc wr) (hb:Below wr.heap.size wr w'):PcIn w1 pa qs x acc w' :=
 ⟨h.own.below hb,fun j hj=>by
  obtain ⟨a,ha,hl,hc,hn⟩:=h.ps j hj;exact ⟨a,ha,Nat.lt_of_lt_of_le hl hb.size,cell_below hb (by rw [add_block]; exact hl) hc,hn⟩,h.b.trans (hb.mono h.b.size)⟩
theorem PcIn.begin {w1:World} {pa:Option Addr} {pc:Nat} {qs acc:List (List UInt8)} {x:Value} {wr w':World} (ho:Own wr w1.heap.size 9 x (strs acc)) (hb:Below w1.heap.size w1 wr) (hw:Below wr.heap.size wr w') (hp:Own w' wr.heap.size 9 (.slice pa qs.length pc) (strs qs)):PcIn w1 pa qs x acc w':=by
 refine ⟨ho.below hw,fun j hj=>?_,hb.trans (hw.mono hb.size)⟩
 obtain ⟨ao,cap,he,hcs⟩:=hp.txts;obtain ⟨a,hao,hab,hcell⟩:=hcs j hj;simp only [Value.slice.injEq] at he;refine ⟨a,by rw [he.1,hao],hab,hcell,fun e=>?_⟩
 have h1:=(own_lt ho e).2;have h2:(Value.slice pa qs.length pc).ownBlock=some a.block:=by
  rw [he.1,hao]
  rfl
 have h3:=(own_lt hp h2).1;omega
theorem PcIn.app {w1:World} {pa:Option Addr} {qs acc:List (List UInt8)} {p:List UInt8} {x x':Value} {wr w':World} (h:PcIn w1 pa qs x acc wr) (ho:Own w' w1.heap.size 9 x' (strs (acc++[p]))) (hg:wr.grownBy w' x.ownBlock) (ha:x'.ownBlock=x.ownBlock∨x'.ownBlock=some wr.heap.size):PcIn w1 pa qs x' (acc++[p]) w':=by
 refine ⟨ho,fun j hj=>?_,⟨hg.os.trans h.b.os,hg.tape.trans h.b.tape,hg.output.trans h.b.output,Nat.le_trans h.b.size hg.size,fun k hk=>?_⟩⟩
 ·obtain ⟨a,hao,hl,hc,hn⟩:=h.ps j hj;refine ⟨a,hao,Nat.lt_of_lt_of_le hl hg.size,?_,fun e=>?_⟩
  ·rw [World.cell?_of_block (hg.block (a.add j).block (by rw [add_block]; exact hl) (by rw [add_block]; exact fun e=>hn e.symm))];exact hc
  ·rcases ha with ha | ha
   ·rw [ha] at e; exact hn e
   ·rw [ha] at e; injection e with e; omega
 ·rw [hg.block k (Nat.lt_of_lt_of_le hk h.b.size) (fun e=>by have:=(own_lt h.own e.symm).1; omega)];exact h.b.block k hk
def pieceF (v:List UInt8):List (List UInt8):=(partsV 44 v).map trimL
def fK (k:Nat) (m:Ms) (r:Rq):Rq × Int:=match k with | 0=>fExpV m r | 1=>fEvtV m r | 2=>fConV m r | 3=>fTypV m r | _=>fMatV m r
def prefR (m:Ms) (r:Rq):Nat → Rq × Int
 | 0=>(r,0)
 | k+1=>thenV (prefR m r k) (fK k m)
theorem fields_pref (m:Ms) (r:Rq):fieldsR m r=prefR m r 5:=by
 unfold fieldsR;simp only [prefR,fK]
 rfl
theorem pref_next {m:Ms} {r s:Rq} {k:Nat} (h:prefR m r k=(s,0)):prefR m r (k+1)=fK k m s:=by
 simp [prefR,h,thenV]
theorem pref_bad {m:Ms} {r:Rq} {k:Nat} (h:(prefR m r k).2 ≠ 0):∀ d,prefR m r (k+d)=prefR m r k:=by
 intro d
 induction d with
 | zero=>rfl
 | succ d ih =>
  rw [Nat.add_succ];simp only [prefR];rw [ih];unfold thenV;rw [if_pos h]
theorem pref_stop {m:Ms} {r s:Rq} {k:Nat} {n:Int} (hk:k < 5) (h:prefR m r k=(s,0)) (he:(fK k m s).2=n) (hn:n ≠ 0):(fieldsR m r).2=n:=by
 have h1:=pref_next h;have h2:(prefR m r (k+1)).2 ≠ 0:=by rw [h1,he]; exact hn
 have h3:=pref_bad h2 (5 - (k+1));rw [fields_pref,show 5=k+1+(5 - (k+1)) by omega,h3,h1,he]
theorem add0 (a:Addr):a.add 0=a:=by
 rcases a with ⟨b,o,_ | i⟩ <;> simp [Addr.add]
theorem ownsRow_setRow {w:World} {B:Nat} {e:TypeId} {k n:Nat} {v:Value} {xs:List Value} (h:w.ownsRow B e k v n xs) {g:Nat} (hg:g < B) (cs:Array Value):(w.setRow g cs).ownsRow B e k v n xs:=by
 obtain ⟨h1,h2⟩:=h;refine ⟨h1,?_⟩
 rcases h2 with h2 | ⟨b,cap,cur,hv,hb,hh,r⟩
 ·exact Or.inl h2
 ·exact Or.inr ⟨b,cap,cur,hv,hb,by rw [setRow_other _ _ _ _ (by omega)]; exact hh,r⟩
theorem OwnA.setRow {w:World} {B:Nat} {v:Value} {cs:List AdrC} (h:OwnA w B v cs) {g:Nat} (hg:g < B) (a:Array Value):OwnA (w.setRow g a) B v cs :=
 ⟨ownsRow_setRow h.1 hg a,fun c hc=>⟨ownsRow_setRow (h.2 c hc).1 hg a,ownsRow_setRow (h.2 c hc).2.1 hg a,ownsRow_setRow (h.2 c hc).2.2 hg a⟩⟩
section
variable {w wr w' : World} {m : Ms} {h : Value} {c0 c : RqC}
def RqC.exp (c:RqC) (t:Int):RqC:={ c with r:={ c.r with expires:=t } }
def RqC.typ (c:RqC) (t:List UInt8):RqC:={ c with r:={ c.r with type:=t } }
def RqC.mat (c:RqC) (t:List UInt8):RqC:={ c with r:={ c.r with mtch:=t } }
def RqC.con (c:RqC) (l:List Adr) (v:Value):RqC:={ c with r:={ c.r with contact:=l },co:=v }
def RqC.evt (c:RqC) (e:Ev) (v:Value):RqC:={ c with r:={ c.r with event:=e },eq:=v }
end
theorem Own.setR {w:World} {B:Nat} {e:TypeId} {v:Value} {xs:List Value} (h:Own w B e v xs) {g:Nat} (hg:g < B) (cs:Array Value):Own (w.setRow g cs) B e v xs:=ownsRow_setRow h hg cs
theorem own_sl {w:World} {B:Nat} {e:TypeId} {v:Value} {xs:List Value} (h:Own w B e v xs):SliceV v:=by
 obtain ⟨a,k,e⟩:=h.form;exact ⟨a,_,k,e⟩
section
variable {w w1 wr w' : World} {m : Ms} {h : Value} {c : RqC}
def RqC.rou (c:RqC) (l:List (List UInt8)) (v:Value):RqC:={ c with r:={ c.r with routes:=l },ro:=v }
def RqC.acc (c:RqC) (l:List (List UInt8)) (v:Value):RqC:={ c with r:={ c.r with accept:=l },ac:=v }
def RqC.tgt (c:RqC) (u:Uri) (p q:Value):RqC:={ c with r:={ c.r with target:=u },tp:=p,th:=q }
def set16 (w:World) (b:Nat) (u:Uri) (p q:Value):World :=
 (((((w.setCell ⟨b,1,none⟩ (.string ⟨u.scheme.toArray⟩)).setCell ⟨b,2,none⟩ (.string ⟨u.user.toArray⟩)).setCell ⟨b,3,none⟩ (.string ⟨u.host.toArray⟩)).setCell ⟨b,4,none⟩ (.int .i64 u.port)).setCell ⟨b,5,none⟩ p).setCell ⟨b,6,none⟩ q
def ReadRes (R:Rq × Int) (w':World) (e:Ending):Prop:=∃ c:RqC,c.r=R.1∧e=.returned (.tuple #[rqV c,.int .i64 R.2])∧c.At w'∧c.Sl
theorem read_none {R:Rq × Int} {n:Int} {w':World} (h:R=(noR,n)):ReadRes R w' (.returned (.tuple #[.agg rq0,.int .i64 n])):=by
 subst h;exact ⟨noC,rfl,rfl,noC_at _,noC_sl⟩
end
theorem pieces_small {m:Ms} {nm:List UInt8} (h:SmallM 1048576 m):∀ s ∈ piecesV m nm,s.length≤1048576:=by
 intro s hs;unfold piecesV at hs;simp only [List.mem_flatMap,List.mem_map] at hs;obtain ⟨v,hv,q,hq,rfl⟩:=hs;have h1:=all_small h nm v hv;have h2:=p_mem_len 44 v q hq;have h3:=trimL_len q;omega
theorem routes_step {l:List (List UInt8)} {k:Nat} (hk:k < l.length):routesE (l.drop k)=if (parseA l[k]).2 ≠ 0 then (parseA l[k]).2 else routesE (l.drop (k+1)):=by
 rw [List.drop_eq_getElem_cons hk]
 rfl
end Go.Proofs.YtiogedceommcoaaGreatDoor
