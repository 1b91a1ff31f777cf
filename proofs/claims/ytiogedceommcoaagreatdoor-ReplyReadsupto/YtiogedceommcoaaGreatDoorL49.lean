/-
  HeadL, OpenEv, ReplyL, HRef1, HRef2, HRef4, RListA, RPieces, RFields.
-/
import Derived.Test.YtiogedceommcoaaGreatDoorK29
import Derived.Test.YtiogedceommcoaaGreatDoorL48
set_option linter.unusedVariables false
set_option linter.unusedSimpArgs false
set_option maxRecDepth 20000
namespace Go.Proofs.YtiogedceommcoaaGreatDoor
open Go.RowKit Sc
def evB (v:Ev):Bool:=tokenB v.name && (decide (v.params.length≤16) && mayGo [] v.params)
theorem ev_facts {v:Ev} (h:evB v=true):tokenB v.name=true∧v.params.length≤16∧mayGo [] v.params=true:=by
 simp only [evB,Bool.and_eq_true,decide_eq_true_eq] at h; exact h
theorem event_checked {s:List UInt8} {v:Ev} (h:eventV s=(v,0)):evB v=true:=by
 unfold eventV at h
 split at h
 ·simp at h
 ·rename_i hc
  simp only [not_or,Bool.not_eq_false,ne_eq,Decidable.not_not] at hc;simp only [Prod.mk.injEq,and_true] at h;subst h;obtain ⟨f1,f2⟩:=fieldsV_may hc.2;simp only [evB,hc.1,f2,Bool.true_and,Bool.and_true,decide_eq_true_eq]; exact f1
end Go.Proofs.YtiogedceommcoaaGreatDoor
namespace Go.Proofs.YtiogedceommcoaaGreatDoor
open Go.RowKit Go.ChangeShapes Go.WideShapes Go.Deep
section
variable {H : Type} {enc : TypeId × Value → H} {W : World} {sp : Nat → Bool}
def SmallE (B:Nat) (h:Ev):Prop:=h.name.length≤B∧SmallP B h.params
end
end Go.Proofs.YtiogedceommcoaaGreatDoor
namespace Go.Proofs.YtiogedceommcoaaGreatDoor
open Go.RowKit Sc
theorem thenV_ok {x:Rq × Int} {f:Rq → Rq × Int} (h:(thenV x f).2=0):x.2=0∧thenV x f=f x.1:=by
 unfold thenV at h ⊢;by_cases hx:x.2=0
 ·rw [if_neg (by simp [hx])]; exact ⟨hx,rfl⟩
 ·rw [if_pos hx] at h; exact absurd h hx
set_option maxHeartbeats 1000000 in
set_option maxRecDepth 100000 in
theorem rtime_any (s:List UInt8) (w:World) (hs:s.length≤140737488355328) :
  Calls Tryz.prog 91 #[.string ⟨s.toArray⟩] w fun e w'=>e=.returned (.tuple #[.int .i64 (timeV s).1,.int .i64 (timeV s).2])∧Below w.heap.size w w':=by
 have hts:=trimL_len s;have KT:=hid (fun w'=>reftrim_list s w' (by omega));have KN:=hid (fun w'=>refnumber_list (trimL s) w' (by omega));have HV:Hid (timeV s=if (numV maxS (trimL s)).2=9 then ((maxS:Int),0) else numV maxS (trimL s)):=show _=_ from rfl
 generalize timeV s=R at HV ⊢;generalize trimL s=t at KT KN HV hts;generalize numV maxS t=nv at KN HV;obtain ⟨n,e⟩:=nv;simp only at KN HV
 go_enter Tryz.func91,Tryz.ntmps91
 go_wp2_with fail
 refine (KT.out _).mono ?_
 rintro e1 w1 ⟨rfl,hw1⟩;rw [hw1];go_wp2_with fail
 refine (KN.out _).mono ?_
 rintro e2 w2 ⟨rfl,hw2⟩;rw [hw2];clear hw1 hw2;by_cases h9:e=9
 ·subst h9;have HR:Hid (R=(2147483647,0)):=show _=_ by rw [HV.out,if_pos rfl]; rfl
  clear HV;go_wp2;go_ret2;exact ⟨by rw [HR.out]; rfl,Below.refl _ _⟩
 ·have HR:Hid (R=(n,e)):=show _=_ by rw [HV.out,if_neg h9]
  have h9b:(e==9)=false:=by simpa using h9
  clear HV;go_wp2;go_ret2;exact ⟨by rw [HR.out]; rfl,Below.refl _ _⟩
set_option maxHeartbeats 1000000 in
set_option maxRecDepth 100000 in
theorem revent_any (s:List UInt8) (w:World) (hs:s.length≤1048576) :
  Calls Tryz.prog 92 #[.string ⟨s.toArray⟩] w fun e w'=>EvRes (eventV s) w w' e∧Below w.heap.size w w':=by
 obtain ⟨p0',ps0,hpt⟩:=partsG_cons 59 s pl0 [];have hpt2:partsV 59 s=p0' :: ps0:=hpt;have hmem:=h_mem_len 59 s;rw [hpt2] at hmem;have hp0:=hmem p0' (by simp);have htp:=trimL_len p0';have KP:=hid (fun w'=>refparts_of hpt2 w' (by omega));have KTT:=hid (fun w'=>reftrim_list p0' w' (by omega));have KK:=hid (fun w'=>reftoken_list (trimL p0') w' (by omega));have HML:Hid (∀ l ∈ ps0,l.length≤1048576):=fun l hl=>by have:=hmem l (by simp [hl]); omega
 have HV:=hid (eventV_of hpt2);clear hpt hpt2 hmem;generalize eventV s=R at HV ⊢;generalize trimL p0'=tp at KTT KK HV htp;have hr0:=row2_at w (.string ⟨#[]⟩) (.slice none 0 0) 33;have hb0:Below w.heap.size w (w.alloc (.cells #[.string ⟨#[]⟩,.slice none 0 0] 33)):=(Below.refl _ w).alloc (Nat.le_refl _) _;have hlt0:=alloc_lt w (.cells #[.string ⟨#[]⟩,.slice none 0 0] 33)
 go_enter Tryz.func92,Tryz.ntmps92
 go_wp2_with fail
 refine (KP.out _).mono ?_
 rintro e w5 ⟨g,cap,rfl,hcap,hgl,hcells,hw5⟩;have hg0:=hcells 0 (by simp);simp only [List.getElem_cons_zero] at hg0;have hr6:=hr0.below hw5 hlt0;have hb6:=hb0.trans (hw5.mono hb0.size);have hlt6:=Nat.lt_of_lt_of_le hlt0 hw5.size;have HC:=hid hcells;clear hcells hw5 KP hr0 hb0 hlt0;go_wp2_with fail
 refine (KTT.out _).mono ?_
 rintro e w6 ⟨rfl,rfl⟩;have HSA:Hid (StrsAt w6 (.slice (some ⟨g,1,none⟩) ps0.length (cap - 1)) ps0):=strs_tail HC.out hgl (Below.refl _ _);have HSB:Hid (ps0=[] → StrsAt w6 (.slice (some ⟨g,0,none⟩) ps0.length 0) ps0):=fun h=>by subst h; exact strs_none _ _ _
 clear HC hg0 hgl KTT;go_wp2_with fail
 all_goals (
  refine (reffields_any _ ps0 w6 HML.out ?hstr).mono ?_
  case hstr=>first | with_reducible exact HSA.out | exact HSB.out (List.eq_nil_of_length_eq_zero (by omega))
  rintro e w9 ⟨fv,fn,rfl,⟨hfn,hfo⟩,hw9⟩;generalize fieldsV ps0=fr at HV hfn hfo;obtain ⟨fp,fm⟩:=fr;simp only at HV hfn hfo;subst hfn;obtain ⟨a3,k3,hfe⟩:=hfo.parsAt.form;subst hfe;have hr9:=hr6.below hw9 hlt6;have hb9:=hb6.trans (hw9.mono hb6.size);have HO9:=hid (OwnP.mono hfo (show w.heap.size+1≤_ by omega));clear hfo hw9 hr6 hb6 HSA HSB;obtain ⟨y0,y1,f0,f1⟩:=hr9.two2
  cases htk:tokenB tp with
  | false =>
   have HR:Hid (R=(noE,81)):=show _=_ by rw [HV.out,if_pos (Or.inl htk)]
   rw [htk] at KK;have hrA:=hrow_store2 hr9 (.string ⟨#[]⟩) (.slice none 0 0);have hbA:=store_below2 hb9 w.heap.size (Nat.le_refl _) (.string ⟨#[]⟩) (.slice none 0 0);have HA:=hid (And.intro hrA hbA);clear HV hrA hbA;go_wp2_with (go_at_call 47; refine (KK.out _).mono ?_; rintro e wx ⟨rfl,hwx⟩; rw [hwx])
   generalize World.setCell _ _ _=wA at HA ⊢;obtain ⟨hrA,hbA⟩:=HA.out;obtain ⟨d0,d1,_,_⟩:=hrA.two2
   try simp only [Exit.inBlock,Exit.then]
   refine bodyPost_ret (v:=.tuple #[.agg #[.string ⟨#[]⟩,.slice none 0 0],.int .i64 81]) (by simp [results,Tryz.results92,go_sem,d0,d1]; try rfl) rfl ?_
   exact ⟨eres_none HR.out,hbA⟩
  | true =>
   rw [htk] at KK;by_cases hfz:fn=0
   ·subst hfz;have HR:Hid (R=(⟨tp,fp⟩,0)):=show _=_ by rw [HV.out,if_neg (by simp [htk])]
    have hrA:=hrow_store2 hr9 (.string ⟨tp.toArray⟩) (.slice a3 fp.length k3);have hbA:=store_below2 hb9 w.heap.size (Nat.le_refl _) (.string ⟨tp.toArray⟩) (.slice a3 fp.length k3);have q3:=(OwnP.store2 HO9.out (Nat.lt_succ_self _) (.string ⟨tp.toArray⟩) (.slice a3 fp.length k3)).mono (Nat.le_succ w.heap.size);have HA:=hid (And.intro hrA (And.intro hbA q3));clear HV hrA hbA q3;go_wp2_with (go_at_call 47; refine (KK.out _).mono ?_; rintro e wx ⟨rfl,hwx⟩; rw [hwx])
    generalize World.setCell _ _ _=wA at HA ⊢;obtain ⟨hrA,hbA,q3⟩:=HA.out;obtain ⟨d0,d1,_,_⟩:=hrA.two2
    try simp only [Exit.inBlock,Exit.then]
    refine bodyPost_ret (v:=.tuple #[.agg #[.string ⟨tp.toArray⟩,.slice a3 fp.length k3],.int .i64 0]) (by simp [results,Tryz.results92,go_sem,d0,d1]; try rfl) rfl ?_
    refine ⟨?_,hbA⟩
    rw [HR.out];exact ⟨_,rfl,q3⟩
   ·have HR:Hid (R=(noE,81)):=show _=_ by rw [HV.out,if_pos (Or.inr hfz)]
    have hne:(fn != 0)=true:=by simpa using hfz
    have hrA:=hrow_store2 hr9 (.string ⟨#[]⟩) (.slice none 0 0);have hbA:=store_below2 hb9 w.heap.size (Nat.le_refl _) (.string ⟨#[]⟩) (.slice none 0 0);have HA:=hid (And.intro hrA hbA);clear HV hrA hbA;go_wp2_with (go_at_call 47; refine (KK.out _).mono ?_; rintro e wx ⟨rfl,hwx⟩; rw [hwx])
    generalize World.setCell _ _ _=wA at HA ⊢;obtain ⟨hrA,hbA⟩:=HA.out;obtain ⟨d0,d1,_,_⟩:=hrA.two2
    try simp only [Exit.inBlock,Exit.then]
    refine bodyPost_ret (v:=.tuple #[.agg #[.string ⟨#[]⟩,.slice none 0 0],.int .i64 81]) (by simp [results,Tryz.results92,go_sem,d0,d1]; try rfl) rfl ?_
    exact ⟨eres_none HR.out,hbA⟩)
set_option maxHeartbeats 1000000 in
set_option maxRecDepth 100000 in
theorem rtype_any (s:List UInt8) (w:World) (hs:s.length≤1048576) :
  Calls Tryz.prog 94 #[.string ⟨s.toArray⟩] w fun e w'=>e=.returned (.tuple #[.string ⟨(typeT s).toArray⟩,.bool (typeOk (typeT s))])∧Below w.heap.size w w':=by
 obtain ⟨p0',ps0,hpt⟩:=partsG_cons 59 s pl0 [];have hpt2:partsV 59 s=p0' :: ps0:=hpt;have hmem:=h_mem_len 59 s;rw [hpt2] at hmem;have hp0:=hmem p0' (by simp);have htp:=trimL_len p0';have KP:=hid (fun w'=>refparts_of hpt2 w' (by omega));have KTT:=hid (fun w'=>reftrim_list p0' w' (by omega));have KL:=hid (fun w'=>reflower_l (trimL p0') w' (by omega));rw [typeT_of hpt2];have hll:(lowL (trimL p0')).length=(trimL p0').length:=by simp [lowL]
 generalize trimL p0'=tp at KTT KL htp hll ⊢;generalize lowL tp=t at KL hll ⊢;obtain ⟨a,b,f,hcut⟩:∃ a b f,cutL 47 t=(a,b,f):=⟨_,_,_,rfl⟩
 have hcl:=cutL_len 47 t;rw [hcut] at hcl;simp only at hcl;have KC:=hid (fun w'=>cut3_of (c:=47) hcut w' (by omega));have KA:=hid (fun w'=>reftoken_list a w' (by omega));have KB:=hid (fun w'=>reftoken_list b w' (by omega));have HV:Hid (typeOk t=(f && (tokenB a && tokenB b))):=show _=_ by unfold typeOk; rw [hcut]
 generalize typeOk t=R at HV ⊢;clear hpt hpt2 hmem hcut
 go_enter Tryz.func94,Tryz.ntmps94
 go_wp2_with fail
 refine (KP.out _).mono ?_
 rintro e w5 ⟨g,cap,rfl,hcap,hgl,hcells,hw5⟩;have hg0:=hcells 0 (by simp);simp only [List.getElem_cons_zero] at hg0;clear hcells KP;go_wp2_with fail
 refine (KTT.out _).mono ?_
 rintro e w6 ⟨rfl,rfl⟩;clear hg0 KTT;go_wp2_with fail
 refine (KL.out _).mono ?_
 rintro e w7 ⟨rfl,hw7⟩;have hb7:=hw5.trans (hw7.mono hw5.size);clear hw5 hw7 KL;go_wp2_with fail
 refine (KC.out _).mono ?_
 rintro e w8 ⟨rfl,hw8⟩;have hb8:=hb7.trans (hw8.mono hb7.size);clear KC hw8 hb7
 cases f with
 | false =>
  go_wp2;go_ret2;exact ⟨by rw [HV.out]; rfl,hb8⟩
 | true =>
  cases hta:tokenB a with
  | false =>
   rw [hta] at KA HV;go_wp2_with fail
   refine (KA.out _).mono ?_
   rintro e wx ⟨rfl,hwx⟩;rw [hwx];clear hwx;go_wp2;go_ret2;exact ⟨by rw [HV.out]; rfl,hb8⟩
  | true =>
   rw [hta] at KA HV;go_wp2_with fail
   refine (KA.out _).mono ?_
   rintro e wx ⟨rfl,hwx⟩;rw [hwx];clear hwx
   cases htb:tokenB b with
   | false =>
    rw [htb] at KB HV;go_wp2_with fail
    refine (KB.out _).mono ?_
    rintro e wx ⟨rfl,hwx⟩;rw [hwx];clear hwx;go_wp2;go_ret2;exact ⟨by rw [HV.out]; rfl,hb8⟩
   | true =>
    rw [htb] at KB HV;go_wp2_with fail
    refine (KB.out _).mono ?_
    rintro e wx ⟨rfl,hwx⟩;rw [hwx];clear hwx;go_wp2;go_ret2;exact ⟨by rw [HV.out]; rfl,hb8⟩
theorem refparts_at {l p0:List UInt8} {ps:List (List UInt8)} {c:Int} (h:partsV c l=p0 :: ps) (w:World) (hs:l.length≤1048576) :
  Calls Tryz.prog 74 #[.string ⟨l.toArray⟩,.int .u8 c] w fun e w'=>∃ (a:Addr) (cap:Nat),e=.returned (.slice (some a) (ps.length+1) cap)∧(∀ j (hj:j < (p0 :: ps).length),a.block < w'.heap.size∧w'.cell? (a.add j)=some (.string ⟨((p0 :: ps)[j]).toArray⟩))∧Below w.heap.size w w':=by
 refine (refparts_of h w hs).mono ?_
 rintro e w' ⟨g,cap,rfl,_,hg,hc,hb⟩;refine ⟨⟨g,0,none⟩,cap,rfl,fun j hj=>⟨hg,?_⟩,hb⟩
 have e:(⟨g,0,none⟩:Addr).add j=⟨g,j,none⟩:=by unfold Addr.add; split <;> simp_all
 rw [e];exact hc j hj
set_option maxHeartbeats 1000000 in
set_option maxRecDepth 100000 in
theorem rlist_any (s:List UInt8) (w:World) (hs:s.length≤1048576) :
  Calls Tryz.prog 93 #[.string ⟨s.toArray⟩] w fun e w'=>ListRes (listA s) w w' e∧Below w.heap.size w w':=by
 obtain ⟨i0,hi,hz0,hz1,hz2⟩:=info_parts infoAdr;obtain ⟨p0,ps0,hpt⟩:=partsG_cons 44 s pl0 [];have hpt2:partsV 44 s=p0 :: ps0:=hpt;have hmem:=parts_mem_len 44 s;rw [hpt2] at hmem;have KP:=hid (fun w'=>refparts_at hpt2 w' (by omega));have HM:Hid (∀ l ∈ p0 :: ps0,l.length≤1048576):=fun l hl=>by have:=hmem l hl; omega
 have HLA:Hid (listA s=if 16 < (p0 :: ps0).length then ([],4) else listG [] (p0 :: ps0)):=show _=_ by rw [listA,hpt2]
 generalize listA s=R at HLA ⊢;clear hpt hpt2 hmem;obtain ⟨n,hn⟩:∃ n,n=ps0.length+1:=⟨_,rfl⟩
 have HN:Hid ((p0 :: ps0).length=n):=by show _=_; rw [hn]; rfl
 rw [← hn] at KP;clear hn;generalize p0 :: ps0=qs at KP HM HLA HN
 go_enter Tryz.func93,Tryz.ntmps93
 go_wp2_with fail
 refine (KP.out _).mono ?_
 rintro e w1 ⟨a,cap,rfl,hc,hw1⟩;have HC:=hid hc;clear hc KP;by_cases h16:n≤16
 case neg =>
  have h16':(16:Int) < (n:Int):=by omega
  have HR:Hid (R=([],4)):=show _=_ by rw [HLA.out,if_pos (by rw [HN.out]; omega)]
  clear HLA;go_wp2;go_ret2;exact ⟨lres_bad HR.out,hw1⟩
 have HR:Hid (R=listG [] qs):=show _=_ by rw [HLA.out,if_neg (by rw [HN.out]; omega)]
 clear HLA;go_wp2
 go_loopw [5,6] (fun x i wr=>∃ (k:Nat) (cs:List AdrC),k≤n∧i=.int .i64 k∧Hid (listG [] qs=listG (cs.map AdrC.a) (qs.drop k))∧Hid (cs.length=k)∧Hid (OwnA wr w1.heap.size x cs)∧Below w1.heap.size w1 wr∧w1.heap.size≤wr.heap.size) (fun _ i _=>n - (intOf i).toNat)
 case atStart=>exact ⟨0,[],by omega,rfl,rfl,hid rfl,OwnA.nil _ _,Below.refl _ _,Nat.le_refl _⟩
 case round =>
  obtain ⟨k,cs,hkn,rfl,hps,hpl,hown,hb,hB⟩:=hrel;by_cases hlt:k < n
  ·have hkl:k < qs.length:=by have:=HN.out; omega
   obtain ⟨hab,hcell⟩:=HC.out k hkl;have hcell2:=cell_below hb (by rw [add_block]; exact hab) hcell;have hll:=HM.out _ (List.getElem_mem hkl);clear hcell;have KA:=hid (fun w'=>rparseA_any qs[k] w' hll);have hon:=@list_on qs (cs.map AdrC.a) k;have hbad:=@list_bad qs (cs.map AdrC.a) k;obtain ⟨x,er,hpv⟩:∃ x er,parseA qs[k]=(x,er):=⟨_,_,rfl⟩
   rw [hpv] at KA;obtain ⟨xa,xc,hxe⟩:=hown.out.form;subst hxe;by_cases he:er=0
   ·subst he;have hnext:=hid (hon hkl hps.out hpv);clear hon hbad hpv hps;obtain ⟨d,⟨us,uu,uh,up,upp,uhh⟩,ps⟩:=x;unfold ParseRes adrV at KA;simp only at KA;go_wp2_with fail
    refine (KA.out _).mono ?_
    rintro e w2 ⟨⟨p,h,q,rfl,o1,o2,o3⟩,hw2⟩;have HC2:Hid (AdrC.Own w2 w1.heap.size ⟨⟨d,⟨us,uu,uh,up,upp,uhh⟩,ps⟩,p,h,q⟩):=⟨o1.mono hB,o2.mono hB,o3.mono hB⟩
    obtain ⟨a1,k1,e1⟩:=o1.parsAt.form;obtain ⟨a2,k2,e2⟩:=o2.parsAt.form;obtain ⟨a3,k3,e3⟩:=o3.parsAt.form;subst e1 e2 e3;have hown2:=hown.out.below hw2;have hb2:=hb.trans (hw2.mono hB);have hB2:=hb2.size;clear o1 o2 o3 hown hw2 KA hb;have HNW:=hid (fun (wx:World) (t:TypeId)=>new_adr wx ⟨⟨d,⟨us,uu,uh,up,upp,uhh⟩,ps⟩,.slice a1 upp.length k1,.slice a2 uhh.length k2,.slice a3 ps.length k3⟩ t);simp only at HNW;have HNV:=hid (HNW.out (w2.alloc (.cells #[.string ⟨d.toArray⟩,.string ⟨us.toArray⟩,.string ⟨uu.toArray⟩,.string ⟨uh.toArray⟩,.int .i64 up,.slice a1 upp.length k1,.slice a2 uhh.length k2,.slice a3 ps.length k3] 31)));rw [show (w2.alloc (.cells #[.string ⟨d.toArray⟩,.string ⟨us.toArray⟩,.string ⟨uu.toArray⟩,.string ⟨uh.toArray⟩,.int .i64 up,.slice a1 upp.length k1,.slice a2 uhh.length k2,.slice a3 ps.length k3] 31)).heap.size=w2.heap.size+1 by simp] at HNV;clear HNW;have hA:=hid ((Below.refl _ w2).alloc (Nat.le_refl _) (.cells #[.string ⟨d.toArray⟩,.string ⟨us.toArray⟩,.string ⟨uu.toArray⟩,.string ⟨uh.toArray⟩,.int .i64 up,.slice a1 upp.length k1,.slice a2 uhh.length k2,.slice a3 ps.length k3] 31));have hA2:=hid (fun o=>hA.out.trans (((Below.refl _ _).alloc (Nat.le_refl _) o).mono hA.out.size));have hO3:=hid (fun o=>hown2.below (hA2.out o));have hC3:=hid (fun o=>HC2.out.below (hA2.out o));have hb3:=hid (fun o=>hb2.trans ((hA2.out o).mono hB2));clear hown2 HC2 hA hb2;go_wp2_with (at_builtin; refine wp_appA _ rfl (.tmp 31) (.tmp 33) 34 rfl w1.heap.size i0 _ Tryz.underlying34 hi hz0 hz1 hz2 rfl _ cs rfl (hO3.out _) ⟨_,0,none⟩ 1 ⟨⟨d,⟨us,uu,uh,up,upp,uhh⟩,ps⟩,.slice a1 upp.length k1,.slice a2 uhh.length k2,.slice a3 ps.length k3⟩ (hC3.out _) rfl (by exact HNV.out _) (by have:=hpl.out; omega) w1 (hb3.out _) (by simp; omega) ?_; intro v5 w5 hown5 hb5 hB5)
    have HO5:=hid hown5;clear hown5;go_wp2;go_roundw
    case rel=>exact ⟨k+1,cs++[⟨⟨d,⟨us,uu,uh,up,upp,uhh⟩,ps⟩,.slice a1 upp.length k1,.slice a2 uhh.length k2,.slice a3 ps.length k3⟩],by omega,by go_num,hid (by rw [List.map_append]; exact hnext.out),hid (by have:=hpl.out; simp; omega),HO5,hb5,hB5⟩
    case measure=>simp [intOf]; omega
   ·have hn:(er != 0)=true:=by simpa using he
    have hn2:(er==0)=false:=by simpa using he
    have HR2:Hid (R=([],er)):=show _=_ by rw [HR.out]; exact hbad hkl hps.out hpv he
    clear hon hbad hpv hps;obtain ⟨d,⟨us,uu,uh,up,upp,uhh⟩,ps⟩:=x;unfold ParseRes adrV at KA;simp only at KA;go_wp2_with fail
    refine (KA.out _).mono ?_
    rintro e w2 ⟨⟨p,h,q,rfl,o1,o2,o3⟩,hw2⟩;obtain ⟨a1,k1,e1⟩:=o1.parsAt.form;obtain ⟨a2,k2,e2⟩:=o2.parsAt.form;obtain ⟨a3,k3,e3⟩:=o3.parsAt.form;subst e1 e2 e3;have hb2:=hb.trans (hw2.mono hB);have hb3:=fun o=>hb2.alloc hb2.size o;clear o1 o2 o3 hw2 KA hb;go_wp2;go_ret2;exact ⟨lres_bad HR2.out,hw1.trans ((hb3 _).mono hw1.size)⟩
  ·have hend:Hid (R=(cs.map AdrC.a,0)):=show _=_ by
    have h:=hps.out;have e:=HN.out;rw [List.drop_of_length_le (by omega),listG] at h;rw [HR.out,h]
   clear hps;go_wp2;go_ret2;exact ⟨⟨_,cs,by rw [hend.out]; rfl,by rw [hend.out],hown.out.mono hw1.size⟩,hw1.trans (hb.mono hw1.size)⟩
set_option maxHeartbeats 2000000 in
set_option maxRecDepth 100000 in
theorem rpieces_any (m:Ms) (h:Value) (nm:List UInt8) (w:World) (hsm:SmallM 1048576 m) (hhl:m.headers.length≤1048576) (hnl:nm.length≤140737488355328) (hat:HdrsAt w h m.headers) (hpl:(piecesV m nm).length≤1048576) :
  Calls Tryz.prog 42 #[msgV m h,.string ⟨nm.toArray⟩] w fun e w'=>∃ v,e=.returned v∧Own w' w.heap.size 9 v (strs (piecesV m nm))∧Below w.heap.size w w':=by
 obtain ⟨i0,hi,hz0,hz1,hz2⟩:=info_parts info9;have KA:=hid (fun w' (hb:Below w.heap.size w w')=>rall_any m h nm w' (hsm.le (by omega)) (by omega) hnl (hat.below hb));have HVL:=hid (all_small hsm nm);have HBX:=hid (boxM_new w m h);have hb0:Below w.heap.size w (w.alloc (objM m h)):=(Below.refl _ w).alloc (Nat.le_refl _) _;have hcn:(allV m nm).length≤1048576:=by unfold allV; rw [List.length_map]; exact Nat.le_trans (List.length_filter_le _ _) hhl
 have HPV:Hid (piecesV m nm=(allV m nm).flatMap pieceF):=show _=_ from rfl
 obtain ⟨ah,ch,rfl⟩:=hat.form;clear hsm hhl hat;obtain ⟨me,ta,st,re,hs,bo⟩:=m;unfold msgV at KA ⊢;unfold objM at HBX hb0;simp only at KA HBX hb0 ⊢;generalize piecesV _ nm=R at HPV hpl ⊢;generalize allV _ nm=vals at KA HVL HPV hcn;rw [HPV.out] at hpl;obtain ⟨n,hn⟩:∃ n,n=vals.length:=⟨_,rfl⟩
 rw [← hn] at hcn;have HN:=hid hn;have HL:=hid hpl;clear hn hpl;obtain ⟨x0,x1,x2,x3,x4,x5⟩:=HBX.out;simp only at x0 x1 x2 x3 x4 x5
 go_enter Tryz.func42,Tryz.ntmps42
 go_wp2_with fail
 refine (KA.out _ hb0).mono ?_
 rintro e w1 ⟨v0,rfl,hov,hw1⟩;have hb1:=hb0.trans (hw1.mono hb0.size);obtain ⟨va,vc,hve,hvc⟩:=hov.txts;subst hve;rw [← HN.out];have HC:=hid hvc;clear hvc KA hov hw1 hb0 HBX x0 x1 x2 x3 x4 x5;go_wp2
 go_loopw [5,7] (fun x i wr=>∃ (k:Nat),k≤n∧i=.int .i64 k∧Hid (Own wr w1.heap.size 9 x (strs ((vals.take k).flatMap pieceF)))∧Below w1.heap.size w1 wr) (fun _ i _=>n - (intOf i).toNat)
 case atStart=>exact ⟨0,by omega,rfl,hid (Own.nil _ _ _),Below.refl _ _⟩
 case round =>
  obtain ⟨k,hkn,rfl,hown,hb⟩:=hrel;obtain ⟨acc,hacc⟩:∃ a,(vals.take k).flatMap pieceF=a:=⟨_,rfl⟩
  rw [hacc] at hown;have HAC:=hid hacc;obtain ⟨xa,xc,hxe⟩:=hown.out.form;subst hxe;by_cases hlt:k < n
  ·have hkl:k < vals.length:=by have:=HN.out; omega
   obtain ⟨a,hao,hab,hcell⟩:=HC.out k hkl;subst hao;have hcell2:=cell_below hb (by rw [add_block]; exact hab) hcell;have hll:=HVL.out _ (List.getElem_mem hkl);obtain ⟨qs,hqs⟩:∃ qs,partsV 44 vals[k]=qs:=⟨_,rfl⟩
   have KP:=hid (fun w'=>refparts_own hqs w' hll);have HQL:Hid (∀ l ∈ qs,l.length≤1048576):=fun l hl=>by have:=p_mem_len 44 vals[k] l (by rw [hqs]; exact hl); omega
   have hst:=fm_take pieceF vals k hkl;have hle:=fm_le pieceF vals (k+1);have hpf:pieceF vals[k]=qs.map trimL:=by unfold pieceF; rw [hqs]
   rw [hst,hpf,List.length_append,List.length_map] at hle;rw [hacc] at hst hle;have hq2:acc.length+qs.length≤1048576:=Nat.le_trans hle HL.out;rw [hpf] at hst;have HST:=hid hst;clear hcell hqs hll hst hle hpf hacc HAC;go_wp2_with fail
   refine (KP.out _).mono ?_
   rintro e w2 ⟨pa,pc,rfl,hop,hw2⟩;have HP:=hid (PcIn.begin hown.out hb hw2 hop);clear hown hop hb hw2 KP hcell2;obtain ⟨n2,hn2⟩:∃ n2,n2=qs.length:=⟨_,rfl⟩
   rw [← hn2] at hq2 ⊢;have HN2:=hid hn2;clear hn2;go_wp2
   go_loopw [5,9] (fun x i wr=>∃ (j:Nat),j≤n2∧i=.int .i64 j∧Hid (PcIn w1 pa qs x (acc++(qs.take j).map trimL) wr)) (fun _ i _=>n2 - (intOf i).toNat)
   case atStart=>exact ⟨0,by omega,rfl,by simpa using HP⟩
   case round =>
    clear HP;obtain ⟨j,hjn,rfl,hp⟩:=hrel;obtain ⟨xa,xc,hxe⟩:=hp.out.own.form;subst hxe;by_cases hlt2:j < n2
    ·have hjl:j < qs.length:=by have:=HN2.out; omega
     obtain ⟨a,hao,hab,hcell,hnb⟩:=hp.out.ps j hjl;subst hao;have hll:=HQL.out _ (List.getElem_mem hjl);have KT:=hid (fun w'=>reftrim_list qs[j] w' (by omega));have hnx:acc++(qs.take (j+1)).map trimL=(acc++(qs.take j).map trimL)++[trimL qs[j]]:=by rw [List.take_succ_eq_append_getElem hjl,List.map_append,← List.append_assoc]; rfl
     have hln:(acc++(qs.take j).map trimL).length+1≤8796093022208:=by simp; omega
     have HNX:=hid hnx;clear hnx hll hab hnb;generalize acc++(qs.take j).map trimL=cur at hp HNX hln;generalize qs[j]=q at hcell KT HNX;have hP3:=hid (fun o=>hp.out.below ((Below.refl _ wr).alloc (Nat.le_refl _) o));have HNV:=hid (one_new wr 9 (.string ⟨(trimL q).toArray⟩) 0 _ rfl);have hsz:=hp.out.b.size;go_wp2_with (first
      | (go_at_call 57; refine (KT.out _).mono ?_; rintro e w3 ⟨rfl,hw3⟩; rw [hw3]; clear hw3)
      | (at_builtin; refine wp_appAt _ rfl (.tmp 30) (.tmp 36) 35 rfl w1.heap.size 9 i0 (.string .empty) Tryz.underlying35 hi hz0 hz1 hz2 rfl _ cur rfl (hP3.out _).own ⟨_,0,none⟩ 1 (trimL q) rfl HNV.out hln (by simp; omega) ?_; intro v5 w5 hown5 hgr5 hat5))
     have HP5:=hid ((hP3.out _).app hown5 hgr5 hat5);rw [← HNX.out] at HP5;clear hown5 hgr5 hat5 hP3;go_wp2;go_roundw
     case rel=>exact ⟨j+1,by omega,by go_num,HP5⟩
     case measure=>simp [intOf]; omega
    ·have hjq:j=qs.length:=by have:=HN2.out; omega
     have HO2:Hid (Own wr w1.heap.size 9 (.slice xa (strs (acc++(qs.take j).map trimL)).length xc) (strs ((vals.take (k+1)).flatMap pieceF))):=by
      have:=hp.out.own
      rw [HST.out];rw [hjq,List.take_length] at this ⊢;exact this
     have hb2:=hp.out.b;clear hp;go_wp2;go_roundw
     case rel=>exact ⟨k+1,by omega,by go_num,HO2,hb2⟩
     case measure=>simp [intOf]; omega
  ·have hkl:vals.length≤k:=by have:=HN.out; omega
   have he:acc=R:=by rw [← HAC.out,List.take_of_length_le hkl,HPV.out]
   subst he;clear hacc HAC HPV;go_wp2;go_ret;exact ⟨_,rfl,hown.out.mono hb1.size,hb1.trans (hb.mono hb1.size)⟩
def namesA:Array Value:=#[.string ⟨#[69,120,112,105,114,101,115]⟩,.string ⟨#[69,118,101,110,116]⟩,.string ⟨#[67,111,110,116,97,99,116]⟩,.string ⟨#[67,111,110,116,101,110,116,45,84,121,112,101]⟩,.string ⟨#[83,73,80,45,73,102,45,77,97,116,99,104]⟩]
theorem ownsRow_setCell {w:World} {B:Nat} {e:TypeId} {k n:Nat} {v:Value} {xs:List Value} (h:w.ownsRow B e k v n xs) {a:Addr} (ha:a.block < B) (x:Value):(w.setCell a x).ownsRow B e k v n xs:=by
 obtain ⟨h1,h2⟩:=h;refine ⟨h1,?_⟩
 rcases h2 with h2 | ⟨g,cap,cur,hv,hg,hh,r⟩
 ·exact Or.inl h2
 ·exact Or.inr ⟨g,cap,cur,hv,hg,by rw [Below.heap_setCell _ _ _ _ (by omega)]; exact hh,r⟩
theorem OwnP.setC {w:World} {B:Nat} {v:Value} {ps:List Par} (h:OwnP w B v ps) {a:Addr} (ha:a.block < B) (x:Value):OwnP (w.setCell a x) B v ps:=ownsRow_setCell h ha x
theorem OwnA.setC {w:World} {B:Nat} {v:Value} {cs:List AdrC} (h:OwnA w B v cs) {a:Addr} (ha:a.block < B) (x:Value):OwnA (w.setCell a x) B v cs :=
 ⟨ownsRow_setCell h.1 ha x,fun c hc=>⟨OwnP.setC (h.2 c hc).1 ha x,OwnP.setC (h.2 c hc).2.1 ha x,OwnP.setC (h.2 c hc).2.2 ha x⟩⟩
theorem BoxM.setC {w:World} {b:Nat} {m:Ms} {h:Value} (k:BoxM w b m h) {a:Addr} (ha:a.block ≠ b) (x:Value):BoxM (w.setCell a x) b m h:=by
 have e:∀ j,(w.setCell a x).cell? ⟨b,j,none⟩=w.cell? ⟨b,j,none⟩:=fun j=>World.cell?_of_block (Below.heap_setCell _ _ _ _ (fun e=>ha e.symm));unfold BoxM;rw [e,e,e,e,e,e]; exact k
structure KeepC (a b:RqC):Prop where
 target:b.r.target=a.r.target
 frm:b.r.frm=a.r.frm
 too:b.r.too=a.r.too
 routes:b.r.routes=a.r.routes
 accept:b.r.accept=a.r.accept
 tp:b.tp=a.tp
 th:b.th=a.th
 fp:b.fp=a.fp
 fh:b.fh=a.fh
 fq:b.fq=a.fq
 op:b.op=a.op
 oh:b.oh=a.oh
 oq:b.oq=a.oq
 ro:b.ro=a.ro
 ac:b.ac=a.ac
theorem KeepC.refl (a:RqC):KeepC a a:=⟨rfl,rfl,rfl,rfl,rfl,rfl,rfl,rfl,rfl,rfl,rfl,rfl,rfl,rfl,rfl⟩
theorem KeepC.of {a b c:RqC} (h:KeepC a b) (target:c.r.target=b.r.target) (frm:c.r.frm=b.r.frm) (too:c.r.too=b.r.too) (routes:c.r.routes=b.r.routes) (accept:c.r.accept=b.r.accept) (tp:c.tp=b.tp) (th:c.th=b.th) (fp:c.fp=b.fp) (fh:c.fh=b.fh) (fq:c.fq=b.fq) (op:c.op=b.op) (oh:c.oh=b.oh) (oq:c.oq=b.oq) (ro:c.ro=b.ro) (ac:c.ac=b.ac):KeepC a c :=
 ⟨target.trans h.target,frm.trans h.frm,too.trans h.too,routes.trans h.routes,accept.trans h.accept,tp.trans h.tp,th.trans h.th,fp.trans h.fp,fh.trans h.fh,fq.trans h.fq,op.trans h.op,oh.trans h.oh,oq.trans h.oq,ro.trans h.ro,ac.trans h.ac⟩
structure FdIn (c0:RqC) (w:World) (m:Ms) (h:Value) (c:RqC) (wr:World):Prop where
 same:KeepC c0 c
 ev:OwnP wr (w.heap.size+4) c.eq c.r.event.params
 co:∃ cs:List AdrC,OwnA wr (w.heap.size+4) c.co cs∧cs.map AdrC.a=c.r.contact
 sl:c.Sl
 bx:BoxM wr w.heap.size m h
 row:RowIs wr (w.heap.size+1) 37 (rqCells c)
 z:wr.heap[w.heap.size+1+1]? = some (.cells rq0 37 (0,0))
 nm:wr.heap[w.heap.size+1+1+1]? = some (.cells namesA 9 (0,0))
 b:Below w.heap.size w wr
 lt:w.heap.size+4≤wr.heap.size
section
variable {w wr w' : World} {m : Ms} {h : Value} {c0 c : RqC}
theorem FdIn.below (H:FdIn c0 w m h c wr) (hb:Below wr.heap.size wr w'):FdIn c0 w m h c w':=by
 have hl:=H.lt;obtain ⟨cs,h1,h2⟩:=H.co;exact ⟨H.same,OwnP.below H.ev hb,⟨cs,h1.below hb,h2⟩,H.sl,H.bx.below hb (by omega),H.row.below hb (by omega),by rw [hb.block _ (by omega)]; exact H.z,by rw [hb.block _ (by omega)]; exact H.nm,H.b.trans (hb.mono H.b.size),Nat.le_trans hl hb.size⟩
theorem FdIn.put (H:FdIn c0 w m h c wr) {c':RqC} (k:Nat) (x:Value) (hc:(rqCells c).set k x=rqCells c')
  (same:KeepC c0 c')
  (ev:OwnP wr (w.heap.size+4) c'.eq c'.r.event.params) (co:∃ cs:List AdrC,OwnA wr (w.heap.size+4) c'.co cs∧cs.map AdrC.a=c'.r.contact) (sl:c'.Sl) :
  FdIn c0 w m h c' (wr.setCell ⟨w.heap.size+1,k,none⟩ x):=by
 obtain ⟨cs,h1,h2⟩:=co;have hr:=H.row.set k x;rw [hc] at hr;exact ⟨same,OwnP.setC ev (by simp) x,⟨cs,OwnA.setC h1 (by simp) x,h2⟩,sl,H.bx.setC (by simp) x,hr,by rw [Below.heap_setCell _ _ _ _ (by simp)]; exact H.z,by rw [Below.heap_setCell _ _ _ _ (by simp; omega)]; exact H.nm,H.b.setCell (by simp) x,by simpa [World.setCell] using H.lt⟩
theorem FdIn.exp (H:FdIn c0 w m h c wr) (t:Int):FdIn c0 w m h (c.exp t) (wr.setCell ⟨w.heap.size+1,29,none⟩ (.int .i64 t)) :=
 H.put 29 _ rfl (H.same.of rfl rfl rfl rfl rfl rfl rfl rfl rfl rfl rfl rfl rfl rfl rfl) H.ev H.co ⟨H.sl.tp,H.sl.th,H.sl.fp,H.sl.fh,H.sl.fq,H.sl.op,H.sl.oh,H.sl.oq,H.sl.eq,H.sl.co,H.sl.ro,H.sl.ac⟩
theorem FdIn.typ (H:FdIn c0 w m h c wr) (t:List UInt8):FdIn c0 w m h (c.typ t) (wr.setCell ⟨w.heap.size+1,35,none⟩ (.string ⟨t.toArray⟩)) :=
 H.put 35 _ rfl (H.same.of rfl rfl rfl rfl rfl rfl rfl rfl rfl rfl rfl rfl rfl rfl rfl) H.ev H.co ⟨H.sl.tp,H.sl.th,H.sl.fp,H.sl.fh,H.sl.fq,H.sl.op,H.sl.oh,H.sl.oq,H.sl.eq,H.sl.co,H.sl.ro,H.sl.ac⟩
theorem FdIn.mat (H:FdIn c0 w m h c wr) (t:List UInt8):FdIn c0 w m h (c.mat t) (wr.setCell ⟨w.heap.size+1,36,none⟩ (.string ⟨t.toArray⟩)) :=
 H.put 36 _ rfl (H.same.of rfl rfl rfl rfl rfl rfl rfl rfl rfl rfl rfl rfl rfl rfl rfl) H.ev H.co ⟨H.sl.tp,H.sl.th,H.sl.fp,H.sl.fh,H.sl.fq,H.sl.op,H.sl.oh,H.sl.oq,H.sl.eq,H.sl.co,H.sl.ro,H.sl.ac⟩
theorem FdIn.con (H:FdIn c0 w m h c wr) {l:List Adr} {v:Value} (cs:List AdrC) (ho:OwnA wr (w.heap.size+4) v cs) (hl:cs.map AdrC.a=l):FdIn c0 w m h (c.con l v) (wr.setCell ⟨w.heap.size+1,32,none⟩ v) :=
 H.put 32 _ rfl (H.same.of rfl rfl rfl rfl rfl rfl rfl rfl rfl rfl rfl rfl rfl rfl rfl) H.ev ⟨cs,ho,hl⟩ ⟨H.sl.tp,H.sl.th,H.sl.fp,H.sl.fh,H.sl.fq,H.sl.op,H.sl.oh,H.sl.oq,H.sl.eq,(by obtain ⟨a,k,e⟩:=ho.form; exact ⟨a,_,k,e⟩),H.sl.ro,H.sl.ac⟩
theorem FdIn.evt (H:FdIn c0 w m h c wr) {e:Ev} {v:Value} (ho:OwnP wr (w.heap.size+4) v e.params):FdIn c0 w m h (c.evt e v) ((wr.setCell ⟨w.heap.size+1,30,none⟩ (.string ⟨e.name.toArray⟩)).setCell ⟨w.heap.size+1,31,none⟩ v):=by
 have hs:SliceV v:=pars_sl ho.parsAt;obtain ⟨cs,c1,c2⟩:=H.co;have H1:FdIn c0 w m h { c with r:={ c.r with event:=⟨e.name,c.r.event.params⟩ } } (wr.setCell ⟨w.heap.size+1,30,none⟩ (.string ⟨e.name.toArray⟩)) :=
  H.put 30 _ rfl (H.same.of rfl rfl rfl rfl rfl rfl rfl rfl rfl rfl rfl rfl rfl rfl rfl) H.ev H.co ⟨H.sl.tp,H.sl.th,H.sl.fp,H.sl.fh,H.sl.fq,H.sl.op,H.sl.oh,H.sl.oq,H.sl.eq,H.sl.co,H.sl.ro,H.sl.ac⟩
 exact H1.put (c':=c.evt e v) 31 v rfl (H.same.of rfl rfl rfl rfl rfl rfl rfl rfl rfl rfl rfl rfl rfl rfl rfl) (OwnP.setC ho (by simp) _) ⟨cs,OwnA.setC c1 (by simp) _,c2⟩ ⟨H.sl.tp,H.sl.th,H.sl.fp,H.sl.fh,H.sl.fq,H.sl.op,H.sl.oh,H.sl.oq,hs,H.sl.co,H.sl.ro,H.sl.ac⟩
def FdRes (R:Rq × Int) (c0:RqC) (B:Nat) (w':World) (e:Ending):Prop:=∃ c:RqC,(R.2=0 → c.r=R.1)∧e=.returned (.tuple #[.agg (rqCells c).toArray,.int .i64 R.2])∧KeepC c0 c∧OwnP w' B c.eq c.r.event.params∧(∃ cs:List AdrC,OwnA w' B c.co cs∧cs.map AdrC.a=c.r.contact)∧c.Sl
theorem fd_out {R:Rq × Int} {n:Int} (H:FdIn c0 w m h c wr) (hR:R.2=n) (h0:n=0 → c.r=R.1) :
  (FdRes R c0 w.heap.size (wr.setRow (w.heap.size+1+1) (rqCells c).toArray) (.returned (.tuple #[.agg (rqCells c).toArray,.int .i64 n]))∧Below w.heap.size w (wr.setRow (w.heap.size+1+1) (rqCells c).toArray)) ∧
  (wr.setRow (w.heap.size+1+1) (rqCells c).toArray).heap[w.heap.size+1+1]? = some (.cells (rqCells c).toArray 37 (0,0)):=by
 have hb:=below_setRow (w0:=w) H.b (show w.heap.size≤w.heap.size+1+1 by omega) (rqCells c).toArray;obtain ⟨cs,h1,h2⟩:=H.co;refine ⟨⟨⟨c,fun e=>h0 (by rw [← hR]; exact e),by rw [hR],H.same,?_,?_,H.sl⟩,hb⟩,setRow_heap _ _ _ _ _ _ H.z⟩
 ·exact OwnP.mono (OwnP.setRow H.ev (g:=w.heap.size+1+1) (by omega) (rqCells c).toArray) (by omega)
 ·exact ⟨cs,(OwnA.setRow h1 (g:=w.heap.size+1+1) (by omega) (rqCells c).toArray).mono (by omega),h2⟩
end
theorem fd_in (w:World) (m:Ms) (h:Value) {c:RqC} (hs:c.Sl) (he:c.eq=nilS) (he2:c.r.event.params=[]) (ho:c.co=nilS) (ho2:c.r.contact=[]):FdIn c w m h c ((((w.alloc (objM m h)).alloc (.cells (rqCells c).toArray 37)).alloc (.cells rq0 37)).alloc (.cells namesA 9)):=by
 have s1:(w.alloc (objM m h)).heap.size=w.heap.size+1:=by simp
 have s2:((w.alloc (objM m h)).alloc (.cells (rqCells c).toArray 37)).heap.size=w.heap.size+1+1:=by simp
 have s3:(((w.alloc (objM m h)).alloc (.cells (rqCells c).toArray 37)).alloc (.cells rq0 37)).heap.size=w.heap.size+1+1+1:=by simp
 have A1:=(Below.refl w.heap.size w).alloc (Nat.le_refl _) (objM m h);have A2:=(Below.refl _ (w.alloc (objM m h))).alloc (Nat.le_refl _) (.cells (rqCells c).toArray 37);have A3:=(Below.refl _ ((w.alloc (objM m h)).alloc (.cells (rqCells c).toArray 37))).alloc (Nat.le_refl _) (.cells rq0 37);have A4:=(Below.refl _ (((w.alloc (objM m h)).alloc (.cells (rqCells c).toArray 37)).alloc (.cells rq0 37))).alloc (Nat.le_refl _) (.cells namesA 9);refine ⟨KeepC.refl c,?_,⟨[],?_,by rw [ho2]; rfl⟩,hs,(((boxM_new w m h).below A2 (by simp)).below A3 (by simp; omega)).below A4 (by simp; omega),?_,?_,?_,((A1.trans (A2.mono (by simp))).trans (A3.mono (by simp; omega))).trans (A4.mono (by simp; omega)),by simp⟩
 ·rw [he,he2]; exact OwnP.nil _ _
 ·rw [ho]; exact OwnA.nil _ _
 ·unfold RowIs;rw [A4.block _ (by simp <;> omega),A3.block _ (by simp),← s1,heap_alloc_new]
 ·rw [A4.block _ (by simp),← s2,heap_alloc_new]
 ·rw [← s3,heap_alloc_new]
end Go.Proofs.YtiogedceommcoaaGreatDoor
