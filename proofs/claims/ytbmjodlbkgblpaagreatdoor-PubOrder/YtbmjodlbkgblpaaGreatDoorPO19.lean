/-
  URest, UParse, SWho, SHost.
-/
import Derived.Test.YtbmjodlbkgblpaaGreatDoorPO18
set_option linter.unusedVariables false
set_option linter.unusedSimpArgs false
set_option maxRecDepth 20000
namespace Go.Proofs.YtbmjodlbkgblpaaGreatDoor
open Go.RowKit Sc
set_option maxHeartbeats 2000000 in
set_option maxRecDepth 100000 in
theorem readRest_any (s:List UInt8) (w:World) (hs:s.length≤1048576) :
  Calls Tryz.prog 98 #[.string ⟨s.toArray⟩] w fun e w'=>∃ p h,e=.returned (.tuple #[uriV (restV s).1 p h,.int .i64 (restV s).2])∧OwnP w' w.heap.size p (restV s).1.params∧OwnP w' w.heap.size h (restV s).1.headers∧Below w.heap.size w w':=by
 have hcl:=cutL_len 63 s;obtain ⟨ca,cb,cc,hcut⟩:∃ ca cb cc,cutL 63 s=(ca,cb,cc):=⟨_,_,_,rfl⟩
 obtain ⟨p0,ps0,hp0⟩:=splitL_cons 59 ca;obtain ⟨wh,wp,we,hwv⟩:∃ wh wp we,whereV p0=(wh,wp,we):=⟨_,_,_,rfl⟩
 have hv:=rest_of hcut hp0 hwv;rw [hcut] at hcl;simp only at hcl;have hmem:=splitL_mem_len 59 ca;have hcnt:=splitL_len 59 ca;rw [hp0] at hmem hcnt;have hp0l:=hmem p0 (by simp);have HM:Hid _:=hmem; clear hmem
 have hcnt2:ps0.length≤1048576:=by simp at hcnt; omega
 clear hcnt;have hr0:=rowU_new w;have hb0:Below w.heap.size w (w.alloc (.cells #[.string ⟨#[]⟩,.string ⟨#[]⟩,.string ⟨#[]⟩,.int .i64 0,.slice none 0 0,.slice none 0 0] 120)):=(Below.refl _ w).alloc (Nat.le_refl _) _;have hlt0:w.heap.size < (w.alloc (.cells #[.string ⟨#[]⟩,.string ⟨#[]⟩,.string ⟨#[]⟩,.int .i64 0,.slice none 0 0,.slice none 0 0] 120)).heap.size:=by simp
 have KC:=fun w'=>strCut_of hcut w' (by omega);have KS:=fun w'=>strSplit_of hp0 w' (by omega);have KW:=fun w'=>where_of hwv w' (by omega);have HKC:Hid _:=KC; clear KC
 have HKS:Hid _:=KS; clear KS
 have HKW:Hid _:=KW; clear KW
 clear hcut hp0 hwv;have HV:Hid _:=hv; clear hv
 go_enter Tryz.func98,Tryz.ntmps98
 go_wp2_with fail
 refine (HKC.out _).mono ?_
 rintro e w1 ⟨rfl,hw1⟩;have hr1:=hr0.below hw1 hlt0;have hb1:=hb0.trans (hw1.mono hb0.size);have hlt1:=Nat.lt_of_lt_of_le hlt0 hw1.size;clear hr0 hb0 hlt0 hw1;go_wp2_with fail
 refine (HKS.out _).mono ?_
 rintro e w2 ⟨g,cap,rfl,hcap,hgl,hcells,hw2⟩;have hg0:=hcells 0 (by simp);simp only [List.getElem_cons_zero] at hg0;have hr2:=hr1.below hw2 hlt1;have hb2:=hb1.trans (hw2.mono hb1.size);have hlt2:=Nat.lt_of_lt_of_le hlt1 hw2.size;clear hr1 hb1 hlt1 hw2;have HC:Hid _:=hcells; clear hcells
 go_wp2_with fail
 refine (HKW.out _).mono ?_
 rintro e w3 ⟨rfl,hw3⟩;have hr3:=hr2.below hw3 hlt2;have hb3:=hb2.trans (hw3.mono hb2.size);have hlt3:=Nat.lt_of_lt_of_le hlt2 hw3.size;have HSA:Hid (StrsAt w3 (.slice (some ⟨g,1,none⟩) ps0.length (cap - 1)) ps0):=strs_tail HC.out hgl hw3;have HSB:Hid (ps0=[] → StrsAt w3 (.slice (some ⟨g,0,none⟩) ps0.length 0) ps0):=fun h=>by subst h; exact strs_none _ _ _
 have HMT:Hid (∀ l ∈ ps0,l.length≤1048576):=fun l hl=>by have:=HM.out l (by simp [hl]); omega
 clear hw3 hgl;clear hr2 hb2 hlt2 HKC HKS HKW hg0;obtain ⟨c0,c1,c2,c3,c4,c5,f0,f1,f2,f3,f4,f5⟩:=hr3.six;by_cases hwe:we=0
 ·subst hwe;have hvv:Hid (restV s=fillV (wh,wp,0) (parsOf paramsK ps0) (headsV cc cb)):=show _=_ by rw [HV.out,if_neg (by simp)]
  clear HV;obtain ⟨q0,qs0,hq0⟩:=splitL_cons 38 cb;have hmem:=splitL_mem_len 38 cb;have hcnt:=splitL_len 38 cb;rw [hq0] at hmem hcnt;have HQM:Hid (∀ l ∈ q0 :: qs0,l.length≤1048576):=fun l hl=>by have:=hmem l hl; omega
  have hqn:(q0 :: qs0).length≤1048577:=by omega
  have KS:=fun w'=>strSplit_of hq0 w' (by omega);have HKS:Hid _:=KS;have hhv:headsV true cb=parsOf headersK (q0 :: qs0):=by rw [headsV,if_pos rfl,hq0]
  have HHV:Hid _:=hhv;clear KS hmem hcnt hq0 hhv;go_wp2_with fail
  all_goals (
   refine (fields_of _ ps0 paramsK w3 (by decide) (by omega) HMT.out ?hstr).mono ?_
   case hstr=>first | with_reducible exact HSA.out | exact HSB.out (List.eq_nil_of_length_eq_zero (by omega))
   rintro e w4 ⟨v1,b1,rfl,hres,hw4⟩;have hr4:=hr3.below hw4 hlt3;have hb4:=hb3.trans (hw4.mono hb3.size);have hlt4:=Nat.lt_of_lt_of_le hlt3 hw4.size;clear c0 c1 c2 c3 c4 c5 f0 f1 f2 f3 f4 f5 hw4;obtain ⟨c0,c1,c2,c3,c4,c5,f0,f1,f2,f3,f4,f5⟩:=hr4.six
   rcases hres with ⟨ps1,hp1,rfl,hown1⟩ | ⟨hp1,rfl,rfl⟩
   ·obtain ⟨a1,k1,rfl⟩:=hown1.parsAt.form;have hown1':Hid (OwnP w4 (w.heap.size+1) (.slice a1 ps1.length k1) ps1):=OwnP.mono hown1 (by omega);clear hown1
    cases cc with
    | false =>
     have hvv2:Hid (restV s=(⟨[],[],wh,wp,ps1,[]⟩,0)):=show _=_ by rw [hvv.out,hp1]; rfl
     clear hp1 hvv;go_wp2;have hr5:=row_store hr4 (.string ⟨#[]⟩) (.string ⟨#[]⟩) (.string ⟨wh.toArray⟩) (.int .i64 wp) (.slice a1 ps1.length k1) (.slice none 0 0);have hb5:=store_below hb4 w.heap.size (Nat.le_refl _) (.string ⟨#[]⟩) (.string ⟨#[]⟩) (.string ⟨wh.toArray⟩) (.int .i64 wp) (.slice a1 ps1.length k1) (.slice none 0 0);have ho5:=(OwnP.store hown1'.out (Nat.lt_succ_self _) (.string ⟨#[]⟩) (.string ⟨#[]⟩) (.string ⟨wh.toArray⟩) (.int .i64 wp) (.slice a1 ps1.length k1) (.slice none 0 0)).mono (Nat.le_succ w.heap.size);generalize World.setCell _ _ _=w5 at hr5 hb5 ho5 ⊢;obtain ⟨d0,d1,d2,d3,d4,d5,_,_,_,_,_,_⟩:=hr5.six
     try simp only [Exit.inBlock,Exit.then]
     refine bodyPost_ret (v:=.tuple #[.agg #[.string ⟨#[]⟩,.string ⟨#[]⟩,.string ⟨wh.toArray⟩,.int .i64 wp,(.slice a1 ps1.length k1),.slice none 0 0],.int .i64 0]) (by simp [results,Tryz.results98,go_sem,d0,d1,d2,d3,d4,d5]; try rfl) rfl ?_
     exact ⟨(.slice a1 ps1.length k1),.slice none 0 0,by rw [hvv2.out]; rfl,by rw [hvv2.out]; exact ho5,by rw [hvv2.out]; exact OwnP.nil _ _,hb5⟩
    | true =>
     rw [HHV.out,hp1] at hvv;go_wp2_with fail
     refine (HKS.out _).mono ?_
     rintro e w5 ⟨g2,cap2,rfl,hcap2,hgl2,hcells2,hw5⟩;have hr5:=hr4.below hw5 hlt4;have hb5:=hb4.trans (hw5.mono hb4.size);have hlt5:=Nat.lt_of_lt_of_le hlt4 hw5.size;have ho5:Hid _:=OwnP.below hown1'.out hw5;have hs5:Hid (StrsAt w5 (.slice (some ⟨g2,0,none⟩) (qs0.length+1) cap2) (q0 :: qs0)):=strs_all hcells2 hgl2;clear hcells2 hw5 hgl2 hown1' HKS;go_wp2_with fail
     have hst:=fields_of _ (q0 :: qs0) headersK w5 (by decide) hqn HQM.out hs5.out;refine hst.mono ?_
     clear hst;rintro e w6 ⟨v2,b2,rfl,hres2,hw6⟩;have hr6:=hr5.below hw6 hlt5;have hb6:=hb5.trans (hw6.mono hb5.size);have ho6:Hid _:=OwnP.below ho5.out hw6;clear c0 c1 c2 c3 c4 c5 f0 f1 f2 f3 f4 f5 ho5 hs5 hw6;obtain ⟨c0,c1,c2,c3,c4,c5,f0,f1,f2,f3,f4,f5⟩:=hr6.six
     rcases hres2 with ⟨ps2,hp2,rfl,hown2⟩ | ⟨hp2,rfl,rfl⟩
     ·obtain ⟨a2,k2,rfl⟩:=hown2.parsAt.form;have hown2':Hid (OwnP w6 (w.heap.size+1) (.slice a2 ps2.length k2) ps2):=OwnP.mono hown2 (by omega);have hvv2:Hid (restV s=(⟨[],[],wh,wp,ps1,ps2⟩,0)):=show _=_ by rw [hvv.out,hp2]; rfl
      clear hp1 hvv hp2 HHV hown2;go_wp2;have hr7:=row_store hr6 (.string ⟨#[]⟩) (.string ⟨#[]⟩) (.string ⟨wh.toArray⟩) (.int .i64 wp) (.slice a1 ps1.length k1) (.slice a2 ps2.length k2);have hb7:=store_below hb6 w.heap.size (Nat.le_refl _) (.string ⟨#[]⟩) (.string ⟨#[]⟩) (.string ⟨wh.toArray⟩) (.int .i64 wp) (.slice a1 ps1.length k1) (.slice a2 ps2.length k2);have ho7:=(OwnP.store ho6.out (Nat.lt_succ_self _) (.string ⟨#[]⟩) (.string ⟨#[]⟩) (.string ⟨wh.toArray⟩) (.int .i64 wp) (.slice a1 ps1.length k1) (.slice a2 ps2.length k2)).mono (Nat.le_succ w.heap.size);have hq7:=(OwnP.store hown2'.out (Nat.lt_succ_self _) (.string ⟨#[]⟩) (.string ⟨#[]⟩) (.string ⟨wh.toArray⟩) (.int .i64 wp) (.slice a1 ps1.length k1) (.slice a2 ps2.length k2)).mono (Nat.le_succ w.heap.size);generalize World.setCell _ _ _=w7 at hr7 hb7 ho7 hq7 ⊢;obtain ⟨d0,d1,d2,d3,d4,d5,_,_,_,_,_,_⟩:=hr7.six
      try simp only [Exit.inBlock,Exit.then]
      refine bodyPost_ret (v:=.tuple #[.agg #[.string ⟨#[]⟩,.string ⟨#[]⟩,.string ⟨wh.toArray⟩,.int .i64 wp,(.slice a1 ps1.length k1),(.slice a2 ps2.length k2)],.int .i64 0]) (by simp [results,Tryz.results98,go_sem,d0,d1,d2,d3,d4,d5]; try rfl) rfl ?_
      exact ⟨(.slice a1 ps1.length k1),(.slice a2 ps2.length k2),by rw [hvv2.out]; rfl,by rw [hvv2.out]; exact ho7,by rw [hvv2.out]; exact hq7,hb7⟩
     ·have hvv2:Hid (restV s=(noU,34)):=show _=_ by rw [hvv.out,hp2]; rfl
      clear hp1 hvv hp2 HHV;go_wp2;have hr7:=row_store hr6 (.string ⟨#[]⟩) (.string ⟨#[]⟩) (.string ⟨#[]⟩) (.int .i64 0) (.slice none 0 0) (.slice none 0 0);have hb7:=store_below hb6 w.heap.size (Nat.le_refl _) (.string ⟨#[]⟩) (.string ⟨#[]⟩) (.string ⟨#[]⟩) (.int .i64 0) (.slice none 0 0) (.slice none 0 0);generalize World.setCell _ _ _=w7 at hr7 hb7 ⊢;obtain ⟨d0,d1,d2,d3,d4,d5,_,_,_,_,_,_⟩:=hr7.six
      try simp only [Exit.inBlock,Exit.then]
      refine bodyPost_ret (v:=.tuple #[.agg #[.string ⟨#[]⟩,.string ⟨#[]⟩,.string ⟨#[]⟩,.int .i64 0,.slice none 0 0,.slice none 0 0],.int .i64 34]) (by simp [results,Tryz.results98,go_sem,d0,d1,d2,d3,d4,d5]; try rfl) rfl ?_
      exact ⟨.slice none 0 0,.slice none 0 0,by rw [hvv2.out]; rfl,by rw [hvv2.out]; exact OwnP.nil _ _,by rw [hvv2.out]; exact OwnP.nil _ _,hb7⟩
   ·have hvv2:Hid (restV s=(noU,34)):=show _=_ by rw [hvv.out,hp1]; rfl
    clear hp1 hvv;go_wp2;have hr5:=row_store hr4 (.string ⟨#[]⟩) (.string ⟨#[]⟩) (.string ⟨#[]⟩) (.int .i64 0) (.slice none 0 0) (.slice none 0 0);have hb5:=store_below hb4 w.heap.size (Nat.le_refl _) (.string ⟨#[]⟩) (.string ⟨#[]⟩) (.string ⟨#[]⟩) (.int .i64 0) (.slice none 0 0) (.slice none 0 0);generalize World.setCell _ _ _=w5 at hr5 hb5 ⊢;obtain ⟨d0,d1,d2,d3,d4,d5,_,_,_,_,_,_⟩:=hr5.six
    try simp only [Exit.inBlock,Exit.then]
    refine bodyPost_ret (v:=.tuple #[.agg #[.string ⟨#[]⟩,.string ⟨#[]⟩,.string ⟨#[]⟩,.int .i64 0,.slice none 0 0,.slice none 0 0],.int .i64 34]) (by simp [results,Tryz.results98,go_sem,d0,d1,d2,d3,d4,d5]; try rfl) rfl ?_
    exact ⟨.slice none 0 0,.slice none 0 0,by rw [hvv2.out]; rfl,by rw [hvv2.out]; exact OwnP.nil _ _,by rw [hvv2.out]; exact OwnP.nil _ _,hb5⟩)
 ·have hwe1:(we != 0)=true:=by simpa using hwe
  have hwe2:(we==0)=false:=by simpa using hwe
  have hvv:Hid (restV s=(noU,we)):=show _=_ by rw [HV.out,if_pos hwe]
  clear HV;go_wp2;have hr4:=row_store hr3 (.string ⟨#[]⟩) (.string ⟨#[]⟩) (.string ⟨#[]⟩) (.int .i64 0) (.slice none 0 0) (.slice none 0 0);have hb4:=store_below hb3 w.heap.size (Nat.le_refl _) (.string ⟨#[]⟩) (.string ⟨#[]⟩) (.string ⟨#[]⟩) (.int .i64 0) (.slice none 0 0) (.slice none 0 0);generalize World.setCell _ _ _=w4 at hr4 hb4 ⊢;obtain ⟨d0,d1,d2,d3,d4,d5,_,_,_,_,_,_⟩:=hr4.six
  try simp only [Exit.inBlock,Exit.then]
  refine bodyPost_ret (v:=.tuple #[.agg #[.string ⟨#[]⟩,.string ⟨#[]⟩,.string ⟨#[]⟩,.int .i64 0,.slice none 0 0,.slice none 0 0],.int .i64 we]) (by simp [results,Tryz.results98,go_sem,d0,d1,d2,d3,d4,d5]; try rfl) rfl ?_
  exact ⟨.slice none 0 0,.slice none 0 0,by rw [hvv.out]; rfl,by rw [hvv.out]; exact OwnP.nil _ _,by rw [hvv.out]; exact OwnP.nil _ _,hb4⟩
theorem une_len:∀ (n:Nat) (l r:List UInt8),l.length≤n → une l=some r → r.length≤l.length
 | 0,[],r,_,h=>by simp [une] at h; subst h; simp
 | 0,_ :: _,r,hn,h=>by simp at hn
 | n+1,[],r,_,h=>by simp [une] at h; subst h; simp
 | n+1,b :: l,r,hn,h=>by
  by_cases h37:(b.toNat:Int)=37
  ·rcases l with _ | ⟨x,_ | ⟨y,l⟩⟩
   ·rw [une_short h37 (by simp)] at h; cases h
   ·rw [une_short h37 (by simp)] at h; cases h
   ·cases hx:isB x.toNat 4 && isB y.toNat 4
    ·rw [une_bad h37 hx] at h; cases h
    ·rw [Bool.and_eq_true] at hx;rw [une_hex h37 hx.1 hx.2] at h
     cases hu:une l with
     | none=>rw [hu] at h; cases h
     | some r' =>
      rw [hu] at h
      simp at h
      subst h
      have:=une_len n l r' (by simp at hn; omega) hu
      simp; omega
  ·rw [une_plain h37] at h
   cases hu:une l with
   | none=>rw [hu] at h; cases h
   | some r' =>
    rw [hu] at h
    simp at h
    subst h
    have:=une_len n l r' (by simp at hn; omega) hu
    simp; omega
theorem written_len (keep l:List UInt8):(writtenV keep l).1.length≤l.length:=by
 unfold writtenV
 split
 ·unfold unescV
  cases hu:une l with
  | none=>simp
  | some r=>exact une_len l.length l r (Nat.le_refl _) hu
 ·simp
theorem parOf_len {keep l:List UInt8} {p:Par} (h:parOf keep l=some p):p.name.length≤l.length∧p.value.length≤l.length:=by
 unfold parOf at h
 split at h
 ·simp at h
  subst h;have c:=cutL_len 61 l;have a:=written_len keep (cutL 61 l).1;have b:=written_len keep (cutL 61 l).2.1;exact ⟨by simp only; omega,by simp only; omega⟩
 ·cases h
theorem parsOf_small {keep:List UInt8} {N:Nat}:∀ (ls:List (List UInt8)) (ps:List Par),parsOf keep ls=some ps → (∀ l ∈ ls,l.length≤N) → ∀ p ∈ ps,p.name.length≤N∧p.value.length≤N
 | [],ps,h,_,p,hp=>by simp [parsOf] at h; subst h; simp at hp
 | l :: ls,ps,h,hl,p,hp=>by
  rw [parsOf] at h
  cases h1:parOf keep l with
  | none=>rw [h1] at h; simp at h
  | some q =>
   cases h2:parsOf keep ls with
   | none=>rw [h1,h2] at h; simp at h
   | some qs =>
    rw [h1,h2] at h
    simp at h
    subst h
    rcases List.mem_cons.1 hp with rfl | hp
    ·have:=parOf_len h1
     have:=hl l (by simp)
     omega
    ·exact parsOf_small ls qs h2 (fun x hx=>hl x (by simp [hx])) p hp
theorem smallP_of {keep:List UInt8} {ls:List (List UInt8)} {ps:List Par} (h:parsOf keep ls=some ps) (hn:ls.length≤1048577) (hl:∀ l ∈ ls,l.length≤1048576):SmallP 140737488355328 ps:=by
 refine ⟨by rw [parsOf_len h]; omega,fun p hp=>?_⟩
 have:=parsOf_small ls ps h hl p hp
 omega
theorem smallP_nil:SmallP 140737488355328 []:=⟨by simp,fun p hp=>by simp at hp⟩
theorem where_len (l:List UInt8):(whereV l).1.length≤l.length:=by
 unfold whereV portV
 have:(lowL (l.take (whereGo false l))).length≤l.length:=by rw [lowL_len]; exact List.length_take_le' _ _
 split
 ·split
  ·exact this
  ·split
   ·simp
   ·exact this
 ·simp
theorem rest_small {s:List UInt8} (hs:s.length≤1048576):(restV s).1.host.length≤1048576∧SmallP 140737488355328 (restV s).1.params∧SmallP 140737488355328 (restV s).1.headers:=by
 have hc:=cutL_len 63 s;obtain ⟨ca,cb,cc,hcut⟩:∃ ca cb cc,cutL 63 s=(ca,cb,cc):=⟨_,_,_,rfl⟩
 obtain ⟨p0,ps0,hp0⟩:=splitL_cons 59 ca;obtain ⟨wh,wp,we,hwv⟩:∃ wh wp we,whereV p0=(wh,wp,we):=⟨_,_,_,rfl⟩
 rw [hcut] at hc;simp only at hc;have hm:=splitL_mem_len 59 ca;have hn:=splitL_len 59 ca;have hwl:=where_len p0;rw [hwv] at hwl;rw [hp0] at hm hn;have hp0l:=hm p0 (by simp);have hnone:noU.host.length≤1048576∧SmallP 140737488355328 noU.params∧SmallP 140737488355328 noU.headers:=⟨by simp [noU],smallP_nil,smallP_nil⟩
 rw [rest_of hcut hp0 hwv]
 split
 ·exact hnone
 ·cases h1:parsOf paramsK ps0 with
  | none=>exact hnone
  | some ps =>
   have s1:=smallP_of h1 (by simp at hn; omega) (fun l hl=>by have:=hm l (by simp [hl]); omega)
   cases h2:headsV cc cb with
   | none=>exact hnone
   | some qs =>
    refine ⟨by show wh.length≤_; simp only at hwl; omega,s1,?_⟩
    show SmallP _ qs
    unfold headsV at h2
    split at h2
    ·have hm2:=splitL_mem_len 38 cb;have hn2:=splitL_len 38 cb;exact smallP_of h2 (by omega) (fun l hl=>by have:=hm2 l hl; omega)
    ·simp at h2; subst h2; exact smallP_nil
theorem user_small (s:List UInt8):(userV s).1.length≤64:=by
 unfold userV
 split
 ·split
  ·simp
  ·rename_i h
   simp only [not_or] at h
   have:=h.2.2
   simp only at this ⊢;omega
 ·simp
theorem user_rest (s:List UInt8):(userV s).2.1.length≤s.length:=by
 have hc:=cutL_len 64 s;unfold userV
 split
 ·split
  ·simp
  ·exact hc.2
 ·simp
theorem parseV_of {s ca cb us rs:List UInt8} {cc:Bool} {ue:Int} (h1:cutL 58 s=(ca,cb,cc)) (h2:userV cb=(us,rs,ue)) :
  parseV s=if cc=false∨schemeB (lowL ca)=false then (noU,30) else if ue ≠ 0 then (noU,ue) else bothV (lowL ca) us (restV rs):=by
 unfold parseV;simp only [h1,h2]
theorem cutUser_of {s us rs:List UInt8} {ue:Int} (h:userV s=(us,rs,ue)) (w:World) (hs:s.length≤1048576) :
  Calls Tryz.prog 97 #[.string ⟨s.toArray⟩] w fun e w'=>e=.returned (.tuple #[.string ⟨us.toArray⟩,.string ⟨rs.toArray⟩,.int .i64 ue])∧Below w.heap.size w w':=by
 have k:=cutUser_any s w hs;rw [h] at k;exact k
theorem RowIs.alloc {w:World} {g:Nat} {e:TypeId} {l:List Value} (h:RowIs w g e l) (o:Obj):RowIs (w.alloc o) g e l :=
 h.below ((Below.refl _ w).alloc (Nat.le_refl _) o) (Array.getElem?_eq_some_iff.1 h).1
theorem readRest_of {rs:List UInt8} {u:Uri} {re:Int} (h:restV rs=(u,re)) (w:World) (hs:rs.length≤1048576) :
  Calls Tryz.prog 98 #[.string ⟨rs.toArray⟩] w fun e w'=>∃ p h,e=.returned (.tuple #[uriV u p h,.int .i64 re])∧OwnP w' w.heap.size p u.params∧OwnP w' w.heap.size h u.headers∧Below w.heap.size w w':=by
 have k:=readRest_any rs w hs;rw [h] at k;exact k
set_option maxHeartbeats 2000000 in
set_option maxRecDepth 100000 in
theorem parse_any (s:List UInt8) (w:World) (hs:s.length≤1048576) :
  Calls Tryz.prog 74 #[.string ⟨s.toArray⟩] w fun e w'=>∃ p h,e=.returned (.tuple #[uriV (parseV s).1 p h,.int .i64 (parseV s).2])∧OwnP w' w.heap.size p (parseV s).1.params∧OwnP w' w.heap.size h (parseV s).1.headers∧Below w.heap.size w w':=by
 have hcl:=cutL_len 58 s;obtain ⟨ca,cb,cc,hcut⟩:∃ ca cb cc,cutL 58 s=(ca,cb,cc):=⟨_,_,_,rfl⟩
 obtain ⟨us,rs,ue,hus⟩:∃ us rs ue,userV cb=(us,rs,ue):=⟨_,_,_,rfl⟩
 have hv:=parseV_of hcut hus;rw [hcut] at hcl;simp only at hcl;have hul:=user_small cb;have hrl:=user_rest cb;rw [hus] at hul hrl;simp only at hul hrl;have hr0:=rowU_new w;have hb0:Below w.heap.size w (w.alloc (.cells #[.string ⟨#[]⟩,.string ⟨#[]⟩,.string ⟨#[]⟩,.int .i64 0,.slice none 0 0,.slice none 0 0] 120)):=(Below.refl _ w).alloc (Nat.le_refl _) _;have hlt0:w.heap.size < (w.alloc (.cells #[.string ⟨#[]⟩,.string ⟨#[]⟩,.string ⟨#[]⟩,.int .i64 0,.slice none 0 0,.slice none 0 0] 120)).heap.size:=by simp
 have HKC:Hid _:=fun w'=>strCut_of hcut w' (by omega);have HKU:Hid _:=fun w'=>cutUser_of hus w' (by omega);clear hcut hus;have HV:Hid _:=hv; clear hv
 have hll:(lowL ca).length≤1048576:=by rw [lowL_len]; omega
 go_enter Tryz.func74,Tryz.ntmps74
 go_wp2_with fail
 refine (HKC.out _).mono ?_
 rintro e w1 ⟨rfl,hw1⟩;have hr1:=hr0.below hw1 hlt0;have hb1:=hb0.trans (hw1.mono hb0.size);have hlt1:=Nat.lt_of_lt_of_le hlt0 hw1.size;clear hr0 hb0 hlt0 hw1 HKC;go_wp2_with fail
 refine (lower_list ca _ (by omega)).mono ?_
 rintro e w2 ⟨rfl,hw2⟩;have hr2:=hr1.below hw2 hlt1;have hb2:=hb1.trans (hw2.mono hb1.size);have hlt2:=Nat.lt_of_lt_of_le hlt1 hw2.size;clear hr1 hb1 hlt1 hw2;obtain ⟨c0,c1,c2,c3,c4,c5,f0,f1,f2,f3,f4,f5⟩:=hr2.six
 cases cc with
 | false =>
  have hvv:Hid (parseV s=(noU,30)):=show _=_ by rw [HV.out,if_pos (Or.inl rfl)]
  clear HV HKU;go_wp2;have hr7:=row_store hr2 (.string ⟨#[]⟩) (.string ⟨#[]⟩) (.string ⟨#[]⟩) (.int .i64 0) (.slice none 0 0) (.slice none 0 0);have hb7:=store_below hb2 w.heap.size (Nat.le_refl _) (.string ⟨#[]⟩) (.string ⟨#[]⟩) (.string ⟨#[]⟩) (.int .i64 0) (.slice none 0 0) (.slice none 0 0);generalize World.setCell _ _ _=w7 at hr7 hb7 ⊢;obtain ⟨d0,d1,d2,d3,d4,d5,_,_,_,_,_,_⟩:=hr7.six
  try simp only [Exit.inBlock,Exit.then]
  refine bodyPost_ret (v:=.tuple #[.agg #[.string ⟨#[]⟩,.string ⟨#[]⟩,.string ⟨#[]⟩,.int .i64 0,.slice none 0 0,.slice none 0 0],.int .i64 30]) (by simp [results,Tryz.results74,go_sem,d0,d1,d2,d3,d4,d5]; try rfl) rfl ?_
  exact ⟨.slice none 0 0,.slice none 0 0,by rw [hvv.out]; rfl,by rw [hvv.out]; exact OwnP.nil _ _,by rw [hvv.out]; exact OwnP.nil _ _,hb7⟩
 | true =>
  cases hsc:schemeB (lowL ca) with
  | false =>
   have hvv:Hid (parseV s=(noU,30)):=show _=_ by rw [HV.out,if_pos (Or.inr hsc)]
   clear HV HKU;go_wp2_with (go_at_call 96; refine (scheme_list _ _).mono ?_; rintro e w' ⟨rfl,rfl⟩; rw [hsc])
   have hr7:=row_store hr2 (.string ⟨#[]⟩) (.string ⟨#[]⟩) (.string ⟨#[]⟩) (.int .i64 0) (.slice none 0 0) (.slice none 0 0);have hb7:=store_below hb2 w.heap.size (Nat.le_refl _) (.string ⟨#[]⟩) (.string ⟨#[]⟩) (.string ⟨#[]⟩) (.int .i64 0) (.slice none 0 0) (.slice none 0 0);generalize World.setCell _ _ _=w7 at hr7 hb7 ⊢;obtain ⟨d0,d1,d2,d3,d4,d5,_,_,_,_,_,_⟩:=hr7.six
   try simp only [Exit.inBlock,Exit.then]
   refine bodyPost_ret (v:=.tuple #[.agg #[.string ⟨#[]⟩,.string ⟨#[]⟩,.string ⟨#[]⟩,.int .i64 0,.slice none 0 0,.slice none 0 0],.int .i64 30]) (by simp [results,Tryz.results74,go_sem,d0,d1,d2,d3,d4,d5]; try rfl) rfl ?_
   exact ⟨.slice none 0 0,.slice none 0 0,by rw [hvv.out]; rfl,by rw [hvv.out]; exact OwnP.nil _ _,by rw [hvv.out]; exact OwnP.nil _ _,hb7⟩
  | true =>
   rw [if_neg (by simp [hsc])] at HV
   go_wp2_with (first
    | (go_at_call 96; refine (scheme_list _ _).mono ?_; rintro e w' ⟨rfl,rfl⟩; rw [hsc])
    | (go_at_call 97; fail))
   refine (HKU.out _).mono ?_
   rintro e w3 ⟨rfl,hw3⟩;have hr3:=hr2.below hw3 hlt2;have hb3:=hb2.trans (hw3.mono hb2.size);have hlt3:=Nat.lt_of_lt_of_le hlt2 hw3.size;clear hr2 hb2 hlt2 hw3 HKU c0 c1 c2 c3 c4 c5 f0 f1 f2 f3 f4 f5;obtain ⟨c0,c1,c2,c3,c4,c5,f0,f1,f2,f3,f4,f5⟩:=hr3.six;by_cases hue:ue=0
   ·subst hue;rw [if_neg (by simp)] at HV;have hrs:rs.length≤1048576:=by omega
    obtain ⟨sm1,sm2,sm3⟩:=rest_small hrs;obtain ⟨u,re,hre⟩:∃ u re,restV rs=(u,re):=⟨_,_,rfl⟩
    rw [hre] at HV sm1 sm2 sm3;simp only at sm1 sm2 sm3;obtain ⟨u0,u1,u2,u3,u4,u5⟩:=u;simp only at sm1 sm2 sm3;have HKR:Hid _:=fun w'=>readRest_of hre w' hrs;clear hre;go_wp2_with fail
    refine (HKR.out _).mono ?_
    rintro e w4 ⟨p,h,rfl,hop,hoh,hw4⟩;obtain ⟨a1,k1,rfl⟩:=hop.parsAt.form;obtain ⟨a2,k2,rfl⟩:=hoh.parsAt.form;unfold uriV
    simp only
    have hr4:=hr3.below hw4 hlt3;have hb4:=hb3.trans (hw4.mono hb3.size);have hlt4:=Nat.lt_of_lt_of_le hlt3 hw4.size;have ho1:Hid (OwnP w4 (w.heap.size+1) (.slice a1 u4.length k1) u4):=OwnP.mono hop (by omega);have ho2:Hid (OwnP w4 (w.heap.size+1) (.slice a2 u5.length k2) u5):=OwnP.mono hoh (by omega);clear hr3 hb3 hlt3 hw4 HKR c0 c1 c2 c3 c4 c5 f0 f1 f2 f3 f4 f5 hop hoh;obtain ⟨c0,c1,c2,c3,c4,c5,f0,f1,f2,f3,f4,f5⟩:=hr4.six;by_cases hre:re=0
    ·subst hre;obtain ⟨u',hu'⟩:∃ u':Uri,u'=⟨lowL ca,us,u2,u3,u4,u5⟩:=⟨_,rfl⟩
     have HV2:Hid (parseV s=endV u'):=show _=_ by rw [HV.out,bothV,if_neg (by simp),hu']
     have hsm:SmallU 140737488355328 u':=by rw [hu']; exact ⟨by show (lowL ca).length≤_; omega,by show us.length≤_; omega,by show u2.length≤_; omega,sm2,sm3⟩
     have e4:u'.params=u4:=by rw [hu']
     have e5:u'.headers=u5:=by rw [hu']
     have hbox:=box_new w4 u' (.slice a1 u4.length k1) (.slice a2 u5.length k2);have hp4:=ho1.out.parsAt;have hh4:=ho2.out.parsAt;rw [← e4] at hp4;rw [← e5] at hh4;have HCK:Hid _:=fun w' hb=>check_any u' (.slice a1 u'.params.length k1) (.slice a2 u'.headers.length k2) w' hsm (hp4.below hb) (hh4.below hb);rw [e4,e5] at HCK;unfold uriV at HCK;rw [hu'] at hbox;have hv':Hid (∀ c,checkV u'=c → parseV s=if c ≠ 0 then (noU,c) else (⟨lowL ca,us,u2,u3,u4,u5⟩,0)):=fun c hc=>by rw [HV2.out,endV,hc,hu']
     obtain ⟨ck,hck⟩:∃ ck,checkV u'=ck:=⟨_,rfl⟩
     have hvc:=hv'.out ck hck;rw [hck,hu'] at HCK;simp only at HCK;have HVC:Hid _:=hvc;clear hvc hv' HV HV2 hp4 hh4 e4 e5 hsm hck hu' u';go_wp2_with fail
     have hbA:Below w4.heap.size w4 (w4.alloc (.cells #[.string ⟨(lowL ca).toArray⟩,.string ⟨us.toArray⟩,.string ⟨u2.toArray⟩,.int .i64 u3,.slice a1 u4.length k1,.slice a2 u5.length k2] 120)):=(Below.refl _ w4).alloc (Nat.le_refl _) _;refine (HCK.out _ hbA).mono ?_
     rintro e w5 ⟨rfl,hw5⟩;have hbx:w4.heap.size < (w4.alloc (.cells #[.string ⟨(lowL ca).toArray⟩,.string ⟨us.toArray⟩,.string ⟨u2.toArray⟩,.int .i64 u3,.slice a1 u4.length k1,.slice a2 u5.length k2] 120)).heap.size:=by simp
     obtain ⟨g0,g1,g2,g3,g4,g5⟩:=hbox.below hw5 hbx;simp only at g0 g1 g2 g3 g4 g5;have hb45:Below w4.heap.size w4 w5:=hbA.trans (hw5.mono hbA.size);have hr5:=hr4.below hb45 hlt4;have hb5:=hb4.trans (hb45.mono hb4.size);have p5:Hid (OwnP w5 (w.heap.size+1) (.slice a1 u4.length k1) u4):=ho1.out.below hb45;have q5:Hid (OwnP w5 (w.heap.size+1) (.slice a2 u5.length k2) u5):=ho2.out.below hb45;clear hw5 hb45 hbA hbx hbox HCK hr4 ho1 ho2 c0 c1 c2 c3 c4 c5 f0 f1 f2 f3 f4 f5;obtain ⟨c0,c1,c2,c3,c4,c5,f0,f1,f2,f3,f4,f5⟩:=hr5.six;by_cases hck:ck=0
     ·subst hck;have hvv:Hid (parseV s=(⟨lowL ca,us,u2,u3,u4,u5⟩,0)):=show _=_ by rw [HVC.out,if_neg (by simp)]
      clear HVC;go_wp2;have hr7:=row_store hr5 (.string ⟨(lowL ca).toArray⟩) (.string ⟨us.toArray⟩) (.string ⟨u2.toArray⟩) (.int .i64 u3) (.slice a1 u4.length k1) (.slice a2 u5.length k2);have hb7:=store_below hb5 w.heap.size (Nat.le_refl _) (.string ⟨(lowL ca).toArray⟩) (.string ⟨us.toArray⟩) (.string ⟨u2.toArray⟩) (.int .i64 u3) (.slice a1 u4.length k1) (.slice a2 u5.length k2);have p7:=(OwnP.store p5.out (Nat.lt_succ_self _) (.string ⟨(lowL ca).toArray⟩) (.string ⟨us.toArray⟩) (.string ⟨u2.toArray⟩) (.int .i64 u3) (.slice a1 u4.length k1) (.slice a2 u5.length k2)).mono (Nat.le_succ w.heap.size);have q7:=(OwnP.store q5.out (Nat.lt_succ_self _) (.string ⟨(lowL ca).toArray⟩) (.string ⟨us.toArray⟩) (.string ⟨u2.toArray⟩) (.int .i64 u3) (.slice a1 u4.length k1) (.slice a2 u5.length k2)).mono (Nat.le_succ w.heap.size);generalize World.setCell _ _ _=w7 at hr7 hb7 p7 q7 ⊢;obtain ⟨d0,d1,d2,d3,d4,d5,_,_,_,_,_,_⟩:=hr7.six
      try simp only [Exit.inBlock,Exit.then]
      refine bodyPost_ret (v:=.tuple #[.agg #[.string ⟨(lowL ca).toArray⟩,.string ⟨us.toArray⟩,.string ⟨u2.toArray⟩,.int .i64 u3,.slice a1 u4.length k1,.slice a2 u5.length k2],.int .i64 0]) (by simp [results,Tryz.results74,go_sem,d0,d1,d2,d3,d4,d5]; try rfl) rfl ?_
      exact ⟨_,_,by rw [hvv.out]; rfl,by rw [hvv.out]; exact p7,by rw [hvv.out]; exact q7,hb7⟩
     ·have hue1:(ck != 0)=true:=by simpa using hck
      have hue2:(ck==0)=false:=by simpa using hck
      have hvv:Hid (parseV s=(noU,ck)):=show _=_ by rw [HVC.out,if_pos hck]
      clear HVC;go_wp2;have hr7:=row_store hr5 (.string ⟨#[]⟩) (.string ⟨#[]⟩) (.string ⟨#[]⟩) (.int .i64 0) (.slice none 0 0) (.slice none 0 0);have hb7:=store_below hb5 w.heap.size (Nat.le_refl _) (.string ⟨#[]⟩) (.string ⟨#[]⟩) (.string ⟨#[]⟩) (.int .i64 0) (.slice none 0 0) (.slice none 0 0);generalize World.setCell _ _ _=w7 at hr7 hb7 ⊢;obtain ⟨d0,d1,d2,d3,d4,d5,_,_,_,_,_,_⟩:=hr7.six
      try simp only [Exit.inBlock,Exit.then]
      refine bodyPost_ret (v:=.tuple #[.agg #[.string ⟨#[]⟩,.string ⟨#[]⟩,.string ⟨#[]⟩,.int .i64 0,.slice none 0 0,.slice none 0 0],.int .i64 ck]) (by simp [results,Tryz.results74,go_sem,d0,d1,d2,d3,d4,d5]; try rfl) rfl ?_
      exact ⟨.slice none 0 0,.slice none 0 0,by rw [hvv.out]; rfl,by rw [hvv.out]; exact OwnP.nil _ _,by rw [hvv.out]; exact OwnP.nil _ _,hb7⟩
    ·have hue1:(re != 0)=true:=by simpa using hre
     have hue2:(re==0)=false:=by simpa using hre
     have hvv:Hid (parseV s=(noU,re)):=show _=_ by rw [HV.out,bothV,if_pos hre]
     clear HV;go_wp2;have hr7:=(row_store hr4 (.string ⟨#[]⟩) (.string ⟨#[]⟩) (.string ⟨#[]⟩) (.int .i64 0) (.slice none 0 0) (.slice none 0 0)).alloc (.cells #[.string ⟨u0.toArray⟩,.string ⟨u1.toArray⟩,.string ⟨u2.toArray⟩,.int .i64 u3,.slice a1 u4.length k1,.slice a2 u5.length k2] 120);have hb6:=store_below hb4 w.heap.size (Nat.le_refl _) (.string ⟨#[]⟩) (.string ⟨#[]⟩) (.string ⟨#[]⟩) (.int .i64 0) (.slice none 0 0) (.slice none 0 0);have hb7:=hb6.alloc hb6.size (.cells #[.string ⟨u0.toArray⟩,.string ⟨u1.toArray⟩,.string ⟨u2.toArray⟩,.int .i64 u3,.slice a1 u4.length k1,.slice a2 u5.length k2] 120);clear hb6;generalize World.alloc _ _=w7 at hr7 hb7 ⊢;obtain ⟨d0,d1,d2,d3,d4,d5,_,_,_,_,_,_⟩:=hr7.six
     try simp only [Exit.inBlock,Exit.then]
     refine bodyPost_ret (v:=.tuple #[.agg #[.string ⟨#[]⟩,.string ⟨#[]⟩,.string ⟨#[]⟩,.int .i64 0,.slice none 0 0,.slice none 0 0],.int .i64 re]) (by simp [results,Tryz.results74,go_sem,d0,d1,d2,d3,d4,d5]; try rfl) rfl ?_
     exact ⟨.slice none 0 0,.slice none 0 0,by rw [hvv.out]; rfl,by rw [hvv.out]; exact OwnP.nil _ _,by rw [hvv.out]; exact OwnP.nil _ _,hb7⟩
   ·have hue1:(ue != 0)=true:=by simpa using hue
    have hue2:(ue==0)=false:=by simpa using hue
    have hvv:Hid (parseV s=(noU,ue)):=show _=_ by rw [HV.out,if_pos hue]
    clear HV;go_wp2;have hr7:=row_store hr3 (.string ⟨#[]⟩) (.string ⟨#[]⟩) (.string ⟨#[]⟩) (.int .i64 0) (.slice none 0 0) (.slice none 0 0);have hb7:=store_below hb3 w.heap.size (Nat.le_refl _) (.string ⟨#[]⟩) (.string ⟨#[]⟩) (.string ⟨#[]⟩) (.int .i64 0) (.slice none 0 0) (.slice none 0 0);generalize World.setCell _ _ _=w7 at hr7 hb7 ⊢;obtain ⟨d0,d1,d2,d3,d4,d5,_,_,_,_,_,_⟩:=hr7.six
    try simp only [Exit.inBlock,Exit.then]
    refine bodyPost_ret (v:=.tuple #[.agg #[.string ⟨#[]⟩,.string ⟨#[]⟩,.string ⟨#[]⟩,.int .i64 0,.slice none 0 0,.slice none 0 0],.int .i64 ue]) (by simp [results,Tryz.results74,go_sem,d0,d1,d2,d3,d4,d5]; try rfl) rfl ?_
    exact ⟨.slice none 0 0,.slice none 0 0,by rw [hvv.out]; rfl,by rw [hvv.out]; exact OwnP.nil _ _,by rw [hvv.out]; exact OwnP.nil _ _,hb7⟩
set_option maxHeartbeats 400000 in
theorem slPrefix4 (s:ByteArray) (w:World) (h4:4≤s.size) (he:(s.extract 0 4).toList=[115,105,112,58]) :
  Calls Tryz.prog 147 #[.string s,.string ⟨#[115,105,112,58]⟩] w fun e w'=>e=.returned (.bool true)∧w'=w:=by
 have h0:(ByteArray.mk #[115,105,112,58]).size=4:=rfl;have HE:=hid he;clear he
 go_enter Tryz.func147,Tryz.ntmps147
 go_wp2;go_ret;refine ⟨ret_bool ?_,rfl⟩
 rw [HE.out]
 simp
set_option maxHeartbeats 400000 in
theorem slTrim4 (s:ByteArray) (w:World) (h4:4≤s.size) (he:(s.extract 0 4).toList=[115,105,112,58]) :
  Calls Tryz.prog 126 #[.string s,.string ⟨#[115,105,112,58]⟩] w fun e w'=>e=.returned (.string (s.extract 4 s.size))∧w'=w:=by
 have h0:(ByteArray.mk #[115,105,112,58]).size=4:=rfl;have K:=hid (slPrefix4 s w h4 he);clear he
 go_enter Tryz.func126,Tryz.ntmps126
 go_wp2_with fail
 refine K.out.mono ?_
 rintro e w1 ⟨rfl,rfl⟩;go_wp2;go_ret;exact ⟨rfl,rfl⟩
theorem size_app4 (l:List UInt8):(ByteArray.mk ([115,105,112,58]++l).toArray).size=l.length+4:=by rw [size_list]; simp
set_option maxHeartbeats 400000 in
theorem trim4_of (s:ByteArray) (l:List UInt8) (w:World) (h4:4≤s.size) (e1:(s.extract 0 4).toList=[115,105,112,58]) (e2:s.extract 4 s.size=⟨l.toArray⟩) :
  Calls Tryz.prog 101 #[.string s,.string ⟨#[115,105,112,58]⟩] w fun e w'=>e=.returned (.string ⟨l.toArray⟩)∧w'=w:=by
 have K:=hid (slTrim4 s w h4 e1);rw [e2] at K;clear e1 e2
 go_enter Tryz.func101,Tryz.ntmps101
 go_wp2_with fail
 refine K.out.mono ?_
 rintro e w1 ⟨rfl,rfl⟩;go_wp2;go_ret;exact ⟨rfl,rfl⟩
theorem trim4_any (l:List UInt8) (w:World) :
  Calls Tryz.prog 101 #[.string ⟨([115,105,112,58]++l).toArray⟩,.string ⟨#[115,105,112,58]⟩] w fun e w'=>e=.returned (.string ⟨l.toArray⟩)∧w'=w:=by
 have h4:4≤(ByteArray.mk ([115,105,112,58]++l).toArray).size:=by rw [size_app4]; exact Nat.le_add_left _ _
 have e1:((ByteArray.mk ([115,105,112,58]++l).toArray).extract 0 4).toList=[115,105,112,58]:=by
  rw [ByteArray.toList_eq,ext_list]; simp
 have e2:(ByteArray.mk ([115,105,112,58]++l).toArray).extract 4 (ByteArray.mk ([115,105,112,58]++l).toArray).size=⟨l.toArray⟩:=by
  rw [size_app4,ext_list]; simp
 exact trim4_of _ l w h4 e1 e2
theorem ret_who {r:List UInt8 × Int} {t:List UInt8} {n:Int} (h:r=(t,n)):Ending.returned (.tuple #[.string ⟨t.toArray⟩,.int .i64 n])=.returned (.tuple #[.string ⟨r.1.toArray⟩,.int .i64 r.2]):=by rw [h]
theorem small_name {u:Uri} (sch:List UInt8) (hs:sch.length≤4) (h:SmallU 140737488355328 u):SmallU 140737488355328 (nameU sch u) :=
 ⟨by simp only [nameU]; omega,h.2.1,h.2.2.1,⟨by simp [nameU],by simp [nameU]⟩,⟨by simp [nameU],by simp [nameU]⟩⟩
theorem printName {u:Uri} (hsm:SmallU 140737488355328 u) (h:checkV u=0) (hu:u.user ≠ []) (w:World) :
  Calls Tryz.prog 100 #[.agg #[.string ⟨#[115,105,112]⟩,.string ⟨u.user.toArray⟩,.string ⟨u.host.toArray⟩,.int .i64 0,.slice none 0 0,.slice none 0 0]] w fun e w'=>e=.returned (.tuple #[.string ⟨([115,105,112,58]++whoT u).toArray⟩,.int .i64 0])∧Below w.heap.size w w':=by
 have k:=print_any (nameU sipK u) (.slice none 0 0) (.slice none 0 0) w (small_name sipK (by decide) hsm) (Or.inl ⟨rfl,rfl⟩) (Or.inl ⟨rfl,rfl⟩);rw [print_name h hu] at k;exact k
set_option maxHeartbeats 1000000 in
set_option maxRecDepth 100000 in
theorem who_any (u:Uri) (p h:Value) (w:World) (hsm:SmallU 140737488355328 u) (hp:ParsAt w p u.params) (hh:ParsAt w h u.headers) :
  Calls Tryz.prog 75 #[uriV u p h] w fun e w'=>e=.returned (.tuple #[.string ⟨(whoV u).1.toArray⟩,.int .i64 (whoV u).2])∧Below w.heap.size w w':=by
 have hbox:=box_new w u p h;have hbw:Below w.heap.size w (w.alloc (.cells #[.string ⟨u.scheme.toArray⟩,.string ⟨u.user.toArray⟩,.string ⟨u.host.toArray⟩,.int .i64 u.port,p,h] 120)):=(Below.refl _ w).alloc (Nat.le_refl _) _;have hws:=alloc_lt w (.cells #[.string ⟨u.scheme.toArray⟩,.string ⟨u.user.toArray⟩,.string ⟨u.host.toArray⟩,.int .i64 u.port,p,h] 120);have K1:=hid (fun w' (hb:Below w.heap.size w w')=>check_any u p h w' hsm (hp.below hb) (hh.below hb));have K2:=hid (@printName u hsm);obtain ⟨a1,c1,rfl⟩:=hp.form;obtain ⟨a2,c2,rfl⟩:=hh.form;have hwv:whoV u=whoV u:=rfl
 conv at hwv=>rhs; unfold whoV
 obtain ⟨n,hn⟩:∃ n,checkV u=n:=⟨_,rfl⟩
 rw [hn] at K1 K2 hwv;clear hn hp hh hsm;unfold uriV at K1 ⊢;by_cases e1:n=0
 ·subst e1;rw [if_neg (by simp)] at hwv;by_cases eu:u.user=[]
  ·have hue:u.user.isEmpty=true:=by simp [eu]
   rw [if_pos eu] at hwv;have HV:=hid hwv;clear hwv eu K2
   go_enter Tryz.func75,Tryz.ntmps75
   go_wp2_with fail
   refine (K1.out _ hbw).mono ?_
   rintro e w2 ⟨rfl,hw2⟩;have hb2:=hbw.trans (hw2.mono hbw.size);obtain ⟨g0,g1,g2,g3,g4,g5⟩:=hbox.below hw2 hws;clear hbox hbw hws hw2;go_wp2;go_ret2;exact ⟨ret_who HV.out,hb2⟩
  ·have hue:u.user.isEmpty=false:=by simpa using eu
   rw [if_neg eu] at hwv;have HV:=hid hwv;have K3:=hid (fun w'=>K2.out rfl eu w');clear hwv eu K2
   go_enter Tryz.func75,Tryz.ntmps75
   go_wp2_with fail
   refine (K1.out _ hbw).mono ?_
   rintro e w2 ⟨rfl,hw2⟩;have hb2:=hbw.trans (hw2.mono hbw.size);obtain ⟨g0,g1,g2,g3,g4,g5⟩:=hbox.below hw2 hws;clear hbox hbw hws hw2;go_wp2_with fail
   refine (K3.out _).mono ?_
   rintro e w3 ⟨rfl,hw3⟩;have hb3:=hb2.trans (hw3.mono hb2.size);clear g0 g1 g2 g3 g4 g5 hw3 hb2;have K4:=hid (trim4_any (whoT u) w3);generalize ([115,105,112,58]++whoT u).toArray=sa at K4 ⊢;go_wp2_with fail
   refine K4.out.mono ?_
   rintro e w4 ⟨rfl,rfl⟩;go_wp2;go_ret2;exact ⟨ret_who HV.out,hb3⟩
 ·have e1a:(n != 0)=true:=by simpa using e1
  have e1b:(n==0)=false:=by simpa using e1
  rw [if_pos e1] at hwv;have HV:=hid hwv;clear hwv K2
  go_enter Tryz.func75,Tryz.ntmps75
  go_wp2_with fail
  refine (K1.out _ hbw).mono ?_
  rintro e w2 ⟨rfl,hw2⟩;have hb2:=hbw.trans (hw2.mono hbw.size);clear hbox hbw hws hw2;go_wp2;go_ret2;exact ⟨ret_who HV.out,hb2⟩
theorem small_of_check {u:Uri} (h:checkV u=0):SmallU 140737488355328 u:=by
 obtain ⟨k1,k2,k3,k4,k5,k6,k7,k8⟩:=check_ok h;have e1:=schemeB_ok k1;have e3:=hostB_ok k3;obtain ⟨e4,e5⟩:=listB_ok k6;obtain ⟨e6,e7⟩:=listB_ok k7;refine ⟨by omega,by omega,by omega,⟨by omega,fun p hp=>?_⟩,⟨by omega,fun p hp=>?_⟩⟩
 ·have:=parB_ok (e5 p hp); omega
 ·have:=parB_ok (e7 p hp); omega
theorem host_bad {l:List UInt8} {u:Uri} {er:Int} (h:parseV ([115,105,112,58]++l)=(u,er)) (he:er ≠ 0):hostV l=([],er):=by
 rw [hostV,h]; simp only; rw [if_pos he]
theorem host_yes {l t:List UInt8} {u:Uri} (h:parseV ([115,105,112,58]++l)=(u,0)) (hw:whoV u=(l,0)):hostV l=(u.host,0):=by
 rw [hostV,h]; simp only; rw [if_neg (by simp),if_pos hw]
theorem host_no {l:List UInt8} {u:Uri} (h:parseV ([115,105,112,58]++l)=(u,0)) (hw:¬ whoV u=(l,0)):hostV l=([],31):=by
 rw [hostV,h]; simp only; rw [if_neg (by simp),if_neg hw]
theorem parse4 {l:List UInt8} {u:Uri} {er:Int} (h:parseV ([115,105,112,58]++l)=(u,er)) (w:World) (hs:l.length+4≤1048576) :
  Calls Tryz.prog 74 #[.string (⟨#[115,105,112,58]⟩++⟨l.toArray⟩)] w fun e w'=>∃ a1 k1 a2 k2,e=.returned (.tuple #[.agg #[.string ⟨u.scheme.toArray⟩,.string ⟨u.user.toArray⟩,.string ⟨u.host.toArray⟩,.int .i64 u.port,.slice a1 u.params.length k1,.slice a2 u.headers.length k2],.int .i64 er])∧ParsAt w' (.slice a1 u.params.length k1) u.params∧ParsAt w' (.slice a2 u.headers.length k2) u.headers∧Below w.heap.size w w':=by
 have k:=parse_any ([115,105,112,58]++l) w (by simp; omega);rw [h,← appL] at k;refine k.mono ?_
 rintro e w' ⟨p,q,rfl,hp,hq,hb⟩;have hp2:=hp.parsAt;have hq2:=hq.parsAt;obtain ⟨a1,k1,e1⟩:=hp2.form;obtain ⟨a2,k2,e2⟩:=hq2.form;simp only at e1 e2 hp2 hq2;subst e1 e2;exact ⟨a1,k1,a2,k2,rfl,hp2,hq2,hb⟩
end Go.Proofs.YtbmjodlbkgblpaaGreatDoor
