/-
  XDoc, RX5, RXS, XEqB.
-/
import Derived.Test.YtdbalahkmeknaaaGreatDoorPW14
set_option linter.unusedVariables false
set_option linter.unusedSimpArgs false
set_option maxRecDepth 20000
namespace Go.Proofs.YtdbalahkmeknaaaGreatDoor
open Go.RowKit Sc
set_option maxHeartbeats 4000000 in
set_option maxRecDepth 100000 in
theorem doc_any (b B:Nat) (l:List UInt8) (w:World) (hrd:XrAt w b l (.slice none 0 0)) (hbB:b < B) (hB:B≤w.heap.size) (hl:l.length≤4096) :
  Calls Tryz.prog 35 #[.pointer (some ⟨b,0,none⟩)] w fun e w'=>DocP (docC l) b B (.slice none 0 0) w e w':=by
 have KT:=hid (took_any b l [60,63,120,109,108] (.slice none 0 0) w hrd (by omega) (by decide));have hD:docC l=(match headC l with | none=>none | some r=>bodyC r):=rfl;have hH:headC l=if preX [60,63,120,109,108] l=true then (match upP (·==63) (l.drop 5) with | none=>none | some (_,r)=>if preX [63,62] r=false then none else some (r.drop 2)) else some l:=rfl
 generalize docC l=R at hD ⊢
 cases h0:preX [60,63,120,109,108] l with
 | true =>
  rw [if_pos h0] at hH;rw [h0,show tookL [60,63,120,109,108] l=l.drop 5 by unfold tookL; rw [if_pos h0]; rfl] at KT;have hl5:(l.drop 5).length≤l.length:=by rw [List.length_drop]; omega
  generalize l.drop 5=l1 at hH KT hl5;clear h0 hrd
  cases hu:upP (·==63) l1 with
  | none =>
   rw [hu] at hH;simp only at hH;rw [hH] at hD;have HD:Hid (R=none):=hD;have HU:=hid hu;clear hD hH hu
   go_enter Tryz.func35,Tryz.ntmps35
   go_wp2_with fail
   refine (KT.out).mono ?_
   rintro e w1 ⟨rfl,hr1,hf1⟩;go_wp2_with fail
   refine (upTo_bad (·==63) ⟨#[63]⟩ b l1 _ w1 hr1 (by omega) (fun w'=>xany_ask l1 w') HU.out).mono ?_
   rintro e w2 ⟨rfl,hf2⟩;refine ⟨rfl,?_⟩
   rw [HD.out];exact ⟨rfl,(FrX.of (hf1.trans hf2)).none⟩
  | some xy =>
   obtain ⟨x,y⟩:=xy;rw [hu] at hH;simp only at hH;obtain ⟨_,_,_,_,hlq⟩:=up_head hu;have HU:=hid hu;clear hu
   cases h1:preX [63,62] y with
   | false =>
    rw [if_pos h1] at hH;rw [hH] at hD;have HD:Hid (R=none):=hD;have H1:=hid h1;clear hD hH h1
    go_enter Tryz.func35,Tryz.ntmps35
    go_wp2_with fail
    refine (KT.out).mono ?_
    rintro e w1 ⟨rfl,hr1,hf1⟩;go_wp2_with fail
    refine (upTo_ok (·==63) ⟨#[63]⟩ b l1 _ w1 hr1 (by omega) (fun w'=>xany_ask l1 w') x y HU.out).mono ?_
    rintro e w2 ⟨rfl,hr2,hf2⟩;go_wp2_with fail
    refine (must_bad b y [63,62] _ w2 hr2 (by omega) (by decide) H1.out).mono ?_
    rintro e w3 ⟨rfl,hf3⟩;refine ⟨rfl,?_⟩
    rw [HD.out];exact ⟨rfl,(FrX.of ((hf1.trans hf2).trans hf3)).none⟩
   | true =>
    rw [if_neg (by rw [h1]; simp)] at hH;rw [hH] at hD;simp only at hD;have H1:=hid h1;have hl6:(y.drop 2).length≤4096:=by rw [List.length_drop]; omega
    have KM:=hid (fun w' (h':XrAt w' b y (.slice none 0 0))=>must_ok b y [63,62] _ w' h' (by omega) (by decide) H1.out);rw [show y.drop [(63:UInt8),62].length=y.drop 2 from rfl] at KM;generalize y.drop 2=s at hD KM hl6;clear hH h1;have KS:=hid (fun w' (h':XrAt w' b s (.slice none 0 0))=>skip_any b s _ w' h' (by omega));have hdl:=dw_len xblk s;have hB0:bodyC s=(match elemC (s.length+1) 0 (s.dropWhile xblk) with | none=>none | some (l,r)=>if (r.dropWhile xblk).isEmpty=false then none else if checkX l=0 then some l else none):=rfl;rw [hB0] at hD;clear hB0;generalize decide ((s.dropWhile xblk).length < s.length)=bb at KS;generalize s.dropWhile xblk=s1 at KS hD hdl;have KE:=hid (fun w' (h':XrAt w' b s1 (.slice none 0 0)) (hB':B≤w'.heap.size)=>el_any (s.length+1) b 0 s1 (.slice none 0 0) [] B w' h' (OwnN.nil _ _) hbB hB' (by omega) (by simp; omega) (by omega));rw [show ((0:Nat):Int)=0 from rfl] at KE
    cases he:elemC (s.length+1) 0 s1 with
    | none =>
     rw [he] at hD KE;simp only [ElP] at KE;have HD:Hid (R=none):=hD;clear hD he
     go_enter Tryz.func35,Tryz.ntmps35
     go_wp2_with fail
     refine (KT.out).mono ?_
     rintro e w1 ⟨rfl,hr1,hf1⟩;go_wp2_with fail
     refine (upTo_ok (·==63) ⟨#[63]⟩ b l1 _ w1 hr1 (by omega) (fun w'=>xany_ask l1 w') x y HU.out).mono ?_
     rintro e w2 ⟨rfl,hr2,hf2⟩;go_wp2_with fail
     refine (KM.out w2 hr2).mono ?_
     rintro e w3 ⟨rfl,hr3,hf3⟩;have hf0:=(hf1.trans hf2).trans hf3;go_wp2_with fail
     refine (KS.out w3 hr3).mono ?_
     rintro e w4 ⟨rfl,hr4,hf4⟩;go_wp2_with fail
     refine (KE.out w4 hr4 (Nat.le_trans hB (hf0.trans hf4).size)).mono ?_
     rintro e w5 ⟨rfl,hf5⟩;refine ⟨rfl,?_⟩
     rw [HD.out];exact ⟨rfl,(FrX.of (hf0.trans hf4)).trans hf5⟩
    | some lr =>
     obtain ⟨ns,r⟩:=lr;have hsm:=elemC_small 100000 _ _ _ _ _ (by omega) he;have hel:=elemC_len _ _ _ _ _ he;have hec:=elemC_cnt _ _ _ _ _ he;rw [he] at hD KE;simp only [ElP] at KE;simp only at hD;clear he;have HSM:=hid hsm;clear hsm;have KS2:=hid (fun v' w' (h':XrAt w' b r v')=>skip_any b r v' w' h' (by omega));generalize decide ((r.dropWhile xblk).length < r.length)=bb2 at KS2;generalize r.dropWhile xblk=r1 at KS2 hD;have KC:=hid (fun v' (cs':List NdC) w' (hk:ndsL cs'=ns) (h':OwnN w' B v' cs')=>xcheck_any v' cs' w' (by have:=congrArg List.length hk; rw [ndsL_len] at this; omega) (fun c hc=>(HSM.out c.nd (by rw [← hk]; exact List.mem_map.2 ⟨c,hc,rfl⟩)).small (by omega)) h'.ndsAt)
     cases hr:r1.isEmpty with
     | false =>
      rw [if_pos hr] at hD;have HD:Hid (R=none):=hD;clear hD
      go_enter Tryz.func35,Tryz.ntmps35
      go_wp2_with fail
      refine (KT.out).mono ?_
      rintro e w1 ⟨rfl,hr1,hf1⟩;go_wp2_with fail
      refine (upTo_ok (·==63) ⟨#[63]⟩ b l1 _ w1 hr1 (by omega) (fun w'=>xany_ask l1 w') x y HU.out).mono ?_
      rintro e w2 ⟨rfl,hr2,hf2⟩;go_wp2_with fail
      refine (KM.out w2 hr2).mono ?_
      rintro e w3 ⟨rfl,hr3,hf3⟩;have hf0:=(hf1.trans hf2).trans hf3;go_wp2_with fail
      refine (KS.out w3 hr3).mono ?_
      rintro e w4 ⟨rfl,hr4,hf4⟩;go_wp2_with fail
      refine (KE.out w4 hr4 (Nat.le_trans hB (hf0.trans hf4).size)).mono ?_
      rintro e w5 ⟨v5,cs5,rfl,hk5,hown5,hr5,hf5⟩;rw [List.nil_append] at hown5;go_wp2_with fail
      refine (KS2.out v5 w5 hr5).mono ?_
      rintro e w6 ⟨rfl,hr6,hf6⟩;obtain ⟨c0,c1,f0,f1⟩:=RowIs.rc2 hr6;go_wp2_with fail
      refine (giveUp_any _).mono ?_
      rintro e w7 ⟨rfl,rfl⟩;refine ⟨rfl,?_⟩
      rw [HD.out];exact ⟨rfl,(((FrX.of (hf0.trans hf4)).trans hf5).trans (FrX.of hf6)).none⟩
     | true =>
      rw [if_neg (by rw [hr]; simp)] at hD;by_cases hck:checkX ns=0
      ·rw [if_pos hck] at hD;have HD:Hid (R=some ns):=hD;have HCK:=hid hck;clear hD hck
       go_enter Tryz.func35,Tryz.ntmps35
       go_wp2_with fail
       refine (KT.out).mono ?_
       rintro e w1 ⟨rfl,hr1,hf1⟩;go_wp2_with fail
       refine (upTo_ok (·==63) ⟨#[63]⟩ b l1 _ w1 hr1 (by omega) (fun w'=>xany_ask l1 w') x y HU.out).mono ?_
       rintro e w2 ⟨rfl,hr2,hf2⟩;go_wp2_with fail
       refine (KM.out w2 hr2).mono ?_
       rintro e w3 ⟨rfl,hr3,hf3⟩;have hf0:=(hf1.trans hf2).trans hf3;go_wp2_with fail
       refine (KS.out w3 hr3).mono ?_
       rintro e w4 ⟨rfl,hr4,hf4⟩;go_wp2_with fail
       refine (KE.out w4 hr4 (Nat.le_trans hB (hf0.trans hf4).size)).mono ?_
       rintro e w5 ⟨v5,cs5,rfl,hk5,hown5,hr5,hf5⟩;rw [List.nil_append] at hown5;go_wp2_with fail
       refine (KS2.out v5 w5 hr5).mono ?_
       rintro e w6 ⟨rfl,hr6,hf6⟩;obtain ⟨c0,c1,f0,f1⟩:=RowIs.rc2 hr6;have hown6:=hown5.fr hf6 hr5;have HK:=hid hk5;go_wp2_with fail
       refine (KC.out v5 cs5 w6 HK.out hown6).mono ?_
       rintro e w7 ⟨rfl,hw7⟩;rw [HK.out,HCK.out];have hr7:=hr6.below hw7;obtain ⟨d0,d1,g0,g1⟩:=RowIs.rc2 hr7;go_wp2;go_ret;rw [HD.out];exact ⟨v5,cs5,rfl,HK.out,hown6.below hw7,(((FrX.of (hf0.trans hf4)).trans hf5).trans (FrX.of hf6)).trans (FrX.of (FrR.below hw7))⟩
      ·rw [if_neg hck] at hD;have HD:Hid (R=none):=hD;have HCK:Hid ((checkX ns==0)=false):=show _=_ by rw [beq_eq_false_iff_ne]; exact hck
       clear hD hck
       go_enter Tryz.func35,Tryz.ntmps35
       go_wp2_with fail
       refine (KT.out).mono ?_
       rintro e w1 ⟨rfl,hr1,hf1⟩;go_wp2_with fail
       refine (upTo_ok (·==63) ⟨#[63]⟩ b l1 _ w1 hr1 (by omega) (fun w'=>xany_ask l1 w') x y HU.out).mono ?_
       rintro e w2 ⟨rfl,hr2,hf2⟩;go_wp2_with fail
       refine (KM.out w2 hr2).mono ?_
       rintro e w3 ⟨rfl,hr3,hf3⟩;have hf0:=(hf1.trans hf2).trans hf3;go_wp2_with fail
       refine (KS.out w3 hr3).mono ?_
       rintro e w4 ⟨rfl,hr4,hf4⟩;go_wp2_with fail
       refine (KE.out w4 hr4 (Nat.le_trans hB (hf0.trans hf4).size)).mono ?_
       rintro e w5 ⟨v5,cs5,rfl,hk5,hown5,hr5,hf5⟩;rw [List.nil_append] at hown5;go_wp2_with fail
       refine (KS2.out v5 w5 hr5).mono ?_
       rintro e w6 ⟨rfl,hr6,hf6⟩;obtain ⟨c0,c1,f0,f1⟩:=RowIs.rc2 hr6;have hown6:=hown5.fr hf6 hr5;have HK:=hid hk5;go_wp2_with fail
       refine (KC.out v5 cs5 w6 HK.out hown6).mono ?_
       rintro e w7 ⟨rfl,hw7⟩;rw [HK.out];have q1:=HCK.out;have q2:(checkX ns != 0)=true:=by rw [bne,q1]; rfl
       generalize checkX ns=ck at q1 q2 ⊢;go_wp2_with fail
       refine (giveUp_any _).mono ?_
       rintro e w8 ⟨rfl,rfl⟩;refine ⟨rfl,?_⟩
       rw [HD.out];exact ⟨rfl,((((FrX.of (hf0.trans hf4)).trans hf5).trans (FrX.of hf6)).trans (FrX.of (FrR.below hw7))).none⟩
 | false =>
  rw [if_neg (by rw [h0]; simp)] at hH;rw [h0,show tookL [60,63,120,109,108] l=l by unfold tookL; rw [if_neg (by rw [h0]; simp)]] at KT;rw [hH] at hD;simp only at hD;have hl6:=hl;clear h0 hrd hH;generalize l=s at hD KT hl6;have KS:=hid (fun w' (h':XrAt w' b s (.slice none 0 0))=>skip_any b s _ w' h' (by omega));have hdl:=dw_len xblk s;have hB0:bodyC s=(match elemC (s.length+1) 0 (s.dropWhile xblk) with | none=>none | some (l,r)=>if (r.dropWhile xblk).isEmpty=false then none else if checkX l=0 then some l else none):=rfl;rw [hB0] at hD;clear hB0;generalize decide ((s.dropWhile xblk).length < s.length)=bb at KS;generalize s.dropWhile xblk=s1 at KS hD hdl;have KE:=hid (fun w' (h':XrAt w' b s1 (.slice none 0 0)) (hB':B≤w'.heap.size)=>el_any (s.length+1) b 0 s1 (.slice none 0 0) [] B w' h' (OwnN.nil _ _) hbB hB' (by omega) (by simp; omega) (by omega));rw [show ((0:Nat):Int)=0 from rfl] at KE
  cases he:elemC (s.length+1) 0 s1 with
  | none =>
   rw [he] at hD KE;simp only [ElP] at KE;have HD:Hid (R=none):=hD;clear hD he
   go_enter Tryz.func35,Tryz.ntmps35
   go_wp2_with fail
   refine (KT.out).mono ?_
   rintro e w3 ⟨rfl,hr3,hf0⟩;go_wp2_with fail
   refine (KS.out w3 hr3).mono ?_
   rintro e w4 ⟨rfl,hr4,hf4⟩;go_wp2_with fail
   refine (KE.out w4 hr4 (Nat.le_trans hB (hf0.trans hf4).size)).mono ?_
   rintro e w5 ⟨rfl,hf5⟩;refine ⟨rfl,?_⟩
   rw [HD.out];exact ⟨rfl,(FrX.of (hf0.trans hf4)).trans hf5⟩
  | some lr =>
   obtain ⟨ns,r⟩:=lr;have hsm:=elemC_small 100000 _ _ _ _ _ (by omega) he;have hel:=elemC_len _ _ _ _ _ he;have hec:=elemC_cnt _ _ _ _ _ he;rw [he] at hD KE;simp only [ElP] at KE;simp only at hD;clear he;have HSM:=hid hsm;clear hsm;have KS2:=hid (fun v' w' (h':XrAt w' b r v')=>skip_any b r v' w' h' (by omega));generalize decide ((r.dropWhile xblk).length < r.length)=bb2 at KS2;generalize r.dropWhile xblk=r1 at KS2 hD;have KC:=hid (fun v' (cs':List NdC) w' (hk:ndsL cs'=ns) (h':OwnN w' B v' cs')=>xcheck_any v' cs' w' (by have:=congrArg List.length hk; rw [ndsL_len] at this; omega) (fun c hc=>(HSM.out c.nd (by rw [← hk]; exact List.mem_map.2 ⟨c,hc,rfl⟩)).small (by omega)) h'.ndsAt)
   cases hr:r1.isEmpty with
   | false =>
    rw [if_pos hr] at hD;have HD:Hid (R=none):=hD;clear hD
    go_enter Tryz.func35,Tryz.ntmps35
    go_wp2_with fail
    refine (KT.out).mono ?_
    rintro e w3 ⟨rfl,hr3,hf0⟩;go_wp2_with fail
    refine (KS.out w3 hr3).mono ?_
    rintro e w4 ⟨rfl,hr4,hf4⟩;go_wp2_with fail
    refine (KE.out w4 hr4 (Nat.le_trans hB (hf0.trans hf4).size)).mono ?_
    rintro e w5 ⟨v5,cs5,rfl,hk5,hown5,hr5,hf5⟩;rw [List.nil_append] at hown5;go_wp2_with fail
    refine (KS2.out v5 w5 hr5).mono ?_
    rintro e w6 ⟨rfl,hr6,hf6⟩;obtain ⟨c0,c1,f0,f1⟩:=RowIs.rc2 hr6;go_wp2_with fail
    refine (giveUp_any _).mono ?_
    rintro e w7 ⟨rfl,rfl⟩;refine ⟨rfl,?_⟩
    rw [HD.out];exact ⟨rfl,(((FrX.of (hf0.trans hf4)).trans hf5).trans (FrX.of hf6)).none⟩
   | true =>
    rw [if_neg (by rw [hr]; simp)] at hD;by_cases hck:checkX ns=0
    ·rw [if_pos hck] at hD;have HD:Hid (R=some ns):=hD;have HCK:=hid hck;clear hD hck
     go_enter Tryz.func35,Tryz.ntmps35
     go_wp2_with fail
     refine (KT.out).mono ?_
     rintro e w3 ⟨rfl,hr3,hf0⟩;go_wp2_with fail
     refine (KS.out w3 hr3).mono ?_
     rintro e w4 ⟨rfl,hr4,hf4⟩;go_wp2_with fail
     refine (KE.out w4 hr4 (Nat.le_trans hB (hf0.trans hf4).size)).mono ?_
     rintro e w5 ⟨v5,cs5,rfl,hk5,hown5,hr5,hf5⟩;rw [List.nil_append] at hown5;go_wp2_with fail
     refine (KS2.out v5 w5 hr5).mono ?_
     rintro e w6 ⟨rfl,hr6,hf6⟩;obtain ⟨c0,c1,f0,f1⟩:=RowIs.rc2 hr6;have hown6:=hown5.fr hf6 hr5;have HK:=hid hk5;go_wp2_with fail
     refine (KC.out v5 cs5 w6 HK.out hown6).mono ?_
     rintro e w7 ⟨rfl,hw7⟩;rw [HK.out,HCK.out];have hr7:=hr6.below hw7;obtain ⟨d0,d1,g0,g1⟩:=RowIs.rc2 hr7;go_wp2;go_ret;rw [HD.out];exact ⟨v5,cs5,rfl,HK.out,hown6.below hw7,(((FrX.of (hf0.trans hf4)).trans hf5).trans (FrX.of hf6)).trans (FrX.of (FrR.below hw7))⟩
    ·rw [if_neg hck] at hD;have HD:Hid (R=none):=hD;have HCK:Hid ((checkX ns==0)=false):=show _=_ by rw [beq_eq_false_iff_ne]; exact hck
     clear hD hck
     go_enter Tryz.func35,Tryz.ntmps35
     go_wp2_with fail
     refine (KT.out).mono ?_
     rintro e w3 ⟨rfl,hr3,hf0⟩;go_wp2_with fail
     refine (KS.out w3 hr3).mono ?_
     rintro e w4 ⟨rfl,hr4,hf4⟩;go_wp2_with fail
     refine (KE.out w4 hr4 (Nat.le_trans hB (hf0.trans hf4).size)).mono ?_
     rintro e w5 ⟨v5,cs5,rfl,hk5,hown5,hr5,hf5⟩;rw [List.nil_append] at hown5;go_wp2_with fail
     refine (KS2.out v5 w5 hr5).mono ?_
     rintro e w6 ⟨rfl,hr6,hf6⟩;obtain ⟨c0,c1,f0,f1⟩:=RowIs.rc2 hr6;have hown6:=hown5.fr hf6 hr5;have HK:=hid hk5;go_wp2_with fail
     refine (KC.out v5 cs5 w6 HK.out hown6).mono ?_
     rintro e w7 ⟨rfl,hw7⟩;rw [HK.out];have q1:=HCK.out;have q2:(checkX ns != 0)=true:=by rw [bne,q1]; rfl
     generalize checkX ns=ck at q1 q2 ⊢;go_wp2_with fail
     refine (giveUp_any _).mono ?_
     rintro e w8 ⟨rfl,rfl⟩;refine ⟨rfl,?_⟩
     rw [HD.out];exact ⟨rfl,((((FrX.of (hf0.trans hf4)).trans hf5).trans (FrX.of hf6)).trans (FrX.of (FrR.below hw7))).none⟩
def attrP (l:List UInt8) (k:Nat):Option (Par × Nat) :=
 let t:=runL (· != 61) l k
 if t=l.length then none else
 let a:=runL xblk l (t+1)
 match l[a]? with
 | none=>none
 | some q=>if q ≠ 34∧q ≠ 39 then none else
  let u:=runL (fun b=>b != q && b != 60) l (a+1)
  if l[u]? ≠ some q then none else
  (readX ((l.drop (a+1)).take (u - (a+1)))).map fun v=>(⟨xbehind ((l.drop k).take (t - k)),v,true⟩,u+1)
theorem drop_none {l:List UInt8} {k:Nat} (hk:k≤l.length):l.drop k=[] ↔ k=l.length:=by
 rw [List.drop_eq_nil_iff]; omega
theorem drop_get {l:List UInt8} {k:Nat} {c:UInt8} (h:l[k]? = some c):l.drop k=c :: l.drop (k+1):=by
 obtain ⟨hk,rfl⟩:=List.getElem?_eq_some_iff.1 h;exact List.drop_eq_getElem_cons hk
theorem attr_place {l:List UInt8} {k:Nat} (hk:k≤l.length):attrX (l.drop k)=(attrP l k).map fun x=>(x.1,l.drop x.2):=by
 unfold attrX attrP
 simp only
 rw [← run_drop (p:=(· != 61)),← run_take (p:=(· != 61))];have h1:=run_le (p:=(· != 61)) hk;generalize runL (· != 61) l k=t at h1 ⊢;by_cases ht:t=l.length
 ·rw [if_pos ht,(drop_none h1.2).2 ht]; rfl
 ·rw [if_neg ht,List.drop_eq_getElem_cons (by omega)]
  simp only
  rw [← run_drop (p:=xblk)];have h2:=run_le (p:=xblk) (l:=l) (k:=t+1) (by omega);generalize runL xblk l (t+1)=a at h2 ⊢
  cases ha:l[a]? with
  | none =>
   have:a=l.length:=by have:=List.getElem?_eq_none_iff.1 ha; omega
   rw [(drop_none h2.2).2 this]; rfl
  | some q =>
   have hal:a < l.length:=(List.getElem?_eq_some_iff.1 ha).1;rw [drop_get ha]
   simp only
   by_cases hq:q ≠ 34∧q ≠ 39
   ·rw [if_pos hq,if_pos hq]; rfl
   ·rw [if_neg hq,if_neg hq,← run_drop (p:=fun b=>b != q && b != 60),← run_take (p:=fun b=>b != q && b != 60)];have h3:=run_le (p:=fun b=>b != q && b != 60) (l:=l) (k:=a+1) (by omega);generalize runL (fun b=>b != q && b != 60) l (a+1)=u at h3 ⊢
    cases hu:l[u]? with
    | none =>
     have:u=l.length:=by have:=List.getElem?_eq_none_iff.1 hu; omega
     rw [(drop_none h3.2).2 this,if_pos (by simp)]; rfl
    | some e =>
     rw [drop_get hu]
     simp only
     by_cases he:e=q
     ·rw [if_neg (by simp [he]),if_neg (by simp [he])]
      cases readX ((l.drop (a+1)).take (u - (a+1))) <;> rfl
     ·rw [if_pos he,if_pos (by simpa using he)]; rfl
theorem attrP_le {l:List UInt8} {k n:Nat} {p:Par} (hk:k≤l.length) (h:attrP l k=some (p,n)):k < n∧n≤l.length:=by
 unfold attrP at h;simp only at h;have h1:=run_le (p:=(· != 61)) hk;generalize runL (· != 61) l k=t at h1 h
 split at h
 ·cases h
 have h2:=run_le (p:=xblk) (l:=l) (k:=t+1) (by omega);generalize runL xblk l (t+1)=a at h2 h
 split at h
 ·cases h
 next q hq =>
 have hal:a < l.length:=(List.getElem?_eq_some_iff.1 hq).1
 split at h
 ·cases h
 have h3:=run_le (p:=fun b=>b != q && b != 60) (l:=l) (k:=a+1) (by omega);generalize runL (fun b=>b != q && b != 60) l (a+1)=u at h3 h
 split at h
 ·cases h
 next hu =>
 have hul:u < l.length:=by
  have:l[u]? = some q:=by simpa using hu
  exact (List.getElem?_eq_some_iff.1 this).1
 cases hr:readX ((l.drop (a+1)).take (u - (a+1))) with
 | none=>rw [hr] at h; cases h
 | some v =>
  rw [hr] at h;simp only [Option.map_some,Option.some.injEq,Prod.mk.injEq] at h;omega
theorem suf_dw (p:UInt8 → Bool) (l:List UInt8):l.dropWhile p <:+ l:=List.dropWhile_suffix p
theorem attr_suf {s r:List UInt8} {p:Par} (h:attrX s=some (p,r)):r <:+ s∧r.length < s.length:=by
 have e:=attr_place (l:=s) (k:=0) (Nat.zero_le _);rw [List.drop_zero,h] at e
 cases ha:attrP s 0 with
 | none=>rw [ha] at e; cases e
 | some x =>
  obtain ⟨p',n⟩:=x;rw [ha] at e;simp only [Option.map_some,Option.some.injEq,Prod.mk.injEq] at e
  have:=attrP_le (Nat.zero_le _) ha
  rw [e.2];exact ⟨List.drop_suffix _ _,by rw [List.length_drop]; omega⟩
theorem attrs_suf:∀ (n:Nat) (acc:List Par) (s:List UInt8) (l:List Par) (r:List UInt8),attrsX n acc s=some (l,r) → r <:+ s
 | 0,_,_,_,_,h=>by rw [attrsX] at h; cases h
 | n+1,acc,s,l,r,h=>by
  rw [attrsX] at h;have hd:=suf_dw xblk s
  split at h
  ·simp only [Option.some.injEq,Prod.mk.injEq] at h;rw [← h.2]; exact List.nil_suffix
  ·next b q hq =>
   rw [hq] at hd
   split at h
   ·simp only [Option.some.injEq,Prod.mk.injEq] at h;rw [← h.2]; exact hd
   ·split at h
    ·cases h
    ·split at h
     ·cases h
     ·next p r2 ha =>
      exact (attrs_suf n _ _ _ _ h).trans ((attr_suf ha).1.trans hd)
mutual
theorem elem_suf:∀ (n d c:Nat) (s:List UInt8) (l:List Nd) (r:List UInt8),elemX n d c s=some (l,r) → r <:+ s∧r.length+2 < s.length
 | 0,_,_,_,_,_,h=>by rw [elemX] at h; cases h
 | n+1,d,c,s,l,r,h=>by
  cases s with
  | nil=>simp [elemX] at h
  | cons b q =>
   rw [elemX] at h
   split at h
   ·cases h
   ·split at h
    ·cases h
    ·split at h
     ·cases h
     ·next at' r2 ha =>
      have h1:=(attrs_suf _ _ _ _ _ ha).trans (suf_dw _ q)
      split at h
      ·next r3 =>
       simp only [Option.some.injEq,Prod.mk.injEq] at h;rw [← h.2];have h2:r3 <:+ q:=(List.suffix_append [47,62] r3).trans h1;have h3:=h1.length_le;simp only [List.length_cons] at h3 ⊢;exact ⟨h2.trans (List.suffix_cons _ _),by omega⟩
      ·next r3 =>
       have h2:r3 <:+ q:=(List.suffix_cons 62 r3).trans h1;have h3:=h1.length_le;obtain ⟨k1,k2⟩:=cont_suf n _ _ _ _ _ _ _ _ h;simp only [List.length_cons] at h3 ⊢;exact ⟨(k1.trans h2).trans (List.suffix_cons _ _),by omega⟩
      ·cases h
theorem cont_suf:∀ (n:Nat) (x:Nd) (d c:Nat) (txt:List UInt8) (kids:List Nd) (s:List UInt8) (l:List Nd) (r:List UInt8),contX n x d c txt kids s=some (l,r) → r <:+ s∧r.length+2 < s.length
 | 0,_,_,_,_,_,_,_,_,h=>by rw [contX] at h; cases h
 | n+1,x,d,c,txt,kids,s,l,r,h=>by
  rw [contX] at h;have hd:=suf_dw (· != 60) s
  split at h
  ·cases h
  ·next b q hq =>
   rw [hq] at hd
   split at h
   ·next h47 =>
    split at h
    ·cases h
    ·split at h
     ·next r3 he =>
      cases hv:readX (xtrim (txt++s.takeWhile (· != 60))) with
      | none=>rw [hv] at h; cases h
      | some t =>
       rw [hv] at h;simp only [Option.map_some,Option.some.injEq,Prod.mk.injEq] at h;rw [← h.2];have h1:(62 :: r3) <:+ q.tail:=by rw [← he]; exact (suf_dw _ _).trans (List.drop_suffix _ _)
       have h2:q.tail <:+ q:=List.tail_suffix q;have h3:=h1.length_le
       have h4:q.tail.length+1=q.length:=by
        cases q with
        | nil=>simp at h47
        | cons a b=>simp
       have h5:=hd.length_le;simp only [List.length_cons] at h3 h5 ⊢;exact ⟨(((List.suffix_cons 62 r3).trans h1).trans h2).trans ((List.suffix_cons b q).trans hd),by omega⟩
     ·cases h
   ·split at h
    ·cases h
    ·next ks r3 he =>
     obtain ⟨k1,k2⟩:=elem_suf n _ _ _ _ _ he;obtain ⟨m1,m2⟩:=cont_suf n _ _ _ _ _ _ _ _ h;have h5:=hd.length_le;exact ⟨m1.trans (k1.trans hd),by omega⟩
end
theorem xtrim_nb (l:List UInt8):(∀ b,(xtrim l).head? = some b → xblk b=false)∧∀ b,(xtrim l).getLast? = some b → xblk b=false:=by
 refine ⟨fun b hb=>?_,fun b hb=>?_⟩
 ·rw [← xtrim_two] at hb
  have:=List.head?_dropWhile_not xblk (xbehind l)
  rw [hb] at this; simpa using this
 ·unfold xtrim at hb;rw [List.getLast?_reverse] at hb
  have:=List.head?_dropWhile_not xblk (l.dropWhile xblk).reverse
  rw [hb] at this; simpa using this
theorem ent_nb {r:List UInt8} {c:UInt8} {k:Nat} (h:entX r=some (c,k)):xblk c=false:=by
 unfold entX at h
 split at h
 ·simp at h; rw [← h.1]; decide
 ·split at h
  ·simp at h; rw [← h.1]; decide
  ·split at h
   ·simp at h; rw [← h.1]; decide
   ·split at h
    ·simp at h; rw [← h.1]; decide
    ·split at h
     ·simp at h; rw [← h.1]; decide
     ·cases h
theorem readG_nil:∀ (n:Nat) (l:List UInt8),readG n l=some [] → l=[]
 | n,[],_=>rfl
 | 0,_ :: _,h=>by rw [readG] at h; cases h
 | n+1,b :: l,h=>by
  rw [readG] at h
  split at h
  ·split at h
   ·cases h
   ·next c k he =>
    cases hq:readG n (l.drop k) with
    | none=>rw [hq] at h; cases h
    | some q=>rw [hq] at h; simp at h
  ·cases hq:readG n l with
   | none=>rw [hq] at h; cases h
   | some q=>rw [hq] at h; simp at h
theorem readG_last:∀ (n:Nat) (l t:List UInt8),readG n l=some t → (∀ b,l.getLast? = some b → xblk b=false) → ∀ b,t.getLast? = some b → xblk b=false
 | n,[],t,h,_,b,hb=>by cases n <;> (rw [readG] at h; simp at h; subst h; simp at hb)
 | 0,_ :: _,t,h,_,b,hb=>by rw [readG] at h; cases h
 | n+1,c :: l,t,h,hl,b,hb=>by
  rw [readG] at h
  split at h
  ·split at h
   ·cases h
   ·next e k he =>
    cases hq:readG n (l.drop k) with
    | none=>rw [hq] at h; cases h
    | some q =>
     rw [hq] at h;simp only [Option.map_some,Option.some.injEq] at h;subst h
     cases q with
     | nil=>simp at hb; rw [← hb]; exact ent_nb he
     | cons x q =>
      rw [List.getLast?_cons_cons] at hb;refine readG_last n _ _ hq (fun y hy=>hl y ?_) b hb
      have hne:l.drop k ≠ []:=fun e=>by rw [e] at hy; simp at hy
      have e1:=List.take_append_drop k l;rw [← e1,← List.cons_append,List.getLast?_append,hy]; rfl
  ·next hc =>
   cases hq:readG n l with
   | none=>rw [hq] at h; cases h
   | some q =>
    rw [hq] at h;simp only [Option.map_some,Option.some.injEq] at h;subst h
    cases q with
    | nil =>
     have:=readG_nil _ _ hq
     subst this
     simp at hb
     rw [← hb];exact hl c (by simp)
    | cons x q =>
     rw [List.getLast?_cons_cons] at hb;refine readG_last n _ _ hq (fun y hy=>hl y ?_) b hb
     cases l with
     | nil=>simp at hy
     | cons a l=>rw [List.getLast?_cons_cons]; exact hy
theorem readX_head {l t:List UInt8} (h:readX l=some t) (hl:∀ b,l.head? = some b → xblk b=false):∀ b,t.head? = some b → xblk b=false:=by
 cases l with
 | nil =>
  have:t=[]:=by
   have h2:readX []=some []:=rfl;rw [h2] at h; injection h with h; exact h.symm
  subst this;intro b hb; simp at hb
 | cons c l =>
  unfold readX at h;rw [List.length_cons,readG] at h
  split at h
  ·split at h
   ·cases h
   ·next e k he =>
    cases hq:readG l.length (l.drop k) with
    | none=>rw [hq] at h; cases h
    | some q =>
     rw [hq] at h;simp only [Option.map_some,Option.some.injEq] at h;subst h;intro b hb
     simp at hb
     rw [← hb]; exact ent_nb he
  ·cases hq:readG l.length l with
   | none=>rw [hq] at h; cases h
   | some q =>
    rw [hq] at h;simp only [Option.map_some,Option.some.injEq] at h;subst h;intro b hb
    simp at hb
    rw [← hb]; exact hl c rfl
theorem read_trim {l t:List UInt8} (h:readX (xtrim l)=some t):xtrim t=t:=xtrim_id (readX_head h (xtrim_nb l).1) (readG_last _ _ _ h (xtrim_nb l).2)
theorem pre_two {a b:UInt8} {r:List UInt8}:preX [a,b] (a :: r)=decide (r.head? = some b):=by
 unfold preX
 cases r with
 | nil=>simp
 | cons c r=>simp
def innB (n d:Nat) (txt:List UInt8) (ks:List Nd) (s:List UInt8):Option (List UInt8 × List Nd × List UInt8):=match upP (·==60) s with
 | none=>none
 | some (x,y)=>innC n d (txt++x) ks y
theorem innC_go {n d:Nat} {txt:List UInt8} {ks:List Nd} {s:List UInt8} (h:preX [60,47] s=false):innC (n+1) d txt ks s=match elemC n d s with | none=>none | some (k2,r)=>innB n d txt (ks++k2) r:=by
 rw [innC,if_neg (by rw [h]; simp)]
 cases elemC n d s with
 | none=>rfl
 | some x =>
  obtain ⟨k2,r⟩:=x
  rfl
theorem close_is {nm r r3:List UInt8} (h:r.head? = some 47) (hn:r.tail.take nm.length=nm) (hd:(r.tail.drop nm.length).dropWhile xblk=62 :: r3):closeC nm (60 :: r)=some r3:=by
 unfold closeC;have e2:List.drop 2 (60 :: r)=r.tail:=by cases r <;> rfl
 rw [if_neg (by rw [pre_two,h]; simp),e2,if_neg (by unfold preX; rw [hn]; simp),hd,if_neg (by rw [pre_one]; simp)]
 rfl
theorem close_of {nm r r4:List UInt8} (h:closeC nm (60 :: r)=some r4):r.tail.take nm.length=nm∧(r.tail.drop nm.length).dropWhile xblk=62 :: r4:=by
 unfold closeC at h;have e2:List.drop 2 (60 :: r)=r.tail:=by cases r <;> rfl
 rw [e2] at h
 split at h
 ·cases h
 ·split at h
  ·cases h
  ·next h2 =>
   have h2':preX nm r.tail=true:=by simpa using h2
   split at h
   ·cases h
   ·next h3 =>
    have h3':preX [62] ((r.tail.drop nm.length).dropWhile xblk)=true:=by simpa using h3
    simp only [Option.some.injEq] at h;refine ⟨of_decide_eq_true h2',?_⟩
    cases hq:(r.tail.drop nm.length).dropWhile xblk with
    | nil=>rw [hq] at h3'; cases h3'
    | cons c q =>
     rw [hq] at h h3'
     have:c=62:=by have:=of_decide_eq_true h3'; simpa using this
     subst this;rw [← h]; rfl
theorem goodR_of {r2 r3:List UInt8}:goodR (47 :: 62 :: r3)=true∧goodR (62 :: r3)=true:=⟨by simp [goodR,preX],by simp [goodR,preX]⟩
theorem upE {s:List UInt8} {b:UInt8} {r:List UInt8} (h:s.dropWhile (fun b=>!endc b)=b :: r):upP endc s=some (s.takeWhile (fun b=>!endc b),b :: r):=by
 unfold upP;rw [if_neg,h];intro ha
 have:=dw_nil.2 (List.all_eq_true.1 ha)
 rw [h] at this; cases this
theorem up60 {s:List UInt8} {b:UInt8} {r:List UInt8} (h:s.dropWhile (· != 60)=b :: r):upP (·==60) s=some (s.takeWhile (· != 60),b :: r)∧b=60:=by
 have ef:(fun b:UInt8=>!(b==60))=(· != 60):=rfl;refine ⟨?_,?_⟩
 ·unfold upP;rw [ef,if_neg,h];intro ha
  have:=dw_nil.2 (List.all_eq_true.1 ha)
  rw [h] at this; cases this
 ·have:=List.head?_dropWhile_not (· != 60) s
  rw [h] at this; simpa using this
mutual
theorem elem_XC:∀ (n d c:Nat) (s:List UInt8) (ns:List Nd) (r:List UInt8),elemX n d c s=some (ns,r) → ∀ m,s.length < m → elemC m d s=some (ns,r)
 | 0,_,_,_,_,_,h,_,_=>by rw [elemX] at h; cases h
 | n+1,d,c,s,ns,r,h,m,hm=>by
  obtain ⟨m',rfl⟩:∃ m',m=m'+1:=⟨m - 1,by omega⟩
  cases s with
  | nil=>simp [elemX] at h
  | cons b q =>
   rw [elemX] at h
   split at h
   ·cases h
   ·next hb =>
    have hb60:b=60:=Classical.byContradiction fun e=>hb (.inr (.inr e));subst hb60;rw [elemC,if_neg (by rw [pre_one]; simp),show List.drop 1 (60 :: q)=q from rfl]
    split at h
    ·cases h
    ·next hdw =>
     obtain ⟨e0,q0,he0⟩:∃ e0 q0,q.dropWhile (fun b=>!endc b)=e0 :: q0:=by
      cases hx:q.dropWhile (fun b=>!endc b) with
      | nil=>exact absurd hx hdw
      | cons a b=>exact ⟨a,b,rfl⟩
     have hdl:=dw_len (fun b=>!endc b) q;rw [upE he0];rw [he0] at h hdl
     simp only
     simp only [List.length_cons] at hm
     split at h
     ·cases h
     ·next at' r2 ha =>
      split at h
      ·next r3 =>
       rw [attrs_XC _ _ _ _ _ ha (goodR_of (r2:=[])).1 _ (Nat.lt_succ_self _)]
       simp only
       rw [if_pos (by simp [preX])]
       simpa using h
      ·next r3 =>
       rw [attrs_XC _ _ _ _ _ ha (goodR_of (r2:=[])).2 _ (Nat.lt_succ_self _)];have hl3:=attrsC_len _ _ _ _ _ (attrs_XC _ _ _ _ _ ha (goodR_of (r2:=[])).2 _ (Nat.lt_succ_self _))
       simp only
       rw [if_neg (by simp [preX]),if_neg (by rw [pre_one]; simp),show List.drop 1 (62 :: r3)=r3 from rfl];simp only [List.length_cons] at hl3 hdl;obtain ⟨t,ks,r5,h1,h2,h3⟩:=cont_XC n _ _ _ _ _ _ _ _ h m' (by omega);unfold innB at h1
       cases hu:upP (·==60) r3 with
       | none=>rw [hu] at h1; cases h1
       | some xy =>
        obtain ⟨x,y⟩:=xy;rw [hu] at h1;simp only [List.nil_append] at h1
        simp only
        rw [h1];simp only at h2 ⊢;rw [h2,h3]
        rfl
      ·cases h
theorem cont_XC:∀ (n:Nat) (x:Nd) (d c:Nat) (txt:List UInt8) (kids:List Nd) (s:List UInt8) (ns:List Nd) (r:List UInt8),contX n x d c txt kids s=some (ns,r) → ∀ m,s.length+1 < m → ∃ t ks r3,innB m (d+1) txt kids s=some (t,ks,r3)∧closeC x.name r3=some r∧ns={ x with text:=t } :: ks
 | 0,_,_,_,_,_,_,_,_,h,_,_=>by rw [contX] at h; cases h
 | n+1,x,d,c,txt,kids,s,ns,r,h,m,hm=>by
  obtain ⟨m',rfl⟩:∃ m',m=m'+1:=⟨m - 1,by omega⟩
  rw [contX] at h;have hdl:=dw_len (· != 60) s
  cases hs:s.dropWhile (· != 60) with
  | nil=>rw [hs] at h; cases h
  | cons b q =>
   rw [hs] at h hdl;obtain ⟨hu,rfl⟩:=up60 hs;unfold innB;rw [hu];simp only at h ⊢;simp only [List.length_cons] at hdl
   split at h
   ·next h47 =>
    split at h
    ·cases h
    ·next hnm =>
     have hnm':q.tail.take x.name.length=x.name:=Classical.not_not.1 hnm
     split at h
     ·next r3 he =>
      cases hr:readX (xtrim (txt++s.takeWhile (· != 60))) with
      | none=>rw [hr] at h; cases h
      | some t =>
       rw [hr] at h;simp only [Option.map_some,Option.some.injEq,Prod.mk.injEq] at h;refine ⟨t,kids,60 :: q,?_,?_,?_⟩
       ·rw [innC,if_pos (by rw [pre_two,h47]; simp),hr]; rfl
       ·rw [close_is h47 hnm' he,h.2]
       ·rw [← h.1,read_trim hr]
     ·cases h
   ·next h47 =>
    have hp:preX [60,47] (60 :: q)=false:=by rw [pre_two]; simpa using h47
    rw [innC_go hp]
    split at h
    ·cases h
    ·next ks r3 he =>
     rw [elem_XC n _ _ _ _ _ he m' (by simp only [List.length_cons]; omega)]
     simp only
     have hel:=(elem_suf _ _ _ _ _ _ he).2;simp only [List.length_cons] at hel;exact cont_XC n _ _ _ _ _ _ _ _ h m' (by omega)
end
theorem innC_pre:∀ {n d:Nat} {txt:List UInt8} {ks:List Nd} {s t:List UInt8} {l:List Nd} {r:List UInt8},innC n d txt ks s=some (t,l,r) → ∃ k3,l=ks++k3
 | 0,_,_,_,_,_,_,_,h=>by rw [innC] at h; cases h
 | n+1,d,txt,ks,s,t,l,r,h=>by
  rw [innC] at h
  split at h
  ·cases hv:readX (xtrim txt) with
   | none=>rw [hv] at h; cases h
   | some u =>
    rw [hv] at h;simp only [Option.map_some,Option.some.injEq,Prod.mk.injEq] at h;exact ⟨[],by rw [h.2.1]; simp⟩
  ·split at h
   ·cases h
   ·split at h
    ·cases h
    ·obtain ⟨k3,hk⟩:=innC_pre h;exact ⟨_,by rw [hk,List.append_assoc]⟩
theorem innB_pre {n d:Nat} {txt:List UInt8} {ks:List Nd} {s t:List UInt8} {l:List Nd} {r:List UInt8} (h:innB n d txt ks s=some (t,l,r)):∃ k3,l=ks++k3:=by
 unfold innB at h
 split at h
 ·cases h
 ·exact innC_pre h
theorem ok_names {x:Nd} (h:nodeOk x=true):∀ p ∈ x.attrs,nameX p.name=true:=fun p hp=>by
 have:=(node_facts h).2.2.1
 have:=List.all_eq_true.1 this p hp
 rw [Bool.and_eq_true] at this;exact this.1
mutual
theorem elem_CX:∀ (m d c:Nat) (s:List UInt8) (ns:List Nd) (r:List UInt8),elemC m d s=some (ns,r) → (∀ x ∈ ns,nodeOk x=true) → c+ns.length≤200 → ∀ n,s.length < n → elemX n d c s=some (ns,r)
 | 0,_,_,_,_,_,h,_,_,_,_=>by rw [elemC] at h; cases h
 | m+1,d,c,s,ns,r,h,hok,hc,n,hn=>by
  obtain ⟨n',rfl⟩:∃ n',n=n'+1:=⟨n - 1,by omega⟩
  rw [elemC] at h
  split at h
  ·cases h
  ·next h0 =>
   have h0':preX [60] s=true:=by simpa using h0
   cases s with
   | nil=>cases h0'
   | cons b q =>
    have hb:b=60:=by have:=of_decide_eq_true h0'; simpa using this
    subst hb;rw [show List.drop 1 (60 :: q)=q from rfl] at h
    have ns_pos:∀ (x:Nd) (l:List Nd),ns=x :: l → 1≤ns.length∧nodeOk x=true:=fun x l e=>by
     subst e; exact ⟨by simp,hok x (by simp)⟩
    split at h
    ·cases h
    ·next nm r1 hu =>
     obtain ⟨e0,q0,hq0,_,hlq⟩:=up_head hu
     have hux:nm=q.takeWhile (fun b=>!endc b)∧r1=q.dropWhile (fun b=>!endc b):=by
      unfold upP at hu
      split at hu
      ·cases hu
      ·simp only [Option.some.injEq,Prod.mk.injEq] at hu;exact ⟨hu.1.symm,hu.2.symm⟩
     split at h
     ·cases h
     ·next ps r2 ha =>
      have hl2:=attrsC_len _ _ _ _ _ ha;simp only [List.length_cons] at hn;have hne:q.dropWhile (fun b=>!endc b) ≠ []:=by rw [← hux.2,hq0]; simp
      have hr1:1≤r1.length:=by rw [hq0]; simp
      split at h
      ·next hp =>
       simp only [Option.some.injEq,Prod.mk.injEq] at h;obtain ⟨hp1,hp2⟩:=ns_pos _ _ h.1.symm
       have h2:r2=47 :: 62 :: r2.drop 2:=by
        have e:=of_decide_eq_true hp;have e2:=List.take_append_drop 2 r2;simp only [List.length_cons,List.length_nil] at e;rw [e] at e2;exact e2.symm
       have hg:goodR r2=true:=by unfold goodR; rw [hp]; rfl
       have hx:=attrs_CX _ _ _ _ _ ha hg (ok_names hp2) q.length (by omega) (by omega);have hd:¬ 8≤d:=by have:=(node_facts hp2).1; simp only at this; omega
       rw [elemX,if_neg (by simp; omega),if_neg hne,← hux.2,hx]
       simp only
       rw [h2]
       simp only
       rw [← h.1,← h.2,hux.1]
      ·next hp =>
       split at h
       ·cases h
       ·next hp62 =>
        have hp62':preX [62] r2=true:=by simpa using hp62
        have h2:∃ r3,r2=62 :: r3:=by
         cases r2 with
         | nil=>cases hp62'
         | cons a b =>
          have:=of_decide_eq_true hp62'
          simp at this
          subst this;exact ⟨b,rfl⟩
        obtain ⟨r3,rfl⟩:=h2;rw [show List.drop 1 (62 :: r3)=r3 from rfl] at h;have hg:goodR (62 :: r3)=true:=(goodR_of (r2:=[])).2
        split at h
        ·cases h
        ·next x y hu2 =>
         split at h
         ·cases h
         ·next t ks r4 hi =>
          cases hcl:closeC nm r4 with
          | none=>rw [hcl] at h; cases h
          | some r5 =>
           rw [hcl] at h;simp only [Option.map_some,Option.some.injEq,Prod.mk.injEq] at h;obtain ⟨hp1,hp2⟩:=ns_pos _ _ h.1.symm;have hx:=attrs_CX _ _ _ _ _ ha hg (ok_names hp2) q.length (by omega) (by omega);have hd:¬ 8≤d:=by have:=(node_facts hp2).1; simp only at this; omega
           rw [elemX,if_neg (by simp; omega),if_neg hne,← hux.2,hx]
           simp only
           have hib:innB m (d+1) [] [] r3=some (t,ks,r4):=by
            unfold innB;rw [hu2]
            simpa using hi
           simp only [List.length_cons] at hl2
           have:=cont_CX m ⟨d,nm,ps,[]⟩ d c [] [] r3 t ks r4 r5 hib hcl (fun z hz=>hok z (by rw [← h.1]; exact List.mem_cons_of_mem _ hz)) (by have e:=congrArg List.length h.1; simp at e; omega) n' (by omega)
           rw [← hux.1,this,← h.1,← h.2]
theorem cont_CX:∀ (m:Nat) (x:Nd) (d c:Nat) (txt:List UInt8) (kids:List Nd) (s t:List UInt8) (ks:List Nd) (r4 r5:List UInt8),innB m (d+1) txt kids s=some (t,ks,r4) → closeC x.name r4=some r5 → (∀ z ∈ ks,nodeOk z=true) → c+1+ks.length≤200 → ∀ n,s.length+1 < n → contX n x d c txt kids s=some ({ x with text:=t } :: ks,r5)
 | 0,_,_,_,_,_,_,_,_,_,_,h,_,_,_,_,_=>by
  unfold innB at h
  split at h
  ·cases h
  ·rw [innC] at h; cases h
 | m+1,x,d,c,txt,kids,s,t,ks,r4,r5,h,hcl,hok,hc,n,hn=>by
  obtain ⟨n',rfl⟩:∃ n',n=n'+1:=⟨n - 1,by omega⟩
  unfold innB at h
  cases hu:upP (·==60) s with
  | none=>rw [hu] at h; cases h
  | some xy =>
   obtain ⟨a,y⟩:=xy;rw [hu] at h;simp only at h;obtain ⟨q,rfl,hl⟩:=up_eq hu;obtain ⟨_,_,h3,h4⟩:=up_split hu;rw [contX,← h4]
   simp only
   rw [← h3]
   cases hp:preX [60,47] (60 :: q) with
   | true =>
    rw [innC,if_pos hp] at h;have h47:q.head? = some 47:=by rw [pre_two] at hp; exact of_decide_eq_true hp
    rw [if_pos h47]
    cases hr:readX (xtrim (txt++a)) with
    | none=>rw [hr] at h; cases h
    | some u =>
     rw [hr] at h;simp only [Option.map_some,Option.some.injEq,Prod.mk.injEq] at h;obtain ⟨rfl,rfl,rfl⟩:=h;obtain ⟨k1,k2⟩:=close_of hcl;rw [if_neg (fun e=>e k1),k2];simp only [Option.map_some];rw [read_trim hr]
   | false =>
    have h47:¬ q.head? = some 47:=fun e=>by rw [pre_two,e] at hp; simp at hp
    rw [if_neg h47];rw [innC_go hp] at h
    cases he:elemC m (d+1) (60 :: q) with
    | none=>rw [he] at h; cases h
    | some kr =>
     obtain ⟨k2,r⟩:=kr;rw [he] at h;simp only at h;have hel:=elemC_len _ _ _ _ _ he;obtain ⟨k3,hk3⟩:=innB_pre h;rw [List.append_assoc] at hk3;simp only [List.length_cons] at hel hl;have hx:=elem_CX m (d+1) (c+1+kids.length) (60 :: q) k2 r he (fun z hz=>hok z (by rw [hk3]; simp [hz])) (by have e:=congrArg List.length hk3; simp at e; omega) n' (by simp only [List.length_cons]; omega);rw [hx]
     simp only
     exact cont_CX m x d c _ _ _ _ _ _ _ h hcl hok hc n' (by omega)
end
def parseD (o:Option (List Nd)):List Nd × Int:=match o with | none=>([],130) | some l=>(l,0)
theorem parseC_is (s:List UInt8):parseX s=if 4096 < s.length then ([],2) else parseD (docC s):=by
 unfold parseX;by_cases h:4096 < s.length
 ·rw [if_pos h,if_pos h]
 ·rw [if_neg h,if_neg h]
  have hh:bodyX s=headC s:=by
   unfold bodyX headC;by_cases h5:s.take 5=[60,63,120,109,108]
   ·rw [if_pos h5,if_pos (show preX [60,63,120,109,108] s=true from decide_eq_true h5)];have ef:(fun b:UInt8=>!(b==63))=(· != 63):=rfl
    cases hu:upP (·==63) (s.drop 5) with
    | none=>rw [up_none hu]; rfl
    | some xy =>
     obtain ⟨x,y⟩:=xy;obtain ⟨q,rfl,_⟩:=up_eq hu;obtain ⟨_,_,_,h4⟩:=up_split hu;rw [← h4]
     simp only
     by_cases hp:List.take 2 (63 :: q)=[63,62]
     ·rw [if_pos hp,if_neg (by rw [show preX [63,62] (63 :: q)=true from decide_eq_true hp]; simp)]
     ·rw [if_neg hp,if_pos (show preX [63,62] (63 :: q)=false from decide_eq_false hp)]
   ·rw [if_neg h5,if_neg (by rw [show preX [60,63,120,109,108] s=false from decide_eq_false h5]; simp)]
  rw [hh];unfold docC parseD
  cases hr:headC s with
  | none=>rfl
  | some r =>
   have hrl:=headC_len hr;have hdl:=dw_len xblk r
   simp only
   unfold bodyC
   cases hx:elemX (s.length+1) 0 0 (r.dropWhile xblk) with
   | some lr =>
    obtain ⟨l,r2⟩:=lr;rw [elem_XC _ _ _ _ _ _ hx (r.length+1) (by omega)]
    simp only
    by_cases hb:r2.dropWhile xblk=[]
    ·rw [hb];by_cases hk:checkX l=0
     ·rw [if_pos ⟨rfl,hk⟩,if_neg (by simp),if_pos hk]
     ·rw [if_neg (fun e=>hk e.2),if_neg (by simp),if_neg hk]
    ·rw [if_neg (fun e=>hb e.1)];have he:(r2.dropWhile xblk).isEmpty=false:=by simpa using hb
     rw [if_pos he]
   | none =>
    simp only
    cases hc:elemC (r.length+1) 0 (r.dropWhile xblk) with
    | none=>rfl
    | some lr =>
     obtain ⟨l,r2⟩:=lr
     simp only
     split
     ·rfl
     ·next hb =>
      by_cases hk:checkX l=0
      ·exfalso
       obtain ⟨h1,h2,h3,h4⟩:=checkX_ok hk
       have hall:∀ x ∈ l,nodeOk x=true:=fun x hx=>by
        obtain ⟨i,hi,rfl⟩:=List.mem_iff_getElem.1 hx;exact ((steps_iff l).1 h4 i hi).2.1
       have:=elem_CX _ _ 0 _ _ _ hc hall (by omega) (s.length+1) (by omega)
       rw [hx] at this; cases this
      ·rw [if_neg hk] at hb
       split at hb <;> cases hb
end Go.Proofs.YtdbalahkmeknaaaGreatDoor
