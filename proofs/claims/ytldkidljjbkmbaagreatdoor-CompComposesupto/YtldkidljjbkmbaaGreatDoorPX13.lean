/-
  UPrint, Six, URest, UParse.
-/
import Derived.Test.YtldkidljjbkmbaaGreatDoorPX12
set_option linter.unusedVariables false
set_option linter.unusedSimpArgs false
set_option maxRecDepth 20000
namespace Go.Proofs.YtldkidljjbkmbaaGreatDoor
open Go.RowKit Sc
set_option maxHeartbeats 4000000 in
set_option maxRecDepth 100000 in
theorem print_ok (u:Uri) (p h:Value) (w:World) (hsm:SmallU 140737488355328 u) (hp:ParsAt w p u.params) (hh:ParsAt w h u.headers) (hok:checkV u=0) :
  Calls Tryz.prog 80 #[uriV u p h] w fun e w'=>e=.returned (.tuple #[.string ⟨(printV u).1.toArray⟩,.int .i64 (printV u).2])∧Below w.heap.size w w':=by
 have hv:Hid (printV u=(textT u,0)):=show _=_ by rw [printV,if_pos hok]
 obtain ⟨k1,k2,k3,k4,k5,k6,k7,k8⟩:=check_ok hok;have hl1:=schemeB_ok k1;have hl3:=hostB_ok k3;have hpl:=listB_ok k6;have hhl:=listB_ok k7;have hbox:=box_new w u p h;have hbw:Below w.heap.size w (w.alloc (.cells #[.string ⟨u.scheme.toArray⟩,.string ⟨u.user.toArray⟩,.string ⟨u.host.toArray⟩,.int .i64 u.port,p,h] 97)):=(Below.refl _ w).alloc (Nat.le_refl _) _;have hws:w.heap.size < (w.alloc (.cells #[.string ⟨u.scheme.toArray⟩,.string ⟨u.user.toArray⟩,.string ⟨u.host.toArray⟩,.int .i64 u.port,p,h] 97)).heap.size:=by simp
 have el:=escLn usersK u.user;have dl:=digL_len19 (n:=u.port.toNat) (by omega);have pl:=wrT_len [59] [59] paramsK u.params (by simp) (by simp) hpl.2;have hl:=wrT_len [63] [38] headersK u.headers (by simp) (by simp) hhl.2
 have W1:∀ w',Below w.heap.size w w' → Calls Tryz.prog 116 #[p,.string ⟨#[59]⟩,.string ⟨#[59]⟩,.string ⟨#[91,93,47,58,38,43,36]⟩] w' fun e w''=>e=.returned (.string ⟨(wrT [59] [59] paramsK u.params).toArray⟩)∧Below w'.heap.size w' w'':=fun w' hb =>
  wr_any p u.params [59] [59] paramsK w' hpl.1 hpl.2 (by simp) (by simp) (by decide) (hp.below hb)
 have W2:∀ w',Below w.heap.size w w' → Calls Tryz.prog 116 #[h,.string ⟨#[63]⟩,.string ⟨#[38]⟩,.string ⟨#[91,93,47,63,58,43,36]⟩] w' fun e w''=>e=.returned (.string ⟨(wrT [63] [38] headersK u.headers).toArray⟩)∧Below w'.heap.size w' w'':=fun w' hb =>
  wr_any h u.headers [63] [38] headersK w' hhl.1 hhl.2 (by simp) (by simp) (by decide) (hh.below hb)
 have hfin:textT u=frontT u++wrT [59] [59] paramsK u.params++wrT [63] [38] headersK u.headers:=by rw [wrT_pars,wrT_hdr]; rfl
 have HFIN:Hid _:=hfin; clear hfin
 have hp16:=hpl.1;have hh16:=hhl.1;clear k1 k3 k6 k7 k8 hpl hhl;generalize wrT [59] [59] paramsK u.params=T1 at pl W1 HFIN;generalize wrT [63] [38] headersK u.headers=T2 at hl W2 HFIN;have WW1:Hid _:=W1; clear W1
 have WW2:Hid _:=W2; clear W2
 unfold uriV
 go_enter Tryz.func80,Tryz.ntmps80
 go_wp2_with fail
 refine (check_any u p h _ hsm (hp.below hbw) (hh.below hbw)).mono ?_
 rintro e w2 ⟨rfl,hw2⟩;rw [hok];have hb2:=hbw.trans (hw2.mono hbw.size);have hx2:=hbox.below hw2 hws;have hs2:w.heap.size < w2.heap.size:=Nat.lt_of_lt_of_le hws hw2.size;obtain ⟨g0,g1,g2,g3,g4,g5⟩:=hx2;have hx2:Hid (BoxU w2 w.heap.size u p h):=⟨g0,g1,g2,g3,g4,g5⟩
 clear hbox hbw hws hw2 hok hp hh;by_cases eu:u.user=[]
 ·have hue:u.user.isEmpty=true:=by simp [eu]
  by_cases ep:u.port=0
  ·have hpe:(u.port != 0)=false:=by simp [ep]
   have hpe2:(u.port==0)=true:=by simp [ep]
   have hfr:Hid (frontT u=u.scheme++[58]++u.host):=show _=_ by simp [frontT,eu,ep]
   clear eu ep;go_wp2_with fail
   refine (WW1.out _ hb2).mono ?_
   rintro e w3 ⟨rfl,hw3⟩;have hb3:=hb2.trans (hw3.mono hb2.size);have hx3:=hx2.out.below hw3 hs2;clear g0 g1 g2 g3 g4 g5 hx2 hs2 hw3;obtain ⟨g0,g1,g2,g3,g4,g5⟩:=hx3;go_wp2_with fail
   refine (WW2.out _ hb3).mono ?_
   rintro e w4 ⟨rfl,hw4⟩;have hb4:=hb3.trans (hw4.mono hb3.size);clear hw4;go_wp2;go_ret2;exact ⟨ret_prb hv.out (by rw [HFIN.out,hfr.out]; simp only [← appL,ByteArray.append_assoc]),hb4⟩
  ·have hpe:(u.port != 0)=true:=by simpa using ep
   have hpe2:(u.port==0)=false:=by simpa using ep
   have hfr:Hid (frontT u=u.scheme++[58]++u.host++([58]++digL u.port.toNat)):=show _=_ by simp [frontT,eu,ep]
   clear eu ep;go_wp2_with fail
   refine (digits_int u.port _ k4 k5).mono ?_
   rintro e wd ⟨rfl,hwd⟩;have hbd:=hb2.trans (hwd.mono hb2.size);have hxd:=hx2.out.below hwd hs2;have hsd:w.heap.size < wd.heap.size:=Nat.lt_of_lt_of_le hs2 hwd.size;clear g0 g1 g2 g3 g4 g5 hx2 hs2 hwd;obtain ⟨g0,g1,g2,g3,g4,g5⟩:=hxd;have hxd:Hid (BoxU wd w.heap.size u p h):=⟨g0,g1,g2,g3,g4,g5⟩
   go_wp2_with fail
   refine (WW1.out _ hbd).mono ?_
   rintro e w3 ⟨rfl,hw3⟩;have hb3:=hbd.trans (hw3.mono hbd.size);have hx3:=hxd.out.below hw3 hsd;clear g0 g1 g2 g3 g4 g5 hxd hsd hw3;obtain ⟨g0,g1,g2,g3,g4,g5⟩:=hx3;go_wp2_with fail
   refine (WW2.out _ hb3).mono ?_
   rintro e w4 ⟨rfl,hw4⟩;have hb4:=hb3.trans (hw4.mono hb3.size);clear hw4;go_wp2;go_ret2;exact ⟨ret_prb hv.out (by rw [HFIN.out,hfr.out]; simp only [← appL,ByteArray.append_assoc]),hb4⟩
 ·have hue:u.user.isEmpty=false:=by simpa using eu
  have hes:=fun w'=>esc_list u.user usersK w' (by omega) (by decide);have HES:Hid _:=hes; clear hes
  by_cases ep:u.port=0
  ·have hpe:(u.port != 0)=false:=by simp [ep]
   have hpe2:(u.port==0)=true:=by simp [ep]
   have hfr:Hid (frontT u=u.scheme++[58]++(escL usersK u.user++[64])++u.host):=show _=_ by simp [frontT,eu,ep]
   clear eu ep;go_wp2_with fail
   refine (HES.out _).mono ?_
   rintro e we ⟨rfl,hwe⟩;have hbe:=hb2.trans (hwe.mono hb2.size);have hxe:=hx2.out.below hwe hs2;have hse:w.heap.size < we.heap.size:=Nat.lt_of_lt_of_le hs2 hwe.size;clear g0 g1 g2 g3 g4 g5 hx2 hs2 hwe;obtain ⟨g0,g1,g2,g3,g4,g5⟩:=hxe;have hxe:Hid (BoxU we w.heap.size u p h):=⟨g0,g1,g2,g3,g4,g5⟩
   go_wp2_with fail
   refine (WW1.out _ hbe).mono ?_
   rintro e w3 ⟨rfl,hw3⟩;have hb3:=hbe.trans (hw3.mono hbe.size);have hx3:=hxe.out.below hw3 hse;clear g0 g1 g2 g3 g4 g5 hxe hse hw3;obtain ⟨g0,g1,g2,g3,g4,g5⟩:=hx3;go_wp2_with fail
   refine (WW2.out _ hb3).mono ?_
   rintro e w4 ⟨rfl,hw4⟩;have hb4:=hb3.trans (hw4.mono hb3.size);clear hw4;go_wp2;go_ret2;exact ⟨ret_prb hv.out (by rw [HFIN.out,hfr.out]; simp only [← appL,ByteArray.append_assoc]),hb4⟩
  ·have hpe:(u.port != 0)=true:=by simpa using ep
   have hpe2:(u.port==0)=false:=by simpa using ep
   have hfr:Hid (frontT u=u.scheme++[58]++(escL usersK u.user++[64])++u.host++([58]++digL u.port.toNat)):=show _=_ by simp [frontT,eu,ep]
   clear eu ep;go_wp2_with fail
   refine (HES.out _).mono ?_
   rintro e we ⟨rfl,hwe⟩;have hbe:=hb2.trans (hwe.mono hb2.size);have hxe:=hx2.out.below hwe hs2;have hse:w.heap.size < we.heap.size:=Nat.lt_of_lt_of_le hs2 hwe.size;clear g0 g1 g2 g3 g4 g5 hx2 hs2 hwe;obtain ⟨g0,g1,g2,g3,g4,g5⟩:=hxe;have hxe:Hid (BoxU we w.heap.size u p h):=⟨g0,g1,g2,g3,g4,g5⟩
   go_wp2_with fail
   refine (digits_int u.port _ k4 k5).mono ?_
   rintro e wd ⟨rfl,hwd⟩;have hbd:=hbe.trans (hwd.mono hbe.size);have hxd:=hxe.out.below hwd hse;have hsd:w.heap.size < wd.heap.size:=Nat.lt_of_lt_of_le hse hwd.size;clear g0 g1 g2 g3 g4 g5 hxe hse hwd;obtain ⟨g0,g1,g2,g3,g4,g5⟩:=hxd;have hxd:Hid (BoxU wd w.heap.size u p h):=⟨g0,g1,g2,g3,g4,g5⟩
   go_wp2_with fail
   refine (WW1.out _ hbd).mono ?_
   rintro e w3 ⟨rfl,hw3⟩;have hb3:=hbd.trans (hw3.mono hbd.size);have hx3:=hxd.out.below hw3 hsd;clear g0 g1 g2 g3 g4 g5 hxd hsd hw3;obtain ⟨g0,g1,g2,g3,g4,g5⟩:=hx3;go_wp2_with fail
   refine (WW2.out _ hb3).mono ?_
   rintro e w4 ⟨rfl,hw4⟩;have hb4:=hb3.trans (hw4.mono hb3.size);clear hw4;go_wp2;go_ret2;exact ⟨ret_prb hv.out (by rw [HFIN.out,hfr.out]; simp only [← appL,ByteArray.append_assoc]),hb4⟩
theorem print_any (u:Uri) (p h:Value) (w:World) (hsm:SmallU 140737488355328 u) (hp:ParsAt w p u.params) (hh:ParsAt w h u.headers) :
  Calls Tryz.prog 80 #[uriV u p h] w fun e w'=>e=.returned (.tuple #[.string ⟨(printV u).1.toArray⟩,.int .i64 (printV u).2])∧Below w.heap.size w w':=by
 by_cases hok:checkV u=0
 ·exact print_ok u p h w hsm hp hh hok
 ·exact print_bad u p h w hsm hp hh hok
end Go.Proofs.YtldkidljjbkmbaaGreatDoor
namespace Go.Proofs.YtldkidljjbkmbaaGreatDoor
open Go.RowKit
structure Six (w:World) (b:Nat) (v0 v1 v2 v3 v4 v5:Value):Prop where
 c0:w.cell? ⟨b,0,none⟩=some v0
 c1:w.cell? ⟨b,1,none⟩=some v1
 c2:w.cell? ⟨b,2,none⟩=some v2
 c3:w.cell? ⟨b,3,none⟩=some v3
 c4:w.cell? ⟨b,4,none⟩=some v4
 c5:w.cell? ⟨b,5,none⟩=some v5
 f0:w.frozen? ⟨b,0,none⟩=false
 f1:w.frozen? ⟨b,1,none⟩=false
 f2:w.frozen? ⟨b,2,none⟩=false
 f3:w.frozen? ⟨b,3,none⟩=false
 f4:w.frozen? ⟨b,4,none⟩=false
 f5:w.frozen? ⟨b,5,none⟩=false
theorem RowIs.six {w:World} {b:Nat} {e:TypeId} {v0 v1 v2 v3 v4 v5:Value} (h:RowIs w b e [v0,v1,v2,v3,v4,v5]):Six w b v0 v1 v2 v3 v4 v5 :=
 ⟨h.cell 0 (by simp),h.cell 1 (by simp),h.cell 2 (by simp),h.cell 3 (by simp),h.cell 4 (by simp),h.cell 5 (by simp),h.frozen 0,h.frozen 1,h.frozen 2,h.frozen 3,h.frozen 4,h.frozen 5⟩
theorem row_store {w:World} {b:Nat} {e:TypeId} {u0 u1 u2 u3 u4 u5:Value} (h:RowIs w b e [u0,u1,u2,u3,u4,u5]) (v0 v1 v2 v3 v4 v5:Value) :
  RowIs ((((((w.setCell ⟨b,0,none⟩ v0).setCell ⟨b,1,none⟩ v1).setCell ⟨b,2,none⟩ v2).setCell ⟨b,3,none⟩ v3).setCell ⟨b,4,none⟩ v4).setCell ⟨b,5,none⟩ v5) b e [v0,v1,v2,v3,v4,v5]:=by
 have:=(((((h.set 0 v0).set 1 v1).set 2 v2).set 3 v3).set 4 v4).set 5 v5
 simpa using this
theorem store_below {B:Nat} {a w:World} (h:Below B a w) (b:Nat) (hb:B≤b) (v0 v1 v2 v3 v4 v5:Value) :
  Below B a ((((((w.setCell ⟨b,0,none⟩ v0).setCell ⟨b,1,none⟩ v1).setCell ⟨b,2,none⟩ v2).setCell ⟨b,3,none⟩ v3).setCell ⟨b,4,none⟩ v4).setCell ⟨b,5,none⟩ v5) :=
 (((((h.setCell hb _).setCell hb _).setCell hb _).setCell hb _).setCell hb _).setCell hb _
theorem add_at (g o k:Nat):(⟨g,o,none⟩:Addr).add k=⟨g,o+k,none⟩:=by unfold Addr.add; split <;> simp_all
end Go.Proofs.YtldkidljjbkmbaaGreatDoor
namespace Go.Proofs.YtldkidljjbkmbaaGreatDoor
open Go.RowKit Sc
def zeroU:List Value:=[.string ⟨#[]⟩,.string ⟨#[]⟩,.string ⟨#[]⟩,.int .i64 0,.slice none 0 0,.slice none 0 0]
theorem rowU_new (w:World):RowIs (w.alloc (.cells #[.string ⟨#[]⟩,.string ⟨#[]⟩,.string ⟨#[]⟩,.int .i64 0,.slice none 0 0,.slice none 0 0] 97)) w.heap.size 97 zeroU:=by
 unfold RowIs; rw [heap_alloc_new]; rfl
theorem OwnP.mono {w:World} {B C:Nat} {v:Value} {ps:List Par} (h:OwnP w B v ps) (hc:C≤B):OwnP w C v ps:=by
 obtain ⟨h1,h2⟩:=h;refine ⟨h1,?_⟩
 rcases h2 with h2 | ⟨g,cap,cur,hv,hg,r⟩
 ·exact Or.inl h2
 ·exact Or.inr ⟨g,cap,cur,hv,Nat.le_trans hc hg,r⟩
theorem OwnP.store {w:World} {B:Nat} {v:Value} {ps:List Par} (h:OwnP w B v ps) {b:Nat} (hb:b < B) (v0 v1 v2 v3 v4 v5:Value) :
  OwnP ((((((w.setCell ⟨b,0,none⟩ v0).setCell ⟨b,1,none⟩ v1).setCell ⟨b,2,none⟩ v2).setCell ⟨b,3,none⟩ v3).setCell ⟨b,4,none⟩ v4).setCell ⟨b,5,none⟩ v5) B v ps :=
 ownsRow_setCell_below (ownsRow_setCell_below (ownsRow_setCell_below (ownsRow_setCell_below (ownsRow_setCell_below (ownsRow_setCell_below h hb _) hb _) hb _) hb _) hb _) hb _
theorem strs_none (w:World) (ao:Option Addr) (cap:Nat):StrsAt w (.slice ao 0 cap) []:=⟨ao,cap,rfl,fun k hk=>by simp at hk⟩
theorem strs_tail {w2 w3:World} {g cap:Nat} {p0:List UInt8} {ps:List (List UInt8)} (HC:∀ j (hj:j < (p0 :: ps).length),w2.cell? ⟨g,j,none⟩=some (.string ⟨((p0 :: ps)[j]).toArray⟩)) (hg:g < w2.heap.size) (hb:Below w2.heap.size w2 w3) :
  StrsAt w3 (.slice (some ⟨g,1,none⟩) ps.length cap) ps:=by
 refine ⟨_,_,rfl,fun k hk=>⟨_,rfl,Nat.lt_of_lt_of_le hg hb.size,?_⟩⟩
 have h:=HC (k+1) (by simpa using hk);rw [add_at,hb.cell (by exact hg),Nat.add_comm 1 k,h]
 simp
theorem strs_all {w2:World} {g cap:Nat} {p0:List UInt8} {ps:List (List UInt8)} (HC:∀ j (hj:j < (p0 :: ps).length),w2.cell? ⟨g,j,none⟩=some (.string ⟨((p0 :: ps)[j]).toArray⟩)) (hg:g < w2.heap.size) :
  StrsAt w2 (.slice (some ⟨g,0,none⟩) (ps.length+1) cap) (p0 :: ps):=by
 refine ⟨_,_,rfl,fun k hk=>⟨_,rfl,hg,?_⟩⟩
 rw [add_at,Nat.zero_add]; exact HC k hk
theorem fields_of (v:Value) (ls:List (List UInt8)) (keep:List UInt8) (w:World) (hk:keep.length≤64) (hn:ls.length≤1048641) (hl:∀ l ∈ ls,l.length≤1048640) (hv:StrsAt w v ls) :
  Calls Tryz.prog 111 #[v,.string ⟨keep.toArray⟩] w fun e w'=>∃ v' b,e=.returned (.tuple #[v',.bool b])∧((∃ ps,parsOf keep ls=some ps∧b=true∧OwnP w' w.heap.size v' ps)∨(parsOf keep ls=none∧b=false∧v'=.slice none 0 0))∧Below w.heap.size w w':=fields_any v ls keep w hk hn hl hv
theorem rest_of {s ca cb p0 wh:List UInt8} {cc:Bool} {ps0:List (List UInt8)} {wp we:Int} (h1:cutL 63 s=(ca,cb,cc)) (h2:splitL 59 ca=p0 :: ps0) (h3:whereV p0=(wh,wp,we)) :
  restV s=if we ≠ 0 then (noU,we) else fillV (wh,wp,we) (parsOf paramsK ps0) (headsV cc cb):=by
 unfold restV;simp only [h1,h2,h3,List.headD_cons,List.tail_cons]
theorem strCut_of {r a b:List UInt8} {f:Bool} {c:UInt8} (h:cutL c r=(a,b,f)) (w:World) (hs:r.length≤9223372036854775807) :
  Calls Tryz.prog 74 #[.string ⟨r.toArray⟩,.string ⟨#[c]⟩] w fun e w'=>e=.returned (.tuple #[.string ⟨a.toArray⟩,.string ⟨b.toArray⟩,.bool f])∧Below w.heap.size w w':=by
 have k:=strCut_list r c w hs;rw [h] at k;refine k.mono ?_
 rintro e w' ⟨rfl,q,rfl⟩;exact ⟨rfl,below_drewN w q⟩
theorem strSplit_of {l p0:List UInt8} {ps:List (List UInt8)} {c:UInt8} (h:splitL c l=p0 :: ps) (w:World) (hs:l.length≤1048640) :
  Calls Tryz.prog 109 #[.string ⟨l.toArray⟩,.string ⟨#[c]⟩] w fun e w'=>∃ g cap,e=.returned (.slice (some ⟨g,0,none⟩) (ps.length+1) cap)∧ps.length+1≤cap∧g < w'.heap.size∧(∀ j (hj:j < (p0 :: ps).length),w'.cell? ⟨g,j,none⟩=some (.string ⟨((p0 :: ps)[j]).toArray⟩))∧Below w.heap.size w w':=by
 have k:=strSplit_any ⟨l.toArray⟩ c w (by rw [size_list]; exact hs);refine k.mono ?_
 rintro e w' ⟨v,rfl,hown,hb⟩;have hown2:Own w' w.heap.size 9 v (strs (p0 :: ps)):=by rw [← h]; exact hown
 obtain ⟨g,cap,rfl,hc⟩:=own_strs hown2 (by simp)
 have hcap:ps.length+1≤cap∧g < w'.heap.size:=by
  rcases hown2.2 with ⟨e,_⟩ | ⟨g',cap',cur,e,hB,hg,h1,h2,h3,h4⟩
  ·simp at e
  ·simp only [Value.slice.injEq,Option.some.injEq,Addr.mk.injEq] at e;obtain ⟨⟨rfl,_⟩,_,rfl⟩:=e;rw [strs_length] at h1;refine ⟨h1,?_⟩
   apply Classical.byContradiction
   intro hge;rw [Array.getElem?_eq_none (by omega)] at hg
   cases hg
 exact ⟨g,cap,rfl,hcap.1,hcap.2,hc,hb⟩
theorem where_of {l wh:List UInt8} {wp we:Int} (h:whereV l=(wh,wp,we)) (w:World) (hs:l.length≤1048640) :
  Calls Tryz.prog 110 #[.string ⟨l.toArray⟩] w fun e w'=>e=.returned (.tuple #[.string ⟨wh.toArray⟩,.int .i64 wp,.int .i64 we])∧Below w.heap.size w w':=by
 have k:=where_any ⟨l.toArray⟩ w (by rw [size_list]; omega);have k2:Calls Tryz.prog 110 #[.string ⟨l.toArray⟩] w fun e w'=>e=.returned (.tuple #[.string ⟨(whereV l).1.toArray⟩,.int .i64 (whereV l).2.1,.int .i64 (whereV l).2.2])∧Below w.heap.size w w':=k;rw [h] at k2;exact k2
set_option maxHeartbeats 2000000 in
set_option maxRecDepth 100000 in
theorem readRest_any (s:List UInt8) (w:World) (hs:s.length≤1048640) :
  Calls Tryz.prog 78 #[.string ⟨s.toArray⟩] w fun e w'=>∃ p h,e=.returned (.tuple #[uriV (restV s).1 p h,.int .i64 (restV s).2])∧OwnP w' w.heap.size p (restV s).1.params∧OwnP w' w.heap.size h (restV s).1.headers∧Below w.heap.size w w':=by
 have hcl:=cutL_len 63 s;obtain ⟨ca,cb,cc,hcut⟩:∃ ca cb cc,cutL 63 s=(ca,cb,cc):=⟨_,_,_,rfl⟩
 obtain ⟨p0,ps0,hp0⟩:=splitL_cons 59 ca;obtain ⟨wh,wp,we,hwv⟩:∃ wh wp we,whereV p0=(wh,wp,we):=⟨_,_,_,rfl⟩
 have hv:=rest_of hcut hp0 hwv;rw [hcut] at hcl;simp only at hcl;have hmem:=splitL_mem_len 59 ca;have hcnt:=splitL_len 59 ca;rw [hp0] at hmem hcnt;have hp0l:=hmem p0 (by simp);have HM:Hid _:=hmem; clear hmem
 have hcnt2:ps0.length≤1048640:=by simp at hcnt; omega
 clear hcnt;have hr0:=rowU_new w;have hb0:Below w.heap.size w (w.alloc (.cells #[.string ⟨#[]⟩,.string ⟨#[]⟩,.string ⟨#[]⟩,.int .i64 0,.slice none 0 0,.slice none 0 0] 97)):=(Below.refl _ w).alloc (Nat.le_refl _) _;have hlt0:w.heap.size < (w.alloc (.cells #[.string ⟨#[]⟩,.string ⟨#[]⟩,.string ⟨#[]⟩,.int .i64 0,.slice none 0 0,.slice none 0 0] 97)).heap.size:=by simp
 have KC:=fun w'=>strCut_of hcut w' (by omega);have KS:=fun w'=>strSplit_of hp0 w' (by omega);have KW:=fun w'=>where_of hwv w' (by omega);have HKC:Hid _:=KC; clear KC
 have HKS:Hid _:=KS; clear KS
 have HKW:Hid _:=KW; clear KW
 clear hcut hp0 hwv;have HV:Hid _:=hv; clear hv
 go_enter Tryz.func78,Tryz.ntmps78
 go_wp2_with fail
 refine (HKC.out _).mono ?_
 rintro e w1 ⟨rfl,hw1⟩;have hr1:=hr0.below hw1 hlt0;have hb1:=hb0.trans (hw1.mono hb0.size);have hlt1:=Nat.lt_of_lt_of_le hlt0 hw1.size;clear hr0 hb0 hlt0 hw1;go_wp2_with fail
 refine (HKS.out _).mono ?_
 rintro e w2 ⟨g,cap,rfl,hcap,hgl,hcells,hw2⟩;have hg0:=hcells 0 (by simp);simp only [List.getElem_cons_zero] at hg0;have hr2:=hr1.below hw2 hlt1;have hb2:=hb1.trans (hw2.mono hb1.size);have hlt2:=Nat.lt_of_lt_of_le hlt1 hw2.size;clear hr1 hb1 hlt1 hw2;have HC:Hid _:=hcells; clear hcells
 go_wp2_with fail
 refine (HKW.out _).mono ?_
 rintro e w3 ⟨rfl,hw3⟩;have hr3:=hr2.below hw3 hlt2;have hb3:=hb2.trans (hw3.mono hb2.size);have hlt3:=Nat.lt_of_lt_of_le hlt2 hw3.size;have HSA:Hid (StrsAt w3 (.slice (some ⟨g,1,none⟩) ps0.length (cap - 1)) ps0):=strs_tail HC.out hgl hw3;have HSB:Hid (ps0=[] → StrsAt w3 (.slice (some ⟨g,0,none⟩) ps0.length 0) ps0):=fun h=>by subst h; exact strs_none _ _ _
 have HMT:Hid (∀ l ∈ ps0,l.length≤1048640):=fun l hl=>by have:=HM.out l (by simp [hl]); omega
 clear hw3 hgl;clear hr2 hb2 hlt2 HKC HKS HKW hg0;obtain ⟨c0,c1,c2,c3,c4,c5,f0,f1,f2,f3,f4,f5⟩:=hr3.six;by_cases hwe:we=0
 ·subst hwe;have hvv:Hid (restV s=fillV (wh,wp,0) (parsOf paramsK ps0) (headsV cc cb)):=show _=_ by rw [HV.out,if_neg (by simp)]
  clear HV;obtain ⟨q0,qs0,hq0⟩:=splitL_cons 38 cb;have hmem:=splitL_mem_len 38 cb;have hcnt:=splitL_len 38 cb;rw [hq0] at hmem hcnt;have HQM:Hid (∀ l ∈ q0 :: qs0,l.length≤1048640):=fun l hl=>by have:=hmem l hl; omega
  have hqn:(q0 :: qs0).length≤1048641:=by omega
  have KS:=fun w'=>strSplit_of hq0 w' (by omega);have HKS:Hid _:=KS;have hhv:headsV true cb=parsOf headersK (q0 :: qs0):=by rw [headsV,if_pos rfl,hq0]
  have HHV:Hid _:=hhv;clear KS hmem hcnt hq0 hhv;go_wp2_with fail
  all_goals (
   refine (fields_of _ ps0 paramsK w3 (by decide) (by omega) HMT.out ?hstr).mono ?_
   case hstr=>first | with_reducible exact HSA.out | exact HSB.out (List.eq_nil_of_length_eq_zero (by omega))
   rintro e w4 ⟨v1,b1,rfl,hres,hw4⟩;have hr4:=hr3.below hw4 hlt3;have hb4:=hb3.trans (hw4.mono hb3.size);have hlt4:=Nat.lt_of_lt_of_le hlt3 hw4.size;clear c0 c1 c2 c3 c4 c5 f0 f1 f2 f3 f4 f5 hw4;obtain ⟨c0,c1,c2,c3,c4,c5,f0,f1,f2,f3,f4,f5⟩:=hr4.six
   rcases hres with ⟨ps1,hp1,rfl,hown1⟩ | ⟨hp1,rfl,rfl⟩
   ·obtain ⟨a1,k1,rfl⟩:=hown1.parsAt.form;have hown1':Hid (OwnP w4 (w.heap.size+1) (.slice a1 ps1.length k1) ps1):=OwnP.mono hown1 (by omega);clear hown1
    cases cc with
    | false =>
     have hvv2:Hid (restV s=(⟨[],[],wh,wp,ps1,[]⟩,0)):=show _=_ by rw [hvv.out,hp1]; rfl
     clear hp1 hvv;go_wp2;have hr5:=row_store hr4 (.string ⟨#[]⟩) (.string ⟨#[]⟩) (.string ⟨wh.toArray⟩) (.int .i64 wp) (.slice a1 ps1.length k1) (.slice none 0 0);have hb5:=store_below hb4 w.heap.size (Nat.le_refl _) (.string ⟨#[]⟩) (.string ⟨#[]⟩) (.string ⟨wh.toArray⟩) (.int .i64 wp) (.slice a1 ps1.length k1) (.slice none 0 0);have ho5:=(OwnP.store hown1'.out (Nat.lt_succ_self _) (.string ⟨#[]⟩) (.string ⟨#[]⟩) (.string ⟨wh.toArray⟩) (.int .i64 wp) (.slice a1 ps1.length k1) (.slice none 0 0)).mono (Nat.le_succ w.heap.size);generalize World.setCell _ _ _=w5 at hr5 hb5 ho5 ⊢;obtain ⟨d0,d1,d2,d3,d4,d5,_,_,_,_,_,_⟩:=hr5.six
     try simp only [Exit.inBlock,Exit.then]
     refine bodyPost_ret (v:=.tuple #[.agg #[.string ⟨#[]⟩,.string ⟨#[]⟩,.string ⟨wh.toArray⟩,.int .i64 wp,(.slice a1 ps1.length k1),.slice none 0 0],.int .i64 0]) (by simp [results,Tryz.results78,go_sem,d0,d1,d2,d3,d4,d5]; try rfl) rfl ?_
     exact ⟨(.slice a1 ps1.length k1),.slice none 0 0,by rw [hvv2.out]; rfl,by rw [hvv2.out]; exact ho5,by rw [hvv2.out]; exact OwnP.nil _ _,hb5⟩
    | true =>
     rw [HHV.out,hp1] at hvv;go_wp2_with fail
     refine (HKS.out _).mono ?_
     rintro e w5 ⟨g2,cap2,rfl,hcap2,hgl2,hcells2,hw5⟩;have hr5:=hr4.below hw5 hlt4;have hb5:=hb4.trans (hw5.mono hb4.size);have hlt5:=Nat.lt_of_lt_of_le hlt4 hw5.size;have ho5:Hid _:=OwnP.below hown1'.out hw5;have hs5:Hid (StrsAt w5 (.slice (some ⟨g2,0,none⟩) (qs0.length+1) cap2) (q0 :: qs0)):=strs_all hcells2 hgl2;clear hcells2 hw5 hgl2 hown1' HKS;go_wp2_with fail
     have hst:=fields_of _ (q0 :: qs0) headersK w5 (by decide) hqn HQM.out hs5.out;refine hst.mono ?_
     clear hst;rintro e w6 ⟨v2,b2,rfl,hres2,hw6⟩;have hr6:=hr5.below hw6 hlt5;have hb6:=hb5.trans (hw6.mono hb5.size);have ho6:Hid _:=OwnP.below ho5.out hw6;clear c0 c1 c2 c3 c4 c5 f0 f1 f2 f3 f4 f5 ho5 hs5 hw6;obtain ⟨c0,c1,c2,c3,c4,c5,f0,f1,f2,f3,f4,f5⟩:=hr6.six
     rcases hres2 with ⟨ps2,hp2,rfl,hown2⟩ | ⟨hp2,rfl,rfl⟩
     ·obtain ⟨a2,k2,rfl⟩:=hown2.parsAt.form;have hown2':Hid (OwnP w6 (w.heap.size+1) (.slice a2 ps2.length k2) ps2):=OwnP.mono hown2 (by omega);have hvv2:Hid (restV s=(⟨[],[],wh,wp,ps1,ps2⟩,0)):=show _=_ by rw [hvv.out,hp2]; rfl
      clear hp1 hvv hp2 HHV hown2;go_wp2;have hr7:=row_store hr6 (.string ⟨#[]⟩) (.string ⟨#[]⟩) (.string ⟨wh.toArray⟩) (.int .i64 wp) (.slice a1 ps1.length k1) (.slice a2 ps2.length k2);have hb7:=store_below hb6 w.heap.size (Nat.le_refl _) (.string ⟨#[]⟩) (.string ⟨#[]⟩) (.string ⟨wh.toArray⟩) (.int .i64 wp) (.slice a1 ps1.length k1) (.slice a2 ps2.length k2);have ho7:=(OwnP.store ho6.out (Nat.lt_succ_self _) (.string ⟨#[]⟩) (.string ⟨#[]⟩) (.string ⟨wh.toArray⟩) (.int .i64 wp) (.slice a1 ps1.length k1) (.slice a2 ps2.length k2)).mono (Nat.le_succ w.heap.size);have hq7:=(OwnP.store hown2'.out (Nat.lt_succ_self _) (.string ⟨#[]⟩) (.string ⟨#[]⟩) (.string ⟨wh.toArray⟩) (.int .i64 wp) (.slice a1 ps1.length k1) (.slice a2 ps2.length k2)).mono (Nat.le_succ w.heap.size);generalize World.setCell _ _ _=w7 at hr7 hb7 ho7 hq7 ⊢;obtain ⟨d0,d1,d2,d3,d4,d5,_,_,_,_,_,_⟩:=hr7.six
      try simp only [Exit.inBlock,Exit.then]
      refine bodyPost_ret (v:=.tuple #[.agg #[.string ⟨#[]⟩,.string ⟨#[]⟩,.string ⟨wh.toArray⟩,.int .i64 wp,(.slice a1 ps1.length k1),(.slice a2 ps2.length k2)],.int .i64 0]) (by simp [results,Tryz.results78,go_sem,d0,d1,d2,d3,d4,d5]; try rfl) rfl ?_
      exact ⟨(.slice a1 ps1.length k1),(.slice a2 ps2.length k2),by rw [hvv2.out]; rfl,by rw [hvv2.out]; exact ho7,by rw [hvv2.out]; exact hq7,hb7⟩
     ·have hvv2:Hid (restV s=(noU,34)):=show _=_ by rw [hvv.out,hp2]; rfl
      clear hp1 hvv hp2 HHV;go_wp2;have hr7:=row_store hr6 (.string ⟨#[]⟩) (.string ⟨#[]⟩) (.string ⟨#[]⟩) (.int .i64 0) (.slice none 0 0) (.slice none 0 0);have hb7:=store_below hb6 w.heap.size (Nat.le_refl _) (.string ⟨#[]⟩) (.string ⟨#[]⟩) (.string ⟨#[]⟩) (.int .i64 0) (.slice none 0 0) (.slice none 0 0);generalize World.setCell _ _ _=w7 at hr7 hb7 ⊢;obtain ⟨d0,d1,d2,d3,d4,d5,_,_,_,_,_,_⟩:=hr7.six
      try simp only [Exit.inBlock,Exit.then]
      refine bodyPost_ret (v:=.tuple #[.agg #[.string ⟨#[]⟩,.string ⟨#[]⟩,.string ⟨#[]⟩,.int .i64 0,.slice none 0 0,.slice none 0 0],.int .i64 34]) (by simp [results,Tryz.results78,go_sem,d0,d1,d2,d3,d4,d5]; try rfl) rfl ?_
      exact ⟨.slice none 0 0,.slice none 0 0,by rw [hvv2.out]; rfl,by rw [hvv2.out]; exact OwnP.nil _ _,by rw [hvv2.out]; exact OwnP.nil _ _,hb7⟩
   ·have hvv2:Hid (restV s=(noU,34)):=show _=_ by rw [hvv.out,hp1]; rfl
    clear hp1 hvv;go_wp2;have hr5:=row_store hr4 (.string ⟨#[]⟩) (.string ⟨#[]⟩) (.string ⟨#[]⟩) (.int .i64 0) (.slice none 0 0) (.slice none 0 0);have hb5:=store_below hb4 w.heap.size (Nat.le_refl _) (.string ⟨#[]⟩) (.string ⟨#[]⟩) (.string ⟨#[]⟩) (.int .i64 0) (.slice none 0 0) (.slice none 0 0);generalize World.setCell _ _ _=w5 at hr5 hb5 ⊢;obtain ⟨d0,d1,d2,d3,d4,d5,_,_,_,_,_,_⟩:=hr5.six
    try simp only [Exit.inBlock,Exit.then]
    refine bodyPost_ret (v:=.tuple #[.agg #[.string ⟨#[]⟩,.string ⟨#[]⟩,.string ⟨#[]⟩,.int .i64 0,.slice none 0 0,.slice none 0 0],.int .i64 34]) (by simp [results,Tryz.results78,go_sem,d0,d1,d2,d3,d4,d5]; try rfl) rfl ?_
    exact ⟨.slice none 0 0,.slice none 0 0,by rw [hvv2.out]; rfl,by rw [hvv2.out]; exact OwnP.nil _ _,by rw [hvv2.out]; exact OwnP.nil _ _,hb5⟩)
 ·have hwe1:(we != 0)=true:=by simpa using hwe
  have hwe2:(we==0)=false:=by simpa using hwe
  have hvv:Hid (restV s=(noU,we)):=show _=_ by rw [HV.out,if_pos hwe]
  clear HV;go_wp2;have hr4:=row_store hr3 (.string ⟨#[]⟩) (.string ⟨#[]⟩) (.string ⟨#[]⟩) (.int .i64 0) (.slice none 0 0) (.slice none 0 0);have hb4:=store_below hb3 w.heap.size (Nat.le_refl _) (.string ⟨#[]⟩) (.string ⟨#[]⟩) (.string ⟨#[]⟩) (.int .i64 0) (.slice none 0 0) (.slice none 0 0);generalize World.setCell _ _ _=w4 at hr4 hb4 ⊢;obtain ⟨d0,d1,d2,d3,d4,d5,_,_,_,_,_,_⟩:=hr4.six
  try simp only [Exit.inBlock,Exit.then]
  refine bodyPost_ret (v:=.tuple #[.agg #[.string ⟨#[]⟩,.string ⟨#[]⟩,.string ⟨#[]⟩,.int .i64 0,.slice none 0 0,.slice none 0 0],.int .i64 we]) (by simp [results,Tryz.results78,go_sem,d0,d1,d2,d3,d4,d5]; try rfl) rfl ?_
  exact ⟨.slice none 0 0,.slice none 0 0,by rw [hvv.out]; rfl,by rw [hvv.out]; exact OwnP.nil _ _,by rw [hvv.out]; exact OwnP.nil _ _,hb4⟩
theorem une_len:∀ (n:Nat) (l r:List UInt8),l.length≤n → une l=some r → r.length≤l.length
 | 0,[],r,_,h=>by simp [une] at h; subst h; simp
 | 0,_ :: _,r,hn,h=>by simp at hn
 | n+1,[],r,_,h=>by simp [une] at h; subst h; simp
 | n+1,b :: l,r,hn,h=>by
  by_cases h37:(b.toNat:Int)=37
  ·rcases l with _ | ⟨x,_ | ⟨y,l⟩⟩
   ·rw [une_short h37 (by simp)] at h; cases h
   ·rw [une_short h37 (by simp)] at h; cases h
   ·cases hx:isB x.toNat 4 && isB y.toNat 4
    ·rw [une_bad h37 hx] at h; cases h
    ·rw [Bool.and_eq_true] at hx;rw [une_hex h37 hx.1 hx.2] at h
     cases hu:une l with
     | none=>rw [hu] at h; cases h
     | some r' =>
      rw [hu] at h
      simp at h
      subst h
      have:=une_len n l r' (by simp at hn; omega) hu
      simp; omega
  ·rw [une_plain h37] at h
   cases hu:une l with
   | none=>rw [hu] at h; cases h
   | some r' =>
    rw [hu] at h
    simp at h
    subst h
    have:=une_len n l r' (by simp at hn; omega) hu
    simp; omega
theorem written_len (keep l:List UInt8):(writtenV keep l).1.length≤l.length:=by
 unfold writtenV
 split
 ·unfold unescV
  cases hu:une l with
  | none=>simp
  | some r=>exact une_len l.length l r (Nat.le_refl _) hu
 ·simp
theorem parOf_len {keep l:List UInt8} {p:Par} (h:parOf keep l=some p):p.name.length≤l.length∧p.value.length≤l.length:=by
 unfold parOf at h
 split at h
 ·simp at h
  subst h;have c:=cutL_len 61 l;have a:=written_len keep (cutL 61 l).1;have b:=written_len keep (cutL 61 l).2.1;exact ⟨by simp only; omega,by simp only; omega⟩
 ·cases h
theorem parsOf_small {keep:List UInt8} {N:Nat}:∀ (ls:List (List UInt8)) (ps:List Par),parsOf keep ls=some ps → (∀ l ∈ ls,l.length≤N) → ∀ p ∈ ps,p.name.length≤N∧p.value.length≤N
 | [],ps,h,_,p,hp=>by simp [parsOf] at h; subst h; simp at hp
 | l :: ls,ps,h,hl,p,hp=>by
  rw [parsOf] at h
  cases h1:parOf keep l with
  | none=>rw [h1] at h; simp at h
  | some q =>
   cases h2:parsOf keep ls with
   | none=>rw [h1,h2] at h; simp at h
   | some qs =>
    rw [h1,h2] at h
    simp at h
    subst h
    rcases List.mem_cons.1 hp with rfl | hp
    ·have:=parOf_len h1
     have:=hl l (by simp)
     omega
    ·exact parsOf_small ls qs h2 (fun x hx=>hl x (by simp [hx])) p hp
theorem smallP_of {keep:List UInt8} {ls:List (List UInt8)} {ps:List Par} (h:parsOf keep ls=some ps) (hn:ls.length≤1048641) (hl:∀ l ∈ ls,l.length≤1048640):SmallP 140737488355328 ps:=by
 refine ⟨by rw [parsOf_len h]; omega,fun p hp=>?_⟩
 have:=parsOf_small ls ps h hl p hp
 omega
theorem smallP_nil:SmallP 140737488355328 []:=⟨by simp,fun p hp=>by simp at hp⟩
theorem where_len (l:List UInt8):(whereV l).1.length≤l.length:=by
 unfold whereV portV
 have:(lowL (l.take (whereGo false l))).length≤l.length:=by rw [lowL_len]; exact List.length_take_le' _ _
 split
 ·split
  ·exact this
  ·split
   ·simp
   ·exact this
 ·simp
theorem rest_small {s:List UInt8} (hs:s.length≤1048640):(restV s).1.host.length≤1048640∧SmallP 140737488355328 (restV s).1.params∧SmallP 140737488355328 (restV s).1.headers:=by
 have hc:=cutL_len 63 s;obtain ⟨ca,cb,cc,hcut⟩:∃ ca cb cc,cutL 63 s=(ca,cb,cc):=⟨_,_,_,rfl⟩
 obtain ⟨p0,ps0,hp0⟩:=splitL_cons 59 ca;obtain ⟨wh,wp,we,hwv⟩:∃ wh wp we,whereV p0=(wh,wp,we):=⟨_,_,_,rfl⟩
 rw [hcut] at hc;simp only at hc;have hm:=splitL_mem_len 59 ca;have hn:=splitL_len 59 ca;have hwl:=where_len p0;rw [hwv] at hwl;rw [hp0] at hm hn;have hp0l:=hm p0 (by simp);have hnone:noU.host.length≤1048640∧SmallP 140737488355328 noU.params∧SmallP 140737488355328 noU.headers:=⟨by simp [noU],smallP_nil,smallP_nil⟩
 rw [rest_of hcut hp0 hwv]
 split
 ·exact hnone
 ·cases h1:parsOf paramsK ps0 with
  | none=>exact hnone
  | some ps =>
   have s1:=smallP_of h1 (by simp at hn; omega) (fun l hl=>by have:=hm l (by simp [hl]); omega)
   cases h2:headsV cc cb with
   | none=>exact hnone
   | some qs =>
    refine ⟨by show wh.length≤_; simp only at hwl; omega,s1,?_⟩
    show SmallP _ qs
    unfold headsV at h2
    split at h2
    ·have hm2:=splitL_mem_len 38 cb;have hn2:=splitL_len 38 cb;exact smallP_of h2 (by omega) (fun l hl=>by have:=hm2 l hl; omega)
    ·simp at h2; subst h2; exact smallP_nil
theorem user_small (s:List UInt8):(userV s).1.length≤64:=by
 unfold userV
 split
 ·split
  ·simp
  ·rename_i h
   simp only [not_or] at h
   have:=h.2.2
   simp only at this ⊢;omega
 ·simp
theorem user_rest (s:List UInt8):(userV s).2.1.length≤s.length:=by
 have hc:=cutL_len 64 s;unfold userV
 split
 ·split
  ·simp
  ·exact hc.2
 ·simp
theorem parseV_of {s ca cb us rs:List UInt8} {cc:Bool} {ue:Int} (h1:cutL 58 s=(ca,cb,cc)) (h2:userV cb=(us,rs,ue)) :
  parseV s=if cc=false∨schemeB (lowL ca)=false then (noU,30) else if ue ≠ 0 then (noU,ue) else bothV (lowL ca) us (restV rs):=by
 unfold parseV;simp only [h1,h2]
theorem cutUser_of {s us rs:List UInt8} {ue:Int} (h:userV s=(us,rs,ue)) (w:World) (hs:s.length≤1048640) :
  Calls Tryz.prog 77 #[.string ⟨s.toArray⟩] w fun e w'=>e=.returned (.tuple #[.string ⟨us.toArray⟩,.string ⟨rs.toArray⟩,.int .i64 ue])∧Below w.heap.size w w':=by
 have k:=cutUser_any s w hs;rw [h] at k;exact k
theorem RowIs.alloc {w:World} {g:Nat} {e:TypeId} {l:List Value} (h:RowIs w g e l) (o:Obj):RowIs (w.alloc o) g e l :=
 h.below ((Below.refl _ w).alloc (Nat.le_refl _) o) (Array.getElem?_eq_some_iff.1 h).1
theorem readRest_of {rs:List UInt8} {u:Uri} {re:Int} (h:restV rs=(u,re)) (w:World) (hs:rs.length≤1048640) :
  Calls Tryz.prog 78 #[.string ⟨rs.toArray⟩] w fun e w'=>∃ p h,e=.returned (.tuple #[uriV u p h,.int .i64 re])∧OwnP w' w.heap.size p u.params∧OwnP w' w.heap.size h u.headers∧Below w.heap.size w w':=by
 have k:=readRest_any rs w hs;rw [h] at k;exact k
end Go.Proofs.YtldkidljjbkmbaaGreatDoor
