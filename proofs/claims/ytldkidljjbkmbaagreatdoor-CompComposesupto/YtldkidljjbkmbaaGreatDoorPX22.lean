/-
  XPrint, PP3, PQ4, PP4, WCompRight.
-/
import Derived.Test.YtldkidljjbkmbaaGreatDoorPX16
import Derived.Test.YtldkidljjbkmbaaGreatDoorPX21
set_option linter.unusedVariables false
set_option linter.unusedSimpArgs false
set_option maxRecDepth 20000
namespace Go.Proofs.YtldkidljjbkmbaaGreatDoor
open Go.RowKit Sc
set_option maxHeartbeats 2000000 in
set_option maxRecDepth 100000 in
theorem xprint_ok (v:Value) (cs:List NdC) (t:XT) (w:World) (hsm:∀ c ∈ cs,SmallN 140737488355328 c.nd) (hv:NdsAt w v cs) (hc:checkX (ndsL cs)=0) (hf:flatX 0 t=ndsL cs) (hpl:39+(printX t).length≤140737488355328) :
  Calls Tryz.prog 29 #[v] w fun e w'=>e=.returned (.tuple #[.string ⟨(prologK++printX t).toArray⟩,.int .i64 0])∧Below w.heap.size w w':=by
 have h200:cs.length≤200:=by have:=(checkX_ok hc).2.1; rw [ndsL_len] at this; exact this
 have hfl:(flatX 0 t).length=cs.length:=by rw [hf,ndsL_len]
 have hszt:=szX_flat 0 t;rw [hfl] at hszt;have KC:=hid (xcheck_any v cs w (by omega) hsm hv);rw [hc] at KC;have HZ:Hid (∀ w1:World,Below w.heap.size w w1 → IsBld (w1.alloc (.cells #[.pointer none,.slice none 0 0] 88)) w.heap.size w1.heap.size []):=fun w1 hw1=>.inl ⟨hw1.size,.slice none 0 0,heap_alloc_new _ _,World.ownsRowF_nil _ _ _ _,by simp [Value.ownBlock]⟩;have KW:=hid (fun b (hb:w.heap.size≤b)=>write_any w v cs b hv (by omega) hsm hb (szX t) t (Nat.le_refl _) 0 0 [] prologK);have HN:Hid (prologK++printX t ≠ []):=fun e=>by simp [prologK] at e
 have HP0:Hid (prologK.length=39):=rfl;have HD:Hid ((ndsL cs).drop 0=flatX 0 t++[]):=show _=_ by rw [List.drop_zero,hf,List.append_nil]
 have HB:Hid (∀ w1:World,Below w.heap.size w w1 → Below w.heap.size w (w1.alloc (.cells #[.pointer none,.slice none 0 0] 88))):=fun w1 hw1=>hw1.alloc hw1.size _;have HPK:Hid ((⟨#[60,63,120,109,108,32,118,101,114,115,105,111,110,61,34,49,46,48,34,32,101,110,99,111,100,105,110,103,61,34,85,84,70,45,56,34,63,62,10]⟩:ByteArray)=⟨prologK.toArray⟩):=rfl;have hPl:prologK.length+(printX t).length≤140737488355328:=by rw [HP0.out]; exact hpl
 unfold WrE at KW;generalize prologK++printX t=Z at KW HN ⊢;generalize printX t=PT at KW hPl;obtain ⟨ao,cap,rfl,_⟩:=hv;generalize hnn:cs.length=n at KC KW ⊢;clear hc hf hsm hfl
 go_enter Tryz.func29,Tryz.ntmps29
 go_wp2_with fail
 refine (KC.out).mono ?_
 rintro e w1 ⟨rfl,hw1⟩;have hbl:=HZ.out w1 hw1;have hbw:=HB.out w1 hw1;have hsz:w.heap.size≤(w1.alloc (.cells #[.pointer none,.slice none 0 0] 88)).heap.size:=hbw.size;go_wp2_with fail
 generalize World.alloc _ _=W2 at hbl hbw hsz ⊢;rw [HPK.out];refine (xbldWrite w.heap.size w1.heap.size [] prologK W2 hbl (by have:=HP0.out; simp; omega) hsz).mono ?_
 rintro e w3 ⟨rfl,hw3⟩;rw [List.nil_append] at hw3;go_wp2_with fail
 refine (KW.out w1.heap.size hw1.size w3 HD.out (fun x hx=>by simp at hx) (hbw.trans hw3.bel) hw3.bld hPl (by omega)).mono ?_
 rintro e w4 ⟨rfl,hw4⟩;go_wp2_with fail
 refine (bldString w.heap.size w1.heap.size Z w4 hw4.bld HN.out).mono ?_
 rintro e w5 ⟨rfl,h5,hb5,_⟩;go_wp2;go_ret2;exact ⟨rfl,((hbw.trans hw3.bel).trans hw4.bel).trans hb5⟩
theorem own_neT {w:World} {B b:Nat} {v:Value} {cs:List NdC} {l:List Value} (h:OwnN w B v cs) (hr:RowIs w b 28 l):v.ownBlock ≠ some b:=by
 intro e
 rcases h.1.2 with ⟨rfl,_⟩ | ⟨g,cap,cur,rfl,_,hg,_⟩
 ·cases e
 ·injection e with e
  simp only at e;subst e;unfold RowIs at hr;rw [hg] at hr
  injection hr with hr
  injection hr with _ h2
  exact absurd h2 (by decide)
structure PSd (w:World) (dl:List Value) (W:World) (v:Value) (cs:List NdC):Prop where
 own:OwnN W w.heap.size v cs
 row:RowIs W w.heap.size 28 dl
 bel:Below w.heap.size w W
theorem PSd.lt {w:World} {dl:List Value} {W:World} {v:Value} {cs:List NdC} (h:PSd w dl W v cs):w.heap.size < W.heap.size:=(Array.getElem?_eq_some_iff.1 (show W.heap[w.heap.size]? = some _ from h.row)).1
theorem PSd.below {w:World} {dl:List Value} {W W':World} {v:Value} {cs:List NdC} (h:PSd w dl W v cs) (hb:Below W.heap.size W W'):PSd w dl W' v cs :=
 ⟨h.own.below hb,h.row.below hb h.lt,h.bel.trans (hb.mono h.bel.size)⟩
theorem PSd.alloc {w:World} {dl:List Value} {W:World} {v:Value} {cs:List NdC} (h:PSd w dl W v cs) (o:Obj):PSd w dl (W.alloc o) v cs:=h.below ((Below.refl _ W).alloc (Nat.le_refl _) o)
theorem PSd.app {w:World} {dl:List Value} {W w5:World} {v v5:Value} {cs cs5:List NdC} (h:PSd w dl W v cs) (hf:FrN v W v5 w5) (ho:OwnN w5 w.heap.size v5 cs5):PSd w dl w5 v5 cs5 :=
 ⟨ho,hf.row h.row h.lt (own_neT h.own h.row),h.bel.trans (hf.to h.bel.size fun g hg=>(World.ownsRow.lt h.own.1 g hg).1)⟩
def rootN (en:List UInt8):Nd:=⟨0,presenceK,[atr xmlnsK spaceK,atr entityK (presK++[58]++en)],[]⟩
theorem flat_tree (en:List UInt8) (tl:List Tu) (nl:List (List UInt8)):flatX 0 (treeD ⟨en,tl,nl⟩)=rootN en :: (flatXs 1 (tl.map tupT)++flatXs 1 (nl.map noteT)):=by
 rw [treeD,flatX,flatXs_app]; rfl
theorem flat_nnext {nl:List (List UInt8)} {j:Nat} (h:j < nl.length):flatXs 1 ((nl.take (j+1)).map noteT)=flatXs 1 ((nl.take j).map noteT)++[⟨1,noteK,[],nl[j]⟩]:=by
 rw [List.take_succ_eq_append_getElem h,List.map_append,flatXs_app]; simp [flatXs,noteT,flatX]
theorem nds_app (a b:List NdC):ndsL (a++b)=ndsL a++ndsL b:=by simp [ndsL]
theorem tup_count3 (x:Tu):3≤(flatX 1 (tupT x)).length:=by rw [flat_tup]; simp
theorem nds_len2 {cs:List NdC} {l:List Nd} (h:ndsL cs=l):cs.length=l.length:=by rw [← ndsL_len,h]
set_option maxHeartbeats 4000000 in
set_option maxRecDepth 100000 in
theorem pelems_any (d:Dc) (ts ns:Value) (w:World) (hen:d.entity.length≤1000000) (hT16:d.tuples.length≤16) (hN16:d.notes.length≤16) (hpr:∀ t ∈ d.tuples,(Lit.int .i64 t.prio).wf=true) (hts:TusAt w ts d.tuples) (hns:StrsAt w ns d.notes) :
  Calls Tryz.prog 30 #[docV d ts ns] w fun e w'=>TelP (flatX 0 (treeD d)) w e w':=by
 obtain ⟨en,tl,nl⟩:=d;unfold docV;simp only at hen hT16 hN16 hpr hts hns ⊢;have HFT:=hid (flat_tree en tl nl);generalize flatX 0 (treeD ⟨en,tl,nl⟩)=F at HFT ⊢;have HRN:=hid (show rootN en=_ from rfl);have HPR:=hid hpr;have HTW:=hid (fun (W':World) (h:Below w.heap.size w W')=>hts.below h);have HNW:=hid (fun (W':World) (h:Below w.heap.size w W')=>hns.below h);obtain ⟨ta,tc,hta,_⟩:=hts;obtain ⟨na,nc,hna,_⟩:=hns;obtain ⟨tn,htn⟩:∃ tn,tn=tl.length:=⟨_,rfl⟩
 obtain ⟨nn,hnn⟩:∃ nn,nn=nl.length:=⟨_,rfl⟩
 rw [← htn] at hta hT16;rw [← hnn] at hna hN16;subst hta hna;have HTN:=hid htn;have HNN:=hid hnn;clear htn hnn hpr;have hr0:=rc_row3 w (.string ⟨en.toArray⟩) (.slice ta tn tc) (.slice na nn nc) 28;have hb0:Below w.heap.size w (w.alloc (.cells #[.string ⟨en.toArray⟩,.slice ta tn tc,.slice na nn nc] 28)):=(Below.refl _ w).alloc (Nat.le_refl _) _;have hl0:=alloc_lt w (.cells #[.string ⟨en.toArray⟩,.slice ta tn tc,.slice na nn nc] 28);have HR0:=hid hr0;clear hr0;obtain ⟨i1,hj,hy0,hy1,hy2⟩:=info_parts infoNodeB;have hcl:¬ 9223372036854775807 < 5+en.length:=by omega
 go_enter Tryz.func30,Tryz.ntmps30
 go_upto_region 1 with fail
 generalize World.alloc w _=W0 at HR0 hb0 hl0 ⊢;have HX:=hid (fun (W':World) (h:Below W0.heap.size W0 W')=>(RowIs.rc3 (HR0.out.below h hl0)).1);have x0:=HX.out W0 (Below.refl _ _)
 go_cut [3] from 8 to 15 (fun v wx=>∃ cs,Hid (ndsL cs=[rootN en])∧Hid (PSd w [.string ⟨en.toArray⟩,.slice ta tn tc,.slice na nn nc] wx v cs))
 case first =>
  go_region_law ((go_simp; go_at_call 49; refine (pattr_any _ _ _).mono ?_; rintro e wa ⟨rfl,hwa⟩; have hq:=bstep14 (S:=W0.heap.size) (w1:=W0) (by first | exact hq | exact hq.drew | exact hq.drew.drew | exact hq.drew.drew.drew | exact Below.refl _ _ | exact (Below.refl _ _).drew | exact (Below.refl _ _).drew.drew | exact (Below.refl _ _).drew.drew.drew | exact (Below.refl _ _).drew.drew.drew.drew) (Nat.le_refl _) hwa; have ya0:=HX.out _ hq; clear hwa))
  all_goals
   have hq2:=fun o1 o2=>al14 hq (Nat.le_refl _) o1 o2;have hro:=root_own wa w.heap.size (Nat.le_trans hb0.size hq.size) _ rfl en;have hPS:Hid (PSd w [.string ⟨en.toArray⟩,.slice ta tn tc,.slice na nn nc] _ _ _):=⟨hro,HR0.out.below (hq2 _ _) hl0,hb0.trans ((hq2 _ _).mono hb0.size)⟩
   clear hro hq2;go_wp2_with fail
   go_meet
   case rel=>exact ⟨_,show _=_ from rfl,hPS⟩
 case rest =>
  obtain ⟨cs0,hn0,hP⟩:=hcut;clear x0 HX HR0 hb0 hl0 hcl HRN;have hcl:cs0.length=1:=nds_len2 hn0.out;obtain ⟨vo,vc,hvf⟩:=hP.out.own.form;rw [hcl] at hvf;subst hvf;clear hcl;obtain ⟨x0,x1,x2,_,_,_⟩:=hP.out.row.rc3;go_wp2
  go_loopw [3,19] (fun v i wr=>∃ (j n:Nat) (vo:Option Addr) (vc:Nat) (cs:List NdC),j≤tn∧i=.int .i64 (j:Int)∧v=.slice vo n vc∧Hid (ndsL cs=rootN en :: flatXs 1 ((tl.take j).map tupT))∧Hid (n=cs.length)∧n≤1+5 * j∧Hid (PSd w [.string ⟨en.toArray⟩,.slice ta tn tc,.slice na nn nc] wr v cs)) (fun _ i _=>tn - (intOf i).toNat)
  case atStart=>exact ⟨0,1,vo,vc,cs0,Nat.zero_le _,rfl,rfl,by simpa [flatXs] using hn0,show _=_ from (nds_len2 hn0.out).symm,by omega,hP⟩
  case round =>
   clear x0 x1 x2 hP hn0;obtain ⟨j,n,vo,vc,cs,hjn,rfl,rfl,hnd,HL,hnb,hP⟩:=hrel;by_cases hlt:j < tn
   ·have hjl:j < tl.length:=by have:=HTN.out; omega
    obtain ⟨ta',tc',hta',hcT⟩:=HTW.out wr hP.out.bel;obtain ⟨ad,hao,hab,c⟩:=hcT j hjl
    injection hta' with e1 e2 e3
    subst e1 hao;clear e2 e3;have HFN:=hid (flat_next hjl);have KT:=hid (fun w'=>ptupel_any tl[j] w' (HPR.out _ (List.getElem_mem hjl)));have HC3:=hid (tup_count3 tl[j]);have HC5:=hid (tup_count tl[j]);generalize flatX 1 (tupT tl[j])=FX at KT HC3 HC5 HFN;generalize tl[j]=x at c KT;obtain ⟨xi,xo,xc,xp,xn⟩:=x;obtain ⟨c0,c1,c2,c3,c4⟩:=c;unfold tuV at KT;simp only at c0 c1 c2 c3 c4 KT;have q6:(j:Int) < (tn:Int):=by omega
    clear hcT;have hP1:=hid (hP.out.alloc (.cells #[.string ⟨xi.toArray⟩,.bool xo,.string ⟨xc.toArray⟩,.int .i64 xp,.string ⟨xn.toArray⟩] 48));have HR1:=rc_row5 wr (.string ⟨xi.toArray⟩) (.bool xo) (.string ⟨xc.toArray⟩) (.int .i64 xp) (.string ⟨xn.toArray⟩) 48;clear hP
    go_upto_region 5 with fail
    generalize World.alloc wr _=W1 at hP1 HR1 ⊢;obtain ⟨y0,y1,y2,y3,y4,_,_,_,_,_⟩:=HR1.rc5;clear HR1 c0 c1 c2 c3 c4;go_wp2_with fail
    refine (KT.out _).mono ?_
    rintro e w2 ⟨v2,cs2,rfl,hF2,hown2,hw2⟩;have hP2:=hid (hP1.out.below hw2);have hl2:=nds_len2 hF2;have h20:0 < cs2.length:=by have:=HC3.out; omega
    have hn2b:cs2.length≤5:=by have:=HC5.out; omega
    obtain ⟨a2,k2,hv2⟩:=hown2.form;obtain ⟨n2,hn2⟩:∃ n2,n2=cs2.length:=⟨_,rfl⟩
    rw [← hn2] at hv2 h20 hn2b;subst hv2;obtain ⟨g2,ha2,hz1,hz2,hz3,hcells⟩:=ownN_cells hown2 (by rw [← hn2]; exact h20);subst ha2;have HN2:=hid hn2;have HF2:=hid hF2;have hcA:Hid (∀ d ∈ cs2,OwnP w2 w.heap.size d.a d.nd.attrs):=fun d hd=>ownP_mono (hown2.2 d hd) hP1.out.bel.size;have HCE:=hid hcells;clear hz1 hz2 hz3 hl2 hn2 hF2 hcells hown2 hw2 hP1 KT HC3 HC5 y0 y1 y2 y3 y4;go_wp2_with (at_builtin; refine wp_appNs _ rfl (.tmp 23) (.tmp 25) 64 rfl w.heap.size i1 _ Tryz.underlying64 hj hy0 hy1 hy2 rfl (.slice vo n vc) cs rfl hP2.out.own ⟨g2,0,none⟩ k2 cs2 n2 HN2.out h20 hcA.out rfl HCE.out (by have:=HL.out; omega) (by have:=HN2.out; omega) hP2.out.bel.size ?_; intro v9 w9 hown9 hf9; obtain ⟨va9,vc9,e9⟩:=hown9.form; obtain ⟨n9,hn9⟩:∃ n9,n9=(cs++cs2).length:=⟨_,rfl⟩; rw [← hn9] at e9; subst e9; have HN9:=hid hn9; have hP9:=hid (hP2.out.app hf9 hown9); clear hn9 hown9 hf9)
    go_roundw
    case rel=>exact ⟨j+1,n9,va9,vc9,cs++cs2,by omega,by go_num,rfl,show _=_ by rw [nds_app,hnd.out,HF2.out,HFN.out,List.cons_append],HN9,by have h1:=HN9.out; have h2:=HL.out; have h3:=HN2.out; rw [List.length_append] at h1; omega,hP9⟩
    case measure=>simp [intOf]; omega
   ·have hjt:j=tn:=by omega
    have q6:¬ (j:Int) < (tn:Int):=by omega
    have hnd:Hid (ndsL cs=rootN en :: flatXs 1 (tl.map tupT)):=show _=_ by rw [hnd.out,List.take_of_length_le (by have:=HTN.out; omega)]
    have hnb:n≤81:=by omega
    obtain ⟨x0,x1,x2,_,_,_⟩:=hP.out.row.rc3;clear hjt;go_wp2
    go_loopw [3,31] (fun v i wr=>∃ (k n:Nat) (vo:Option Addr) (vc:Nat) (cs:List NdC),k≤nn∧i=.int .i64 (k:Int)∧v=.slice vo n vc∧Hid (ndsL cs=rootN en :: (flatXs 1 (tl.map tupT)++flatXs 1 ((nl.take k).map noteT)))∧Hid (n=cs.length)∧n≤81+k∧Hid (PSd w [.string ⟨en.toArray⟩,.slice ta tn tc,.slice na nn nc] wr v cs)) (fun _ i _=>nn - (intOf i).toNat)
    case atStart=>exact ⟨0,n,vo,vc,cs,Nat.zero_le _,rfl,rfl,by simpa [flatXs] using hnd,HL,by omega,hP⟩
    case round =>
     clear x0 x1 x2 hP hnd HL hnb q6 hjn hlt;obtain ⟨k,n3,vo3,vc3,cs3,hkn,rfl,rfl,hnd,HL,hnb,hP⟩:=hrel;by_cases hlt:k < nn
     ·have hkl:k < nl.length:=by have:=HNN.out; omega
      obtain ⟨na',nc',hna',hcN⟩:=HNW.out _ hP.out.bel;obtain ⟨ad,hao,hab,c⟩:=hcN k hkl
      injection hna' with e1 e2 e3
      subst e1 hao;clear e2 e3;have HFN:=hid (flat_nnext hkl);generalize nl[k]=s at c HFN;have q6:(k:Int) < (nn:Int):=by omega
      have hnewN:=hid (fun (W:World) (c:NdC) (g:Nat) (hg:g=W.heap.size)=>xnd_new W c g hg);clear hcN;go_wp2_with (at_builtin; refine wp_appN2 _ rfl (.tmp 35) (.tmp 38) 64 rfl w.heap.size i1 _ Tryz.underlying64 hj hy0 hy1 hy2 rfl (.slice vo3 n3 vc3) cs3 rfl (by exact OwnN.alloc hP.out.own _) ⟨_,0,none⟩ 1 ⟨⟨1,noteK,[],s⟩,.slice none 0 0⟩ (by exact OwnP.nil _ _) rfl (by exact hnewN.out _ _ _ rfl) (by have:=HL.out; omega) (by have:=hP.out.lt; simp; omega) ?_; intro v9 w9 hown9 hf9; obtain ⟨va9,vc9,e9⟩:=hown9.form; obtain ⟨n9,hn9⟩:∃ n9,n9=(cs3++[(⟨⟨1,noteK,[],s⟩,.slice none 0 0⟩:NdC)]).length:=⟨_,rfl⟩; rw [← hn9] at e9; subst e9; have HN9:=hid hn9; have hP9:=hid ((hP.out.alloc _).app hf9 hown9); clear hn9 hown9 hf9)
      go_roundw
      case rel=>exact ⟨k+1,n9,va9,vc9,cs3++[⟨⟨1,noteK,[],s⟩,.slice none 0 0⟩],by omega,by go_num,rfl,show _=_ by rw [nds_snoc,hnd.out,HFN.out]; simp,HN9,by have h1:=HN9.out; have h2:=HL.out; rw [List.length_append,List.length_singleton] at h1; omega,hP9⟩
      case measure=>simp [intOf]; omega
     ·have q6:¬ (k:Int) < (nn:Int):=by omega
      go_wp2;go_ret;exact ⟨_,cs3,rfl,by rw [hnd.out,HFT.out,List.take_of_length_le (by have:=HNN.out; omega)],hP.out.own,hP.out.bel⟩
theorem SmallD.up {B C:Nat} {d:Dc} (h:SmallD B d) (hc:B≤C):SmallD C d :=
 ⟨Nat.le_trans h.ent hc,Nat.le_trans h.tl hc,Nat.le_trans h.nl hc,fun t ht=>⟨Nat.le_trans (h.ts t ht).1 hc,Nat.le_trans (h.ts t ht).2.1 hc,Nat.le_trans (h.ts t ht).2.2.1 hc,(h.ts t ht).2.2.2⟩,fun s hs=>Nat.le_trans (h.ns s hs) hc⟩
set_option maxHeartbeats 2000000 in
set_option maxRecDepth 100000 in
theorem pprint_ok (d:Dc) (ts ns:Value) (w:World) (hcp:CapTu ts) (hts:TusAt w ts d.tuples) (hns:StrsAt w ns d.notes) (hc:checkD d=0) :
  Calls Tryz.prog 16 #[docV d ts ns] w fun e w'=>e=.returned (.tuple #[.string ⟨(prologK++printX (treeD d)).toArray⟩,.int .i64 0])∧Below w.heap.size w w':=by
 have hel:=ent_len hc;have hsm:=small_checked hc;obtain ⟨_,hT16,hN16,_,_,_⟩:=checkD_ok hc;have KC:=hid (fun w' (h:Below w.heap.size w w')=>pcheck_any d ts ns w' (hsm.up (by decide)) (by omega) hcp (hts.below h) (hns.below h));rw [hc] at KC;have KE:=hid (fun w' (h:Below w.heap.size w w')=>pelems_any d ts ns w' (by omega) hT16 hN16 (fun t ht=>(hsm.ts t ht).2.2.2) (hts.below h) (hns.below h))
 have KP:Hid (∀ (w':World) (v:Value) (cs:List NdC) (B:Nat),ndsL cs=flatX 0 (treeD d) → OwnN w' B v cs → Calls Tryz.prog 29 #[v] w' fun e w2=>e=.returned (.tuple #[.string ⟨(prologK++printX (treeD d)).toArray⟩,.int .i64 0])∧Below w'.heap.size w' w2):=fun w' v cs B hk ho =>
  xprint_ok v cs (treeD d) w' (fun c hcc=>(tree_sm hc c.nd (by rw [← hk]; exact List.mem_map.2 ⟨c,hcc,rfl⟩)).small (by decide)) ho.ndsAt (by rw [hk]; exact tree_check hc) hk.symm (by have:=print_sm hc; omega)
 generalize prologK++printX (treeD d)=Z at KP ⊢;generalize flatX 0 (treeD d)=F at KP KE;obtain ⟨en,tl,nl⟩:=d;unfold docV at KC KE ⊢;simp only at KC KE ⊢;clear hc hsm hel hts hns hcp hT16 hN16;have hbn:Below w.heap.size w (w.alloc (.cells #[.string ⟨en.toArray⟩,ts,ns] 28)):=(Below.refl _ w).alloc (Nat.le_refl _) _;have hbr:=rc_row3 w (.string ⟨en.toArray⟩) ts ns 28;have hlt0:=alloc_lt w (.cells #[.string ⟨en.toArray⟩,ts,ns] 28);obtain ⟨x0,x1,x2,_,_,_⟩:=hbr.rc3
 go_enter Tryz.func16,Tryz.ntmps16
 go_wp2_with fail
 generalize World.alloc w _=W0 at x0 x1 x2 hbn hbr hlt0 ⊢;refine (KC.out _ hbn).mono ?_
 rintro e w1 ⟨rfl,hw1⟩;have hb1:=hbn.trans (hw1.mono hbn.size);obtain ⟨y0,y1,y2,_,_,_⟩:=(hbr.below hw1 hlt0).rc3;clear x0 x1 x2;go_wp2_with fail
 refine (KE.out _ hb1).mono ?_
 rintro e w2 ⟨v2,cs2,rfl,hF2,hown2,hw2⟩;have hb2:=hb1.trans (hw2.mono hb1.size);have KQ:=hid (KP.out w2 v2 cs2 _ hF2 hown2);obtain ⟨a2,k2,hv2⟩:=hown2.form;obtain ⟨n2,hn2⟩:∃ n2,n2=cs2.length:=⟨_,rfl⟩
 rw [← hn2] at hv2;subst hv2;clear hn2 hF2 hown2 KP KE KC y0 y1 y2;go_wp2_with fail
 refine KQ.out.mono ?_
 rintro e w3 ⟨rfl,hw3⟩;go_wp2;go_ret2;exact ⟨rfl,hb2.trans (hw3.mono hb2.size)⟩
end Go.Proofs.YtldkidljjbkmbaaGreatDoor
namespace Go.Proofs.YtldkidljjbkmbaaGreatDoor.compRight
open Go.RowKit Go.Maps Go.WideMaps Sc
set_option maxHeartbeats 4000000 in
set_option maxRecDepth 100000 in
theorem law_walk (w:World) (a0:ByteArray) (v1:Value) (b0:a0.size≤1048576) (k1:PubsIn 1048576 w v1) :
  Calls Tryz.prog 4 #[.string a0,v1] w fun e w'=>e=.returned (.bool true)∧Below w.heap.size w w':=by
 obtain ⟨who,rfl⟩:=str_offC a0;have b0:who.length≤1048576:=by simpa [ByteArray.size] using b0
 obtain ⟨cs,hv,hn,hg⟩:=k1;have KC:=compose_in hv hn hg b0 w (Below.refl _ _);have KW:=hid awake17_any;have hnum:=nums_in hg;obtain ⟨d,er,hd⟩:∃ d er,compC who (pbsL cs)=(d,er):=⟨_,_,rfl⟩
 by_cases h0:er=0
 ·subst h0;obtain ⟨hc,hent,hlen⟩:=right_plain hnum hd;rw [hd] at KC;have HKC:=hid KC;have KP:=hid (fun (u:World) (ts ns:Value) (h1:CapTu ts) (h2:TusAt u ts d.tuples) (h3:StrsAt u ns d.notes)=>pprint_ok d ts ns u h1 h2 h3 hc);have hsm:=(small_checked hc).upB (C:=140737488355328) (by omega);have KK:=hid (fun (u:World) (ts ns:Value) (h1:CapTu ts) (h2:TusAt u ts d.tuples) (h3:StrsAt u ns d.notes)=>pcheck_any d ts ns u hsm (by have:=ent_len hc; omega) h1 h2 h3);rw [hc] at KK;obtain ⟨en,tl,nl⟩:=d;simp only at hent hlen KP KK;subst hent;unfold docV at HKC KP KK;simp only at HKC KP KK;generalize prologK++printX (treeD ⟨en,tl,nl⟩)=Z at KP;clear KC hc hsm hd hnum hv hg
  go_enter Tryz.func4,Tryz.ntmps4
  go_wp2_with fail
  refine HKC.out.mono ?_
  rintro e w1 ⟨vt,vn,rfl,hG,hb1⟩;have hcap:=hG.t.capC;obtain ⟨ta,tc,na,nc,rfl,rfl⟩:=hG.forms;simp only at *;have R1:=hid (rc_row3 w1 (.string ⟨en.toArray⟩) (.slice ta tl.length tc) (.slice na nl.length nc) 28);have b2:Below w1.heap.size w1 (w1.alloc (.cells #[.string ⟨en.toArray⟩,.slice ta tl.length tc,.slice na nl.length nc] 28)):=(Below.refl _ w1).alloc (Nat.le_refl _) _;have HG:=hid (hG.below b2);have bel:=hid (hb1.trans (b2.mono hb1.size));clear hb1 b2 hG HKC
  go_upto_region 2 with fail
  generalize w1.heap.size=g1 at R1 HG ⊢;generalize World.alloc _ _=u1 at R1 HG bel ⊢;obtain ⟨x0,x1,x2,_⟩:=R1.out.rc3;go_wp2_with fail
  refine (KP.out _ _ _ hcap HG.out.t.tusAt (strsAt_own HG.out.n)).mono ?_
  rintro e w2 ⟨rfl,hb2⟩;have R1:=hid (R1.out.below hb2 R1.out.bl);have HG:=hid (HG.out.below hb2);have bel:=hid (bel.out.trans (hb2.mono bel.out.size));clear hb2 x0 x1 x2 KP;obtain ⟨x0,x1,x2,_⟩:=R1.out.rc3;go_wp2_with fail
  refine (KK.out _ _ _ hcap HG.out.t.tusAt (strsAt_own HG.out.n)).mono ?_
  rintro e w3 ⟨rfl,hb3⟩;have R1:=hid (R1.out.below hb3 R1.out.bl);have bel:=hid (bel.out.trans (hb3.mono bel.out.size));clear hb3 x0 x1 x2 KK HG;obtain ⟨x0,x1,x2,_⟩:=R1.out.rc3;have hle:decide ((tl.length:Int)≤16)=true:=decide_eq_true (by omega);go_wp2_with fail
  refine (KW.out _).mono ?_
  rintro e w4 ⟨rfl,hb4⟩;have bel:=hid (bel.out.trans (hb4.mono bel.out.size));clear hb4;go_wp2;go_ret;exact ⟨rfl,bel.out⟩
 ·have hno:=comp_none (who:=who) (l:=pbsL cs) (by rw [hd]; exact h0);rw [hd] at KC hno;simp only at hno;subst hno;have HKC:=hid KC;unfold docV noD at HKC;simp only at HKC;have h0':(er != 0)=true:=by simpa using h0
  clear KC hd hnum hv hg h0
  go_enter Tryz.func4,Tryz.ntmps4
  go_wp2_with fail
  refine HKC.out.mono ?_
  rintro e w1 ⟨vt,vn,rfl,hG,hb1⟩;obtain ⟨ta,tc,na,nc,rfl,rfl⟩:=hG.forms;simp only at *;have R1:=hid (rc_row3 w1 (.string ⟨#[]⟩) (.slice ta 0 tc) (.slice na 0 nc) 28);have b2:Below w1.heap.size w1 (w1.alloc (.cells #[.string ⟨#[]⟩,.slice ta 0 tc,.slice na 0 nc] 28)):=(Below.refl _ w1).alloc (Nat.le_refl _) _;have bel:=hid (hb1.trans (b2.mono hb1.size));clear hb1 b2 hG HKC
  go_upto_region 2 with fail
  generalize w1.heap.size=g1 at R1 ⊢;generalize World.alloc _ _=u1 at R1 bel ⊢;obtain ⟨x0,x1,x2,_⟩:=R1.out.rc3;go_wp2_with fail
  refine (KW.out _).mono ?_
  rintro e w4 ⟨rfl,hb4⟩;have bel:=hid (bel.out.trans (hb4.mono bel.out.size));clear hb4;go_wp2;go_ret;exact ⟨rfl,bel.out⟩
end Go.Proofs.YtldkidljjbkmbaaGreatDoor.compRight
