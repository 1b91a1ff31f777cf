/-
  PR7, XParse, PR10, PP3, XAttrG, PQ1, PQ2.
-/
import Derived.Test.YtdnekampnkhmfaaGreatDoorPM33
set_option linter.unusedVariables false
set_option linter.unusedSimpArgs false
set_option maxRecDepth 20000
namespace Go.Proofs.YtdnekampnkhmfaaGreatDoor
open Go.RowKit Sc
theorem own_single {w:World} {B:Nat} {kv:Value} {q:Nat} (h:Own w B 3 kv (posCells [q])):∃ g cap,kv=.slice (some ⟨g,0,none⟩) 1 cap∧w.cell? ⟨g,0,none⟩=some (.int .i64 (q:Int))∧B≤g:=by
 have h0:=h
 rcases h.2 with ⟨rfl,hn⟩ | ⟨g,cap,cur,rfl,hb,hg,_⟩
 ·simp [posCells] at hn
 ·have e:∀ j,(⟨g,0,none⟩:Addr).add j=⟨g,j,none⟩:=fun j=>by unfold Addr.add; split <;> simp_all
  have:=World.ownsRow.cells h0 (g:=g) rfl 0 (.int .i64 (q:Int)) (by simp [posCells])
  rw [e] at this;exact ⟨g,cap,by simp [posCells],this,hb⟩
theorem own_form {w:World} {B:Nat} {kv:Value} {l:List Nat} (h:Own w B 3 kv (posCells l)):∃ ka cap,kv=.slice ka l.length cap:=by
 rcases h.2 with ⟨rfl,hn⟩ | ⟨g,cap,cur,rfl,hb,hg,_⟩
 ·simp [posCells] at hn; exact ⟨none,0,by rw [hn]; rfl⟩
 ·exact ⟨some ⟨g,0,none⟩,cap,by simp [posCells]⟩
theorem places_one {nm:List UInt8} {d p:Nat} {t:XT} (h:(placesN nm d t p).length=1):∃ q k,placesN nm d t p=[(q,k)]∧namedX nm (kidsOf t)=[k]:=by
 obtain ⟨y,hy⟩:=List.length_eq_one_iff.1 h;obtain ⟨q,k⟩:=y;refine ⟨q,k,hy,?_⟩
 have:=namedP_kids nm (d+1) (kidsOf t) (p+1)
 rw [show namedP nm (startsP (d+1) (kidsOf t) (p+1))=[(q,k)] from hy] at this;exact this.symm
theorem places_len {nm:List UInt8} {d p:Nat} {t:XT}:(placesN nm d t p).length=(namedX nm (kidsOf t)).length:=namedP_len
set_option maxHeartbeats 1000000 in
set_option maxRecDepth 100000 in
theorem xparse_any (l:List UInt8) (w:World) (hl:l.length≤140737488355328) :
  Calls Tryz.prog 22 #[.string ⟨l.toArray⟩] w fun e w'=>ParP (parseX l) w e w':=by
 have hmf:∀ (fn:Fn) (first cap:Array Value) (w:World),(Instr.makeFunc fn first cap).run Tryz.prog w=.ok (.func fn first cap) w:=fun _ _ _ _=>rfl;have hP:=parseC_is l;generalize parseX l=R at hP ⊢;by_cases h:4096 < l.length
 ·rw [if_pos h] at hP;have HP:=hid hP;have r:(4096:Int) < (l.length:Int):=by omega
  clear hP
  go_enter Tryz.func22,Tryz.ntmps22
  go_wp2;go_ret2;rw [HP.out];exact ⟨.slice none 0 0,[],rfl,rfl,OwnN.nil _ _,Below.refl _ _⟩
 ·rw [if_neg h] at hP;have HP:=hid hP;have r:¬ (4096:Int) < (l.length:Int):=by omega
  have hrd:XrAt (w.alloc (.cells #[.string ⟨l.toArray⟩,.slice none 0 0] 94)) w.heap.size l (.slice none 0 0):=rc_row2 w _ _ _;have KA:=hid (attempt_any w.heap.size l _ hrd (by omega));have HFB:Hid (∀ w',FrX w.heap.size (.slice none 0 0) (w.alloc (.cells #[.string ⟨l.toArray⟩,.slice none 0 0] 94)) (.slice none 0 0) w' → Below w.heap.size w w'):=fun w' h=>fr_below h;have HSZ:Hid (w.heap.size≤(w.alloc (.cells #[.string ⟨l.toArray⟩,.slice none 0 0] 94)).heap.size):=show _≤_ by simp
  clear hP hrd;generalize docC l=o at KA HP
  cases o with
  | none =>
   simp only [AttP] at KA
   go_enter Tryz.func22,Tryz.ntmps22
   go_wp2_with fail
   generalize World.alloc _ _=W0 at KA HFB ⊢;refine (KA.out).mono ?_
   rintro e w2 ⟨rfl,hf2⟩;go_wp2;go_ret2;rw [HP.out];exact ⟨.slice none 0 0,[],rfl,rfl,OwnN.nil _ _,HFB.out _ hf2⟩
  | some ns =>
   simp only [AttP] at KA
   go_enter Tryz.func22,Tryz.ntmps22
   go_wp2_with fail
   generalize World.alloc _ _=W0 at KA HFB HSZ ⊢;refine (KA.out).mono ?_
   rintro e w2 ⟨v2,cs2,rfl,hk2,hown2,hf2⟩;go_wp2;go_ret2;rw [HP.out];exact ⟨v2,cs2,rfl,hk2,hown2.mono HSZ.out,HFB.out _ hf2⟩
def DcP (R:Dc × Int) (w:World) (e:Ending) (w':World):Prop:=∃ ts ns,e=.returned (.tuple #[docV R.1 ts ns,.int .i64 R.2])∧OwnT w' w.heap.size ts R.1.tuples∧Own w' w.heap.size 9 ns (strs R.1.notes)∧Below w.heap.size w w'
theorem SmNd.smallM {x:Nd} (h:SmNd 4096 x):SmallN 1048576 x:=by
 obtain ⟨h1,h2,h3,h4,h5,h6⟩:=h;refine ⟨by omega,by omega,⟨by omega,fun p hp=>⟨by have:=(h4 p hp).1; omega,by have:=(h4 p hp).2; omega⟩⟩,?_⟩
 simp only [Lit.wf,IntKind.min,IntKind.max,IntKind.signed,IntKind.bits,Bool.and_eq_true,decide_eq_true_eq,if_true];omega
theorem rowD_of {w:World} {B:Nat} {v:Value} {cs:List NdC} {s:List UInt8} {l:List Nd} (h:OwnN w B v cs) (hp:parseX s=(l,0)) (hk:ndsL cs=l):RowD w v cs:=by
 have hsm:=parseX_sm hp;have hck:=checkX_ok (parseX_ok hp);have hm:∀ c ∈ cs,SmNd 4096 c.nd:=fun c hc=>hsm c.nd (by rw [← hk]; exact List.mem_map.2 ⟨c,hc,rfl⟩);refine ⟨h.ndsAt,by rw [← ndsL_len,hk]; omega,fun c hc=>?_,fun c hc=>(hm c hc).smallM⟩
 obtain ⟨_,_,_,_,h5,h6⟩:=hm c hc;exact ⟨h5,by omega⟩
theorem FrR.low {b:Nat} {w wr w':World} (h:FrR b w wr) (hb:Below w.heap.size wr w'):FrR b w w' :=
 ⟨hb.os.trans h.os,hb.tape.trans h.tape,hb.output.trans h.output,Nat.le_trans h.size hb.size,fun c hc hn=>by rw [hb.block c hc,h.block c hc hn]⟩
theorem FrR.under {b B:Nat} {w wr:World} (h:FrR b w wr) (hB:B≤b) (hw:B≤w.heap.size):Below B w wr :=
 ⟨h.os,h.tape,h.output,h.size,fun c hc=>h.block c (Nat.lt_of_lt_of_le hc hw) (by omega)⟩
theorem FrR.cell {b g j:Nat} {w w':World} {v:Value} (h:FrR b w w') (hc:w.cell? ⟨g,j,none⟩=some v) (hn:g ≠ b):w'.cell? ⟨g,j,none⟩=some v:=by
 have hl:g < w.heap.size:=World.block_lt_of_cell? _ _ hc;unfold World.cell? at hc ⊢;rw [h.block g hl hn]; exact hc
theorem places_bd {nm:List UInt8} {cs:List NdC} {p d:Nat} {t:XT} (h:SubAt (ndsL cs) p d t):(placesN nm d t p).length≤cs.length:=by
 have h1:=congrArg List.length (sub_places h);rw [List.length_map] at h1;have h2:=kids_len d ((ndsL cs).drop (p+1)) (p+1);have h3:=namedP_le nm (startsP (d+1) (kidsOf t) (p+1));rw [List.length_drop,ndsL_len] at h2;unfold placesN;omega
theorem who_len (u:Uri):(whoV u).1.length≤257:=by
 unfold whoV
 split
 ·simp
 ·next h =>
  split
  ·simp
  ·exact whoT_len (Classical.not_not.1 h)
theorem own_strsAt {w:World} {B:Nat} {v:Value} {ps:List (List UInt8)} (h:Own w B 9 v (strs ps)):StrsAt w v ps:=by
 have h0:=h
 rcases h.2 with ⟨rfl,hn⟩ | ⟨g,cap,cur,rfl,hb,hg,_⟩
 ·rw [strs_length] at hn;exact ⟨none,0,by rw [hn],fun k hk=>by omega⟩
 ·refine ⟨some ⟨g,0,none⟩,cap,by rw [strs_length],fun k hk=>⟨_,rfl,(Array.getElem?_eq_some_iff.1 hg).1,?_⟩⟩
  exact World.ownsRow.cells h0 (g:=g) rfl k _ (by simp [strs,hk])
theorem own_sform {w:World} {B:Nat} {e:TypeId} {v:Value} {xs:List Value} (h:Own w B e v xs):∃ a cap,v=.slice a xs.length cap:=by
 rcases h.2 with ⟨rfl,hn⟩ | ⟨g,cap,cur,rfl,_⟩
 ·exact ⟨none,0,by rw [hn]⟩
 ·exact ⟨some ⟨g,0,none⟩,cap,rfl⟩
theorem ownT_lower {w:World} {B C:Nat} {v:Value} {ts:List Tu} (h:OwnT w B v ts) (hc:C≤B):OwnT w C v ts:=by
 obtain ⟨h1,h2⟩:=h;refine ⟨h1,?_⟩
 rcases h2 with h2 | ⟨g,cap,cur,hv,hg,r⟩
 ·exact Or.inl h2
 ·exact Or.inr ⟨g,cap,cur,hv,Nat.le_trans hc hg,r⟩
theorem infoStrD:(Tryz.prog.info? 9).map (fun i=>(i.zero,i.size,i.bytes))=some (some (.string .empty),1,16):=by kernel_rfl
theorem tu_newW (W:World) (x:Tu) (g:Nat) (hg:g=W.heap.size):∀ (j:Nat) (u:Value),(tuCells x)[j]? = some u → (W.alloc (.cells #[.string ⟨x.id.toArray⟩,.bool x.opn,.string ⟨x.contact.toArray⟩,.int .i64 x.prio,.string ⟨x.note.toArray⟩] 56)).cell? ((⟨g,0,none⟩:Addr).add j)=some u:=by
 intro j u hj;subst hg;have e:(⟨W.heap.size,0,none⟩:Addr).add j=⟨W.heap.size,j,none⟩:=by unfold Addr.add; split <;> simp_all
 rw [e];unfold World.cell?;rw [heap_alloc_new]
 simpa [tuCells] using hj
theorem tuplesT_snoc (k:XT):∀ l:List XT,tuplesT (l++[k])=match tuplesT l with | none=>none | some a=>(tupleT k).map fun x=>a++[x]
 | []=>by
  rw [List.nil_append,tuplesT,tuplesT]
  cases tupleT k <;> rfl
 | t :: l=>by
  rw [List.cons_append,tuplesT,tuplesT,tuplesT_snoc k l]
  cases tupleT t with
  | none=>rfl
  | some x =>
   cases tuplesT l with
   | none=>rfl
   | some a=>cases tupleT k <;> rfl
theorem tuplesT_bad {k:XT} (h:tupleT k=none) (r:List XT):∀ l:List XT,tuplesT (l++k :: r)=none
 | []=>by rw [List.nil_append,tuplesT,h]
 | t :: l=>by
  rw [List.cons_append,tuplesT,tuplesT_bad h r l]
  cases tupleT t <;> rfl
theorem tups_take {P:List (Nat × XT)} {j:Nat} (hj:j < P.length) {a:List Tu} {x:Tu} (h:tuplesT ((P.take j).map Prod.snd)=some a) (hx:tupleT P[j].2=some x):tuplesT ((P.take (j+1)).map Prod.snd)=some (a++[x]):=by
 rw [List.take_succ_eq_append_getElem hj,List.map_append,List.map_cons,List.map_nil,tuplesT_snoc,h];simp only [hx,Option.map_some]
theorem tups_fail {P:List (Nat × XT)} {j:Nat} (hj:j < P.length) (hx:tupleT P[j].2=none):tuplesT (P.map Prod.snd)=none:=by
 have e:P=P.take j++P[j] :: P.drop (j+1):=by rw [← List.drop_eq_getElem_cons hj,List.take_append_drop]
 rw [congrArg (List.map Prod.snd) e,List.map_append,List.map_cons];exact tuplesT_bad hx _ _
def notesP (P:List (Nat × XT)):List (List UInt8):=((P.map Prod.snd).map textOf).filter fun s=>!s.isEmpty
theorem notesP_snoc {P:List (Nat × XT)} {j:Nat} (hj:j < P.length):notesP (P.take (j+1))=notesP (P.take j)++(if P[j].2 |> textOf |>.isEmpty then [] else [textOf P[j].2]):=by
 unfold notesP;rw [List.take_succ_eq_append_getElem hj];simp only [List.map_append,List.map_cons,List.map_nil,List.filter_append,List.filter_cons,List.filter_nil]
 cases (textOf P[j].2).isEmpty <;> rfl
set_option maxHeartbeats 4000000 in
set_option maxRecDepth 100000 in
theorem pelems_any (d:Dc) (ts ns:Value) (w:World) (hen:d.entity.length≤1000000) (hT16:d.tuples.length≤16) (hN16:d.notes.length≤16) (hpr:∀ t ∈ d.tuples,(Lit.int .i64 t.prio).wf=true) (hts:TusAt w ts d.tuples) (hns:StrsAt w ns d.notes) :
  Calls Tryz.prog 25 #[docV d ts ns] w fun e w'=>TelP (flatX 0 (treeD d)) w e w':=by
 obtain ⟨en,tl,nl⟩:=d;unfold docV;simp only at hen hT16 hN16 hpr hts hns ⊢;have HFT:=hid (flat_tree en tl nl);generalize flatX 0 (treeD ⟨en,tl,nl⟩)=F at HFT ⊢;have HRN:=hid (show rootN en=_ from rfl);have HPR:=hid hpr;have HTW:=hid (fun (W':World) (h:Below w.heap.size w W')=>hts.below h);have HNW:=hid (fun (W':World) (h:Below w.heap.size w W')=>hns.below h);obtain ⟨ta,tc,hta,_⟩:=hts;obtain ⟨na,nc,hna,_⟩:=hns;obtain ⟨tn,htn⟩:∃ tn,tn=tl.length:=⟨_,rfl⟩
 obtain ⟨nn,hnn⟩:∃ nn,nn=nl.length:=⟨_,rfl⟩
 rw [← htn] at hta hT16;rw [← hnn] at hna hN16;subst hta hna;have HTN:=hid htn;have HNN:=hid hnn;clear htn hnn hpr;have hr0:=rc_row3 w (.string ⟨en.toArray⟩) (.slice ta tn tc) (.slice na nn nc) 25;have hb0:Below w.heap.size w (w.alloc (.cells #[.string ⟨en.toArray⟩,.slice ta tn tc,.slice na nn nc] 25)):=(Below.refl _ w).alloc (Nat.le_refl _) _;have hl0:=alloc_lt w (.cells #[.string ⟨en.toArray⟩,.slice ta tn tc,.slice na nn nc] 25);have HR0:=hid hr0;clear hr0;obtain ⟨i1,hj,hy0,hy1,hy2⟩:=info_parts infoNodeB;have hcl:¬ 9223372036854775807 < 5+en.length:=by omega
 go_enter Tryz.func25,Tryz.ntmps25
 go_upto_region 1 with fail
 generalize World.alloc w _=W0 at HR0 hb0 hl0 ⊢;have HX:=hid (fun (W':World) (h:Below W0.heap.size W0 W')=>(RowIs.rc3 (HR0.out.below h hl0)).1);have x0:=HX.out W0 (Below.refl _ _)
 go_cut [3] from 8 to 15 (fun v wx=>∃ cs,Hid (ndsL cs=[rootN en])∧Hid (PSd w [.string ⟨en.toArray⟩,.slice ta tn tc,.slice na nn nc] wx v cs))
 case first =>
  go_region_law ((go_simp; go_at_call 60; refine (pattr_any _ _ _).mono ?_; rintro e wa ⟨rfl,hwa⟩; have hq:=bstep14 (S:=W0.heap.size) (w1:=W0) (by first | exact hq | exact hq.drew | exact hq.drew.drew | exact hq.drew.drew.drew | exact Below.refl _ _ | exact (Below.refl _ _).drew | exact (Below.refl _ _).drew.drew | exact (Below.refl _ _).drew.drew.drew | exact (Below.refl _ _).drew.drew.drew.drew) (Nat.le_refl _) hwa; have ya0:=HX.out _ hq; clear hwa))
  all_goals
   have hq2:=fun o1 o2=>al14 hq (Nat.le_refl _) o1 o2;have hro:=root_own wa w.heap.size (Nat.le_trans hb0.size hq.size) _ rfl en;have hPS:Hid (PSd w [.string ⟨en.toArray⟩,.slice ta tn tc,.slice na nn nc] _ _ _):=⟨hro,HR0.out.below (hq2 _ _) hl0,hb0.trans ((hq2 _ _).mono hb0.size)⟩
   clear hro hq2;go_wp2_with fail
   go_meet
   case rel=>exact ⟨_,show _=_ from rfl,hPS⟩
 case rest =>
  obtain ⟨cs0,hn0,hP⟩:=hcut;clear x0 HX HR0 hb0 hl0 hcl HRN;have hcl:cs0.length=1:=nds_len2 hn0.out;obtain ⟨vo,vc,hvf⟩:=hP.out.own.form;rw [hcl] at hvf;subst hvf;clear hcl;obtain ⟨x0,x1,x2,_,_,_⟩:=hP.out.row.rc3;go_wp2
  go_loopw [3,19] (fun v i wr=>∃ (j n:Nat) (vo:Option Addr) (vc:Nat) (cs:List NdC),j≤tn∧i=.int .i64 (j:Int)∧v=.slice vo n vc∧Hid (ndsL cs=rootN en :: flatXs 1 ((tl.take j).map tupT))∧Hid (n=cs.length)∧n≤1+5 * j∧Hid (PSd w [.string ⟨en.toArray⟩,.slice ta tn tc,.slice na nn nc] wr v cs)) (fun _ i _=>tn - (intOf i).toNat)
  case atStart=>exact ⟨0,1,vo,vc,cs0,Nat.zero_le _,rfl,rfl,by simpa [flatXs] using hn0,show _=_ from (nds_len2 hn0.out).symm,by omega,hP⟩
  case round =>
   clear x0 x1 x2 hP hn0;obtain ⟨j,n,vo,vc,cs,hjn,rfl,rfl,hnd,HL,hnb,hP⟩:=hrel;by_cases hlt:j < tn
   ·have hjl:j < tl.length:=by have:=HTN.out; omega
    obtain ⟨ta',tc',hta',hcT⟩:=HTW.out wr hP.out.bel;obtain ⟨ad,hao,hab,c⟩:=hcT j hjl
    injection hta' with e1 e2 e3
    subst e1 hao;clear e2 e3;have HFN:=hid (flat_next hjl);have KT:=hid (fun w'=>ptupel_any tl[j] w' (HPR.out _ (List.getElem_mem hjl)));have HC3:=hid (tup_count3 tl[j]);have HC5:=hid (tup_count tl[j]);generalize flatX 1 (tupT tl[j])=FX at KT HC3 HC5 HFN;generalize tl[j]=x at c KT;obtain ⟨xi,xo,xc,xp,xn⟩:=x;obtain ⟨c0,c1,c2,c3,c4⟩:=c;unfold tuV at KT;simp only at c0 c1 c2 c3 c4 KT;have q6:(j:Int) < (tn:Int):=by omega
    clear hcT;have hP1:=hid (hP.out.alloc (.cells #[.string ⟨xi.toArray⟩,.bool xo,.string ⟨xc.toArray⟩,.int .i64 xp,.string ⟨xn.toArray⟩] 56));have HR1:=rc_row5 wr (.string ⟨xi.toArray⟩) (.bool xo) (.string ⟨xc.toArray⟩) (.int .i64 xp) (.string ⟨xn.toArray⟩) 56;clear hP
    go_upto_region 5 with fail
    generalize World.alloc wr _=W1 at hP1 HR1 ⊢;obtain ⟨y0,y1,y2,y3,y4,_,_,_,_,_⟩:=HR1.rc5;clear HR1 c0 c1 c2 c3 c4;go_wp2_with fail
    refine (KT.out _).mono ?_
    rintro e w2 ⟨v2,cs2,rfl,hF2,hown2,hw2⟩;have hP2:=hid (hP1.out.below hw2);have hl2:=nds_len2 hF2;have h20:0 < cs2.length:=by have:=HC3.out; omega
    have hn2b:cs2.length≤5:=by have:=HC5.out; omega
    obtain ⟨a2,k2,hv2⟩:=hown2.form;obtain ⟨n2,hn2⟩:∃ n2,n2=cs2.length:=⟨_,rfl⟩
    rw [← hn2] at hv2 h20 hn2b;subst hv2;obtain ⟨g2,ha2,hz1,hz2,hz3,hcells⟩:=ownN_cells hown2 (by rw [← hn2]; exact h20);subst ha2;have HN2:=hid hn2;have HF2:=hid hF2;have hcA:Hid (∀ d ∈ cs2,OwnP w2 w.heap.size d.a d.nd.attrs):=fun d hd=>ownP_mono (hown2.2 d hd) hP1.out.bel.size;have HCE:=hid hcells;clear hz1 hz2 hz3 hl2 hn2 hF2 hcells hown2 hw2 hP1 KT HC3 HC5 y0 y1 y2 y3 y4;go_wp2_with (at_builtin; refine wp_appNs _ rfl (.tmp 23) (.tmp 25) 47 rfl w.heap.size i1 _ Tryz.underlying47 hj hy0 hy1 hy2 rfl (.slice vo n vc) cs rfl hP2.out.own ⟨g2,0,none⟩ k2 cs2 n2 HN2.out h20 hcA.out rfl HCE.out (by have:=HL.out; omega) (by have:=HN2.out; omega) hP2.out.bel.size ?_; intro v9 w9 hown9 hf9; obtain ⟨va9,vc9,e9⟩:=hown9.form; obtain ⟨n9,hn9⟩:∃ n9,n9=(cs++cs2).length:=⟨_,rfl⟩; rw [← hn9] at e9; subst e9; have HN9:=hid hn9; have hP9:=hid (hP2.out.app hf9 hown9); clear hn9 hown9 hf9)
    go_roundw
    case rel=>exact ⟨j+1,n9,va9,vc9,cs++cs2,by omega,by go_num,rfl,show _=_ by rw [nds_app,hnd.out,HF2.out,HFN.out,List.cons_append],HN9,by have h1:=HN9.out; have h2:=HL.out; have h3:=HN2.out; rw [List.length_append] at h1; omega,hP9⟩
    case measure=>simp [intOf]; omega
   ·have hjt:j=tn:=by omega
    have q6:¬ (j:Int) < (tn:Int):=by omega
    have hnd:Hid (ndsL cs=rootN en :: flatXs 1 (tl.map tupT)):=show _=_ by rw [hnd.out,List.take_of_length_le (by have:=HTN.out; omega)]
    have hnb:n≤81:=by omega
    obtain ⟨x0,x1,x2,_,_,_⟩:=hP.out.row.rc3;clear hjt;go_wp2
    go_loopw [3,31] (fun v i wr=>∃ (k n:Nat) (vo:Option Addr) (vc:Nat) (cs:List NdC),k≤nn∧i=.int .i64 (k:Int)∧v=.slice vo n vc∧Hid (ndsL cs=rootN en :: (flatXs 1 (tl.map tupT)++flatXs 1 ((nl.take k).map noteT)))∧Hid (n=cs.length)∧n≤81+k∧Hid (PSd w [.string ⟨en.toArray⟩,.slice ta tn tc,.slice na nn nc] wr v cs)) (fun _ i _=>nn - (intOf i).toNat)
    case atStart=>exact ⟨0,n,vo,vc,cs,Nat.zero_le _,rfl,rfl,by simpa [flatXs] using hnd,HL,by omega,hP⟩
    case round =>
     clear x0 x1 x2 hP hnd HL hnb q6 hjn hlt;obtain ⟨k,n3,vo3,vc3,cs3,hkn,rfl,rfl,hnd,HL,hnb,hP⟩:=hrel;by_cases hlt:k < nn
     ·have hkl:k < nl.length:=by have:=HNN.out; omega
      obtain ⟨na',nc',hna',hcN⟩:=HNW.out _ hP.out.bel;obtain ⟨ad,hao,hab,c⟩:=hcN k hkl
      injection hna' with e1 e2 e3
      subst e1 hao;clear e2 e3;have HFN:=hid (flat_nnext hkl);generalize nl[k]=s at c HFN;have q6:(k:Int) < (nn:Int):=by omega
      have hnewN:=hid (fun (W:World) (c:NdC) (g:Nat) (hg:g=W.heap.size)=>xnd_new W c g hg);clear hcN;go_wp2_with (at_builtin; refine wp_appN2 _ rfl (.tmp 35) (.tmp 38) 47 rfl w.heap.size i1 _ Tryz.underlying47 hj hy0 hy1 hy2 rfl (.slice vo3 n3 vc3) cs3 rfl (by exact OwnN.alloc hP.out.own _) ⟨_,0,none⟩ 1 ⟨⟨1,noteK,[],s⟩,.slice none 0 0⟩ (by exact OwnP.nil _ _) rfl (by exact hnewN.out _ _ _ rfl) (by have:=HL.out; omega) (by have:=hP.out.lt; simp; omega) ?_; intro v9 w9 hown9 hf9; obtain ⟨va9,vc9,e9⟩:=hown9.form; obtain ⟨n9,hn9⟩:∃ n9,n9=(cs3++[(⟨⟨1,noteK,[],s⟩,.slice none 0 0⟩:NdC)]).length:=⟨_,rfl⟩; rw [← hn9] at e9; subst e9; have HN9:=hid hn9; have hP9:=hid ((hP.out.alloc _).app hf9 hown9); clear hn9 hown9 hf9)
      go_roundw
      case rel=>exact ⟨k+1,n9,va9,vc9,cs3++[⟨⟨1,noteK,[],s⟩,.slice none 0 0⟩],by omega,by go_num,rfl,show _=_ by rw [nds_snoc,hnd.out,HFN.out]; simp,HN9,by have h1:=HN9.out; have h2:=HL.out; rw [List.length_append,List.length_singleton] at h1; omega,hP9⟩
      case measure=>simp [intOf]; omega
     ·have q6:¬ (k:Int) < (nn:Int):=by omega
      go_wp2;go_ret;exact ⟨_,cs3,rfl,by rw [hnd.out,HFT.out,List.take_of_length_le (by have:=HNN.out; omega)],hP.out.own,hP.out.bel⟩
def attrGet (nm:List UInt8):List Par → Option (List UInt8)
 | []=>none
 | p :: ps=>if p.name=nm then some p.value else attrGet nm ps
theorem findX_get (nm:List UInt8):∀ (ps:List Par) (k:Nat),(findX nm ps k=-1∧attrGet nm ps=none)∨∃ (j:Nat) (h:j < ps.length),findX nm ps k=((k+j:Nat):Int)∧attrGet nm ps=some ps[j].value
 | [],k=>.inl ⟨rfl,rfl⟩
 | p :: ps,k=>by
  rw [findX,attrGet];by_cases h:p.name=nm
  ·rw [if_pos h,if_pos h];exact .inr ⟨0,by simp,by simp,rfl⟩
  ·rw [if_neg h,if_neg h]
   rcases findX_get nm ps (k+1) with ⟨h1,h2⟩ | ⟨j,hj,h1,h2⟩
   ·exact .inl ⟨h1,h2⟩
   ·exact .inr ⟨j+1,by simp; omega,by rw [h1]; omega,by rw [h2]; rfl⟩
def xattR (o:Option (List UInt8)):Value:=match o with
 | none=>.tuple #[.string ⟨#[]⟩,.bool false]
 | some v=>.tuple #[.string ⟨v.toArray⟩,.bool true]
set_option maxHeartbeats 2000000 in
set_option maxRecDepth 100000 in
theorem xattr_any (x:Nd) (a:Value) (nm:List UInt8) (w:World) (hz:SmallP 140737488355328 x.attrs) (hv:ParsAt w a x.attrs) :
  Calls Tryz.prog 72 #[ndV x a,.string ⟨nm.toArray⟩] w fun e w'=>e=.returned (xattR (attrGet nm x.attrs))∧Below w.heap.size w w':=by
 obtain ⟨xd,xn,ps,xt⟩:=x;unfold ndV;simp only at hz hv ⊢;have KF:=hid (fun w' (hb:Below w.heap.size w w')=>xfind_any a ps nm w' hz.1 (hv.below hb));obtain ⟨ao,cap,rfl,hc⟩:=hv.open;have hbn:Below w.heap.size w (w.alloc (.cells #[.int .i64 xd,.string ⟨xn.toArray⟩,.slice ao ps.length cap,.string ⟨xt.toArray⟩] 52)):=(Below.refl _ w).alloc (Nat.le_refl _) _;have hr:=rc_row4 w (.int .i64 xd) (.string ⟨xn.toArray⟩) (.slice ao ps.length cap) (.string ⟨xt.toArray⟩) 52;have hlt:=alloc_lt w (.cells #[.int .i64 xd,.string ⟨xn.toArray⟩,.slice ao ps.length cap,.string ⟨xt.toArray⟩] 52);obtain ⟨b0,b1,b2,b3,_,_,_,_⟩:=hr.rc4;have HR:=hid hr;have HC:=hid hc;have HZ:=hid hz;have hz1:=hz.1;clear hc hv hr hz
 rcases findX_get nm ps 0 with ⟨h1,h2⟩ | ⟨j,hj,h1,h2⟩
 ·rw [h1] at KF;rw [h2];clear h1 h2 HC HZ;generalize ps.length=n at KF HR hbn hlt b0 b1 b2 b3 hz1 ⊢
  go_enter Tryz.func72,Tryz.ntmps72
  go_wp2_with fail
  refine (KF.out _ hbn).mono ?_
  rintro e w1 ⟨rfl,hw1⟩;have hb1:=hbn.trans (hw1.mono hbn.size);go_wp2;go_ret2;exact ⟨rfl,hb1⟩
 ·rw [h1] at KF;rw [h2];obtain ⟨ad,hao,hab,c0,c1,c2⟩:=HC.out j hj;subst hao;have hvl:=(HZ.out.2 _ (List.getElem_mem hj)).2;have KC:=hid (fun w'=>xclone_list ps[j].value w' hvl);have c1:w.cell? ⟨(ad.add (j * 3)).block,(ad.add (j * 3)).off+1,none⟩=some (.string ⟨ps[j].value.toArray⟩):=c1;clear h1 h2 HC HZ c0 c2;generalize ps[j].value=V at KC c1 hvl ⊢;obtain ⟨n,hn⟩:∃ n,n=ps.length:=⟨_,rfl⟩
  rw [← hn] at KF HR hbn hlt b0 b1 b2 b3 hz1 ⊢;have hj:j < n:=by omega
  clear hn;rw [Nat.zero_add] at KF
  go_enter Tryz.func72,Tryz.ntmps72
  go_wp2_with fail
  refine (KF.out _ hbn).mono ?_
  rintro e w1 ⟨rfl,hw1⟩;have hb1:=hbn.trans (hw1.mono hbn.size);have c1':=cell_below hb1 (by simp only [add_block]; exact hab) c1;have hr1:=hid (HR.out.below hw1 hlt);clear b0 b1 b2 b3 hw1 c1;obtain ⟨b0,b1,b2,b3,_,_,_,_⟩:=hr1.out.rc4;go_wp2_with fail
  refine (KC.out _).mono ?_
  rintro e w2 ⟨rfl,hw2⟩;go_wp2;go_ret2;exact ⟨rfl,hb1.trans (hw2.mono hb1.size)⟩
set_option maxHeartbeats 2000000 in
set_option maxRecDepth 100000 in
theorem pnamed_any (v:Value) (cs:List NdC) (p d:Nat) (t:XT) (nm:List UInt8) (w:World) (hs:SubAt (ndsL cs) p d t) (hr:RowD w v cs) (hnm:nm.length≤1000) :
  Calls Tryz.prog 73 #[v,.int .i64 p,.string ⟨nm.toArray⟩] w fun e w'=>∃ kv,e=.returned kv∧Own w' w.heap.size 3 kv (posCells ((placesN nm d t p).map Prod.fst))∧Below w.heap.size w w':=by
 obtain ⟨i0,hi,hz0,hz1,hz2⟩:=info_parts infoInt;obtain ⟨hp,hnd⟩:=sub_at hs;have K:=hid (xkids_any v cs p w hp (by have:=hr.len; omega) (hr.deep _ (List.getElem_mem hp)).1 (hr.deep _ (List.getElem_mem hp)).2 hr.at');rw [hnd] at K;simp only at K;rw [sub_places hs] at K;have hsub:=sub_kids hs;have hSl:(startsP (d+1) (kidsOf t) (p+1)).length≤1000:=by
  have h1:=congrArg List.length (sub_places hs);rw [List.length_map] at h1;have h2:=kids_len d ((ndsL cs).drop (p+1)) (p+1);have h3:=hr.len;rw [List.length_drop,ndsL_len] at h2;omega
 unfold placesN;generalize startsP (d+1) (kidsOf t) (p+1)=SP at K hsub hSl ⊢;obtain ⟨ao,cap,hvf,hc⟩:=hr.at';have HC:Hid (∀ y ∈ SP,∃ ad,ao=some ad∧ad.block < w.heap.size∧y.1 < cs.length∧w.cell? ⟨(ad.add (y.1 * 4)).block,(ad.add (y.1 * 4)).off+1,none⟩=some (.string ⟨(nameT y.2).toArray⟩)∧(nameT y.2).length≤1048576):=fun y hy=>by
  obtain ⟨hp2,hnd2⟩:=sub_at (hsub y hy);obtain ⟨ad,e1,e2,c,_⟩:=hc y.1 hp2;have h1:=c.c1;have h2:=(hr.small _ (List.getElem_mem hp2)).1;rw [hnd2] at h1 h2;exact ⟨ad,e1,e2,hp2,h1,h2⟩
 have hlen:=hr.len;obtain ⟨cn,hcn⟩:∃ cn,cn=cs.length:=⟨_,rfl⟩
 rw [← hcn] at hvf hlen HC;subst hvf;clear hc hr hs hsub hnd hp hcn;have zn:=size_list nm
 go_enter Tryz.func73,Tryz.ntmps73
 go_wp2_with fail
 refine K.out.mono ?_
 rintro e w1 ⟨kv,rfl,hown1,hw1⟩;obtain ⟨ka,kc,hkf⟩:∃ ka kc,kv=.slice ka SP.length kc:=by
  rcases hown1.2 with ⟨rfl,hn⟩ | ⟨g,cap2,cur,rfl,_⟩
  ·simp [posCells] at hn; exact ⟨none,0,by rw [hn]; rfl⟩
  ·exact ⟨some ⟨g,0,none⟩,cap2,by simp [posCells]⟩
 subst hkf;have HOW:=hid hown1;obtain ⟨sn,hsn⟩:∃ sn,sn=SP.length:=⟨_,rfl⟩
 rw [← hsn] at HOW hSl ⊢;have HSN:=hid hsn;clear hown1 hsn K;go_wp2
 go_loopw [7,14] (fun pv iv wr=>∃ j:Nat,j≤sn∧iv=.int .i64 (j:Int)∧Own wr w1.heap.size 3 pv (posCells ((namedP nm (SP.take j)).map Prod.fst))∧Below w1.heap.size w1 wr) (fun _ iv _=>sn - (intOf iv).toNat)
 case atStart=>exact ⟨0,Nat.zero_le _,rfl,Own.nil _ _ _,Below.refl _ _⟩
 case round =>
  obtain ⟨j,hjn,rfl,hown,hb⟩:=hrel;have hbw:=hw1.trans (hb.mono hw1.size);by_cases hlt:j < sn
  ·have hjl:j < SP.length:=by have:=HSN.out; omega
   obtain ⟨g,hka,cj⟩:=own_pos HOW.out j (by simp; exact hjl);subst hka;rw [List.getElem_map] at cj;have hgl:g < w1.heap.size:=World.block_lt_of_cell? _ _ cj;have cj:=cell_below hb hgl cj;obtain ⟨ad,hao,hab,hyl,c1,hnl⟩:=HC.out SP[j] (List.getElem_mem hjl);subst hao;have c1:=cell_below hbw (by simp only [add_block]; exact hab) c1;have KL:=hid (fun w'=>xlocal_any (nameT SP[j].2) w' (by omega));have hsnoc:=namedP_snoc (nm:=nm) hjl;have hbnd:=namedP_le nm (SP.take j);rw [List.length_take] at hbnd;generalize SP[j]=Y at cj hyl c1 KL hsnoc hnl;obtain ⟨yp,yt⟩:=Y;simp only at cj hyl c1 KL hsnoc hnl;generalize localX (nameT yt)=L at KL hsnoc;generalize nameT yt=N at c1 KL hnl;generalize hAcc:namedP nm (SP.take j)=acc at hown hsnoc hbnd;generalize hAcc2:namedP nm (SP.take (j+1))=acc2 at hsnoc;have HA2:=hid hAcc2;have q6:(j:Int) < (sn:Int):=by omega
   have q7:(yp:Int) < (cn:Int):=by omega
   have HO:=hid (fun (W':World) (h:Below wr.heap.size wr W')=>hown.below h);have HB:=hid (fun (W':World) (h:Below wr.heap.size wr W')=>hb.trans (h.mono hb.size));have HY:Hid (∀ w',Below wr.heap.size wr w' → w'.cell? ⟨g,j,none⟩=some (.int .i64 (yp:Int))):=fun w' h=>cell_below h (Nat.lt_of_lt_of_le hgl hb.size) cj;have hpl:(posCells (acc.map Prod.fst)).length=acc.length:=by simp [posCells]
   clear HC hown hAcc hAcc2;go_wp2_with fail
   refine (KL.out _).mono ?_
   rintro e w2 ⟨rfl,hw2⟩;have cj2:=HY.out _ hw2;have hown2:=HO.out _ hw2;have hb2:=HB.out _ hw2;have hB2:w1.heap.size≤w2.heap.size:=hb2.size;clear cj c1 KL HY HO HB
   cases hcmp:(L==nm) with
   | true =>
    rw [if_pos (by rw [hcmp])] at hsnoc;have HS:=hid hsnoc;clear hsnoc;go_wp2_with (at_builtin; refine wp_app _ rfl (.tmp 26) (.tmp 28) 78 rfl w1.heap.size 3 i0 (.int .i64 0) 8 Tryz.underlying78 hi hz0 hz1 hz2 rfl _ _ rfl (by exact hown2.alloc _) ⟨_,0,none⟩ 1 1 [.int .i64 (yp:Int)] rfl rfl (by exact one_new _ _ _) (by intro u hu; simp at hu; subst hu; rfl) (by rw [hpl]; unfold maxLen; omega) (by rw [hpl]; omega) w1 (by exact hb2.alloc hB2 _) (by simp; omega) ?_; intro v3 w3 hown3 hb3 hB3)
    rw [show posCells (acc.map Prod.fst)++[.int .i64 (yp:Int)]=posCells ((acc++[(yp,yt)]).map Prod.fst) by simp [posCells],← HS.out,← HA2.out] at hown3;go_roundw
    case rel=>exact ⟨j+1,by omega,by go_num,hown3,hb3⟩
    case measure=>simp [intOf]; omega
   | false =>
    rw [if_neg (by rw [hcmp]; simp),List.append_nil] at hsnoc;rw [← hsnoc,← HA2.out] at hown2;clear hsnoc;go_wp2;go_roundw
    case rel=>exact ⟨j+1,by omega,by go_num,hown2,hb2⟩
    case measure=>simp [intOf]; omega
  ·have q6:¬ (j:Int) < (sn:Int):=by omega
   have hE:SP.take j=SP:=List.take_of_length_le (by have:=HSN.out; omega);rw [hE] at hown;go_wp2;go_ret;exact ⟨_,rfl,own_lower hown hw1.size,hbw⟩
theorem attrGet_is (nm:List UInt8):∀ l:List Par,attrGet nm l=attG nm l
 | []=>rfl
 | p :: l=>by rw [attrGet,attG,attrGet_is nm l]
theorem xattR_is (o:Option (List UInt8)):xattR o=.tuple #[.string ⟨(o.getD []).toArray⟩,.bool o.isSome]:=by cases o <;> rfl
theorem xatt_any (x:Nd) (a:Value) (nm:List UInt8) (w:World) (hz:SmallP 140737488355328 x.attrs) (hv:ParsAt w a x.attrs) :
  Calls Tryz.prog 72 #[ndV x a,.string ⟨nm.toArray⟩] w fun e w'=>e=.returned (.tuple #[.string ⟨((attG nm x.attrs).getD []).toArray⟩,.bool (attG nm x.attrs).isSome])∧Below w.heap.size w w':=by
 have K:=xattr_any x a nm w hz hv;rw [attrGet_is,xattR_is] at K;exact K
def prioR (l:List Par):Int × Bool:=match attG priorityK l with
 | none=>(-1,true)
 | some p=>thouC p
set_option maxHeartbeats 1000000 in
set_option maxRecDepth 100000 in
theorem pprio_any (x:Nd) (a:Value) (w:World) (hz:SmallP 1048576 x.attrs) (hv:ParsAt w a x.attrs) :
  Calls Tryz.prog 130 #[ndV x a] w fun e w'=>e=.returned (.tuple #[.int .i64 (prioR x.attrs).1,.bool (prioR x.attrs).2])∧Below w.heap.size w w':=by
 have KA:=hid (fun w' (hb:Below w.heap.size w w')=>xatt_any x a priorityK w' ⟨by have:=hz.1; omega,fun p hp=>⟨by have:=(hz.2 p hp).1; omega,by have:=(hz.2 p hp).2; omega⟩⟩ (hv.below hb));have hpl:∀ p,attG priorityK x.attrs=some p → p.length≤1048576:=fun p hp=>attG_small hz hp;have hR:prioR x.attrs=match attG priorityK x.attrs with | none=>(-1,true) | some p=>thouC p:=rfl
 generalize prioR x.attrs=R at hR ⊢;generalize attG priorityK x.attrs=P at KA hpl hR;obtain ⟨pa,pc,hpf⟩:=hv.form;obtain ⟨xd,xn,ps,xt⟩:=x;unfold ndV at KA ⊢;simp only at KA hpf ⊢;obtain ⟨pn,hpn⟩:∃ pn,pn=ps.length:=⟨_,rfl⟩
 rw [← hpn] at hpf;subst hpf;clear hpn hv hz;have hbn:Below w.heap.size w (w.alloc (.cells #[.int .i64 xd,.string ⟨xn.toArray⟩,.slice pa pn pc,.string ⟨xt.toArray⟩] 52)):=(Below.refl _ w).alloc (Nat.le_refl _) _;obtain ⟨b0,b1,b2,b3,_,_,_,_⟩:=(rc_row4 w (.int .i64 xd) (.string ⟨xn.toArray⟩) (.slice pa pn pc) (.string ⟨xt.toArray⟩) 52).rc4
 go_enter Tryz.func130,Tryz.ntmps130
 go_wp2_with fail
 refine (KA.out _ hbn).mono ?_
 rintro e w1 ⟨rfl,hw1⟩;have hb1:=hbn.trans (hw1.mono hbn.size);clear KA b0 b1 b2 b3 hbn hw1
 cases P with
 | none =>
  simp only at hR;go_wp2;go_ret2;exact ⟨by rw [hR]; rfl,hb1⟩
 | some p =>
  simp only at hR;have KT:=hid (fun w'=>pthou_any p w' (by have:=hpl p rfl; omega));have HR:=hid hR;clear hR hpl;generalize thouC p=TC at KT HR;go_wp2_with fail
  refine (KT.out _).mono ?_
  rintro e w2 ⟨rfl,q,rfl⟩;go_wp2;go_ret2;exact ⟨by rw [HR.out]; rfl,hb1.trans ((below_drewN w1 q).mono hb1.size)⟩
def statR (t:XT):Bool × Bool:=match namedX pstatK (kidsOf t) with
 | [st]=>match namedX basicK (kidsOf st) with
  | [b]=>(textOf b==openK,textOf b==openK || textOf b==closedK)
  | _=>(false,false)
 | _=>(false,false)
theorem stat_no1 {t:XT} (h:(namedX pstatK (kidsOf t)).length ≠ 1):statR t=(false,false):=by
 unfold statR
 split
 ·next st e=>rw [e] at h; simp at h
 ·rfl
theorem stat_no2 {t st:XT} (h1:namedX pstatK (kidsOf t)=[st]) (h:(namedX basicK (kidsOf st)).length ≠ 1):statR t=(false,false):=by
 unfold statR;rw [h1]
 simp only
 split
 ·next b e=>rw [e] at h; simp at h
 ·rfl
theorem stat_yes {t st b:XT} (h1:namedX pstatK (kidsOf t)=[st]) (h2:namedX basicK (kidsOf st)=[b]):statR t=(textOf b==openK,textOf b==openK || textOf b==closedK):=by
 unfold statR;rw [h1]
 simp only
 rw [h2]
set_option maxHeartbeats 2000000 in
set_option maxRecDepth 100000 in
theorem pstat_any (v:Value) (cs:List NdC) (p d:Nat) (t:XT) (w:World) (hs:SubAt (ndsL cs) p d t) (hr:RowD w v cs) :
  Calls Tryz.prog 129 #[v,.int .i64 p] w fun e w'=>e=.returned (.tuple #[.bool (statR t).1,.bool (statR t).2])∧Below w.heap.size w w':=by
 have KK:=hid (fun nm (hnm:nm.length≤1000) q dq k (hq:SubAt (ndsL cs) q dq k) w' (hb:Below w.heap.size w w')=>pnamed_any v cs q dq k nm w' hq (hr.below hb) hnm);have HND:=hid (fun q dq k (hq:SubAt (ndsL cs) q dq k) w' (hb:Below w.heap.size w w')=>(hr.below hb).node hq);have HSB:=hid (fun nm q dq k (hq:SubAt (ndsL cs) q dq k)=>namedP_sub (nm:=nm) hq);have HN1:=hid (@stat_no1 t);have HN2:=hid (fun st h1 h2=>@stat_no2 t st h1 h2);have HY:=hid (fun st b h1 h2=>@stat_yes t st b h1 h2);have HS:=hid hs;generalize statR t=R at HN1 HN2 HY ⊢;have hlen:=hr.len;obtain ⟨ao,cap,hvf,_⟩:=hr.at';obtain ⟨cn,hcn⟩:∃ cn,cn=cs.length:=⟨_,rfl⟩
 rw [← hcn] at hvf hlen;have HCN:=hid hcn;subst hvf;clear hr hs hcn
 go_enter Tryz.func129,Tryz.ntmps129
 go_wp2_with fail
 refine (KK.out pstatK (by decide) p d t HS.out w (Below.refl _ _)).mono ?_
 rintro e w1 ⟨kv,rfl,hown,hw1⟩;by_cases hl1:(placesN pstatK d t p).length=1
 case neg =>
  obtain ⟨ka,kc,hkf⟩:=own_form hown;rw [List.length_map] at hkf;have hR:=hid (HN1.out (by rw [← places_len (d:=d) (p:=p)]; exact hl1));generalize (placesN pstatK d t p).length=n1 at hkf hl1;subst hkf;have q1:((n1:Int) != 1)=true:=by simp; omega
  clear hown HN1 HN2 HY hl1 KK HND HSB;go_wp2;go_ret2;exact ⟨by rw [hR.out]; rfl,hw1⟩
 obtain ⟨q1,st,hp1,hn1⟩:=places_one hl1;have hsub1:SubAt (ndsL cs) q1 (d+1) st:=HSB.out pstatK p d t HS.out (q1,st) (by show _ ∈ placesN pstatK d t p; rw [hp1]; simp);rw [hp1,List.map_cons,List.map_nil] at hown;obtain ⟨g,kc,hkf,hcell,hgB⟩:=own_single hown;subst hkf;clear hown hl1 HN1 hp1;go_wp2_with fail
 refine (KK.out basicK (by decide) q1 (d+1) st hsub1 w1 hw1).mono ?_
 rintro e w2 ⟨kv2,rfl,hown2,hw2⟩;have hb2:=hw1.trans (hw2.mono hw1.size);by_cases hl2:(placesN basicK (d+1) st q1).length=1
 case neg =>
  obtain ⟨ka,kc2,hkf⟩:=own_form hown2;rw [List.length_map] at hkf;have hR:=hid (HN2.out st hn1 (by rw [← places_len (d:=d+1) (p:=q1)]; exact hl2));generalize (placesN basicK (d+1) st q1).length=n1 at hkf hl2;subst hkf;have q1:((n1:Int) != 1)=true:=by simp; omega
  clear hown2 HN2 HY hl2 KK HND HSB;go_wp2;go_ret2;exact ⟨by rw [hR.out]; rfl,hb2⟩
 obtain ⟨q2,bt,hp2,hn2⟩:=places_one hl2;have hsub2:SubAt (ndsL cs) q2 (d+1+1) bt:=HSB.out basicK q1 (d+1) st hsub1 (q2,bt) (by show _ ∈ placesN basicK (d+1) st q1; rw [hp2]; simp);rw [hp2,List.map_cons,List.map_nil] at hown2;obtain ⟨g2,kc2,hkf2,hcell2,hgB2⟩:=own_single hown2;subst hkf2;obtain ⟨ad,cap2,a,hvf,hab,hpl,c0,c1,c2,c3,hpa,hsp,htl⟩:=HND.out q2 _ bt hsub2 w2 hb2;have hao:ao=some ad:=by injection hvf
 subst hao;have hR:=hid (HY.out st bt hn1 hn2);have hq2:(q2:Int) < (cn:Int):=by have:=HCN.out; omega
 clear hown2 hl2 HN2 HY hp2 KK HND HSB hcell hvf c0 c1 c2 hpa hsp;generalize textOf bt=TX at c3 hR htl
 cases ho:(TX==openK) with
 | true =>
  have qo:(TX==[111,112,101,110])=true:=ho;rw [ho] at hR;go_wp2;go_ret2;exact ⟨by rw [hR.out]; rfl,hb2⟩
 | false =>
  have qo:(TX==[111,112,101,110])=false:=ho;rw [ho] at hR;generalize hc:(TX==closedK)=C at hR;have qc:(TX==[99,108,111,115,101,100])=C:=hc;clear hc;go_wp2;go_ret2;exact ⟨by rw [hR.out]; rfl,hb2⟩
def contQ (x:Tu) (l:List XT):Tu × Bool:=match l with
 | []=>(x,true)
 | c :: _=>(⟨x.id,x.opn,textOf c,(prioR (attrsOf c)).1,x.note⟩,(prioR (attrsOf c)).2)
def noteQ (x:Tu) (l:List XT):Tu:=match l with
 | []=>x
 | n :: _=>⟨x.id,x.opn,x.contact,x.prio,textOf n⟩
theorem tup_codebad {t:XT} (h:(statR t).2=false∨1 < (namedX pcontK (kidsOf t)).length∨1 < (namedX noteK (kidsOf t)).length):tupleT t=none:=by
 by_cases h1:(namedX pstatK (kidsOf t)).length=1
 case neg=>exact tup_no1 h1
 obtain ⟨st,hst⟩:=List.length_eq_one_iff.1 h1;by_cases h2:(namedX basicK (kidsOf st)).length=1
 case neg=>exact tup_no2 hst h2
 obtain ⟨b,hb⟩:=List.length_eq_one_iff.1 h2;rw [stat_yes hst hb] at h;rw [tup_yes hst hb]
 rcases h with h | h
 ·simp only [Bool.or_eq_false_iff,beq_eq_false_iff_ne] at h;rw [if_pos h]
 ·by_cases hx:textOf b ≠ openK∧textOf b ≠ closedK
  ·rw [if_pos hx]
  ·rw [if_neg hx,if_pos h]
theorem tup_code {t:XT} (h:(statR t).2=true) (hc:(namedX pcontK (kidsOf t)).length≤1) (hn:(namedX noteK (kidsOf t)).length≤1) :
  tupleT t=if (contQ ⟨(attG pidK (attrsOf t)).getD [],(statR t).1,[],-1,[]⟩ (namedX pcontK (kidsOf t))).2=true then some (noteQ (contQ ⟨(attG pidK (attrsOf t)).getD [],(statR t).1,[],-1,[]⟩ (namedX pcontK (kidsOf t))).1 (namedX noteK (kidsOf t))) else none:=by
 by_cases h1:(namedX pstatK (kidsOf t)).length=1
 case neg=>rw [stat_no1 h1] at h; cases h
 obtain ⟨st,hst⟩:=List.length_eq_one_iff.1 h1;by_cases h2:(namedX basicK (kidsOf st)).length=1
 case neg=>rw [stat_no2 hst h2] at h; cases h
 obtain ⟨b,hb⟩:=List.length_eq_one_iff.1 h2;rw [stat_yes hst hb] at h ⊢;rw [tup_yes hst hb,if_neg (by
  intro hh;simp only [Bool.or_eq_true,beq_iff_eq] at h
  rcases h with h | h
  ·exact hh.1 h
  ·exact hh.2 h),if_neg (by omega)]
 unfold contP contQ noteQ;generalize (attG pidK (attrsOf t)).getD []=ID;generalize namedX noteK (kidsOf t)=N at hn
 cases hcc:namedX pcontK (kidsOf t) with
 | nil =>
  simp only [Option.map_some,if_true]
  cases N <;> rfl
 | cons c r =>
  simp only [prioR]
  rcases Option.eq_none_or_eq_some (attG priorityK (attrsOf c)) with hA | ⟨pv,hA⟩
  ·simp only [hA,Option.map_some,if_true]
   cases N <;> rfl
  ·simp only [hA,thouC];by_cases hneg:thouV pv < 0
   ·rw [if_pos hneg,if_pos hneg]; rfl
   ·rw [if_neg hneg,if_neg hneg];simp only [Option.map_some,if_true]
    cases N <;> rfl
structure TQ (w3 wr:World) (x:Tu):Prop where
 bel:Below w3.heap.size w3 wr
 rb:RowIs wr w3.heap.size 56 (tuCells x)
theorem TQ.lt {w wr:World} {x:Tu} (h:TQ w wr x):w.heap.size < wr.heap.size:=(Array.getElem?_eq_some_iff.1 (show wr.heap[w.heap.size]? = some _ from h.rb)).1
theorem TQ.below {w wr w':World} {x:Tu} (h:TQ w wr x) (hb:Below wr.heap.size wr w'):TQ w w' x :=
 ⟨h.bel.trans (hb.mono h.bel.size),h.rb.below hb h.lt⟩
theorem TQ.set {w wr:World} {x y:Tu} (h:TQ w wr x) (j:Nat) (v:Value) (hy:(tuCells x).set j v=tuCells y):TQ w (wr.setCell ⟨w.heap.size,j,none⟩ v) y :=
 ⟨h.bel.setCell (show w.heap.size≤(⟨w.heap.size,j,none⟩:Addr).block from Nat.le_refl _) _,by rw [← hy]; exact h.rb.set j v⟩
theorem TQ.c5 {w wr:World} {x:Tu} (h:TQ w wr x):RowC5 wr w.heap.size (.string ⟨x.id.toArray⟩) (.bool x.opn) (.string ⟨x.contact.toArray⟩) (.int .i64 x.prio) (.string ⟨x.note.toArray⟩):=RowIs.rc5 h.rb
theorem tq_new (w:World) (o:Bool):TQ w (w.alloc (.cells #[.string ⟨#[]⟩,.bool o,.string ⟨#[]⟩,.int .i64 (-1),.string ⟨#[]⟩] 56)) ⟨[],o,[],-1,[]⟩ :=
 ⟨(Below.refl _ w).alloc (Nat.le_refl _) _,rc_row5 w (.string ⟨#[]⟩) (.bool o) (.string ⟨#[]⟩) (.int .i64 (-1)) (.string ⟨#[]⟩) 56⟩
theorem places_take {nm:List UInt8} {d p:Nat} {t:XT} (j:Nat):((placesN nm d t p).take j).map Prod.snd=(namedX nm (kidsOf t)).take j:=by
 rw [List.map_take,show (placesN nm d t p).map Prod.snd=namedX nm (kidsOf t) from namedP_kids _ _ _ _]
end Go.Proofs.YtdnekampnkhmfaaGreatDoor
