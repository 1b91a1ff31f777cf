/-
  AField, AFields, AText, HeadStepL, FPieces, OwnCells, FAll, RAll.
-/
import Derived.Test.YtiogedceommcoaaGreatDoorK15
import Derived.Test.YtiogedceommcoaaGreatDoorK20
set_option linter.unusedVariables false
set_option linter.unusedSimpArgs false
set_option maxRecDepth 20000
namespace Go.Proofs.YtiogedceommcoaaGreatDoor
open Go.RowKit Sc
set_option maxHeartbeats 1000000 in
set_option maxRecDepth 100000 in
theorem field_any (q:List UInt8) (w:World) (hq:q.length≤1048576) :
  Calls Tryz.prog 158 #[.string ⟨q.toArray⟩] w fun e w'=>e=.returned (.tuple #[parV (fieldR q).1,.bool (fieldR q).2])∧Below w.heap.size w w':=by
 have hcl:=cutL_len 61 q;obtain ⟨ca,cb,hs,hcut⟩:∃ ca cb cc,cutL 61 q=(ca,cb,cc):=⟨_,_,_,rfl⟩
 rw [hcut] at hcl;simp only at hcl;have hv:=fieldR_of hcut;have hta:=trimL_len ca;have htb:=trimL_len cb;have KC:=hid (fun w'=>strCut_of hcut w' (by omega));have KA:=hid (fun w'=>trim_list ca w' (by omega));have KB:=hid (fun w'=>trim_list cb w' (by omega));clear hcut;generalize trimL ca=nm at hv hta KA;generalize trimL cb=vl at hv htb KB;have hvl:vl.length≤1048576:=by omega
 have KP:=hid (fun w'=>strPrefix_l vl w');have hr0:=row3_new w 158;have hb0:Below w.heap.size w (w.alloc (.cells #[.string ⟨#[]⟩,.string ⟨#[]⟩,.bool false] 158)):=(Below.refl _ w).alloc (Nat.le_refl _) _;have hlt0:=alloc_lt w (.cells #[.string ⟨#[]⟩,.string ⟨#[]⟩,.bool false] 158);have HV:=hid hv;clear hv hta htb hcl
 go_enter Tryz.func158,Tryz.ntmps158
 go_wp2_with fail
 refine (KC.out _).mono ?_
 rintro e w1 ⟨rfl,hw1⟩;have hr1:=hr0.below hw1 hlt0;have hb1:=hb0.trans (hw1.mono hb0.size);have hlt1:=Nat.lt_of_lt_of_le hlt0 hw1.size;clear hr0 hb0 hlt0 hw1 KC;go_wp2_with fail
 refine (KA.out _).mono ?_
 rintro e w2 ⟨rfl,hw2⟩;have hr2:=hr1.below hw2 hlt1;have hb2:=hb1.trans (hw2.mono hb1.size);have hlt2:=Nat.lt_of_lt_of_le hlt1 hw2.size;clear hr1 hb1 hlt1 hw2 KA;go_wp2_with fail
 refine (KB.out _).mono ?_
 rintro e w3 ⟨rfl,hw3⟩;have hr3:=hr2.below hw3 hlt2;have hb3:=hb2.trans (hw3.mono hb2.size);have hlt3:=Nat.lt_of_lt_of_le hlt2 hw3.size;clear hr2 hb2 hlt2 hw3 KB;have hp4:=row3_any w3 (.string ⟨nm.toArray⟩) (.string ⟨vl.toArray⟩) (.bool hs) 158;have hr4:=hr3.below ((Below.refl _ w3).alloc (Nat.le_refl _) (.cells #[.string ⟨nm.toArray⟩,.string ⟨vl.toArray⟩,.bool hs] 158)) hlt3;have hb4:=hb3.alloc hb3.size (.cells #[.string ⟨nm.toArray⟩,.string ⟨vl.toArray⟩,.bool hs] 158);have hlt4:=alloc_lt w3 (.cells #[.string ⟨nm.toArray⟩,.string ⟨vl.toArray⟩,.bool hs] 158);clear hr3 hb3;obtain ⟨p0,p1,p2,g0,g1,g2⟩:=hp4.three;go_wp2_with fail
 refine (KP.out _).mono ?_
 rintro e w4 ⟨rfl,rfl⟩;clear KP;generalize World.alloc w3 _=w4 at hp4 hr4 hb4 hlt4 p0 p1 p2 g0 g1 g2 ⊢;generalize w3.heap.size=B at hp4 hlt3 hlt4 p0 p1 p2 g0 g1 g2 ⊢
 cases hqb:quoB vl with
 | true =>
  have KU:=hid (fun w'=>unquote_list vl w' (by omega));rw [hqb,if_pos rfl] at HV;generalize unquoteV vl=u at KU HV;obtain ⟨ut,un⟩:=u;simp only at KU HV;clear hqb;go_wp2_with fail
  refine (KU.out _).mono ?_
  rintro e w5 ⟨rfl,hw5⟩;have hp5:=hp4.below hw5 hlt4;have hr5:=hr4.below hw5 (Nat.lt_trans hlt3 hlt4);have hb5:=hb4.trans (hw5.mono hb4.size);clear hp4 hr4 hb4 hw5 KU p0 p1 p2 g0 g1 g2;have hp6:RowIs (w5.setCell ⟨B,1,none⟩ (.string ⟨ut.toArray⟩)) B 158 [.string ⟨nm.toArray⟩,.string ⟨ut.toArray⟩,.bool hs]:=by simpa using hp5.set 1 (.string ⟨ut.toArray⟩)
  have hr6:=hr5.below (show Below B w5 (w5.setCell ⟨B,1,none⟩ (.string ⟨ut.toArray⟩)) from (Below.refl B w5).setCell (Nat.le_refl B) _) hlt3;have hb6:Below w.heap.size w (w5.setCell ⟨B,1,none⟩ (.string ⟨ut.toArray⟩)):=hb5.setCell (by exact Nat.le_of_lt hlt3) _;obtain ⟨p0,p1,p2,g0,g1,g2⟩:=hp5.three;obtain ⟨y0,y1,y2,f0,f1,f2⟩:=hr5.three;go_wp2;have hr7:=row_store3 hr6 (.string ⟨nm.toArray⟩) (.string ⟨ut.toArray⟩) (.bool hs);have hb7:=store_below3 hb6 w.heap.size (Nat.le_refl _) (.string ⟨nm.toArray⟩) (.string ⟨ut.toArray⟩) (.bool hs);generalize World.setCell _ _ _=w7 at hr7 hb7 ⊢;obtain ⟨d0,d1,d2,_,_,_⟩:=hr7.three
  try simp only [Exit.inBlock,Exit.then]
  refine bodyPost_ret (v:=.tuple #[.agg #[.string ⟨nm.toArray⟩,.string ⟨ut.toArray⟩,.bool hs],.bool (un==0)]) (by simp [results,Tryz.results158,go_sem,d0,d1,d2]; try rfl) rfl ?_
  exact ⟨ret_fieldR HV.out,hb7⟩
 | false =>
  rw [hqb,if_neg (by simp)] at HV;obtain ⟨y0,y1,y2,f0,f1,f2⟩:=hr4.three;clear hqb
  cases hs with
  | false =>
   have hv:Hid (fieldR q=(⟨nm,vl,false⟩,true)):=HV.out;clear HV;go_wp2
   go_region
   have hr7:=row_store3 hr4 (.string ⟨nm.toArray⟩) (.string ⟨vl.toArray⟩) (.bool false);have hb7:=store_below3 hb4 w.heap.size (Nat.le_refl _) (.string ⟨nm.toArray⟩) (.string ⟨vl.toArray⟩) (.bool false);generalize World.setCell _ _ _=w7 at hr7 hb7 ⊢;have hr8:RowIs w7.drew w.heap.size 158 [.string ⟨nm.toArray⟩,.string ⟨vl.toArray⟩,.bool false]:=hr7;have hb8:Below w.heap.size w w7.drew:=hb7.drew;generalize w7.drew=w8 at hr8 hb8 ⊢;obtain ⟨d0,d1,d2,_,_,_⟩:=hr8.three;go_wp2
   try simp only [Exit.inBlock,Exit.then]
   refine bodyPost_ret (v:=.tuple #[.agg #[.string ⟨nm.toArray⟩,.string ⟨vl.toArray⟩,.bool false],.bool true]) (by simp [results,Tryz.results158,go_sem,d0,d1,d2]; try rfl) rfl ?_
   exact ⟨ret_fieldR hv.out,hb8⟩
  | true =>
   have KW:=hid (fun w'=>word_any vl w' (by omega));have hv:Hid (fieldR q=(⟨nm,vl,true⟩,wordB vl)):=show _=_ by have h:=HV.out; simpa using h
   generalize wordB vl=wb at KW hv;clear HV;go_wp2;have KR:=hid (fun w5 (h5:Below w4.heap.size w4.drew w5)=>And.intro (RowIs.three (RowIs.below (show RowIs w4.drew B 158 [.string ⟨nm.toArray⟩,.string ⟨vl.toArray⟩,.bool true] from hp4) h5 hlt4)) (And.intro (RowIs.three (RowIs.below (show RowIs w4.drew w.heap.size 158 [.string ⟨#[]⟩,.string ⟨#[]⟩,.bool false] from hr4) h5 (Nat.lt_trans hlt3 hlt4))) (And.intro (RowIs.below (show RowIs w4.drew w.heap.size 158 [.string ⟨#[]⟩,.string ⟨#[]⟩,.bool false] from hr4) h5 (Nat.lt_trans hlt3 hlt4)) (hb4.drew.trans (h5.mono hb4.size)))))
   go_region_with (go_at_call 185; refine (KW.out _).mono ?_; rintro e w5 ⟨rfl,hw5⟩; obtain ⟨⟨q0,q1,q2,_,_,_⟩,⟨z0,z1,z2,k0,k1,k2⟩,hr5,hb5⟩:=KR.out w5 hw5)
   all_goals (
    have hr7:=row_store3 hr5 (.string ⟨nm.toArray⟩) (.string ⟨vl.toArray⟩) (.bool true);have hb7:=store_below3 hb5 w.heap.size (Nat.le_refl _) (.string ⟨nm.toArray⟩) (.string ⟨vl.toArray⟩) (.bool true);generalize World.setCell _ _ _=w7 at hr7 hb7 ⊢;obtain ⟨d0,d1,d2,_,_,_⟩:=hr7.three;go_wp2
    try simp only [Exit.inBlock,Exit.then]
    refine bodyPost_ret (v:=.tuple #[.agg #[.string ⟨nm.toArray⟩,.string ⟨vl.toArray⟩,.bool true],.bool wb]) (by simp [results,Tryz.results158,go_sem,d0,d1,d2]; try rfl) rfl ?_
    exact ⟨ret_fieldR hv.out,hb7⟩)
theorem unq_len:∀ (n:Nat) (l r:List UInt8),l.length≤n → unq l=some r → r.length≤l.length
 | 0,l,r,hl,h=>by
  obtain rfl:=List.eq_nil_of_length_eq_zero (Nat.le_zero.1 hl)
  simp [unq] at h; subst h; simp
 | n+1,[],r,hl,h=>by simp [unq] at h; subst h; simp
 | n+1,[b],r,hl,h=>by
  rw [unq] at h
  split at h
  ·simp at h; subst h; simp
  ·simp at h
 | n+1,b :: c :: r',r,hl,h=>by
  rw [unq] at h
  split at h
  ·split at h
   ·simp at h
   ·simp only [Option.map_eq_some_iff] at h;obtain ⟨x,hx,rfl⟩:=h
    have:=unq_len n r' x (by simp at hl; omega) hx
    simp; omega
  ·split at h
   ·simp only [Option.map_eq_some_iff] at h;obtain ⟨x,hx,rfl⟩:=h
    have:=unq_len n (c :: r') x (by simp at hl ⊢; omega) hx
    simp at this ⊢; omega
   ·simp at h
theorem unqV_len (l:List UInt8):(unquoteV l).1.length≤l.length:=by
 unfold unquoteV
 split
 ·simp
 ·split
  ·rename_i x hx
   have:=unq_len _ _ _ (Nat.le_refl _) hx
   have h2:(mid l 1 (l.length - 1)).length≤l.length:=by unfold mid; simp; omega
   simp; omega
  ·simp
theorem fieldR_len {q:List UInt8} (h:q.length≤1048576):(fieldR q).1.name.length≤1048576∧(fieldR q).1.value.length≤1048576:=by
 have hcl:=cutL_len 61 q;unfold fieldR;have h1:=trimL_len (cutL 61 q).1;have h2:=trimL_len (cutL 61 q).2.1;have h3:=unqV_len (trimL (cutL 61 q).2.1)
 split <;> simp <;> omega
theorem small_snoc {ps:List Par} {p:Par} (h:SmallP 140737488355328 ps) (hl:ps.length≤16) (hm:mayB ps p=true):SmallP 140737488355328 (ps++[p]):=by
 obtain ⟨m1,_,m3,_,_⟩:=may_facts hm;obtain ⟨_,t2,_⟩:=tok_facts m1;refine ⟨by simp; omega,fun x hx=>?_⟩
 rcases List.mem_append.1 hx with hx | hx
 ·exact h.2 x hx
 ·obtain rfl:=List.mem_singleton.1 hx;omega
theorem fieldOf_yes {q:List UInt8} {p:Par} (h:fieldR q=(p,true)):fieldOf q=some p:=by rw [fieldOf_R,h]; rfl
theorem fieldOf_no {q:List UInt8} {p:Par} (h:fieldR q=(p,false)):fieldOf q=none:=by rw [fieldOf_R,h]; rfl
def FieldsRes (ls:List (List UInt8)) (w w':World) (v:Value) (n:Int):Prop:=n=(fieldsV ls).2∧OwnP w' w.heap.size v (fieldsV ls).1
theorem fres_bad {ls:List (List UInt8)} {w w':World} (h:fieldsV ls=([],34)):FieldsRes ls w w' (.slice none 0 0) 34:=⟨by rw [h],by rw [h]; exact OwnP.nil _ _⟩
theorem new_par (w4:World) (p:Par) (t:TypeId):∀ (j:Nat) (u:Value),(parCells p)[j]? = some u → (w4.alloc (.cells #[.string ⟨p.name.toArray⟩,.string ⟨p.value.toArray⟩,.bool p.has] t)).cell? ((⟨w4.heap.size,0,none⟩:Addr).add j)=some u:=by
 intro j u hj;have e:(⟨w4.heap.size,0,none⟩:Addr).add j=⟨w4.heap.size,j,none⟩:=by unfold Addr.add; split <;> simp_all
 rw [e];unfold World.cell?;rw [heap_alloc_new]
 simpa [parCells] using hj
set_option maxHeartbeats 400000 in
set_option maxRecDepth 100000 in
theorem afields_any (v:Value) (ls:List (List UInt8)) (w:World) (hl:∀ l ∈ ls,l.length≤1048576) (hv:StrsAt w v ls) :
  Calls Tryz.prog 114 #[v] w fun e w'=>∃ v' n,e=.returned (.tuple #[v',.int .i64 n])∧FieldsRes ls w w' v' n∧Below w.heap.size w w':=by
 obtain ⟨i0,hi,hz0,hz1,hz2⟩:=info_parts infoPar;obtain ⟨ao,cap,rfl,hc⟩:=hv;have HC:=hid hc; clear hc
 have HL:=hid hl; clear hl
 obtain ⟨n,hn'⟩:∃ n,n=ls.length:=⟨_,rfl⟩
 rw [← hn'];by_cases h16:n≤16
 ·have hbad:Hid (fieldsG [] ls=none → fieldsV ls=([],34)):=fun h=>fieldsV_bad (by omega) h;have hgood:Hid (∀ ps,fieldsG [] ls=some ps → fieldsV ls=(ps,0)):=fun ps h=>fieldsV_ok (by omega) h;have HN:=hid hn'; clear hn'
  go_enter Tryz.func114,Tryz.ntmps114
  go_wp2
  go_loopw [4,14] (fun x i wr=>∃ (k:Nat) (out:List Par),k≤n∧i=.int .i64 k∧Hid (fieldsG [] ls=fieldsG out (ls.drop k))∧Hid (out.length=k)∧Hid (SmallP 140737488355328 out)∧Hid (OwnP wr w.heap.size x out)∧Below w.heap.size w wr∧w.heap.size≤wr.heap.size) (fun _ i _=>n - (intOf i).toNat)
  case atStart=>exact ⟨0,[],by omega,rfl,rfl,hid rfl,hid ⟨by simp,by simp⟩,OwnP.nil _ _,Below.refl _ _,Nat.le_refl _⟩
  case round =>
   obtain ⟨k,out,hkn,rfl,hps,hpl,hsm,hown,hb,hB⟩:=hrel;by_cases hlt:k < n
   ·have hkl:k < ls.length:=by have:=HN.out; omega
    obtain ⟨a,hao,hab,hcell⟩:=HC.out k hkl;have hcell2:=cell_below hb (by rw [add_block]; exact hab) hcell;have hll:=HL.out _ (List.getElem_mem hkl);subst hao;clear hcell;have hfl:=fieldR_len hll;have KF:=hid (fun w'=>field_any ls[k] w' hll);have hon:=@fields_on ls out k;have hno:=@fields_none ls out k hkl hps.out;have hnot:=@fields_not ls out k;have hy:=@fieldOf_yes ls[k];have hnn:=@fieldOf_no ls[k];generalize fieldR ls[k]=fr at KF hy hnn hfl;obtain ⟨⟨pn,pv,ph⟩,pb⟩:=fr;simp only at hfl;unfold parV at KF;simp only at KF
    cases pb with
    | false =>
     have hnone:Hid (fieldsV ls=([],34)):=hbad.out (hno (hnn rfl));clear hon hno hnot hy hnn;go_wp2_with fail
     refine (KF.out _).mono ?_
     rintro e w1 ⟨rfl,hw1⟩;have hb1:=(hb.trans (hw1.mono hB)).alloc (Nat.le_trans hB hw1.size) (.cells #[.string ⟨pn.toArray⟩,.string ⟨pv.toArray⟩,.bool ph] 158);go_wp2;go_ret2;exact ⟨_,_,rfl,fres_bad hnone.out,hb1⟩
    | true =>
     have KM:=hid (fun (x:Value) (w':World) (h:ParsAt w' x out)=>mayStand_any ⟨pn,pv,ph⟩ x out w' (by simp only; omega) (by simp only; omega) hsm.out h);unfold parV at KM;simp only at KM;have hnm:=hnot hkl hps.out (hy rfl);have hyes:=hon hkl hps.out (hy rfl);have hss:=@small_snoc out ⟨pn,pv,ph⟩ hsm.out (by have:=hpl.out; omega);clear hon hno hnot hy hnn hps;obtain ⟨xa,xc,hxe⟩:=hown.out.parsAt.form;subst hxe;go_wp2_with fail
     refine (KF.out _).mono ?_
     rintro e w1 ⟨rfl,hw1⟩;have hA:=(Below.refl _ w1).alloc (Nat.le_refl _) (.cells #[.string ⟨pn.toArray⟩,.string ⟨pv.toArray⟩,.bool ph] 158);have hbx:=boxP_new w1 ⟨pn,pv,ph⟩ 158;have hltx:=alloc_lt w1 (.cells #[.string ⟨pn.toArray⟩,.string ⟨pv.toArray⟩,.bool ph] 158);have hown1:=hid ((hown.out.below hw1).below hA);have hb1:=(hb.trans (hw1.mono hB)).alloc (Nat.le_trans hB hw1.size) (.cells #[.string ⟨pn.toArray⟩,.string ⟨pv.toArray⟩,.bool ph] 158);have HBX:=hid hbx;obtain ⟨x0,x1,x2⟩:=hbx;simp only at x0 x1 x2;clear hown hw1 hA KF hb;go_wp2_with fail
     refine (KM.out _ _ hown1.out.parsAt).mono ?_
     rintro e w2 ⟨rfl,hw2⟩;have hown2:=hown1.out.below hw2;have HB2:=BoxP.below HBX.out hw2 hltx;have hb2:=hb1.trans (hw2.mono hb1.size);clear hown1 HBX hw2 hb1 hltx KM x0 x1 x2
     cases hmay:mayB out ⟨pn,pv,ph⟩ with
     | false =>
      have hnone:Hid (fieldsV ls=([],34)):=hbad.out (hnm hmay);clear hnm hyes hss hmay;go_wp2;go_ret2;exact ⟨_,_,rfl,fres_bad hnone.out,hb2⟩
     | true =>
      have hnext:=hid (hyes hmay);have hsm2:=hid (hss hmay);have hB2:=hb2.size;clear hnm hyes hss hmay hsm;obtain ⟨x0,x1,x2⟩:=HB2;simp only at x0 x1 x2;have HNW:=hid (new_par w2 ⟨pn,pv,ph⟩ 158);go_wp2_with (at_builtin; refine wp_appP _ rfl (.tmp 31) (.tmp 33) 27 rfl w.heap.size i0 _ Tryz.underlying27 hi hz0 hz1 hz2 rfl _ out rfl (hown2.alloc _) ⟨w2.heap.size,0,none⟩ 1 ⟨pn,pv,ph⟩ rfl (by exact HNW.out) (by have:=hpl.out; omega) w (hb2.alloc hB2 _) (by simp; omega) ?_; intro v5 w5 hown5 hb5 hB5)
      have HO5:=hid hown5;clear hown5;go_wp2;go_roundw
      case rel=>exact ⟨k+1,out++[⟨pn,pv,ph⟩],by omega,by go_num,hnext,hid (by have:=hpl.out; simp; omega),hsm2,HO5,hb5,hB5⟩
      case measure=>simp [intOf]; omega
   ·have hend:Hid (fieldsV ls=(out,0)):=hgood.out out (by
     have h:=hps.out;have e:=HN.out;rw [List.drop_of_length_le (by omega)] at h; exact h)
    clear hps;go_wp2;go_ret2;exact ⟨_,_,rfl,⟨by rw [hend.out],by rw [hend.out]; exact hown.out⟩,hb⟩
 ·have hmany:Hid (fieldsV ls=([],4)):=fieldsV_many (by omega);have h16':(16:Int) < (n:Int):=by omega
  clear hn'
  go_enter Tryz.func114,Tryz.ntmps114
  go_wp2;go_ret2;exact ⟨_,_,rfl,⟨by rw [hmany.out],by rw [hmany.out]; exact OwnP.nil _ _⟩,Below.refl _ _⟩
end Go.Proofs.YtiogedceommcoaaGreatDoor
namespace Go.Proofs.YtiogedceommcoaaGreatDoor
open Go.RowKit Go.Sort Sc
theorem below_re5 {w W:World} (h:Below w.heap.size w W) (d:Nat) (os:Array Obj):Below w.heap.size w (grow (redrawn W d) os):=h.trans ((below_regrown W d os).mono h.size)
theorem followsMixed5:Tryz.prog.follows .mixedOrders=true:=by kernel_rfl
end Go.Proofs.YtiogedceommcoaaGreatDoor
namespace Go.Proofs.YtiogedceommcoaaGreatDoor
open Go.RowKit Sc
def visB1 (b:UInt8):Bool:=decide (33≤b.toNat) && decide (b.toNat≤126)
theorem callB_is (s:List UInt8):callB s=(s.all visB1 && (decide (1≤s.length) && decide (s.length≤128))):=by
 have e:(fun b:UInt8=>decide (33≤b.toNat∧b.toNat≤126))=visB1:=by funext b; unfold visB1; rw [Bool.decide_and]
 unfold callB;rw [e,Bool.decide_and]
theorem callB_bad {s:List UInt8} {k:Nat} (hk:k < s.length) (h:visB1 s[k]=false):callB s=false:=by
 have:s.all visB1=false:=by
  rw [List.all_eq_false];exact ⟨s[k],List.getElem_mem hk,by simp [h]⟩
 rw [callB_is,this]; rfl
theorem callB_good {s:List UInt8} (h:∀ b ∈ s,visB1 b=true):callB s=(decide (1≤s.length) && decide (s.length≤128)):=by
 rw [callB_is,List.all_eq_true.2 h]; rfl
theorem hword_cons (b:UInt8) (l:List UInt8):wordN (b :: l)=if blk b=true then 0 else wordN l+1:=by
 unfold wordN;rw [List.takeWhile_cons]
 cases blk b <;> simp
theorem hword_le (l:List UInt8):wordN l≤l.length:=by
 unfold wordN;exact (List.takeWhile_sublist _).length_le
end Go.Proofs.YtiogedceommcoaaGreatDoor
namespace Go.Proofs.YtiogedceommcoaaGreatDoor
open Go.RowKit Go.Sort Sc
theorem step_appT {P:Program} {ops:Array Oper} {o:Oper} {a:Act} {w:World} {K:Act → World → Prop} {Q:Exit → Act → World → Prop} {E:Prop} (hgd:o.guard=none)
  (s x:Operand) (t:TypeId) (ho:o.op=Op.call { callee:=Callee.builtin Builtin.append,args:=#[s,x],argTypes:=#[t,t] }) (B:Nat) (e:TypeId) (i:TypeInfo)
  (z:Value) (ht:P.underlying t=some (TypeDesc.slice e)) (hi:P.info? e=some i) (hz:i.zero=some z) (hsize:i.size=1) (hby:i.bytes=16) (hzs:z.cells.size=1)
  (v:Value) (xs:List (List UInt8)) (hs:a.eval s=v) (hown:Own w B e v (strs xs)) (ad:Addr) (c:Nat) (news:List (List UInt8)) (m:Nat) (hm:news.length=m) (hx:a.eval x=Value.slice (some ad) m c)
  (hnews:∀ (j:Nat) (u:Value),(strs news)[j]? = some u → w.cell? (ad.add j)=some u)
  (hlen:xs.length+m≤8796093022208) (w0:World) (hb:Below B w0 w) (hB:B≤w.heap.size)
  (h:∀ (v':Value) (w':World),Own w' B e v' (strs (xs++news)) → Below B w0 w' → B≤w'.heap.size → K (a.put o.dst v') w') :
  if Region.wanted o (yielded ops a.tmps)=true then Oper.wp P o a w K Q else E:=by
 refine step_app hgd s x t ho B e i z 16 ht hi hz hsize hby hzs v (strs xs) hs hown ad m c (strs news) hx (by rw [strs_length]; exact hm) hnews (by intro u hu; simp [strs] at hu; obtain ⟨p,_,rfl⟩:=hu; rfl) (by rw [strs_length]; unfold maxLen; omega) (by rw [strs_length]; omega) w0 hb hB ?_
 intro v' w' h1 h2 h3;refine h v' w' ?_ h2 h3
 have e:strs (xs++news)=strs xs++strs news:=by simp [strs]
 rw [e]; exact h1
theorem new_txts (w:World) (e:TypeId) (ps:List (List UInt8)):∀ (j:Nat) (u:Value),(strs ps)[j]? = some u → (w.alloc (.cells (strs ps).toArray e)).cell? ((⟨w.heap.size,0,none⟩:Addr).add j)=some u:=by
 intro j u hj;rw [add_at,Nat.zero_add];unfold World.cell?;rw [heap_alloc_new]
 simpa using hj
theorem own_new (w:World) (ps:List (List UInt8)) (B:Nat) (hB:B≤w.heap.size) (hl:ps.length≤1000):Own (w.alloc (.cells (strs ps).toArray 9)) B 9 (.slice (some ⟨w.heap.size,0,none⟩) ps.length ps.length) (strs ps):=by
 have hr:RowIs (w.alloc (.cells (strs ps).toArray 9)) w.heap.size 9 (strs ps):=by unfold RowIs; rw [heap_alloc_new]
 exact hr.own B ps.length hB (strs_length ps) (by unfold maxLen; omega)
set_option maxHeartbeats 2000000 in
set_option maxRecDepth 100000 in
theorem spieces_any (m:Ms) (ao:Option Addr) (hn hc:Nat) (w:World) (h0:0≤m.status) (h1:m.status≤699) :
  Calls Tryz.prog 101 #[msgV m (.slice ao hn hc)] w fun e w'=>∃ v,e=.returned v∧Own w' w.heap.size 9 v (strs (startP m))∧Below w.heap.size w w':=by
 have HBX:=hid (boxM_new w m (.slice ao hn hc));have hb0:Below w.heap.size w (w.alloc (objM m (.slice ao hn hc))):=(Below.refl _ w).alloc (Nat.le_refl _) _;have hlt:=alloc_lt w (objM m (.slice ao hn hc));have hsp:startP m=if m.method=[] then [versionK,[32],digL m.status.toNat,[32],m.reason,crlf] else [m.method,[32],m.target,[32],versionK,crlf]:=rfl
 obtain ⟨me,ta,st,re,hs,bo⟩:=m;unfold msgV;unfold objM at HBX hb0 hlt;simp only at HBX hb0 hlt h0 h1 hsp ⊢;generalize startP _=sp at hsp ⊢;obtain ⟨x0,x1,x2,x3,x4,x5⟩:=HBX.out;simp only at x0 x1 x2 x3 x4 x5
 cases he:me.isEmpty with
 | true =>
  rw [if_pos (by simpa using he)] at hsp;obtain ⟨n,rfl⟩:=Int.eq_ofNat_of_zero_le h0;have KD:=hid (fun w'=>digits_any n w' (by omega));rw [Int.toNat_natCast] at hsp;generalize digL n=dg at KD hsp;have HO:=hid (fun (wx:World) (hB:w.heap.size≤wx.heap.size)=>own_new wx sp w.heap.size hB (by rw [hsp]; simp));rw [hsp] at HO ⊢;clear hsp;have hacc:Below w.heap.size w (w.alloc (.cells #[.string ⟨me.toArray⟩,.string ⟨ta.toArray⟩,.int .i64 n,.string ⟨re.toArray⟩,.slice ao hn hc,.string ⟨bo.toArray⟩] 24)).drew:=hb0.drew;have hlt':w.heap.size < (w.alloc (.cells #[.string ⟨me.toArray⟩,.string ⟨ta.toArray⟩,.int .i64 n,.string ⟨re.toArray⟩,.slice ao hn hc,.string ⟨bo.toArray⟩] 24)).drew.heap.size:=hlt;have HC3:=hid (fun (w1:World) (hw:Below (w.alloc (.cells #[.string ⟨me.toArray⟩,.string ⟨ta.toArray⟩,.int .i64 n,.string ⟨re.toArray⟩,.slice ao hn hc,.string ⟨bo.toArray⟩] 24)).drew.heap.size (w.alloc (.cells #[.string ⟨me.toArray⟩,.string ⟨ta.toArray⟩,.int .i64 n,.string ⟨re.toArray⟩,.slice ao hn hc,.string ⟨bo.toArray⟩] 24)).drew w1)=>cell_below hw hlt' x3)
  go_enter Tryz.func101,Tryz.ntmps101
  go_wp2
  go_region_law (go_simp; go_at_call 50; refine (KD.out _).mono ?_; rintro e w1 ⟨rfl,hw1⟩; have hacc:=hacc.trans (hw1.mono hacc.size); have hc3:=HC3.out _ hw1)
  all_goals (
   go_wp2;go_ret;exact ⟨_,rfl,HO.out _ hacc.size,hacc.alloc hacc.size _⟩)
 | false =>
  rw [if_neg (by intro e; rw [e] at he; cases he)] at hsp;have HO:=hid (fun (wx:World) (hB:w.heap.size≤wx.heap.size)=>own_new wx sp w.heap.size hB (by rw [hsp]; simp));rw [hsp] at HO ⊢;clear hsp;have HO2:=hid (HO.out _ hb0.size);rw [show (w.alloc (.cells #[.string ⟨me.toArray⟩,.string ⟨ta.toArray⟩,.int .i64 st,.string ⟨re.toArray⟩,.slice ao hn hc,.string ⟨bo.toArray⟩] 24)).heap.size=w.heap.size+1 by simp] at HO2;clear HO
  go_enter Tryz.func101,Tryz.ntmps101
  go_wp2;go_ret;exact ⟨_,rfl,HO2.out,hb0.alloc hb0.size _⟩
theorem sum_step {ps:List (List UInt8)} {k:Nat} (hk:k < ps.length):(ps.take (k+1)).flatten.length=(ps.take k).flatten.length+ps[k].length:=by
 rw [List.take_succ_eq_append_getElem hk,List.flatten_append,List.length_append]; simp
theorem sum_le {ps:List (List UInt8)} (k:Nat):(ps.take k).flatten.length≤ps.flatten.length:=by
 have:=congrArg (fun l=>(List.flatten l).length) (List.take_append_drop k ps)
 simp only [List.flatten_append,List.length_append] at this; omega
set_option maxHeartbeats 1000000 in
theorem lengthOf_any (ps:List (List UInt8)) (a:Addr) (cap:Nat) (w:World) (hat:TxtsAt w a ps) (hn:ps.length≤1000000) (hl:ps.flatten.length≤4611686018427387904) :
  Calls Tryz.prog 102 #[.slice (some a) ps.length cap] w fun e w'=>e=.returned (.int .i64 ps.flatten.length)∧w'=w:=by
 have HAT:=hid hat;clear hat;obtain ⟨n,hnn⟩:∃ n,n=ps.length:=⟨_,rfl⟩
 rw [← hnn] at hn ⊢;have HN:=hid hnn;clear hnn;obtain ⟨L,hL⟩:∃ L,L=ps.flatten.length:=⟨_,rfl⟩
 rw [← hL] at hl ⊢;have HL:=hid hl;have HLL:=hid hL;clear hl hL
 go_enter Tryz.func102,Tryz.ntmps102
 go_wp2
 go_loop [3,8] (fun x i=>∃ (k t:Nat),k≤n∧i=.int .i64 k∧x=.int .i64 t∧Hid (t=(ps.take k).flatten.length)) (fun _ i=>n - (intOf i).toNat)
 case atStart=>exact ⟨0,0,Nat.zero_le _,rfl,rfl,hid (by simp)⟩
 case round =>
  obtain ⟨k,t,hk,rfl,rfl,ht⟩:=hrel;by_cases hlt:k < n
  ·have hkl:k < ps.length:=by have:=HN.out; omega
   have hcell:=(HAT.out k hkl).2;have hs:=hid (sum_step hkl);have hz:(⟨ps[k].toArray⟩:ByteArray).size=ps[k].length:=size_list _;have hb1:t+ps[k].length≤4611686018427387904:=by
    have h1:=hs.out; have h2:=sum_le (ps:=ps) (k+1); have h3:=HL.out; have h4:=ht.out; have h5:=HLL.out; omega
   have hnx:Hid (t+ps[k].length=(ps.take (k+1)).flatten.length):=show _=_ by rw [hs.out,ht.out]
   clear hs ht;generalize ps[k]=p at hcell hz hb1 hnx;go_wp2
   go_round
   case rel=>exact ⟨k+1,t+p.length,by omega,by go_num,by go_num,hnx⟩
   case measure=>simp [intOf]; omega
  ·have hv:Hid (t=L):=show _=_ by rw [ht.out,HLL.out,List.take_of_length_le (by have:=HN.out; omega)]
   clear ht;go_wp2;go_ret;exact ⟨ret_int (by rw [hv.out]),rfl⟩
end Go.Proofs.YtiogedceommcoaaGreatDoor
namespace Go.Proofs.YtiogedceommcoaaGreatDoor
open Go.RowKit Sc
theorem own_cells {w:World} {B:Nat} {v:Value} {ps:List (List UInt8)} (h:Own w B 9 v (strs ps)) (hne:ps ≠ []) :
  ∃ g cap,v=.slice (some ⟨g,0,none⟩) ps.length cap∧ps.length≤cap∧g < w.heap.size∧B≤g∧∀ j (hj:j < ps.length),w.cell? ⟨g,j,none⟩=some (.string ⟨(ps[j]).toArray⟩):=by
 have hl:=strs_length ps;have h0:=h
 rcases h.2 with ⟨rfl,hn⟩ | ⟨g,cap,cur,rfl,hb,hg,hnc,r⟩
 ·rw [hl] at hn; exact absurd (List.eq_nil_of_length_eq_zero hn) hne
 ·rw [hl] at hnc ⊢;refine ⟨g,cap,rfl,hnc,(Array.getElem?_eq_some_iff.1 hg).1,hb,fun j hj=>?_⟩
  have:=World.ownsRow.cells h0 (g:=g) rfl j (.string ⟨(ps[j]).toArray⟩) (by simp [strs,hj])
  rw [add_at,Nat.zero_add] at this;exact this
end Go.Proofs.YtiogedceommcoaaGreatDoor
namespace Go.Proofs.YtiogedceommcoaaGreatDoor
open Go.RowKit Go.Sort Sc
theorem sameB_is (a b:List UInt8):sameB a b=(lowL a==lowL b):=rfl
def allK (hs:List Hdr) (nm:List UInt8) (k:Nat):List (List UInt8):=((hs.take k).filter fun x=>sameB x.name nm).map Hdr.value
theorem allK_yes {hs:List Hdr} {nm:List UInt8} {k:Nat} (hk:k < hs.length) (h:sameB hs[k].name nm=true):allK hs nm (k+1)=allK hs nm k++[hs[k].value]:=by
 unfold allK; rw [all_step hk,if_pos h]
theorem allK_no {hs:List Hdr} {nm:List UInt8} {k:Nat} (hk:k < hs.length) (h:sameB hs[k].name nm=false):allK hs nm (k+1)=allK hs nm k:=by
 unfold allK; rw [all_step hk,if_neg (by simp [h])]; simp
theorem allK_len (hs:List Hdr) (nm:List UInt8) (k:Nat):(allK hs nm k).length≤k:=by
 unfold allK;rw [List.length_map];refine Nat.le_trans (List.length_filter_le _ _) ?_
 rw [List.length_take]; omega
theorem allK_end (m:Ms) (nm:List UInt8) {k:Nat} (hk:m.headers.length≤k):allK m.headers nm k=allV m nm:=by
 unfold allK allV; rw [List.take_of_length_le hk]
set_option maxHeartbeats 2000000 in
set_option maxRecDepth 100000 in
theorem fall_any (m:Ms) (h:Value) (nm:List UInt8) (w:World) (hsm:SmallM 140737488355328 m) (hhl:m.headers.length≤4398046511104) (hnl:nm.length≤140737488355328) (hat:HdrsAt w h m.headers) :
  Calls Tryz.prog 99 #[msgV m h,.string ⟨nm.toArray⟩] w fun e w'=>∃ v,e=.returned v∧Own w' w.heap.size 9 v (strs (allV m nm))∧Below w.heap.size w w':=by
 obtain ⟨i0,hi,hz0,hz1,hz2⟩:=info_parts info9;obtain ⟨ao,cap,rfl,hcell⟩:=hat.get;have HC:=hid hcell;have HSM:=hid hsm.2.2.2.2.2;have HEND:=hid (fun (k:Nat) (hk:m.headers.length≤k)=>allK_end m nm hk);have KL:=hid (fun w'=>lower_list nm w' (by omega));have HBX:=hid (boxM_new w m (.slice ao m.headers.length cap));have hb0:Below w.heap.size w (w.alloc (objM m (.slice ao m.headers.length cap))):=(Below.refl _ w).alloc (Nat.le_refl _) _;have hlt:=alloc_lt w (objM m (.slice ao m.headers.length cap));clear hsm hat hcell;obtain ⟨me,ta,st,re,hs,bo⟩:=m;unfold msgV;unfold objM at HBX hb0 hlt;simp only at HC HSM HEND HBX hb0 hlt hhl ⊢;generalize allV _ nm=R at HEND ⊢;obtain ⟨n,hn⟩:∃ n,n=hs.length:=⟨_,rfl⟩
 rw [← hn] at HBX hb0 hlt hhl ⊢;have HN:=hid hn;clear hn;obtain ⟨x0,x1,x2,x3,x4,x5⟩:=HBX.out;simp only at x0 x1 x2 x3 x4 x5;obtain ⟨ln,hln⟩:∃ ln,ln=lowL nm:=⟨_,rfl⟩
 rw [← hln] at KL;have HLN:=hid hln;clear hln
 go_enter Tryz.func99,Tryz.ntmps99
 go_wp2_with fail
 refine (KL.out _).mono ?_
 rintro e w1 ⟨rfl,hw1⟩;have HB1:=hid (BoxM.below HBX.out hw1 hlt);have hb1:=hb0.trans (hw1.mono hb0.size);clear HBX hw1 hb0 hlt x0 x1 x2 x3 x4 x5 KL;obtain ⟨x0,x1,x2,x3,x4,x5⟩:=HB1.out;simp only at x0 x1 x2 x3 x4 x5;go_wp2
 go_loopw [6,14] (fun x i wr=>∃ k:Nat,k≤n∧i=.int .i64 k∧Hid (Own wr w.heap.size 9 x (strs (allK hs nm k)))∧Below w.heap.size w wr) (fun _ i _=>n - (intOf i).toNat)
 case atStart=>exact ⟨0,Nat.zero_le _,rfl,hid (Own.nil _ _ _),hb1⟩
 case round =>
  clear x0 x1 x2 x3 x4 x5 HB1 hb1;obtain ⟨k,hk,rfl,HO,hb⟩:=hrel;by_cases hlt2:k < n
  ·have hkl:k < hs.length:=by have:=HN.out; omega
   obtain ⟨a,ha,hab,h0,h1⟩:=HC.out k hkl;have d0:=cell_below hb (by rw [add_block]; exact hab) h0;have d1:=cell_below hb (by simp only [add_block]; exact hab) h1;have hss:=HSM.out _ (List.getElem_mem hkl);have hyes:=hid (@allK_yes hs nm k hkl);have hno:=hid (@allK_no hs nm k hkl);have hal:=allK_len hs nm k;clear hab h0 h1;subst ha;generalize hs[k]=x at d0 d1 hss hyes hno;obtain ⟨xn,xv⟩:=x;simp only at d0 d1 hss hyes hno;rw [sameB_is,← HLN.out] at hyes hno;have KX:=hid (fun w'=>lower_list xn w' (by omega));have KV:=hid (fun w'=>clone_list xv w' hss.2);generalize lowL xn=lx at hyes hno KX;generalize allK hs nm k=Q at HO hyes hno hal;obtain ⟨xa,xc,hxe⟩:=HO.out.form;subst hxe;have HBH:=hid (boxH_new wr ⟨xn,xv⟩);have hA:=(Below.refl _ wr).alloc (Nat.le_refl _) (objH ⟨xn,xv⟩);have hltA:=alloc_lt wr (objH ⟨xn,xv⟩);unfold objH at HBH hA hltA;simp only at HBH hA hltA;have hbA:=hb.trans (hA.mono hb.size);have HOA:=hid (HO.out.below hA);obtain ⟨z0,z1⟩:=HBH.out;simp only at z0 z1;clear HO hA hb;go_wp2_with fail
   refine (KX.out _).mono ?_
   rintro e w3 ⟨rfl,hw3⟩;have HB3:=hid (BoxH.below HBH.out hw3 hltA);have hb3:=hbA.trans (hw3.mono hbA.size);have HO3:=hid (HOA.out.below hw3);clear HBH hw3 hltA hbA HOA z0 z1 KX d0 d1;obtain ⟨z0,z1⟩:=HB3.out;simp only at z0 z1
   cases heq:(lx==ln) with
   | false =>
    have HQ:=hid (hno.out heq);clear hyes hno;go_wp2;go_roundw
    case rel=>exact ⟨k+1,by omega,by go_num,hid (by rw [HQ.out]; exact HO3.out),hb3⟩
    case measure=>simp [intOf]; omega
   | true =>
    have HQ:=hid (hyes.out heq);clear hyes hno;go_wp2_with fail
    refine (KV.out _).mono ?_
    rintro e w4 ⟨rfl,hw4⟩;have hb4:=hb3.trans (hw4.mono hb3.size);have HO4:=hid (HO3.out.below hw4);have HNV:=hid (one_new w4 9 (.string ⟨xv.toArray⟩));have HOX:=hid (fun o=>HO4.out.alloc o);have HBX:=hid (fun o=>hb4.alloc hb4.size o);clear HO3 HO4 hw4 hb3 KV z0 z1;go_wp2_with (at_builtin; refine wp_appT _ rfl (.tmp 23) (.tmp 27) 35 rfl w.heap.size 9 i0 (.string .empty) Tryz.underlying35 hi hz0 hz1 hz2 rfl _ Q rfl (HOX.out _) ⟨_,0,none⟩ 1 [xv] 1 rfl rfl (by exact HNV.out) (by omega) w (HBX.out _) (by have:=hb4.size; simp; omega) ?_; intro v5 w5 hown5 hb5 hB5)
    rw [← HQ.out] at hown5;have HO5:=hid hown5;clear hown5;go_wp2;go_roundw
    case rel=>exact ⟨k+1,by omega,by go_num,HO5,hb5⟩
    case measure=>simp [intOf]; omega
  ·rw [HEND.out k (by have:=HN.out; omega)] at HO;go_wp2;go_ret;exact ⟨_,rfl,HO.out,hb⟩
theorem oneV_is (m:Ms) (nm:List UInt8):(∀ x,allV m nm=[x] → oneV m nm=(x,true))∧((allV m nm).length ≠ 1 → oneV m nm=([],false)):=by
 unfold oneV
 constructor
 ·intro x h; rw [h]
 ·intro h
  match e:allV m nm with
  | []=>rfl
  | [x]=>rw [e] at h; simp at h
  | _ :: _ :: _=>rfl
theorem ret_sb {R:List UInt8 × Bool} {x:List UInt8} {b:Bool} (h:R=(x,b)):Ending.returned (.tuple #[.string ⟨x.toArray⟩,.bool b])=.returned (.tuple #[.string ⟨R.1.toArray⟩,.bool R.2]):=by rw [h]
set_option maxHeartbeats 2000000 in
set_option maxRecDepth 100000 in
theorem fone_any (m:Ms) (h:Value) (nm:List UInt8) (w:World) (hsm:SmallM 140737488355328 m) (hhl:m.headers.length≤4398046511104) (hnl:nm.length≤140737488355328) (hat:HdrsAt w h m.headers) :
  Calls Tryz.prog 64 #[msgV m h,.string ⟨nm.toArray⟩] w fun e w'=>e=.returned (.tuple #[.string ⟨(oneV m nm).1.toArray⟩,.bool (oneV m nm).2])∧Below w.heap.size w w':=by
 obtain ⟨ao,cap,rfl,hcell⟩:=hat.get;have KA:=hid (fun w' (hb:Below w.heap.size w w')=>fall_any m (.slice ao m.headers.length cap) nm w' hsm hhl hnl (hat.below hb));obtain ⟨o1,o2⟩:=oneV_is m nm;have hb0:Below w.heap.size w (w.alloc (objM m (.slice ao m.headers.length cap))):=(Below.refl _ w).alloc (Nat.le_refl _) _;have hal:=allK_len m.headers nm m.headers.length;rw [allK_end m nm (Nat.le_refl _)] at hal;clear hsm hcell hat;obtain ⟨me,ta,st,re,hs,bo⟩:=m;unfold msgV at KA ⊢;unfold objM at hb0;simp only at KA hb0 hal hhl ⊢;generalize allV _ nm=Q at KA o1 o2 hal;generalize oneV _ nm=R at o1 o2 ⊢
 go_enter Tryz.func64,Tryz.ntmps64
 go_wp2_with fail
 refine (KA.out _ hb0).mono ?_
 rintro e w1 ⟨v,rfl,hown,hw1⟩;have hb1:=hb0.trans (hw1.mono hb0.size);by_cases h1:Q.length=1
 ·match Q,h1 with
  | [x],_ =>
   have HR:=hid (o1 x rfl);obtain ⟨g,c,rfl,hc,hg,hB,hcl⟩:=own_cells hown (by simp);have c0:=hcl 0 (by simp);simp only [List.getElem_cons_zero] at c0;simp only [List.length_cons,List.length_nil,Nat.zero_add] at hc ⊢;clear hcl hown o1 o2 KA hal;go_wp2;go_ret2;exact ⟨ret_sb HR.out,hb1⟩
 ·have HR:=hid (o2 h1);obtain ⟨xa,xc,rfl⟩:=hown.form;rw [strs_length];have h1':((Q.length:Int) != 1)=true:=by rw [bne,beq_eq_false_iff_ne.2 (by omega)]; rfl
  clear hown o1 o2 KA;go_wp2;go_ret2;exact ⟨ret_sb (x:=[]) HR.out,hb1⟩
theorem Own.mono {w:World} {B C:Nat} {e:TypeId} {v:Value} {xs:List Value} (h:Own w B e v xs) (hc:C≤B):Own w C e v xs:=by
 obtain ⟨h1,h2⟩:=h;refine ⟨h1,?_⟩
 rcases h2 with h2 | ⟨g,cap,cur,hv,hg,r⟩
 ·exact Or.inl h2
 ·exact Or.inr ⟨g,cap,cur,hv,Nat.le_trans hc hg,r⟩
end Go.Proofs.YtiogedceommcoaaGreatDoor
