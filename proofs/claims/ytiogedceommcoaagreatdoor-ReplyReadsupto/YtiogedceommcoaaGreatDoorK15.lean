/-
  AWord, AMay, UMean, Six, URest, AField.
-/
import Derived.Test.YtiogedceommcoaaGreatDoorK13
set_option linter.unusedVariables false
set_option linter.unusedSimpArgs false
set_option maxRecDepth 20000
namespace Go.Proofs.YtiogedceommcoaaGreatDoor
open Go.RowKit Sc
def quotB (l:List UInt8):Bool:=decide (l.length≤64) && !hasBar l
set_option maxHeartbeats 400000 in
theorem quotable_any (l:List UInt8) (w:World) (hl:l.length≤140737488355328) :
  Calls Tryz.prog 186 #[.string ⟨l.toArray⟩] w fun e w'=>e=.returned (.bool (quotB l))∧Below w.heap.size w w':=by
 have hs:=size_list l;by_cases h:l.length≤64
 ·cases hb:hasBar l with
  | true =>
   have hv:Hid (quotB l=false):=show _=_ by simp [quotB,hb]
   have hq:quoteV l=([],11):=by rw [quoteV,hb]; rfl
   have K:=hid (fun w'=>quote_list l w' (by omega));rw [hq] at K;clear hb hq
   go_enter Tryz.func186,Tryz.ntmps186
   go_wp2_with fail
   refine (K.out _).mono ?_
   rintro e w1 ⟨rfl,hw1⟩;go_wp2;go_ret;exact ⟨ret_bool hv.out.symm,hw1⟩
  | false =>
   have hv:Hid (quotB l=true):=show _=_ by simp [quotB,hb,h]
   have hq:quoteV l=(34 :: quo l++[34],0):=by rw [quoteV,hb]; rfl
   have K:=hid (fun w'=>quote_list l w' (by omega));rw [hq] at K;clear hb hq
   go_enter Tryz.func186,Tryz.ntmps186
   go_wp2_with fail
   refine (K.out _).mono ?_
   rintro e w1 ⟨rfl,hw1⟩;go_wp2;go_ret;exact ⟨ret_bool hv.out.symm,hw1⟩
 ·have hv:Hid (quotB l=false):=show _=_ by simp [quotB,h]
  go_enter Tryz.func186,Tryz.ntmps186
  go_wp2;go_ret;exact ⟨ret_bool hv.out.symm,Below.refl _ _⟩
set_option maxHeartbeats 400000 in
theorem word_any (l:List UInt8) (w:World) (hl:l.length≤140737488355328) :
  Calls Tryz.prog 185 #[.string ⟨l.toArray⟩] w fun e w'=>e=.returned (.bool (wordB l))∧Below w.heap.size w w':=by
 have K1:=hid (fun w'=>token_list l w' hl);have K2:=hid (fun w'=>lower_list l w' (by omega));have K3:=hid (fun w'=>host_list (lowL l) w' (by rw [lowL_len]; exact hl));have hv:wordB l=(tokenB l || hostB (lowL l)):=rfl;generalize wordB l=v at hv ⊢;generalize tokenB l=t at K1 hv;generalize lowL l=m at K2 K3 hv;generalize hostB m=h at K3 hv
 cases t with
 | true =>
  have HV:Hid (v=true):=show _=_ by rw [hv]; rfl
  clear hv K2 K3
  go_enter Tryz.func185,Tryz.ntmps185
  go_wp2_with fail
  refine (K1.out _).mono ?_
  rintro e w1 ⟨rfl,rfl⟩;go_wp2;go_ret;exact ⟨ret_bool HV.out.symm,Below.refl _ _⟩
 | false =>
  have HV:Hid (v=h):=show _=_ by rw [hv]; rfl
  clear hv
  go_enter Tryz.func185,Tryz.ntmps185
  go_wp2_with fail
  refine (K1.out _).mono ?_
  rintro e w1 ⟨rfl,rfl⟩;go_wp2_with fail
  refine (K2.out _).mono ?_
  rintro e w2 ⟨rfl,hw2⟩;go_wp2_with fail
  refine (K3.out _).mono ?_
  rintro e w3 ⟨rfl,hw3⟩;go_wp2;go_ret;exact ⟨ret_bool HV.out.symm,hw2.trans (hw3.mono hw2.size)⟩
theorem may_split (ps:List Par) (nm vl:List UInt8) (hs:Bool):mayB ps ⟨nm,vl,hs⟩=(tokenB nm && (quotB vl && ((hs || vl.isEmpty) && (findV ps nm).isNone))):=by
 simp only [mayB,quotB];generalize tokenB nm=a;generalize (findV ps nm).isNone=b;generalize decide (vl.length≤64)=c;generalize hasBar vl=d;generalize vl.isEmpty=e
 revert a b c d e hs; decide
theorem val_found (ps:List Par) (nm:List UInt8):(valV ps nm).2=!(findV ps nm).isNone:=by unfold valV; cases findV ps nm <;> rfl
set_option maxHeartbeats 1000000 in
theorem mayStand_any (p:Par) (v:Value) (ps:List Par) (w:World) (hn:p.name.length≤140737488355328) (hvl:p.value.length≤140737488355328) (hsm:SmallP 140737488355328 ps) (h:ParsAt w v ps) :
  Calls Tryz.prog 159 #[parV p,v] w fun e w'=>e=.returned (.bool (mayB ps p))∧Below w.heap.size w w':=by
 obtain ⟨nm,vl,hs⟩:=p;simp only at hn hvl;have hm:=may_split ps nm vl hs;have hfv:=val_found ps nm;have KT:=hid (fun w'=>token_list nm w' hn);have KQ:=hid (fun w'=>quotable_any vl w' hvl);have KV:=hid (fun w' (hb:Below w.heap.size w w')=>value_any v ps nm w' hn hsm (h.below hb));generalize mayB ps ⟨nm,vl,hs⟩=m at hm ⊢;generalize (findV ps nm).isNone=f at hm hfv;generalize valV ps nm=vv at KV hfv;obtain ⟨va,vb⟩:=vv;simp only at hfv;subst hfv;generalize tokenB nm=t at KT hm;generalize quotB vl=q at KQ hm;obtain ⟨a,cap,rfl⟩:=h.form;clear h hsm;have hx:=boxP_new w ⟨nm,vl,hs⟩ 158;have hb0:Below w.heap.size w (w.alloc (.cells #[.string ⟨nm.toArray⟩,.string ⟨vl.toArray⟩,.bool hs] 158)):=(Below.refl _ w).alloc (Nat.le_refl _) _;have hlt:=alloc_lt w (.cells #[.string ⟨nm.toArray⟩,.string ⟨vl.toArray⟩,.bool hs] 158);unfold parV
 simp only
 cases t with
 | false =>
  have HM:Hid (m=false):=show _=_ by rw [hm]; rfl
  clear hm KQ KV hlt;obtain ⟨x0,x1,x2⟩:=hx;simp only at x0 x1 x2
  go_enter Tryz.func159,Tryz.ntmps159
  go_wp2_with fail
  refine (KT.out _).mono ?_
  rintro e w1 ⟨rfl,rfl⟩;go_wp2;go_ret;exact ⟨ret_bool HM.out.symm,hb0⟩
 | true =>
  cases q with
  | false =>
   have HM:Hid (m=false):=show _=_ by rw [hm]; rfl
   clear hm KV hlt;obtain ⟨x0,x1,x2⟩:=hx;simp only at x0 x1 x2
   go_enter Tryz.func159,Tryz.ntmps159
   go_wp2_with fail
   refine (KT.out _).mono ?_
   rintro e w1 ⟨rfl,rfl⟩;go_wp2_with fail
   refine (KQ.out _).mono ?_
   rintro e w2 ⟨rfl,hw2⟩;go_wp2;go_ret;exact ⟨ret_bool HM.out.symm,hb0.trans (hw2.mono hb0.size)⟩
  | true =>
   have hbx:∀ w2,Below (w.alloc (.cells #[.string ⟨nm.toArray⟩,.string ⟨vl.toArray⟩,.bool hs] 158)).heap.size (w.alloc (.cells #[.string ⟨nm.toArray⟩,.string ⟨vl.toArray⟩,.bool hs] 158)) w2 → BoxP w2 w.heap.size ⟨nm,vl,hs⟩:=fun w2 h2=>hx.below h2 hlt;have HBX:=hid hbx;clear hbx hlt;obtain ⟨x0,x1,x2⟩:=hx;simp only at x0 x1 x2
   cases hs with
   | true =>
    have HM:Hid (m=f):=show _=_ by rw [hm]; simp
    clear hm
    go_enter Tryz.func159,Tryz.ntmps159
    go_wp2_with fail
    refine (KT.out _).mono ?_
    rintro e w1 ⟨rfl,rfl⟩;go_wp2_with fail
    refine (KQ.out _).mono ?_
    rintro e w2 ⟨rfl,hw2⟩;have hbx:=HBX.out _ hw2;have hb2:=hb0.trans (hw2.mono hb0.size);clear HBX hw2 x0 x1 x2 hb0;obtain ⟨x0,x1,x2⟩:=hbx;simp only at x0 x1 x2;go_wp2_with fail
    refine (KV.out _ hb2).mono ?_
    rintro e w3 ⟨rfl,hw3⟩;go_wp2;go_ret;exact ⟨ret_bool (by rw [HM.out]; try simp),hb2.trans (hw3.mono hb2.size)⟩
   | false =>
    cases hie:vl.isEmpty with
    | true =>
     have HM:Hid (m=f):=show _=_ by rw [hm,hie]; simp
     clear hm
     go_enter Tryz.func159,Tryz.ntmps159
     go_wp2_with fail
     refine (KT.out _).mono ?_
     rintro e w1 ⟨rfl,rfl⟩;go_wp2_with fail
     refine (KQ.out _).mono ?_
     rintro e w2 ⟨rfl,hw2⟩;have hbx:=HBX.out _ hw2;have hb2:=hb0.trans (hw2.mono hb0.size);clear HBX hw2 x0 x1 x2 hb0;obtain ⟨x0,x1,x2⟩:=hbx;simp only at x0 x1 x2;go_wp2_with fail
     refine (KV.out _ hb2).mono ?_
     rintro e w3 ⟨rfl,hw3⟩;go_wp2;go_ret;exact ⟨ret_bool (by rw [HM.out]; try simp),hb2.trans (hw3.mono hb2.size)⟩
    | false =>
     have HM:Hid (m=false):=show _=_ by rw [hm,hie]; simp
     clear hm KV
     go_enter Tryz.func159,Tryz.ntmps159
     go_wp2_with fail
     refine (KT.out _).mono ?_
     rintro e w1 ⟨rfl,rfl⟩;go_wp2_with fail
     refine (KQ.out _).mono ?_
     rintro e w2 ⟨rfl,hw2⟩;have hbx:=HBX.out _ hw2;have hb2:=hb0.trans (hw2.mono hb0.size);clear HBX hw2 x0 x1 x2 hb0;obtain ⟨x0,x1,x2⟩:=hbx;simp only at x0 x1 x2;go_wp2;go_ret;exact ⟨ret_bool HM.out.symm,hb2⟩
theorem idx_neg {keep:List UInt8} {b:UInt8} (h:hasL b keep=false):Lib.indexByte keep b=-1:=by
 rcases idx_cases keep b with ⟨_,h2⟩ | ⟨a,c,h1,_,_⟩
 ·exact h2
 ·exfalso
  unfold hasL at h;rw [h1] at h; simp at h
theorem idx_pos {keep:List UInt8} {b:UInt8} (h:hasL b keep=true):0≤Lib.indexByte keep b:=by
 rcases idx_cases keep b with ⟨h1,_⟩ | ⟨a,c,_,_,h3⟩
 ·unfold hasL at h; simp [h1] at h
 ·omega
set_option maxHeartbeats 1000000 in
theorem meaning_any (s keep:ByteArray) (w:World) (hs:s.size≤140737488355328) (hk:keep.size≤maxLen) :
  Calls Tryz.prog 163 #[.string s,.string keep] w fun e w'=>e=.returned (.tuple #[.string ⟨(writtenV keep.data.toList s.data.toList).1.toArray⟩,.bool (writtenV keep.data.toList s.data.toList).2])∧Below w.heap.size w w':=by
 go_enter Tryz.func163,Tryz.ntmps163
 go_wp2
 go_loop [12] (fun i=>∃ k:Nat,k≤s.size∧i=.int .i64 k∧Hid ((s.data.toList.take k).all (okw keep.data.toList)=true)) (fun i=>s.size - (intOf i).toNat)
 case atStart=>exact ⟨0,by omega,rfl,rfl⟩
 case round =>
  obtain ⟨k,hk',rfl,hall⟩:=hrel;by_cases hlt:k < s.size
  ·have hbd:=u8_bd s[k];by_cases h37:s[k]=37
   ·have e37:((s[k].toNat:Int) != 37)=false:=by rw [h37]; rfl
    have e37':((s[k].toNat:Int)==37)=true:=by rw [h37]; rfl
    have ha:Hid ((s.data.toList.take (k+1)).all (okw keep.data.toList)=true):=okw_snoc hlt hall.out (by simp [okw,h37]);clear h37 hall;go_wp2
    go_round
    case rel=>exact ⟨k+1,by omega,by go_num,ha⟩
    case measure=>simp [intOf]; omega
   ·have e37:((s[k].toNat:Int) != 37)=true:=by
     have:=u8_ne (b:=37) h37
     simp only [bne,Bool.not_eq_true']; exact this
    by_cases hx:isB s[k].toNat 16=true
    ·have hx2:(bits BinOp.and IntKind.i64 (cls s[k].toNat) 16==0)=false:=by simpa [isB] using hx
     have ha:Hid ((s.data.toList.take (k+1)).all (okw keep.data.toList)=true):=okw_snoc hlt hall.out (by simp [okw,hx]);clear h37 hall hx;go_wp2_with (go_at_call 173; refine (class_any _ _ hbd.1 hbd.2).mono ?_; rintro e w' ⟨rfl,rfl⟩)
     go_round
     case rel=>exact ⟨k+1,by omega,by go_num,ha⟩
     case measure=>simp [intOf]; omega
    ·have hx2:(bits BinOp.and IntKind.i64 (cls s[k].toNat) 16==0)=true:=by simpa [isB] using hx
     by_cases hh:hasL s[k] keep.data.toList=true
     ·have ha:Hid ((s.data.toList.take (k+1)).all (okw keep.data.toList)=true):=okw_snoc hlt hall.out (by simp [okw,hh]);have hix:=idx_pos hh;clear h37 hall hx;go_wp2_with (first
       | (go_at_call 173; refine (class_any _ _ hbd.1 hbd.2).mono ?_; rintro e w' ⟨rfl,rfl⟩)
       | (go_at_call 192; refine (strIndexByte_any keep s[k] _).mono ?_; rintro e w' ⟨rfl,rfl⟩))
      go_round
      case rel=>exact ⟨k+1,by omega,by go_num,ha⟩
      case measure=>simp [intOf]; omega
     ·have hh':hasL s[k] keep.data.toList=false:=by simpa using hh
      have hix:=idx_neg hh';have hb:Hid (writtenV keep.data.toList s.data.toList=([],false)):=written_bad hlt (by
       simp only [okw,Bool.or_eq_false_iff,beq_eq_false_iff_ne,ne_eq];exact ⟨h37,by simpa using hx,hh'⟩)
      clear h37 hall hx hh;go_wp2_with (first
       | (go_at_call 173; refine (class_any _ _ hbd.1 hbd.2).mono ?_; rintro e w' ⟨rfl,rfl⟩)
       | (go_at_call 192; refine (strIndexByte_any keep s[k] _).mono ?_; rintro e w' ⟨rfl,rfl⟩; rw [hix]))
      go_ret2;exact ⟨ret_wr (x:=[]) hb.out,Below.refl _ _⟩
  ·rw [take_all s k (by omega)] at hall;have hv:=written_all hall.out;have HV:Hid _:=hv; clear hv hall
   go_wp2_with (go_at_call 193; refine (unescape_any _ _ hs).mono ?_; rintro e w1 ⟨rfl,hw1⟩)
   all_goals go_ret2
   all_goals exact ⟨ret_wr HV.out,hw1⟩
theorem parsOf_snoc_some {keep:List UInt8} {ls:List (List UInt8)} {l:List UInt8} {ps:List Par} {p:Par} (h1:parsOf keep ls=some ps) (h2:parOf keep l=some p):parsOf keep (ls++[l])=some (ps++[p]):=by
 rw [parsOf_snoc,h1,h2]
theorem meaning_list (s keep:List UInt8) (w:World) (hs:s.length≤1048576) (hk:keep.length≤64) :
  Calls Tryz.prog 163 #[.string ⟨s.toArray⟩,.string ⟨keep.toArray⟩] w fun e w'=>e=.returned (.tuple #[.string ⟨(writtenV keep s).1.toArray⟩,.bool (writtenV keep s).2])∧Below w.heap.size w w' :=
 meaning_any ⟨s.toArray⟩ ⟨keep.toArray⟩ w (by rw [size_list]; omega) (by rw [size_list]; unfold maxLen; omega)
theorem strCut_list (r:List UInt8) (c:UInt8) (w:World) (hs:r.length≤9223372036854775807) :
  Calls Tryz.prog 120 #[.string ⟨r.toArray⟩,.string ⟨#[c]⟩] w fun e w'=>e=.returned (.tuple #[.string ⟨(cutL c r).1.toArray⟩,.string ⟨(cutL c r).2.1.toArray⟩,.bool (cutL c r).2.2])∧∃ q,w'=w.drewN q :=
 strCut_any ⟨r.toArray⟩ c w (by rw [size_list]; exact hs)
set_option maxHeartbeats 2000000 in
set_option maxRecDepth 100000 in
theorem fields_any (v:Value) (ls:List (List UInt8)) (keep:List UInt8) (w:World) (hk:keep.length≤64) (hn:ls.length≤1048577) (hl:∀ l ∈ ls,l.length≤1048576) (hv:StrsAt w v ls) :
  Calls Tryz.prog 165 #[v,.string ⟨keep.toArray⟩] w fun e w'=>∃ v' b,e=.returned (.tuple #[v',.bool b])∧ParsRes keep ls w w' v' b∧Below w.heap.size w w':=by
 obtain ⟨i0,hi,hz0,hz1,hz2⟩:=info_parts infoPar;obtain ⟨ao,cap,rfl,hc⟩:=hv;have HC:Hid _:=hc; clear hc
 have HL:Hid _:=hl; clear hl
 obtain ⟨n,hn'⟩:∃ n,n=ls.length:=⟨_,rfl⟩
 rw [← hn'] at hn ⊢;have HN:Hid _:=hn'; clear hn'
 go_enter Tryz.func165,Tryz.ntmps165
 go_wp2
 go_loopw [6,17] (fun x i wr=>∃ (k:Nat) (ps:List Par),k≤n∧i=.int .i64 k∧Hid (parsOf keep (ls.take k)=some ps)∧ps.length=k∧OwnP wr w.heap.size x ps∧Below w.heap.size w wr∧w.heap.size≤wr.heap.size) (fun _ i _=>n - (intOf i).toNat)
 case atStart=>exact ⟨0,[],by omega,rfl,rfl,rfl,OwnP.nil _ _,Below.refl _ _,Nat.le_refl _⟩
 case round =>
  obtain ⟨k,ps,hkn,rfl,hps,hpl,hown,hb,hB⟩:=hrel;by_cases hlt:k < n
  ·have hkl:k < ls.length:=by have:=HN.out; omega
   obtain ⟨a,hao,hab,hcell⟩:=HC.out k hkl;have hcell2:=cell_below hb (by rw [add_block]; exact hab) hcell;have hll:=HL.out _ (List.getElem_mem hkl);have hcl:=cutL_len 61 ls[k];subst hao;clear hcell;go_wp2_with fail
   refine (strCut_list ls[k] 61 _ (by omega)).mono ?_
   rintro e w' ⟨rfl,q,rfl⟩;have hown1:=hown.below (below_drewN _ q);have hb1:=hb.trans ((below_drewN _ q).mono hB);go_wp2_with fail
   refine (meaning_list (cutL 61 ls[k]).1 keep _ (by omega) hk).mono ?_
   rintro e w3 ⟨rfl,hw3⟩;have hown3:=hown1.below hw3;have hb3:=hb1.trans (hw3.mono hb1.size);have hB3:=hb3.size;have hsn:∀ p,parOf keep ls[k]=some p → parsOf keep (ls.take (k+1))=some (ps++[p]):=fun p h=>by
    rw [List.take_succ_eq_append_getElem hkl]; exact parsOf_snoc_some hps.out h
   have hpbad:=@parsOf_bad keep ls k hkl;have hpsome:=@parOf_some keep ls[k];have hpnone:=@parOf_none keep ls[k];clear hown hown1 hb hb1 hw3 hB hcell2;have hlb:(cutL 61 ls[k]).2.1.length≤1048576:=by omega
   generalize cutL 61 ls[k]=c3 at hpsome hpnone hlb ⊢;obtain ⟨ca,cb,cc⟩:=c3;simp only at hpsome hpnone hlb ⊢;obtain ⟨wb,hwb⟩:∃ wb,writtenV keep cb=wb:=⟨_,rfl⟩
   rw [hwb] at hpsome hpnone;generalize writtenV keep ca=wa at hpsome hpnone ⊢;obtain ⟨na,ha⟩:=wa;obtain ⟨nb,hbb⟩:=wb;simp only at hpsome hpnone ⊢;have HPB:Hid _:=hpbad; clear hpbad
   have HPN:Hid _:=hpnone; clear hpnone
   have HPS:Hid _:=hpsome; clear hpsome
   have HSN:Hid _:=hsn; clear hsn
   cases ha with
   | false =>
    have hnone:Hid (parsOf keep ls=none):=HPB.out (HPN.out (by simp));go_wp2;go_ret2
    first | exact ⟨.slice none 0 0,false,rfl,Or.inr ⟨hnone.out,rfl,rfl⟩,hb3⟩ | exact ⟨.slice none 0 0,Or.inl ⟨rfl,Or.inr ⟨hnone.out,rfl,rfl⟩,hb3⟩⟩
   | true =>
    go_wp2_with fail
    refine (meaning_list cb keep _ hlb hk).mono ?_
    rw [hwb];rintro e w4 ⟨rfl,hw4⟩;have hown4:=hown3.below hw4;have hb4:=hb3.trans (hw4.mono hb3.size);have hB4:=hb4.size;clear hown3 hb3 hw4 hB3 hwb
    cases hbb with
    | false =>
     have hnone:Hid (parsOf keep ls=none):=HPB.out (HPN.out (by simp));go_wp2;go_ret2
     first | exact ⟨.slice none 0 0,false,rfl,Or.inr ⟨hnone.out,rfl,rfl⟩,hb4⟩ | exact ⟨.slice none 0 0,Or.inl ⟨rfl,Or.inr ⟨hnone.out,rfl,rfl⟩,hb4⟩⟩
    | true =>
     have hsn2:Hid (parsOf keep (ls.take (k+1))=some (ps++[⟨na,nb,cc⟩])):=HSN.out _ (HPS.out (by simp) (by simp));have hnew:∀ (j:Nat) (u:Value),(parCells ⟨na,nb,cc⟩)[j]? = some u → (w4.alloc (.cells #[.string ⟨na.toArray⟩,.string ⟨nb.toArray⟩,.bool cc] 158)).cell? ((⟨w4.heap.size,0,none⟩:Addr).add j)=some u:=by
      intro j u hj;have e:(⟨w4.heap.size,0,none⟩:Addr).add j=⟨w4.heap.size,j,none⟩:=by unfold Addr.add; split <;> simp_all
      rw [e];unfold World.cell?;rw [heap_alloc_new]
      simpa [parCells] using hj
     have HNW:Hid _:=hnew; clear hnew HSN HPS HPN HPB
     go_wp2_with (at_builtin; refine wp_appP _ rfl (.tmp 43) (.tmp 48) 27 rfl w.heap.size i0 _ Tryz.underlying27 hi hz0 hz1 hz2 rfl _ ps rfl (hown4.alloc _) ⟨w4.heap.size,0,none⟩ 1 ⟨na,nb,cc⟩ rfl (by exact HNW.out) (by omega) w (hb4.alloc hB4 _) (by simp; omega) ?_; intro v5 w5 hown5 hb5 hB5)
     go_wp2;go_roundw
     case rel=>exact ⟨k+1,ps++[⟨na,nb,cc⟩],by omega,by go_num,hsn2,by simp; omega,hown5,hb5,hB5⟩
     case measure=>simp [intOf]; omega
  ·have hend:Hid (parsOf keep ls=some ps):=show _=_ by
    have h:=hps.out;have e:=HN.out;rw [List.take_of_length_le (by omega)] at h; exact h
   clear hps;go_wp2;go_ret2
   first | exact ⟨_,_,rfl,Or.inl ⟨ps,hend.out,rfl,hown⟩,hb⟩ | exact ⟨_,Or.inr ⟨rfl,Or.inl ⟨ps,hend.out,rfl,hown⟩,hb⟩⟩
theorem ret_user {p:List UInt8 × List UInt8 × Int} {x y:List UInt8} {b:Int} (h:p=(x,y,b)):Ending.returned (.tuple #[.string ⟨x.toArray⟩,.string ⟨y.toArray⟩,.int .i64 b])=.returned (.tuple #[.string ⟨p.1.toArray⟩,.string ⟨p.2.1.toArray⟩,.int .i64 p.2.2]):=by rw [h]
set_option maxHeartbeats 1000000 in
theorem cutUser_any (s:List UInt8) (w:World) (hs:s.length≤1048576) :
  Calls Tryz.prog 123 #[.string ⟨s.toArray⟩] w fun e w'=>e=.returned (.tuple #[.string ⟨(userV s).1.toArray⟩,.string ⟨(userV s).2.1.toArray⟩,.int .i64 (userV s).2.2])∧Below w.heap.size w w':=by
 have hcl:=cutL_len 64 s;have hv:userV s=userV s:=rfl
 conv at hv=>rhs; unfold userV
 go_enter Tryz.func123,Tryz.ntmps123
 go_wp2_with fail
 refine (strCut_list s 64 _ (by omega)).mono ?_
 rintro e w0 ⟨rfl,q,rfl⟩;have hw0:=below_drewN w q;generalize w.drewN q=w0 at hw0 ⊢;have hl1:(cutL 64 s).1.length≤1048576:=by omega
 clear hcl;generalize cutL 64 s=c at hv hl1 ⊢;obtain ⟨ca,cb,cc⟩:=c;simp only at hv hl1 ⊢
 cases cc with
 | false =>
  have HV:Hid (userV s=([],s,0)):=show _=_ by rw [hv]; rfl
  clear hv;go_wp2;go_ret3
  exact ⟨ret_user (x:=[]) HV.out,hw0⟩
 | true =>
  rw [if_pos rfl] at hv;have hm:=meaning_list ca usersK w0 hl1 (by decide);go_wp2_with fail
  refine hm.mono ?_
  rintro e w1 ⟨rfl,hw1⟩;have hb:=hw0.trans (hw1.mono hw0.size);clear hm hw1;generalize writtenV usersK ca=t at hv ⊢;obtain ⟨t1,tb⟩:=t;simp only at hv ⊢
  cases tb with
  | false =>
   have HV:Hid (userV s=([],[],31)):=show _=_ by rw [hv]; simp
   clear hv;go_wp2;go_ret3
   exact ⟨ret_user (x:=[]) (y:=[]) HV.out,hb⟩
  | true =>
   have z:=size_list t1;by_cases h0:t1=[]
   ·subst h0;have HV:Hid (userV s=([],[],31)):=show _=_ by rw [hv]; simp
    clear hv;go_wp2;go_ret3
    exact ⟨ret_user (x:=[]) (y:=[]) HV.out,hb⟩
   ·have he:t1.isEmpty=false:=by simpa using h0
    by_cases h64:64 < t1.length
    ·have HV:Hid (userV s=([],[],31)):=show _=_ by rw [hv,if_pos (Or.inr (Or.inr h64))]
     clear hv;go_wp2;go_ret3
     exact ⟨ret_user (x:=[]) (y:=[]) HV.out,hb⟩
    ·have HV:Hid (userV s=(t1,cb,0)):=show _=_ by rw [hv,if_neg (by simp [h0]; omega)]
     clear hv;go_wp2;go_ret3
     exact ⟨ret_user HV.out,hb⟩
end Go.Proofs.YtiogedceommcoaaGreatDoor
namespace Go.Proofs.YtiogedceommcoaaGreatDoor
open Go.RowKit
structure Six (w:World) (b:Nat) (v0 v1 v2 v3 v4 v5:Value):Prop where
 c0:w.cell? ⟨b,0,none⟩=some v0
 c1:w.cell? ⟨b,1,none⟩=some v1
 c2:w.cell? ⟨b,2,none⟩=some v2
 c3:w.cell? ⟨b,3,none⟩=some v3
 c4:w.cell? ⟨b,4,none⟩=some v4
 c5:w.cell? ⟨b,5,none⟩=some v5
 f0:w.frozen? ⟨b,0,none⟩=false
 f1:w.frozen? ⟨b,1,none⟩=false
 f2:w.frozen? ⟨b,2,none⟩=false
 f3:w.frozen? ⟨b,3,none⟩=false
 f4:w.frozen? ⟨b,4,none⟩=false
 f5:w.frozen? ⟨b,5,none⟩=false
theorem RowIs.six {w:World} {b:Nat} {e:TypeId} {v0 v1 v2 v3 v4 v5:Value} (h:RowIs w b e [v0,v1,v2,v3,v4,v5]):Six w b v0 v1 v2 v3 v4 v5 :=
 ⟨h.cell 0 (by simp),h.cell 1 (by simp),h.cell 2 (by simp),h.cell 3 (by simp),h.cell 4 (by simp),h.cell 5 (by simp),h.frozen 0,h.frozen 1,h.frozen 2,h.frozen 3,h.frozen 4,h.frozen 5⟩
theorem row_store {w:World} {b:Nat} {e:TypeId} {u0 u1 u2 u3 u4 u5:Value} (h:RowIs w b e [u0,u1,u2,u3,u4,u5]) (v0 v1 v2 v3 v4 v5:Value) :
  RowIs ((((((w.setCell ⟨b,0,none⟩ v0).setCell ⟨b,1,none⟩ v1).setCell ⟨b,2,none⟩ v2).setCell ⟨b,3,none⟩ v3).setCell ⟨b,4,none⟩ v4).setCell ⟨b,5,none⟩ v5) b e [v0,v1,v2,v3,v4,v5]:=by
 have:=(((((h.set 0 v0).set 1 v1).set 2 v2).set 3 v3).set 4 v4).set 5 v5
 simpa using this
theorem store_below {B:Nat} {a w:World} (h:Below B a w) (b:Nat) (hb:B≤b) (v0 v1 v2 v3 v4 v5:Value) :
  Below B a ((((((w.setCell ⟨b,0,none⟩ v0).setCell ⟨b,1,none⟩ v1).setCell ⟨b,2,none⟩ v2).setCell ⟨b,3,none⟩ v3).setCell ⟨b,4,none⟩ v4).setCell ⟨b,5,none⟩ v5) :=
 (((((h.setCell hb _).setCell hb _).setCell hb _).setCell hb _).setCell hb _).setCell hb _
theorem add_at (g o k:Nat):(⟨g,o,none⟩:Addr).add k=⟨g,o+k,none⟩:=by unfold Addr.add; split <;> simp_all
end Go.Proofs.YtiogedceommcoaaGreatDoor
namespace Go.Proofs.YtiogedceommcoaaGreatDoor
open Go.RowKit Sc
def zeroU:List Value:=[.string ⟨#[]⟩,.string ⟨#[]⟩,.string ⟨#[]⟩,.int .i64 0,.slice none 0 0,.slice none 0 0]
theorem rowU_new (w:World):RowIs (w.alloc (.cells #[.string ⟨#[]⟩,.string ⟨#[]⟩,.string ⟨#[]⟩,.int .i64 0,.slice none 0 0,.slice none 0 0] 29)) w.heap.size 29 zeroU:=by
 unfold RowIs; rw [heap_alloc_new]; rfl
theorem OwnP.mono {w:World} {B C:Nat} {v:Value} {ps:List Par} (h:OwnP w B v ps) (hc:C≤B):OwnP w C v ps:=by
 obtain ⟨h1,h2⟩:=h;refine ⟨h1,?_⟩
 rcases h2 with h2 | ⟨g,cap,cur,hv,hg,r⟩
 ·exact Or.inl h2
 ·exact Or.inr ⟨g,cap,cur,hv,Nat.le_trans hc hg,r⟩
theorem OwnP.store {w:World} {B:Nat} {v:Value} {ps:List Par} (h:OwnP w B v ps) {b:Nat} (hb:b < B) (v0 v1 v2 v3 v4 v5:Value) :
  OwnP ((((((w.setCell ⟨b,0,none⟩ v0).setCell ⟨b,1,none⟩ v1).setCell ⟨b,2,none⟩ v2).setCell ⟨b,3,none⟩ v3).setCell ⟨b,4,none⟩ v4).setCell ⟨b,5,none⟩ v5) B v ps :=
 ownsRow_setCell_below (ownsRow_setCell_below (ownsRow_setCell_below (ownsRow_setCell_below (ownsRow_setCell_below (ownsRow_setCell_below h hb _) hb _) hb _) hb _) hb _) hb _
theorem strs_none (w:World) (ao:Option Addr) (cap:Nat):StrsAt w (.slice ao 0 cap) []:=⟨ao,cap,rfl,fun k hk=>by simp at hk⟩
theorem strs_tail {w2 w3:World} {g cap:Nat} {p0:List UInt8} {ps:List (List UInt8)} (HC:∀ j (hj:j < (p0 :: ps).length),w2.cell? ⟨g,j,none⟩=some (.string ⟨((p0 :: ps)[j]).toArray⟩)) (hg:g < w2.heap.size) (hb:Below w2.heap.size w2 w3) :
  StrsAt w3 (.slice (some ⟨g,1,none⟩) ps.length cap) ps:=by
 refine ⟨_,_,rfl,fun k hk=>⟨_,rfl,Nat.lt_of_lt_of_le hg hb.size,?_⟩⟩
 have h:=HC (k+1) (by simpa using hk);rw [add_at,hb.cell (by exact hg),Nat.add_comm 1 k,h]
 simp
theorem strs_all {w2:World} {g cap:Nat} {p0:List UInt8} {ps:List (List UInt8)} (HC:∀ j (hj:j < (p0 :: ps).length),w2.cell? ⟨g,j,none⟩=some (.string ⟨((p0 :: ps)[j]).toArray⟩)) (hg:g < w2.heap.size) :
  StrsAt w2 (.slice (some ⟨g,0,none⟩) (ps.length+1) cap) (p0 :: ps):=by
 refine ⟨_,_,rfl,fun k hk=>⟨_,rfl,hg,?_⟩⟩
 rw [add_at,Nat.zero_add]; exact HC k hk
theorem fields_of (v:Value) (ls:List (List UInt8)) (keep:List UInt8) (w:World) (hk:keep.length≤64) (hn:ls.length≤1048577) (hl:∀ l ∈ ls,l.length≤1048576) (hv:StrsAt w v ls) :
  Calls Tryz.prog 165 #[v,.string ⟨keep.toArray⟩] w fun e w'=>∃ v' b,e=.returned (.tuple #[v',.bool b])∧((∃ ps,parsOf keep ls=some ps∧b=true∧OwnP w' w.heap.size v' ps)∨(parsOf keep ls=none∧b=false∧v'=.slice none 0 0))∧Below w.heap.size w w':=fields_any v ls keep w hk hn hl hv
theorem rest_of {s ca cb p0 wh:List UInt8} {cc:Bool} {ps0:List (List UInt8)} {wp we:Int} (h1:cutL 63 s=(ca,cb,cc)) (h2:splitL 59 ca=p0 :: ps0) (h3:whereV p0=(wh,wp,we)) :
  restV s=if we ≠ 0 then (noU,we) else fillV (wh,wp,we) (parsOf paramsK ps0) (headsV cc cb):=by
 unfold restV;simp only [h1,h2,h3,List.headD_cons,List.tail_cons]
theorem strCut_of {r a b:List UInt8} {f:Bool} {c:UInt8} (h:cutL c r=(a,b,f)) (w:World) (hs:r.length≤9223372036854775807) :
  Calls Tryz.prog 120 #[.string ⟨r.toArray⟩,.string ⟨#[c]⟩] w fun e w'=>e=.returned (.tuple #[.string ⟨a.toArray⟩,.string ⟨b.toArray⟩,.bool f])∧Below w.heap.size w w':=by
 have k:=strCut_list r c w hs;rw [h] at k;refine k.mono ?_
 rintro e w' ⟨rfl,q,rfl⟩;exact ⟨rfl,below_drewN w q⟩
theorem strSplit_of {l p0:List UInt8} {ps:List (List UInt8)} {c:UInt8} (h:splitL c l=p0 :: ps) (w:World) (hs:l.length≤1048576) :
  Calls Tryz.prog 164 #[.string ⟨l.toArray⟩,.string ⟨#[c]⟩] w fun e w'=>∃ g cap,e=.returned (.slice (some ⟨g,0,none⟩) (ps.length+1) cap)∧ps.length+1≤cap∧g < w'.heap.size∧(∀ j (hj:j < (p0 :: ps).length),w'.cell? ⟨g,j,none⟩=some (.string ⟨((p0 :: ps)[j]).toArray⟩))∧Below w.heap.size w w':=by
 have k:=strSplit_any ⟨l.toArray⟩ c w (by rw [size_list]; exact hs);refine k.mono ?_
 rintro e w' ⟨v,rfl,hown,hb⟩;have hown2:Own w' w.heap.size 9 v (strs (p0 :: ps)):=by rw [← h]; exact hown
 obtain ⟨g,cap,rfl,hc⟩:=own_strs hown2 (by simp);have hcap:ps.length+1≤cap∧g < w'.heap.size:=by
  rcases hown2.2 with ⟨e,_⟩ | ⟨g',cap',cur,e,hB,hg,h1,h2,h3,h4⟩
  ·simp at e
  ·simp only [Value.slice.injEq,Option.some.injEq,Addr.mk.injEq] at e;obtain ⟨⟨rfl,_⟩,_,rfl⟩:=e;rw [strs_length] at h1;refine ⟨h1,?_⟩
   apply Classical.byContradiction
   intro hge;rw [Array.getElem?_eq_none (by omega)] at hg
   cases hg
 exact ⟨g,cap,rfl,hcap.1,hcap.2,hc,hb⟩
theorem where_of {l wh:List UInt8} {wp we:Int} (h:whereV l=(wh,wp,we)) (w:World) (hs:l.length≤1048576) :
  Calls Tryz.prog 153 #[.string ⟨l.toArray⟩] w fun e w'=>e=.returned (.tuple #[.string ⟨wh.toArray⟩,.int .i64 wp,.int .i64 we])∧Below w.heap.size w w':=by
 have k:=where_any ⟨l.toArray⟩ w (by rw [size_list]; omega);have k2:Calls Tryz.prog 153 #[.string ⟨l.toArray⟩] w fun e w'=>e=.returned (.tuple #[.string ⟨(whereV l).1.toArray⟩,.int .i64 (whereV l).2.1,.int .i64 (whereV l).2.2])∧Below w.heap.size w w':=k;rw [h] at k2;exact k2
set_option maxHeartbeats 2000000 in
set_option maxRecDepth 100000 in
theorem readRest_any (s:List UInt8) (w:World) (hs:s.length≤1048576) :
  Calls Tryz.prog 124 #[.string ⟨s.toArray⟩] w fun e w'=>∃ p h,e=.returned (.tuple #[uriV (restV s).1 p h,.int .i64 (restV s).2])∧OwnP w' w.heap.size p (restV s).1.params∧OwnP w' w.heap.size h (restV s).1.headers∧Below w.heap.size w w':=by
 have hcl:=cutL_len 63 s;obtain ⟨ca,cb,cc,hcut⟩:∃ ca cb cc,cutL 63 s=(ca,cb,cc):=⟨_,_,_,rfl⟩
 obtain ⟨p0,ps0,hp0⟩:=splitL_cons 59 ca;obtain ⟨wh,wp,we,hwv⟩:∃ wh wp we,whereV p0=(wh,wp,we):=⟨_,_,_,rfl⟩
 have hv:=rest_of hcut hp0 hwv;rw [hcut] at hcl;simp only at hcl;have hmem:=splitL_mem_len 59 ca;have hcnt:=splitL_len 59 ca;rw [hp0] at hmem hcnt;have hp0l:=hmem p0 (by simp);have HM:Hid _:=hmem; clear hmem
 have hcnt2:ps0.length≤1048576:=by simp at hcnt; omega
 clear hcnt;have hr0:=rowU_new w;have hb0:Below w.heap.size w (w.alloc (.cells #[.string ⟨#[]⟩,.string ⟨#[]⟩,.string ⟨#[]⟩,.int .i64 0,.slice none 0 0,.slice none 0 0] 29)):=(Below.refl _ w).alloc (Nat.le_refl _) _;have hlt0:w.heap.size < (w.alloc (.cells #[.string ⟨#[]⟩,.string ⟨#[]⟩,.string ⟨#[]⟩,.int .i64 0,.slice none 0 0,.slice none 0 0] 29)).heap.size:=by simp
 have KC:=fun w'=>strCut_of hcut w' (by omega);have KS:=fun w'=>strSplit_of hp0 w' (by omega);have KW:=fun w'=>where_of hwv w' (by omega);have HKC:Hid _:=KC; clear KC
 have HKS:Hid _:=KS; clear KS
 have HKW:Hid _:=KW; clear KW
 clear hcut hp0 hwv;have HV:Hid _:=hv; clear hv
 go_enter Tryz.func124,Tryz.ntmps124
 go_wp2_with fail
 refine (HKC.out _).mono ?_
 rintro e w1 ⟨rfl,hw1⟩;have hr1:=hr0.below hw1 hlt0;have hb1:=hb0.trans (hw1.mono hb0.size);have hlt1:=Nat.lt_of_lt_of_le hlt0 hw1.size;clear hr0 hb0 hlt0 hw1;go_wp2_with fail
 refine (HKS.out _).mono ?_
 rintro e w2 ⟨g,cap,rfl,hcap,hgl,hcells,hw2⟩;have hg0:=hcells 0 (by simp);simp only [List.getElem_cons_zero] at hg0;have hr2:=hr1.below hw2 hlt1;have hb2:=hb1.trans (hw2.mono hb1.size);have hlt2:=Nat.lt_of_lt_of_le hlt1 hw2.size;clear hr1 hb1 hlt1 hw2;have HC:Hid _:=hcells; clear hcells
 go_wp2_with fail
 refine (HKW.out _).mono ?_
 rintro e w3 ⟨rfl,hw3⟩;have hr3:=hr2.below hw3 hlt2;have hb3:=hb2.trans (hw3.mono hb2.size);have hlt3:=Nat.lt_of_lt_of_le hlt2 hw3.size;have HSA:Hid (StrsAt w3 (.slice (some ⟨g,1,none⟩) ps0.length (cap - 1)) ps0):=strs_tail HC.out hgl hw3;have HSB:Hid (ps0=[] → StrsAt w3 (.slice (some ⟨g,0,none⟩) ps0.length 0) ps0):=fun h=>by subst h; exact strs_none _ _ _
 have HMT:Hid (∀ l ∈ ps0,l.length≤1048576):=fun l hl=>by have:=HM.out l (by simp [hl]); omega
 clear hw3 hgl;clear hr2 hb2 hlt2 HKC HKS HKW hg0;obtain ⟨c0,c1,c2,c3,c4,c5,f0,f1,f2,f3,f4,f5⟩:=hr3.six;by_cases hwe:we=0
 ·subst hwe;have hvv:Hid (restV s=fillV (wh,wp,0) (parsOf paramsK ps0) (headsV cc cb)):=show _=_ by rw [HV.out,if_neg (by simp)]
  clear HV;obtain ⟨q0,qs0,hq0⟩:=splitL_cons 38 cb;have hmem:=splitL_mem_len 38 cb;have hcnt:=splitL_len 38 cb;rw [hq0] at hmem hcnt;have HQM:Hid (∀ l ∈ q0 :: qs0,l.length≤1048576):=fun l hl=>by have:=hmem l hl; omega
  have hqn:(q0 :: qs0).length≤1048577:=by omega
  have KS:=fun w'=>strSplit_of hq0 w' (by omega);have HKS:Hid _:=KS;have hhv:headsV true cb=parsOf headersK (q0 :: qs0):=by rw [headsV,if_pos rfl,hq0]
  have HHV:Hid _:=hhv;clear KS hmem hcnt hq0 hhv;go_wp2_with fail
  all_goals (
   refine (fields_of _ ps0 paramsK w3 (by decide) (by omega) HMT.out ?hstr).mono ?_
   case hstr=>first | with_reducible exact HSA.out | exact HSB.out (List.eq_nil_of_length_eq_zero (by omega))
   rintro e w4 ⟨v1,b1,rfl,hres,hw4⟩;have hr4:=hr3.below hw4 hlt3;have hb4:=hb3.trans (hw4.mono hb3.size);have hlt4:=Nat.lt_of_lt_of_le hlt3 hw4.size;clear c0 c1 c2 c3 c4 c5 f0 f1 f2 f3 f4 f5 hw4;obtain ⟨c0,c1,c2,c3,c4,c5,f0,f1,f2,f3,f4,f5⟩:=hr4.six
   rcases hres with ⟨ps1,hp1,rfl,hown1⟩ | ⟨hp1,rfl,rfl⟩
   ·obtain ⟨a1,k1,rfl⟩:=hown1.parsAt.form;have hown1':Hid (OwnP w4 (w.heap.size+1) (.slice a1 ps1.length k1) ps1):=OwnP.mono hown1 (by omega);clear hown1
    cases cc with
    | false =>
     have hvv2:Hid (restV s=(⟨[],[],wh,wp,ps1,[]⟩,0)):=show _=_ by rw [hvv.out,hp1]; rfl
     clear hp1 hvv;go_wp2;have hr5:=row_store hr4 (.string ⟨#[]⟩) (.string ⟨#[]⟩) (.string ⟨wh.toArray⟩) (.int .i64 wp) (.slice a1 ps1.length k1) (.slice none 0 0);have hb5:=store_below hb4 w.heap.size (Nat.le_refl _) (.string ⟨#[]⟩) (.string ⟨#[]⟩) (.string ⟨wh.toArray⟩) (.int .i64 wp) (.slice a1 ps1.length k1) (.slice none 0 0);have ho5:=(OwnP.store hown1'.out (Nat.lt_succ_self _) (.string ⟨#[]⟩) (.string ⟨#[]⟩) (.string ⟨wh.toArray⟩) (.int .i64 wp) (.slice a1 ps1.length k1) (.slice none 0 0)).mono (Nat.le_succ w.heap.size);generalize World.setCell _ _ _=w5 at hr5 hb5 ho5 ⊢;obtain ⟨d0,d1,d2,d3,d4,d5,_,_,_,_,_,_⟩:=hr5.six
     try simp only [Exit.inBlock,Exit.then]
     refine bodyPost_ret (v:=.tuple #[.agg #[.string ⟨#[]⟩,.string ⟨#[]⟩,.string ⟨wh.toArray⟩,.int .i64 wp,(.slice a1 ps1.length k1),.slice none 0 0],.int .i64 0]) (by simp [results,Tryz.results124,go_sem,d0,d1,d2,d3,d4,d5]; try rfl) rfl ?_
     exact ⟨(.slice a1 ps1.length k1),.slice none 0 0,by rw [hvv2.out]; rfl,by rw [hvv2.out]; exact ho5,by rw [hvv2.out]; exact OwnP.nil _ _,hb5⟩
    | true =>
     rw [HHV.out,hp1] at hvv;go_wp2_with fail
     refine (HKS.out _).mono ?_
     rintro e w5 ⟨g2,cap2,rfl,hcap2,hgl2,hcells2,hw5⟩;have hr5:=hr4.below hw5 hlt4;have hb5:=hb4.trans (hw5.mono hb4.size);have hlt5:=Nat.lt_of_lt_of_le hlt4 hw5.size;have ho5:Hid _:=OwnP.below hown1'.out hw5;have hs5:Hid (StrsAt w5 (.slice (some ⟨g2,0,none⟩) (qs0.length+1) cap2) (q0 :: qs0)):=strs_all hcells2 hgl2;clear hcells2 hw5 hgl2 hown1' HKS;go_wp2_with fail
     have hst:=fields_of _ (q0 :: qs0) headersK w5 (by decide) hqn HQM.out hs5.out;refine hst.mono ?_
     clear hst;rintro e w6 ⟨v2,b2,rfl,hres2,hw6⟩;have hr6:=hr5.below hw6 hlt5;have hb6:=hb5.trans (hw6.mono hb5.size);have ho6:Hid _:=OwnP.below ho5.out hw6;clear c0 c1 c2 c3 c4 c5 f0 f1 f2 f3 f4 f5 ho5 hs5 hw6;obtain ⟨c0,c1,c2,c3,c4,c5,f0,f1,f2,f3,f4,f5⟩:=hr6.six
     rcases hres2 with ⟨ps2,hp2,rfl,hown2⟩ | ⟨hp2,rfl,rfl⟩
     ·obtain ⟨a2,k2,rfl⟩:=hown2.parsAt.form;have hown2':Hid (OwnP w6 (w.heap.size+1) (.slice a2 ps2.length k2) ps2):=OwnP.mono hown2 (by omega);have hvv2:Hid (restV s=(⟨[],[],wh,wp,ps1,ps2⟩,0)):=show _=_ by rw [hvv.out,hp2]; rfl
      clear hp1 hvv hp2 HHV hown2;go_wp2;have hr7:=row_store hr6 (.string ⟨#[]⟩) (.string ⟨#[]⟩) (.string ⟨wh.toArray⟩) (.int .i64 wp) (.slice a1 ps1.length k1) (.slice a2 ps2.length k2);have hb7:=store_below hb6 w.heap.size (Nat.le_refl _) (.string ⟨#[]⟩) (.string ⟨#[]⟩) (.string ⟨wh.toArray⟩) (.int .i64 wp) (.slice a1 ps1.length k1) (.slice a2 ps2.length k2);have ho7:=(OwnP.store ho6.out (Nat.lt_succ_self _) (.string ⟨#[]⟩) (.string ⟨#[]⟩) (.string ⟨wh.toArray⟩) (.int .i64 wp) (.slice a1 ps1.length k1) (.slice a2 ps2.length k2)).mono (Nat.le_succ w.heap.size);have hq7:=(OwnP.store hown2'.out (Nat.lt_succ_self _) (.string ⟨#[]⟩) (.string ⟨#[]⟩) (.string ⟨wh.toArray⟩) (.int .i64 wp) (.slice a1 ps1.length k1) (.slice a2 ps2.length k2)).mono (Nat.le_succ w.heap.size);generalize World.setCell _ _ _=w7 at hr7 hb7 ho7 hq7 ⊢;obtain ⟨d0,d1,d2,d3,d4,d5,_,_,_,_,_,_⟩:=hr7.six
      try simp only [Exit.inBlock,Exit.then]
      refine bodyPost_ret (v:=.tuple #[.agg #[.string ⟨#[]⟩,.string ⟨#[]⟩,.string ⟨wh.toArray⟩,.int .i64 wp,(.slice a1 ps1.length k1),(.slice a2 ps2.length k2)],.int .i64 0]) (by simp [results,Tryz.results124,go_sem,d0,d1,d2,d3,d4,d5]; try rfl) rfl ?_
      exact ⟨(.slice a1 ps1.length k1),(.slice a2 ps2.length k2),by rw [hvv2.out]; rfl,by rw [hvv2.out]; exact ho7,by rw [hvv2.out]; exact hq7,hb7⟩
     ·have hvv2:Hid (restV s=(noU,34)):=show _=_ by rw [hvv.out,hp2]; rfl
      clear hp1 hvv hp2 HHV;go_wp2;have hr7:=row_store hr6 (.string ⟨#[]⟩) (.string ⟨#[]⟩) (.string ⟨#[]⟩) (.int .i64 0) (.slice none 0 0) (.slice none 0 0);have hb7:=store_below hb6 w.heap.size (Nat.le_refl _) (.string ⟨#[]⟩) (.string ⟨#[]⟩) (.string ⟨#[]⟩) (.int .i64 0) (.slice none 0 0) (.slice none 0 0);generalize World.setCell _ _ _=w7 at hr7 hb7 ⊢;obtain ⟨d0,d1,d2,d3,d4,d5,_,_,_,_,_,_⟩:=hr7.six
      try simp only [Exit.inBlock,Exit.then]
      refine bodyPost_ret (v:=.tuple #[.agg #[.string ⟨#[]⟩,.string ⟨#[]⟩,.string ⟨#[]⟩,.int .i64 0,.slice none 0 0,.slice none 0 0],.int .i64 34]) (by simp [results,Tryz.results124,go_sem,d0,d1,d2,d3,d4,d5]; try rfl) rfl ?_
      exact ⟨.slice none 0 0,.slice none 0 0,by rw [hvv2.out]; rfl,by rw [hvv2.out]; exact OwnP.nil _ _,by rw [hvv2.out]; exact OwnP.nil _ _,hb7⟩
   ·have hvv2:Hid (restV s=(noU,34)):=show _=_ by rw [hvv.out,hp1]; rfl
    clear hp1 hvv;go_wp2;have hr5:=row_store hr4 (.string ⟨#[]⟩) (.string ⟨#[]⟩) (.string ⟨#[]⟩) (.int .i64 0) (.slice none 0 0) (.slice none 0 0);have hb5:=store_below hb4 w.heap.size (Nat.le_refl _) (.string ⟨#[]⟩) (.string ⟨#[]⟩) (.string ⟨#[]⟩) (.int .i64 0) (.slice none 0 0) (.slice none 0 0);generalize World.setCell _ _ _=w5 at hr5 hb5 ⊢;obtain ⟨d0,d1,d2,d3,d4,d5,_,_,_,_,_,_⟩:=hr5.six
    try simp only [Exit.inBlock,Exit.then]
    refine bodyPost_ret (v:=.tuple #[.agg #[.string ⟨#[]⟩,.string ⟨#[]⟩,.string ⟨#[]⟩,.int .i64 0,.slice none 0 0,.slice none 0 0],.int .i64 34]) (by simp [results,Tryz.results124,go_sem,d0,d1,d2,d3,d4,d5]; try rfl) rfl ?_
    exact ⟨.slice none 0 0,.slice none 0 0,by rw [hvv2.out]; rfl,by rw [hvv2.out]; exact OwnP.nil _ _,by rw [hvv2.out]; exact OwnP.nil _ _,hb5⟩)
 ·have hwe1:(we != 0)=true:=by simpa using hwe
  have hwe2:(we==0)=false:=by simpa using hwe
  have hvv:Hid (restV s=(noU,we)):=show _=_ by rw [HV.out,if_pos hwe]
  clear HV;go_wp2;have hr4:=row_store hr3 (.string ⟨#[]⟩) (.string ⟨#[]⟩) (.string ⟨#[]⟩) (.int .i64 0) (.slice none 0 0) (.slice none 0 0);have hb4:=store_below hb3 w.heap.size (Nat.le_refl _) (.string ⟨#[]⟩) (.string ⟨#[]⟩) (.string ⟨#[]⟩) (.int .i64 0) (.slice none 0 0) (.slice none 0 0);generalize World.setCell _ _ _=w4 at hr4 hb4 ⊢;obtain ⟨d0,d1,d2,d3,d4,d5,_,_,_,_,_,_⟩:=hr4.six
  try simp only [Exit.inBlock,Exit.then]
  refine bodyPost_ret (v:=.tuple #[.agg #[.string ⟨#[]⟩,.string ⟨#[]⟩,.string ⟨#[]⟩,.int .i64 0,.slice none 0 0,.slice none 0 0],.int .i64 we]) (by simp [results,Tryz.results124,go_sem,d0,d1,d2,d3,d4,d5]; try rfl) rfl ?_
  exact ⟨.slice none 0 0,.slice none 0 0,by rw [hvv.out]; rfl,by rw [hvv.out]; exact OwnP.nil _ _,by rw [hvv.out]; exact OwnP.nil _ _,hb4⟩
def fieldR (q:List UInt8):Par × Bool :=
 if quoB (trimL (cutL 61 q).2.1)=true then (⟨trimL (cutL 61 q).1,(unquoteV (trimL (cutL 61 q).2.1)).1,(cutL 61 q).2.2⟩,(unquoteV (trimL (cutL 61 q).2.1)).2==0)
 else (⟨trimL (cutL 61 q).1,trimL (cutL 61 q).2.1,(cutL 61 q).2.2⟩,!(cutL 61 q).2.2 || wordB (trimL (cutL 61 q).2.1))
theorem fieldOf_R (q:List UInt8):fieldOf q=if (fieldR q).2=true then some (fieldR q).1 else none:=by
 unfold fieldOf fieldR valueP;generalize trimL (cutL 61 q).1=nm;generalize trimL (cutL 61 q).2.1=v;generalize (cutL 61 q).2.2=hs
 cases quoB v with
 | true =>
  simp only [if_true];by_cases h:(unquoteV v).2=0
  ·simp [h]
  ·simp [h]
 | false =>
  simp only [Bool.false_eq_true,if_false]
  cases hs <;> cases wordB v <;> simp
theorem row3_any (w:World) (v0 v1 v2:Value) (t:TypeId):RowIs (w.alloc (.cells #[v0,v1,v2] t)) w.heap.size t [v0,v1,v2]:=by
 unfold RowIs; rw [heap_alloc_new]
theorem fieldR_of {q a b:List UInt8} {hs:Bool} (h:cutL 61 q=(a,b,hs)):fieldR q=if quoB (trimL b)=true then (⟨trimL a,(unquoteV (trimL b)).1,hs⟩,(unquoteV (trimL b)).2==0) else (⟨trimL a,trimL b,hs⟩,!hs || wordB (trimL b)):=by
 unfold fieldR; rw [h]
theorem ret_fieldR {q:List UInt8} {nm vl:List UInt8} {hs b:Bool} (h:fieldR q=(⟨nm,vl,hs⟩,b)) :
  Ending.returned (.tuple #[.agg #[.string ⟨nm.toArray⟩,.string ⟨vl.toArray⟩,.bool hs],.bool b])=.returned (.tuple #[parV (fieldR q).1,.bool (fieldR q).2]):=by rw [h]; rfl
end Go.Proofs.YtiogedceommcoaaGreatDoor
