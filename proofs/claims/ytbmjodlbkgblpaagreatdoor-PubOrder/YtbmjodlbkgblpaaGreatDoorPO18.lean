/-
  UMay, UMean, UPrint, Six, URest.
-/
import Derived.Test.YtbmjodlbkgblpaaGreatDoorPO17
set_option linter.unusedVariables false
set_option linter.unusedSimpArgs false
set_option maxRecDepth 20000
namespace Go.Proofs.YtbmjodlbkgblpaaGreatDoor
open Go.RowKit Sc
set_option maxHeartbeats 2000000 in
set_option maxRecDepth 100000 in
theorem check_any (u:Uri) (p h:Value) (w:World) (hsm:SmallU 140737488355328 u) (hp:ParsAt w p u.params) (hh:ParsAt w h u.headers) :
  Calls Tryz.prog 99 #[uriV u p h] w fun e w'=>e=.returned (.int .i64 (checkV u))∧Below w.heap.size w w':=by
 obtain ⟨s1,s2,s3,s4,s5⟩:=hsm;have hcv:checkV u=checkV u:=rfl
 conv at hcv=>rhs; unfold checkV
 have hbox:=box_new w u p h;have hbw:Below w.heap.size w (w.alloc (.cells #[.string ⟨u.scheme.toArray⟩,.string ⟨u.user.toArray⟩,.string ⟨u.host.toArray⟩,.int .i64 u.port,p,h] 120)):=(Below.refl _ w).alloc (Nat.le_refl _) _;have hws:w.heap.size < (w.alloc (.cells #[.string ⟨u.scheme.toArray⟩,.string ⟨u.user.toArray⟩,.string ⟨u.host.toArray⟩,.int .i64 u.port,p,h] 120)).heap.size:=by simp
 unfold uriV
 cases e1:schemeB u.scheme with
 | false =>
  rw [e1] at hcv; simp at hcv
  have HV:Hid _:=hcv; clear hcv
  go_enter Tryz.func99,Tryz.ntmps99
  go_wp2_with (go_at_call 96; refine (scheme_list _ _).mono ?_; rintro e w' ⟨rfl,rfl⟩; rw [e1])
  go_ret;exact ⟨ret_int HV.out.symm,hbw⟩
 | true =>
  rw [e1,if_neg (by simp)] at hcv;by_cases e2:64 < u.user.length
  ·rw [if_pos e2] at hcv;have HV:Hid _:=hcv; clear hcv
   go_enter Tryz.func99,Tryz.ntmps99
   go_wp2_with (go_at_call 96; refine (scheme_list _ _).mono ?_; rintro e w' ⟨rfl,rfl⟩; rw [e1])
   go_ret;exact ⟨ret_int HV.out.symm,hbw⟩
  ·rw [if_neg e2] at hcv
   go_enter Tryz.func99,Tryz.ntmps99
   go_wp2_with (go_at_call 96; refine (scheme_list _ _).mono ?_; rintro e w' ⟨rfl,rfl⟩; rw [e1])
   refine (host_list _ _ s3).mono ?_
   rintro e w2 ⟨rfl,hw2⟩;have hb2:=hbw.trans (hw2.mono hbw.size);have hx2:=hbox.below hw2 hws;have hs2:w.heap.size < w2.heap.size:=Nat.lt_of_lt_of_le hws hw2.size;obtain ⟨g0,g1,g2,g3,g4,g5⟩:=hx2;have hx2:Hid (BoxU w2 w.heap.size u p h):=⟨g0,g1,g2,g3,g4,g5⟩
   clear hbox hbw hws hw2
   cases e3:hostB u.host with
   | false =>
    rw [e3,if_pos rfl] at hcv;have HV:Hid _:=hcv; clear hcv
    go_wp2;go_ret;exact ⟨ret_int HV.out.symm,hb2⟩
   | true =>
    rw [e3,if_neg (by simp)] at hcv;by_cases e4:u.port < 0∨65535 < u.port
    ·rw [if_pos e4] at hcv;have HV:Hid _:=hcv; clear hcv
     by_cases e5:u.port < 0
     ·clear e4;go_wp2;go_ret;exact ⟨ret_int HV.out.symm,hb2⟩
     ·have e6:65535 < u.port:=by omega
      clear e4;go_wp2;go_ret;exact ⟨ret_int HV.out.symm,hb2⟩
    ·rw [if_neg e4] at hcv;have e5:0≤u.port:=by omega
     have e6:u.port≤65535:=by omega
     clear e4;go_wp2_with fail
     refine (mayBe_any _ u.params _ s4 (hp.below hb2)).mono ?_
     rintro e w3 ⟨rfl,hw3⟩;have hb3:=hb2.trans (hw3.mono hb2.size);have hx3:=hx2.out.below hw3 hs2;have hs3:w.heap.size < w3.heap.size:=Nat.lt_of_lt_of_le hs2 hw3.size;clear g0 g1 g2 g3 g4 g5 hx2 hb2 hw3;obtain ⟨g0,g1,g2,g3,g4,g5⟩:=hx3;have hx3:Hid (BoxU w3 w.heap.size u p h):=⟨g0,g1,g2,g3,g4,g5⟩
     cases e7:listB u.params with
     | false =>
      rw [e7,if_pos rfl] at hcv;have HV:Hid _:=hcv; clear hcv
      go_wp2;go_ret;exact ⟨ret_int HV.out.symm,hb3⟩
     | true =>
      rw [e7,if_neg (by simp)] at hcv;go_wp2_with fail
      refine (mayBe_any _ u.headers _ s5 (hh.below hb3)).mono ?_
      rintro e w4 ⟨rfl,hw4⟩;have hb4:=hb3.trans (hw4.mono hb3.size);have hx4:=hx3.out.below hw4 hs3;clear g0 g1 g2 g3 g4 g5 hx3 hb3 hw4 hs2;obtain ⟨g0,g1,g2,g3,g4,g5⟩:=hx4
      cases e8:listB u.headers with
      | false =>
       rw [e8,if_pos rfl] at hcv;have HV:Hid _:=hcv; clear hcv
       go_wp2;go_ret;exact ⟨ret_int HV.out.symm,hb4⟩
      | true =>
       rw [e8,if_neg (by simp)] at hcv;have HV:Hid _:=hcv; clear hcv
       have h16:u.headers.length≤140737488355328:=s5.1;go_wp2_with fail
       refine (allHave_any _ u.headers _ h16 (hh.below hb4)).mono ?_
       rintro e w5 ⟨rfl,hw5⟩;have hb5:=hb4.trans (hw5.mono hb4.size)
       cases e9:u.headers.all (·.has) with
       | false =>
        have hbad:Hid (checkV u=34):=show _=_ by rw [HV.out,e9]; rfl
        clear HV;go_wp2;go_ret;exact ⟨ret_int hbad.out.symm,hb5⟩
       | true =>
        have hall:Hid (checkV u=0):=show _=_ by rw [HV.out,e9]; rfl
        clear HV;go_wp2;go_ret;exact ⟨ret_int hall.out.symm,hb5⟩
theorem idx_neg {keep:List UInt8} {b:UInt8} (h:hasL b keep=false):Lib.indexByte keep b=-1:=by
 rcases idx_cases keep b with ⟨_,h2⟩ | ⟨a,c,h1,_,_⟩
 ·exact h2
 ·exfalso
  unfold hasL at h;rw [h1] at h; simp at h
theorem idx_pos {keep:List UInt8} {b:UInt8} (h:hasL b keep=true):0≤Lib.indexByte keep b:=by
 rcases idx_cases keep b with ⟨h1,_⟩ | ⟨a,c,_,_,h3⟩
 ·unfold hasL at h; simp [h1] at h
 ·omega
set_option maxHeartbeats 1000000 in
theorem meaning_any (s keep:ByteArray) (w:World) (hs:s.size≤140737488355328) (hk:keep.size≤maxLen) :
  Calls Tryz.prog 116 #[.string s,.string keep] w fun e w'=>e=.returned (.tuple #[.string ⟨(writtenV keep.data.toList s.data.toList).1.toArray⟩,.bool (writtenV keep.data.toList s.data.toList).2])∧Below w.heap.size w w':=by
 go_enter Tryz.func116,Tryz.ntmps116
 go_wp2
 go_loop [12] (fun i=>∃ k:Nat,k≤s.size∧i=.int .i64 k∧Hid ((s.data.toList.take k).all (okw keep.data.toList)=true)) (fun i=>s.size - (intOf i).toNat)
 case atStart=>exact ⟨0,by omega,rfl,rfl⟩
 case round =>
  obtain ⟨k,hk',rfl,hall⟩:=hrel;by_cases hlt:k < s.size
  ·have hbd:=u8_bd s[k];by_cases h37:s[k]=37
   ·have e37:((s[k].toNat:Int) != 37)=false:=by rw [h37]; rfl
    have e37':((s[k].toNat:Int)==37)=true:=by rw [h37]; rfl
    have ha:Hid ((s.data.toList.take (k+1)).all (okw keep.data.toList)=true):=okw_snoc hlt hall.out (by simp [okw,h37]);clear h37 hall;go_wp2
    go_round
    case rel=>exact ⟨k+1,by omega,by go_num,ha⟩
    case measure=>simp [intOf]; omega
   ·have e37:((s[k].toNat:Int) != 37)=true:=by
     have:=u8_ne (b:=37) h37
     simp only [bne,Bool.not_eq_true']; exact this
    by_cases hx:isB s[k].toNat 16=true
    ·have hx2:(bits BinOp.and IntKind.i64 (cls s[k].toNat) 16==0)=false:=by simpa [isB] using hx
     have ha:Hid ((s.data.toList.take (k+1)).all (okw keep.data.toList)=true):=okw_snoc hlt hall.out (by simp [okw,hx]);clear h37 hall hx;go_wp2_with (go_at_call 113; refine (class_any _ _ hbd.1 hbd.2).mono ?_; rintro e w' ⟨rfl,rfl⟩)
     go_round
     case rel=>exact ⟨k+1,by omega,by go_num,ha⟩
     case measure=>simp [intOf]; omega
    ·have hx2:(bits BinOp.and IntKind.i64 (cls s[k].toNat) 16==0)=true:=by simpa [isB] using hx
     by_cases hh:hasL s[k] keep.data.toList=true
     ·have ha:Hid ((s.data.toList.take (k+1)).all (okw keep.data.toList)=true):=okw_snoc hlt hall.out (by simp [okw,hh]);have hix:=idx_pos hh;clear h37 hall hx
      go_wp2_with (first
       | (go_at_call 113; refine (class_any _ _ hbd.1 hbd.2).mono ?_; rintro e w' ⟨rfl,rfl⟩)
       | (go_at_call 138; refine (strIndexByte_any keep s[k] _).mono ?_; rintro e w' ⟨rfl,rfl⟩))
      go_round
      case rel=>exact ⟨k+1,by omega,by go_num,ha⟩
      case measure=>simp [intOf]; omega
     ·have hh':hasL s[k] keep.data.toList=false:=by simpa using hh
      have hix:=idx_neg hh'
      have hb:Hid (writtenV keep.data.toList s.data.toList=([],false)):=written_bad hlt (by
       simp only [okw,Bool.or_eq_false_iff,beq_eq_false_iff_ne,ne_eq];exact ⟨h37,by simpa using hx,hh'⟩)
      clear h37 hall hx hh
      go_wp2_with (first
       | (go_at_call 113; refine (class_any _ _ hbd.1 hbd.2).mono ?_; rintro e w' ⟨rfl,rfl⟩)
       | (go_at_call 138; refine (strIndexByte_any keep s[k] _).mono ?_; rintro e w' ⟨rfl,rfl⟩; rw [hix]))
      go_ret2;exact ⟨ret_wr (x:=[]) hb.out,Below.refl _ _⟩
  ·rw [take_all s k (by omega)] at hall;have hv:=written_all hall.out;have HV:Hid _:=hv; clear hv hall
   go_wp2_with (go_at_call 139; refine (unescape_any _ _ hs).mono ?_; rintro e w1 ⟨rfl,hw1⟩)
   all_goals go_ret2
   all_goals exact ⟨ret_wr HV.out,hw1⟩
theorem parsOf_snoc_some {keep:List UInt8} {ls:List (List UInt8)} {l:List UInt8} {ps:List Par} {p:Par} (h1:parsOf keep ls=some ps) (h2:parOf keep l=some p):parsOf keep (ls++[l])=some (ps++[p]):=by
 rw [parsOf_snoc,h1,h2]
theorem meaning_list (s keep:List UInt8) (w:World) (hs:s.length≤1048576) (hk:keep.length≤64) :
  Calls Tryz.prog 116 #[.string ⟨s.toArray⟩,.string ⟨keep.toArray⟩] w fun e w'=>e=.returned (.tuple #[.string ⟨(writtenV keep s).1.toArray⟩,.bool (writtenV keep s).2])∧Below w.heap.size w w' :=
 meaning_any ⟨s.toArray⟩ ⟨keep.toArray⟩ w (by rw [size_list]; omega) (by rw [size_list]; unfold maxLen; omega)
theorem strCut_list (r:List UInt8) (c:UInt8) (w:World) (hs:r.length≤9223372036854775807) :
  Calls Tryz.prog 94 #[.string ⟨r.toArray⟩,.string ⟨#[c]⟩] w fun e w'=>e=.returned (.tuple #[.string ⟨(cutL c r).1.toArray⟩,.string ⟨(cutL c r).2.1.toArray⟩,.bool (cutL c r).2.2])∧∃ q,w'=w.drewN q :=
 strCut_any ⟨r.toArray⟩ c w (by rw [size_list]; exact hs)
set_option maxHeartbeats 2000000 in
set_option maxRecDepth 100000 in
theorem fields_any (v:Value) (ls:List (List UInt8)) (keep:List UInt8) (w:World) (hk:keep.length≤64) (hn:ls.length≤1048577) (hl:∀ l ∈ ls,l.length≤1048576) (hv:StrsAt w v ls) :
  Calls Tryz.prog 119 #[v,.string ⟨keep.toArray⟩] w fun e w'=>∃ v' b,e=.returned (.tuple #[v',.bool b])∧ParsRes keep ls w w' v' b∧Below w.heap.size w w':=by
 obtain ⟨i0,hi,hz0,hz1,hz2⟩:=info_parts infoPar;obtain ⟨ao,cap,rfl,hc⟩:=hv;have HC:Hid _:=hc; clear hc
 have HL:Hid _:=hl; clear hl
 obtain ⟨n,hn'⟩:∃ n,n=ls.length:=⟨_,rfl⟩
 rw [← hn'] at hn ⊢;have HN:Hid _:=hn'; clear hn'
 go_enter Tryz.func119,Tryz.ntmps119
 go_wp2
 go_loopw [6,17] (fun x i wr=>∃ (k:Nat) (ps:List Par),k≤n∧i=.int .i64 k∧Hid (parsOf keep (ls.take k)=some ps)∧ps.length=k∧OwnP wr w.heap.size x ps∧Below w.heap.size w wr∧w.heap.size≤wr.heap.size) (fun _ i _=>n - (intOf i).toNat)
 case atStart=>exact ⟨0,[],by omega,rfl,rfl,rfl,OwnP.nil _ _,Below.refl _ _,Nat.le_refl _⟩
 case round =>
  obtain ⟨k,ps,hkn,rfl,hps,hpl,hown,hb,hB⟩:=hrel;by_cases hlt:k < n
  ·have hkl:k < ls.length:=by have:=HN.out; omega
   obtain ⟨a,hao,hab,hcell⟩:=HC.out k hkl;have hcell2:=cell_below hb (by rw [add_block]; exact hab) hcell;have hll:=HL.out _ (List.getElem_mem hkl);have hcl:=cutL_len 61 ls[k];subst hao;clear hcell;go_wp2_with fail
   refine (strCut_list ls[k] 61 _ (by omega)).mono ?_
   rintro e w' ⟨rfl,q,rfl⟩;have hown1:=hown.below (below_drewN _ q);have hb1:=hb.trans ((below_drewN _ q).mono hB);go_wp2_with fail
   refine (meaning_list (cutL 61 ls[k]).1 keep _ (by omega) hk).mono ?_
   rintro e w3 ⟨rfl,hw3⟩;have hown3:=hown1.below hw3;have hb3:=hb1.trans (hw3.mono hb1.size);have hB3:=hb3.size
   have hsn:∀ p,parOf keep ls[k]=some p → parsOf keep (ls.take (k+1))=some (ps++[p]):=fun p h=>by
    rw [List.take_succ_eq_append_getElem hkl]; exact parsOf_snoc_some hps.out h
   have hpbad:=@parsOf_bad keep ls k hkl;have hpsome:=@parOf_some keep ls[k];have hpnone:=@parOf_none keep ls[k];clear hown hown1 hb hb1 hw3 hB hcell2;have hlb:(cutL 61 ls[k]).2.1.length≤1048576:=by omega
   generalize cutL 61 ls[k]=c3 at hpsome hpnone hlb ⊢;obtain ⟨ca,cb,cc⟩:=c3;simp only at hpsome hpnone hlb ⊢;obtain ⟨wb,hwb⟩:∃ wb,writtenV keep cb=wb:=⟨_,rfl⟩
   rw [hwb] at hpsome hpnone;generalize writtenV keep ca=wa at hpsome hpnone ⊢;obtain ⟨na,ha⟩:=wa;obtain ⟨nb,hbb⟩:=wb;simp only at hpsome hpnone ⊢;have HPB:Hid _:=hpbad; clear hpbad
   have HPN:Hid _:=hpnone; clear hpnone
   have HPS:Hid _:=hpsome; clear hpsome
   have HSN:Hid _:=hsn; clear hsn
   cases ha with
   | false =>
    have hnone:Hid (parsOf keep ls=none):=HPB.out (HPN.out (by simp));go_wp2;go_ret2
    first | exact ⟨.slice none 0 0,false,rfl,Or.inr ⟨hnone.out,rfl,rfl⟩,hb3⟩ | exact ⟨.slice none 0 0,Or.inl ⟨rfl,Or.inr ⟨hnone.out,rfl,rfl⟩,hb3⟩⟩
   | true =>
    go_wp2_with fail
    refine (meaning_list cb keep _ hlb hk).mono ?_
    rw [hwb];rintro e w4 ⟨rfl,hw4⟩;have hown4:=hown3.below hw4;have hb4:=hb3.trans (hw4.mono hb3.size);have hB4:=hb4.size;clear hown3 hb3 hw4 hB3 hwb
    cases hbb with
    | false =>
     have hnone:Hid (parsOf keep ls=none):=HPB.out (HPN.out (by simp));go_wp2;go_ret2
     first | exact ⟨.slice none 0 0,false,rfl,Or.inr ⟨hnone.out,rfl,rfl⟩,hb4⟩ | exact ⟨.slice none 0 0,Or.inl ⟨rfl,Or.inr ⟨hnone.out,rfl,rfl⟩,hb4⟩⟩
    | true =>
     have hsn2:Hid (parsOf keep (ls.take (k+1))=some (ps++[⟨na,nb,cc⟩])):=HSN.out _ (HPS.out (by simp) (by simp))
     have hnew:∀ (j:Nat) (u:Value),(parCells ⟨na,nb,cc⟩)[j]? = some u → (w4.alloc (.cells #[.string ⟨na.toArray⟩,.string ⟨nb.toArray⟩,.bool cc] 173)).cell? ((⟨w4.heap.size,0,none⟩:Addr).add j)=some u:=by
      intro j u hj;have e:(⟨w4.heap.size,0,none⟩:Addr).add j=⟨w4.heap.size,j,none⟩:=by unfold Addr.add; split <;> simp_all
      rw [e];unfold World.cell?;rw [heap_alloc_new]
      simpa [parCells] using hj
     have HNW:Hid _:=hnew; clear hnew HSN HPS HPN HPB
     go_wp2_with (at_builtin; refine wp_appP _ rfl (.tmp 43) (.tmp 48) 118 rfl w.heap.size i0 _ Tryz.underlying118 hi hz0 hz1 hz2 rfl _ ps rfl (hown4.alloc _) ⟨w4.heap.size,0,none⟩ 1 ⟨na,nb,cc⟩ rfl (by exact HNW.out) (by omega) w (hb4.alloc hB4 _) (by simp; omega) ?_; intro v5 w5 hown5 hb5 hB5)
     go_wp2;go_roundw
     case rel=>exact ⟨k+1,ps++[⟨na,nb,cc⟩],by omega,by go_num,hsn2,by simp; omega,hown5,hb5,hB5⟩
     case measure=>simp [intOf]; omega
  ·have hend:Hid (parsOf keep ls=some ps):=show _=_ by
    have h:=hps.out;have e:=HN.out;rw [List.take_of_length_le (by omega)] at h; exact h
   clear hps;go_wp2;go_ret2
   first | exact ⟨_,_,rfl,Or.inl ⟨ps,hend.out,rfl,hown⟩,hb⟩ | exact ⟨_,Or.inr ⟨rfl,Or.inl ⟨ps,hend.out,rfl,hown⟩,hb⟩⟩
theorem ret_user {p:List UInt8 × List UInt8 × Int} {x y:List UInt8} {b:Int} (h:p=(x,y,b)):Ending.returned (.tuple #[.string ⟨x.toArray⟩,.string ⟨y.toArray⟩,.int .i64 b])=.returned (.tuple #[.string ⟨p.1.toArray⟩,.string ⟨p.2.1.toArray⟩,.int .i64 p.2.2]):=by rw [h]
set_option maxHeartbeats 1000000 in
theorem cutUser_any (s:List UInt8) (w:World) (hs:s.length≤1048576) :
  Calls Tryz.prog 97 #[.string ⟨s.toArray⟩] w fun e w'=>e=.returned (.tuple #[.string ⟨(userV s).1.toArray⟩,.string ⟨(userV s).2.1.toArray⟩,.int .i64 (userV s).2.2])∧Below w.heap.size w w':=by
 have hcl:=cutL_len 64 s;have hv:userV s=userV s:=rfl
 conv at hv=>rhs; unfold userV
 go_enter Tryz.func97,Tryz.ntmps97
 go_wp2_with fail
 refine (strCut_list s 64 _ (by omega)).mono ?_
 rintro e w0 ⟨rfl,q,rfl⟩;have hw0:=below_drewN w q;generalize w.drewN q=w0 at hw0 ⊢;have hl1:(cutL 64 s).1.length≤1048576:=by omega
 clear hcl;generalize cutL 64 s=c at hv hl1 ⊢;obtain ⟨ca,cb,cc⟩:=c;simp only at hv hl1 ⊢
 cases cc with
 | false =>
  have HV:Hid (userV s=([],s,0)):=show _=_ by rw [hv]; rfl
  clear hv;go_wp2;go_ret3
  exact ⟨ret_user (x:=[]) HV.out,hw0⟩
 | true =>
  rw [if_pos rfl] at hv;have hm:=meaning_list ca usersK w0 hl1 (by decide);go_wp2_with fail
  refine hm.mono ?_
  rintro e w1 ⟨rfl,hw1⟩;have hb:=hw0.trans (hw1.mono hw0.size);clear hm hw1;generalize writtenV usersK ca=t at hv ⊢;obtain ⟨t1,tb⟩:=t;simp only at hv ⊢
  cases tb with
  | false =>
   have HV:Hid (userV s=([],[],31)):=show _=_ by rw [hv]; simp
   clear hv;go_wp2;go_ret3
   exact ⟨ret_user (x:=[]) (y:=[]) HV.out,hb⟩
  | true =>
   have z:=size_list t1;by_cases h0:t1=[]
   ·subst h0;have HV:Hid (userV s=([],[],31)):=show _=_ by rw [hv]; simp
    clear hv;go_wp2;go_ret3
    exact ⟨ret_user (x:=[]) (y:=[]) HV.out,hb⟩
   ·have he:t1.isEmpty=false:=by simpa using h0
    by_cases h64:64 < t1.length
    ·have HV:Hid (userV s=([],[],31)):=show _=_ by rw [hv,if_pos (Or.inr (Or.inr h64))]
     clear hv;go_wp2;go_ret3
     exact ⟨ret_user (x:=[]) (y:=[]) HV.out,hb⟩
    ·have HV:Hid (userV s=(t1,cb,0)):=show _=_ by rw [hv,if_neg (by simp [h0]; omega)]
     clear hv;go_wp2;go_ret3
     exact ⟨ret_user HV.out,hb⟩
theorem esc_list (s keep:List UInt8) (w:World) (hs:s.length≤1048576) (hk:keep.length≤64) :
  Calls Tryz.prog 123 #[.string ⟨s.toArray⟩,.string ⟨keep.toArray⟩] w fun e w'=>e=.returned (.string ⟨(escL keep s).toArray⟩)∧Below w.heap.size w w' :=
 escape_any ⟨s.toArray⟩ ⟨keep.toArray⟩ w (by rw [size_list]; omega) (by rw [size_list]; omega)
theorem digits_int (n:Int) (w:World) (h0:0≤n) (h1:n≤65535) :
  Calls Tryz.prog 124 #[.int .i64 n] w fun e w'=>e=.returned (.string ⟨(digL n.toNat).toArray⟩)∧Below w.heap.size w w':=by
 have h:=digits_any n.toNat w (by omega);have e:((n.toNat:Nat):Int)=n:=by omega
 rw [e] at h;exact h
theorem escLn (keep s:List UInt8):(escL keep s).length≤3 * s.length:=by
 have:=esc_cells_len (kpF keep) s
 rw [Lib.byteCells_length] at this;exact this
theorem appL (a b:List UInt8):(⟨a.toArray⟩:ByteArray)++(⟨b.toArray⟩:ByteArray)=⟨(a++b).toArray⟩:=by
 apply ByteArray.ext; simp
def wrT (f n keep:List UInt8) (ps:List Par):List UInt8:=(ps.zipIdx).flatMap fun (p,i)=>(if i=0 then f else n)++pairV keep p
theorem wrT_snoc {f n keep:List UInt8} {ps:List Par} {k:Nat} (hk:k < ps.length):wrT f n keep (ps.take (k+1))=wrT f n keep (ps.take k)++((if k=0 then f else n)++pairV keep ps[k]):=by
 unfold wrT;rw [List.take_succ_eq_append_getElem hk,List.zipIdx_append,List.flatMap_append,List.length_take,Nat.min_eq_left (by omega)]
 simp
theorem wrT_hdr (ps:List Par):wrT [63] [38] headersK ps=hdrT ps:=rfl
theorem wrT_pars (ps:List Par):wrT [59] [59] paramsK ps=parsT ps:=by
 unfold wrT parsT
 have key:∀ (m:Nat) (qs:List Par),((qs.zipIdx m).flatMap fun (p,i)=>(if i=0 then ([59]:List UInt8) else [59])++pairV paramsK p)=qs.flatMap fun p=>[59]++pairV paramsK p:=by
  intro m qs
  induction qs generalizing m with
  | nil=>rfl
  | cons q qs ih =>
   rw [List.zipIdx_cons,List.flatMap_cons,ih (m+1),List.flatMap_cons]
   simp
 exact key 0 ps
theorem pairVn (keep:List UInt8) (p:Par) (h:parB p=true):(pairV keep p).length≤400:=by
 have hp:=parB_ok h;have l1:=escLn keep p.name;have l2:=escLn keep p.value;unfold pairV
 split
 ·simp; omega
 ·omega
theorem wrT_len (f n keep:List UInt8) (ps:List Par) (hf:f.length≤1) (hn:n.length≤1) (hp:∀ p ∈ ps,parB p=true):(wrT f n keep ps).length≤401 * ps.length:=by
 have key:∀ k,k≤ps.length → (wrT f n keep (ps.take k)).length≤401 * k:=by
  intro k
  induction k with
  | zero=>intro _; simp [wrT]
  | succ k ih =>
   intro hk;have h1:=ih (by omega);have h2:=pairVn keep ps[k] (hp _ (List.getElem_mem (by omega)));rw [wrT_snoc (by omega),List.length_append,List.length_append]
   split <;> omega
 have:=key ps.length (Nat.le_refl _)
 rwa [List.take_length] at this
set_option maxHeartbeats 2000000 in
set_option maxRecDepth 100000 in
theorem wr_row (a:Addr) (cap:Nat) (ps:List Par) (f n keep:List UInt8) (w:World) (h16:ps.length≤16) (hp:∀ p ∈ ps,parB p=true) (hf:f.length≤1) (hn:n.length≤1) (hkp:keep.length≤64) (hc:∀ k (hk:k < ps.length),a.block < w.heap.size∧ParAt w a k ps[k]) :
  Calls Tryz.prog 125 #[.slice (some a) ps.length cap,.string ⟨f.toArray⟩,.string ⟨n.toArray⟩,.string ⟨keep.toArray⟩] w fun e w'=>e=.returned (.string ⟨(wrT f n keep ps).toArray⟩)∧Below w.heap.size w w':=by
 have HC:Hid _:=hc; clear hc
 have HP:Hid _:=hp; clear hp
 obtain ⟨m,hm⟩:∃ m,m=ps.length:=⟨_,rfl⟩
 rw [← hm] at h16 ⊢;have HN:Hid _:=hm; clear hm
 go_enter Tryz.func125,Tryz.ntmps125
 go_wp2
 go_loopw [9,10,16] (fun x y i wr=>∃ (k:Nat) (l g:List UInt8),k≤m∧i=.int .i64 k∧x=.string ⟨l.toArray⟩∧y=.string ⟨g.toArray⟩∧l.length≤401 * k∧g.length≤1∧Hid (g=if k=0 then f else n)∧Hid (l=wrT f n keep (ps.take k))∧Below w.heap.size w wr) (fun _ _ i _=>m - (intOf i).toNat)
 case atStart=>exact ⟨0,[],f,by omega,rfl,rfl,rfl,by simp,hf,rfl,rfl,Below.refl _ _⟩
 case round =>
  obtain ⟨k,l,g,hk,rfl,rfl,rfl,hll,hgl,hg,hle,hb⟩:=hrel;by_cases hlt:k < m
  ·have hkl:k < ps.length:=by have:=HN.out; omega
   obtain ⟨hab,hpa⟩:=HC.out k hkl;obtain ⟨c0,c1,c2⟩:=hpa.below hb hab;have hpb:=HP.out _ (List.getElem_mem hkl);have hpo:=parB_ok hpb;have hpl:=pairVn keep _ hpb;have hsn:Hid (wrT f n keep (ps.take (k+1))=l++(g++pairV keep ps[k])):=show _=_ by rw [wrT_snoc hkl,hle.out,hg.out]
   generalize ps[k]=p at c0 c1 c2 hpo hpl hsn;obtain ⟨nm,vl,hs⟩:=p;simp only at c0 c1 c2 hpo;have l1:=escLn keep nm;have l2:=escLn keep vl;have hB:=hb.size;clear hpb hpa hle hg;have hbx:∀ o,Below w.heap.size w (wr.alloc o):=fun o=>hb.alloc hB o
   cases hs with
   | false =>
    have hpv:pairV keep ⟨nm,vl,false⟩=escL keep nm:=rfl;rw [hpv] at hsn hpl
    have hcl:∀ o1 o2 w5,Below (wr.alloc (.cells #[o1,o2,.bool false] 173)).heap.size (wr.alloc (.cells #[o1,o2,.bool false] 173)) w5 → w5.cell? ⟨wr.heap.size,2,none⟩=some (.bool false):=fun o1 o2 w5 h=>by
     rw [h.cell (by simp)]; unfold World.cell?; rw [heap_alloc_new]; rfl
    go_wp2_with (go_at_call 123; refine (esc_list nm keep _ (by omega) hkp).mono ?_; rintro e w5 ⟨rfl,h5⟩; have hc5:=hcl _ _ _ h5; have hb5:=box_below hb hB h5; clear h5 hcl hbx)
    go_roundw
    case rel=>exact ⟨k+1,l++(g++escL keep nm),n,by omega,by go_num,by rw [← appL,← appL],rfl,by simp; omega,hn,show _=_ from (if_neg (by omega)).symm,hsn.out.symm,hb5⟩
    case measure=>simp [intOf]; omega
   | true =>
    have hpv:pairV keep ⟨nm,vl,true⟩=escL keep nm++[61]++escL keep vl:=rfl;rw [hpv] at hsn hpl;simp only [List.length_append] at hpl
    have hcl:∀ o1 o2 w5,Below (wr.alloc (.cells #[o1,o2,.bool true] 173)).heap.size (wr.alloc (.cells #[o1,o2,.bool true] 173)) w5 → w5.cell? ⟨wr.heap.size,1,none⟩=some o2∧w5.cell? ⟨wr.heap.size,2,none⟩=some (.bool true):=fun o1 o2 w5 h=>by
     constructor <;> (rw [h.cell (by simp)]; unfold World.cell?; rw [heap_alloc_new]; rfl)
    go_wp2_with fail
    refine (esc_list nm keep _ (by omega) hkp).mono ?_
    rintro e w5 ⟨rfl,h5⟩;obtain ⟨hc5,hd5⟩:=hcl _ _ _ h5;have hb5:=box_below hb hB h5;clear h5 hcl hbx;go_wp2_with fail
    refine (esc_list vl keep _ (by omega) hkp).mono ?_
    rintro e w6 ⟨rfl,h6⟩;have hb6:=hb5.trans (h6.mono hb5.size);clear h6 hc5 hd5;go_wp2;go_roundw
    case rel=>exact ⟨k+1,l++(g++(escL keep nm++[61]++escL keep vl)),n,by omega,by go_num,by first | (simp only [← appL,ByteArray.append_assoc]; rfl) | (simp only [← appL,ByteArray.append_assoc]),rfl,by simp; omega,hn,show _=_ from (if_neg (by omega)).symm,hsn.out.symm,hb6⟩
    case measure=>simp [intOf]; omega
  ·have hd:Hid (wrT f n keep ps=l):=show _=_ by
    rw [hle.out,List.take_of_length_le (by have:=HN.out; omega)]
   clear hle hg;go_wp2;go_ret;exact ⟨by rw [hd.out]; rfl,hb⟩
set_option maxHeartbeats 400000 in
theorem wr_nil (a:Option Addr) (cap:Nat) (f n keep:List UInt8) (w:World) :
  Calls Tryz.prog 125 #[.slice a 0 cap,.string ⟨f.toArray⟩,.string ⟨n.toArray⟩,.string ⟨keep.toArray⟩] w fun e w'=>e=.returned (.string ⟨#[]⟩)∧Below w.heap.size w w':=by
 go_enter Tryz.func125,Tryz.ntmps125
 go_wp2
 go_loop [9,16] (fun x i=>x=.string ⟨#[]⟩∧i=.int .i64 0) (fun _ i=>0)
 case atStart=>exact ⟨rfl,rfl⟩
 case round =>
  obtain ⟨rfl,rfl⟩:=hrel;go_wp2;go_ret;exact ⟨rfl,Below.refl _ _⟩
theorem wr_any (v:Value) (ps:List Par) (f n keep:List UInt8) (w:World) (h16:ps.length≤16) (hp:∀ p ∈ ps,parB p=true) (hf:f.length≤1) (hn:n.length≤1) (hkp:keep.length≤64) (h:ParsAt w v ps) :
  Calls Tryz.prog 125 #[v,.string ⟨f.toArray⟩,.string ⟨n.toArray⟩,.string ⟨keep.toArray⟩] w fun e w'=>e=.returned (.string ⟨(wrT f n keep ps).toArray⟩)∧Below w.heap.size w w':=by
 rcases h with ⟨rfl,rfl⟩ | ⟨a,cap,rfl,hc⟩
 ·exact wr_nil none 0 f n keep w
 ·exact wr_row a cap ps f n keep w h16 hp hf hn hkp hc
theorem ret_prt {p:List UInt8 × Int} {x:List UInt8} {a:Int} (h:p=(x,a)):Ending.returned (.tuple #[.string ⟨x.toArray⟩,.int .i64 a])=.returned (.tuple #[.string ⟨p.1.toArray⟩,.int .i64 p.2]):=by rw [h]
theorem ret_prb {p:List UInt8 × Int} {b:ByteArray} {x:List UInt8} {a:Int} (h:p=(x,a)) (hb:b=⟨x.toArray⟩):Ending.returned (.tuple #[.string b,.int .i64 a])=.returned (.tuple #[.string ⟨p.1.toArray⟩,.int .i64 p.2]):=by rw [h,hb]
set_option maxHeartbeats 1000000 in
theorem print_bad (u:Uri) (p h:Value) (w:World) (hsm:SmallU 140737488355328 u) (hp:ParsAt w p u.params) (hh:ParsAt w h u.headers) (hne:¬ checkV u=0) :
  Calls Tryz.prog 100 #[uriV u p h] w fun e w'=>e=.returned (.tuple #[.string ⟨(printV u).1.toArray⟩,.int .i64 (printV u).2])∧Below w.heap.size w w':=by
 have hv:Hid (printV u=([],checkV u)):=show _=_ by rw [printV,if_neg hne]
 have hn:(checkV u != 0)=true:=by simpa using hne
 have hn2:(checkV u==0)=false:=by simpa using hne
 have hbw:Below w.heap.size w (w.alloc (.cells #[.string ⟨u.scheme.toArray⟩,.string ⟨u.user.toArray⟩,.string ⟨u.host.toArray⟩,.int .i64 u.port,p,h] 120)):=(Below.refl _ w).alloc (Nat.le_refl _) _;clear hne;unfold uriV
 go_enter Tryz.func100,Tryz.ntmps100
 go_wp2_with fail
 refine (check_any u p h _ hsm (hp.below hbw) (hh.below hbw)).mono ?_
 rintro e w2 ⟨rfl,hw2⟩;go_wp2;go_ret2;exact ⟨ret_prt (x:=[]) hv.out,hbw.trans (hw2.mono hbw.size)⟩
set_option maxHeartbeats 4000000 in
set_option maxRecDepth 100000 in
theorem print_ok (u:Uri) (p h:Value) (w:World) (hsm:SmallU 140737488355328 u) (hp:ParsAt w p u.params) (hh:ParsAt w h u.headers) (hok:checkV u=0) :
  Calls Tryz.prog 100 #[uriV u p h] w fun e w'=>e=.returned (.tuple #[.string ⟨(printV u).1.toArray⟩,.int .i64 (printV u).2])∧Below w.heap.size w w':=by
 have hv:Hid (printV u=(textT u,0)):=show _=_ by rw [printV,if_pos hok]
 obtain ⟨k1,k2,k3,k4,k5,k6,k7,k8⟩:=check_ok hok;have hl1:=schemeB_ok k1;have hl3:=hostB_ok k3;have hpl:=listB_ok k6;have hhl:=listB_ok k7;have hbox:=box_new w u p h;have hbw:Below w.heap.size w (w.alloc (.cells #[.string ⟨u.scheme.toArray⟩,.string ⟨u.user.toArray⟩,.string ⟨u.host.toArray⟩,.int .i64 u.port,p,h] 120)):=(Below.refl _ w).alloc (Nat.le_refl _) _;have hws:w.heap.size < (w.alloc (.cells #[.string ⟨u.scheme.toArray⟩,.string ⟨u.user.toArray⟩,.string ⟨u.host.toArray⟩,.int .i64 u.port,p,h] 120)).heap.size:=by simp
 have el:=escLn usersK u.user;have dl:=digL_len19 (n:=u.port.toNat) (by omega);have pl:=wrT_len [59] [59] paramsK u.params (by simp) (by simp) hpl.2;have hl:=wrT_len [63] [38] headersK u.headers (by simp) (by simp) hhl.2
 have W1:∀ w',Below w.heap.size w w' → Calls Tryz.prog 125 #[p,.string ⟨#[59]⟩,.string ⟨#[59]⟩,.string ⟨#[91,93,47,58,38,43,36]⟩] w' fun e w''=>e=.returned (.string ⟨(wrT [59] [59] paramsK u.params).toArray⟩)∧Below w'.heap.size w' w'':=fun w' hb =>
  wr_any p u.params [59] [59] paramsK w' hpl.1 hpl.2 (by simp) (by simp) (by decide) (hp.below hb)
 have W2:∀ w',Below w.heap.size w w' → Calls Tryz.prog 125 #[h,.string ⟨#[63]⟩,.string ⟨#[38]⟩,.string ⟨#[91,93,47,63,58,43,36]⟩] w' fun e w''=>e=.returned (.string ⟨(wrT [63] [38] headersK u.headers).toArray⟩)∧Below w'.heap.size w' w'':=fun w' hb =>
  wr_any h u.headers [63] [38] headersK w' hhl.1 hhl.2 (by simp) (by simp) (by decide) (hh.below hb)
 have hfin:textT u=frontT u++wrT [59] [59] paramsK u.params++wrT [63] [38] headersK u.headers:=by rw [wrT_pars,wrT_hdr]; rfl
 have HFIN:Hid _:=hfin; clear hfin
 have hp16:=hpl.1;have hh16:=hhl.1;clear k1 k3 k6 k7 k8 hpl hhl;generalize wrT [59] [59] paramsK u.params=T1 at pl W1 HFIN;generalize wrT [63] [38] headersK u.headers=T2 at hl W2 HFIN;have WW1:Hid _:=W1; clear W1
 have WW2:Hid _:=W2; clear W2
 unfold uriV
 go_enter Tryz.func100,Tryz.ntmps100
 go_wp2_with fail
 refine (check_any u p h _ hsm (hp.below hbw) (hh.below hbw)).mono ?_
 rintro e w2 ⟨rfl,hw2⟩;rw [hok];have hb2:=hbw.trans (hw2.mono hbw.size);have hx2:=hbox.below hw2 hws;have hs2:w.heap.size < w2.heap.size:=Nat.lt_of_lt_of_le hws hw2.size;obtain ⟨g0,g1,g2,g3,g4,g5⟩:=hx2;have hx2:Hid (BoxU w2 w.heap.size u p h):=⟨g0,g1,g2,g3,g4,g5⟩
 clear hbox hbw hws hw2 hok hp hh;by_cases eu:u.user=[]
 ·have hue:u.user.isEmpty=true:=by simp [eu]
  by_cases ep:u.port=0
  ·have hpe:(u.port != 0)=false:=by simp [ep]
   have hpe2:(u.port==0)=true:=by simp [ep]
   have hfr:Hid (frontT u=u.scheme++[58]++u.host):=show _=_ by simp [frontT,eu,ep]
   clear eu ep;go_wp2_with fail
   refine (WW1.out _ hb2).mono ?_
   rintro e w3 ⟨rfl,hw3⟩;have hb3:=hb2.trans (hw3.mono hb2.size);have hx3:=hx2.out.below hw3 hs2;clear g0 g1 g2 g3 g4 g5 hx2 hs2 hw3;obtain ⟨g0,g1,g2,g3,g4,g5⟩:=hx3;go_wp2_with fail
   refine (WW2.out _ hb3).mono ?_
   rintro e w4 ⟨rfl,hw4⟩;have hb4:=hb3.trans (hw4.mono hb3.size);clear hw4;go_wp2;go_ret2;exact ⟨ret_prb hv.out (by rw [HFIN.out,hfr.out]; simp only [← appL,ByteArray.append_assoc]),hb4⟩
  ·have hpe:(u.port != 0)=true:=by simpa using ep
   have hpe2:(u.port==0)=false:=by simpa using ep
   have hfr:Hid (frontT u=u.scheme++[58]++u.host++([58]++digL u.port.toNat)):=show _=_ by simp [frontT,eu,ep]
   clear eu ep;go_wp2_with fail
   refine (digits_int u.port _ k4 k5).mono ?_
   rintro e wd ⟨rfl,hwd⟩;have hbd:=hb2.trans (hwd.mono hb2.size);have hxd:=hx2.out.below hwd hs2;have hsd:w.heap.size < wd.heap.size:=Nat.lt_of_lt_of_le hs2 hwd.size;clear g0 g1 g2 g3 g4 g5 hx2 hs2 hwd;obtain ⟨g0,g1,g2,g3,g4,g5⟩:=hxd;have hxd:Hid (BoxU wd w.heap.size u p h):=⟨g0,g1,g2,g3,g4,g5⟩
   go_wp2_with fail
   refine (WW1.out _ hbd).mono ?_
   rintro e w3 ⟨rfl,hw3⟩;have hb3:=hbd.trans (hw3.mono hbd.size);have hx3:=hxd.out.below hw3 hsd;clear g0 g1 g2 g3 g4 g5 hxd hsd hw3;obtain ⟨g0,g1,g2,g3,g4,g5⟩:=hx3;go_wp2_with fail
   refine (WW2.out _ hb3).mono ?_
   rintro e w4 ⟨rfl,hw4⟩;have hb4:=hb3.trans (hw4.mono hb3.size);clear hw4;go_wp2;go_ret2;exact ⟨ret_prb hv.out (by rw [HFIN.out,hfr.out]; simp only [← appL,ByteArray.append_assoc]),hb4⟩
 ·have hue:u.user.isEmpty=false:=by simpa using eu
  have hes:=fun w'=>esc_list u.user usersK w' (by omega) (by decide);have HES:Hid _:=hes; clear hes
  by_cases ep:u.port=0
  ·have hpe:(u.port != 0)=false:=by simp [ep]
   have hpe2:(u.port==0)=true:=by simp [ep]
   have hfr:Hid (frontT u=u.scheme++[58]++(escL usersK u.user++[64])++u.host):=show _=_ by simp [frontT,eu,ep]
   clear eu ep;go_wp2_with fail
   refine (HES.out _).mono ?_
   rintro e we ⟨rfl,hwe⟩;have hbe:=hb2.trans (hwe.mono hb2.size);have hxe:=hx2.out.below hwe hs2;have hse:w.heap.size < we.heap.size:=Nat.lt_of_lt_of_le hs2 hwe.size;clear g0 g1 g2 g3 g4 g5 hx2 hs2 hwe;obtain ⟨g0,g1,g2,g3,g4,g5⟩:=hxe;have hxe:Hid (BoxU we w.heap.size u p h):=⟨g0,g1,g2,g3,g4,g5⟩
   go_wp2_with fail
   refine (WW1.out _ hbe).mono ?_
   rintro e w3 ⟨rfl,hw3⟩;have hb3:=hbe.trans (hw3.mono hbe.size);have hx3:=hxe.out.below hw3 hse;clear g0 g1 g2 g3 g4 g5 hxe hse hw3;obtain ⟨g0,g1,g2,g3,g4,g5⟩:=hx3;go_wp2_with fail
   refine (WW2.out _ hb3).mono ?_
   rintro e w4 ⟨rfl,hw4⟩;have hb4:=hb3.trans (hw4.mono hb3.size);clear hw4;go_wp2;go_ret2;exact ⟨ret_prb hv.out (by rw [HFIN.out,hfr.out]; simp only [← appL,ByteArray.append_assoc]),hb4⟩
  ·have hpe:(u.port != 0)=true:=by simpa using ep
   have hpe2:(u.port==0)=false:=by simpa using ep
   have hfr:Hid (frontT u=u.scheme++[58]++(escL usersK u.user++[64])++u.host++([58]++digL u.port.toNat)):=show _=_ by simp [frontT,eu,ep]
   clear eu ep;go_wp2_with fail
   refine (HES.out _).mono ?_
   rintro e we ⟨rfl,hwe⟩;have hbe:=hb2.trans (hwe.mono hb2.size);have hxe:=hx2.out.below hwe hs2;have hse:w.heap.size < we.heap.size:=Nat.lt_of_lt_of_le hs2 hwe.size;clear g0 g1 g2 g3 g4 g5 hx2 hs2 hwe;obtain ⟨g0,g1,g2,g3,g4,g5⟩:=hxe;have hxe:Hid (BoxU we w.heap.size u p h):=⟨g0,g1,g2,g3,g4,g5⟩
   go_wp2_with fail
   refine (digits_int u.port _ k4 k5).mono ?_
   rintro e wd ⟨rfl,hwd⟩;have hbd:=hbe.trans (hwd.mono hbe.size);have hxd:=hxe.out.below hwd hse;have hsd:w.heap.size < wd.heap.size:=Nat.lt_of_lt_of_le hse hwd.size;clear g0 g1 g2 g3 g4 g5 hxe hse hwd;obtain ⟨g0,g1,g2,g3,g4,g5⟩:=hxd;have hxd:Hid (BoxU wd w.heap.size u p h):=⟨g0,g1,g2,g3,g4,g5⟩
   go_wp2_with fail
   refine (WW1.out _ hbd).mono ?_
   rintro e w3 ⟨rfl,hw3⟩;have hb3:=hbd.trans (hw3.mono hbd.size);have hx3:=hxd.out.below hw3 hsd;clear g0 g1 g2 g3 g4 g5 hxd hsd hw3;obtain ⟨g0,g1,g2,g3,g4,g5⟩:=hx3;go_wp2_with fail
   refine (WW2.out _ hb3).mono ?_
   rintro e w4 ⟨rfl,hw4⟩;have hb4:=hb3.trans (hw4.mono hb3.size);clear hw4;go_wp2;go_ret2;exact ⟨ret_prb hv.out (by rw [HFIN.out,hfr.out]; simp only [← appL,ByteArray.append_assoc]),hb4⟩
theorem print_any (u:Uri) (p h:Value) (w:World) (hsm:SmallU 140737488355328 u) (hp:ParsAt w p u.params) (hh:ParsAt w h u.headers) :
  Calls Tryz.prog 100 #[uriV u p h] w fun e w'=>e=.returned (.tuple #[.string ⟨(printV u).1.toArray⟩,.int .i64 (printV u).2])∧Below w.heap.size w w':=by
 by_cases hok:checkV u=0
 ·exact print_ok u p h w hsm hp hh hok
 ·exact print_bad u p h w hsm hp hh hok
end Go.Proofs.YtbmjodlbkgblpaaGreatDoor
namespace Go.Proofs.YtbmjodlbkgblpaaGreatDoor
open Go.RowKit
structure Six (w:World) (b:Nat) (v0 v1 v2 v3 v4 v5:Value):Prop where
 c0:w.cell? ⟨b,0,none⟩=some v0
 c1:w.cell? ⟨b,1,none⟩=some v1
 c2:w.cell? ⟨b,2,none⟩=some v2
 c3:w.cell? ⟨b,3,none⟩=some v3
 c4:w.cell? ⟨b,4,none⟩=some v4
 c5:w.cell? ⟨b,5,none⟩=some v5
 f0:w.frozen? ⟨b,0,none⟩=false
 f1:w.frozen? ⟨b,1,none⟩=false
 f2:w.frozen? ⟨b,2,none⟩=false
 f3:w.frozen? ⟨b,3,none⟩=false
 f4:w.frozen? ⟨b,4,none⟩=false
 f5:w.frozen? ⟨b,5,none⟩=false
theorem RowIs.six {w:World} {b:Nat} {e:TypeId} {v0 v1 v2 v3 v4 v5:Value} (h:RowIs w b e [v0,v1,v2,v3,v4,v5]):Six w b v0 v1 v2 v3 v4 v5 :=
 ⟨h.cell 0 (by simp),h.cell 1 (by simp),h.cell 2 (by simp),h.cell 3 (by simp),h.cell 4 (by simp),h.cell 5 (by simp),h.frozen 0,h.frozen 1,h.frozen 2,h.frozen 3,h.frozen 4,h.frozen 5⟩
theorem row_store {w:World} {b:Nat} {e:TypeId} {u0 u1 u2 u3 u4 u5:Value} (h:RowIs w b e [u0,u1,u2,u3,u4,u5]) (v0 v1 v2 v3 v4 v5:Value) :
  RowIs ((((((w.setCell ⟨b,0,none⟩ v0).setCell ⟨b,1,none⟩ v1).setCell ⟨b,2,none⟩ v2).setCell ⟨b,3,none⟩ v3).setCell ⟨b,4,none⟩ v4).setCell ⟨b,5,none⟩ v5) b e [v0,v1,v2,v3,v4,v5]:=by
 have:=(((((h.set 0 v0).set 1 v1).set 2 v2).set 3 v3).set 4 v4).set 5 v5
 simpa using this
theorem store_below {B:Nat} {a w:World} (h:Below B a w) (b:Nat) (hb:B≤b) (v0 v1 v2 v3 v4 v5:Value) :
  Below B a ((((((w.setCell ⟨b,0,none⟩ v0).setCell ⟨b,1,none⟩ v1).setCell ⟨b,2,none⟩ v2).setCell ⟨b,3,none⟩ v3).setCell ⟨b,4,none⟩ v4).setCell ⟨b,5,none⟩ v5) :=
 (((((h.setCell hb _).setCell hb _).setCell hb _).setCell hb _).setCell hb _).setCell hb _
theorem add_at (g o k:Nat):(⟨g,o,none⟩:Addr).add k=⟨g,o+k,none⟩:=by unfold Addr.add; split <;> simp_all
end Go.Proofs.YtbmjodlbkgblpaaGreatDoor
namespace Go.Proofs.YtbmjodlbkgblpaaGreatDoor
open Go.RowKit Sc
def zeroU:List Value:=[.string ⟨#[]⟩,.string ⟨#[]⟩,.string ⟨#[]⟩,.int .i64 0,.slice none 0 0,.slice none 0 0]
theorem rowU_new (w:World):RowIs (w.alloc (.cells #[.string ⟨#[]⟩,.string ⟨#[]⟩,.string ⟨#[]⟩,.int .i64 0,.slice none 0 0,.slice none 0 0] 120)) w.heap.size 120 zeroU:=by
 unfold RowIs; rw [heap_alloc_new]; rfl
theorem OwnP.mono {w:World} {B C:Nat} {v:Value} {ps:List Par} (h:OwnP w B v ps) (hc:C≤B):OwnP w C v ps:=by
 obtain ⟨h1,h2⟩:=h;refine ⟨h1,?_⟩
 rcases h2 with h2 | ⟨g,cap,cur,hv,hg,r⟩
 ·exact Or.inl h2
 ·exact Or.inr ⟨g,cap,cur,hv,Nat.le_trans hc hg,r⟩
theorem OwnP.store {w:World} {B:Nat} {v:Value} {ps:List Par} (h:OwnP w B v ps) {b:Nat} (hb:b < B) (v0 v1 v2 v3 v4 v5:Value) :
  OwnP ((((((w.setCell ⟨b,0,none⟩ v0).setCell ⟨b,1,none⟩ v1).setCell ⟨b,2,none⟩ v2).setCell ⟨b,3,none⟩ v3).setCell ⟨b,4,none⟩ v4).setCell ⟨b,5,none⟩ v5) B v ps :=
 ownsRow_setCell_below (ownsRow_setCell_below (ownsRow_setCell_below (ownsRow_setCell_below (ownsRow_setCell_below (ownsRow_setCell_below h hb _) hb _) hb _) hb _) hb _) hb _
theorem strs_none (w:World) (ao:Option Addr) (cap:Nat):StrsAt w (.slice ao 0 cap) []:=⟨ao,cap,rfl,fun k hk=>by simp at hk⟩
theorem strs_tail {w2 w3:World} {g cap:Nat} {p0:List UInt8} {ps:List (List UInt8)} (HC:∀ j (hj:j < (p0 :: ps).length),w2.cell? ⟨g,j,none⟩=some (.string ⟨((p0 :: ps)[j]).toArray⟩)) (hg:g < w2.heap.size) (hb:Below w2.heap.size w2 w3) :
  StrsAt w3 (.slice (some ⟨g,1,none⟩) ps.length cap) ps:=by
 refine ⟨_,_,rfl,fun k hk=>⟨_,rfl,Nat.lt_of_lt_of_le hg hb.size,?_⟩⟩
 have h:=HC (k+1) (by simpa using hk);rw [add_at,hb.cell (by exact hg),Nat.add_comm 1 k,h]
 simp
theorem strs_all {w2:World} {g cap:Nat} {p0:List UInt8} {ps:List (List UInt8)} (HC:∀ j (hj:j < (p0 :: ps).length),w2.cell? ⟨g,j,none⟩=some (.string ⟨((p0 :: ps)[j]).toArray⟩)) (hg:g < w2.heap.size) :
  StrsAt w2 (.slice (some ⟨g,0,none⟩) (ps.length+1) cap) (p0 :: ps):=by
 refine ⟨_,_,rfl,fun k hk=>⟨_,rfl,hg,?_⟩⟩
 rw [add_at,Nat.zero_add]; exact HC k hk
theorem fields_of (v:Value) (ls:List (List UInt8)) (keep:List UInt8) (w:World) (hk:keep.length≤64) (hn:ls.length≤1048577) (hl:∀ l ∈ ls,l.length≤1048576) (hv:StrsAt w v ls) :
  Calls Tryz.prog 119 #[v,.string ⟨keep.toArray⟩] w fun e w'=>∃ v' b,e=.returned (.tuple #[v',.bool b])∧((∃ ps,parsOf keep ls=some ps∧b=true∧OwnP w' w.heap.size v' ps)∨(parsOf keep ls=none∧b=false∧v'=.slice none 0 0))∧Below w.heap.size w w':=fields_any v ls keep w hk hn hl hv
theorem rest_of {s ca cb p0 wh:List UInt8} {cc:Bool} {ps0:List (List UInt8)} {wp we:Int} (h1:cutL 63 s=(ca,cb,cc)) (h2:splitL 59 ca=p0 :: ps0) (h3:whereV p0=(wh,wp,we)) :
  restV s=if we ≠ 0 then (noU,we) else fillV (wh,wp,we) (parsOf paramsK ps0) (headsV cc cb):=by
 unfold restV;simp only [h1,h2,h3,List.headD_cons,List.tail_cons]
theorem strCut_of {r a b:List UInt8} {f:Bool} {c:UInt8} (h:cutL c r=(a,b,f)) (w:World) (hs:r.length≤9223372036854775807) :
  Calls Tryz.prog 94 #[.string ⟨r.toArray⟩,.string ⟨#[c]⟩] w fun e w'=>e=.returned (.tuple #[.string ⟨a.toArray⟩,.string ⟨b.toArray⟩,.bool f])∧Below w.heap.size w w':=by
 have k:=strCut_list r c w hs;rw [h] at k;refine k.mono ?_
 rintro e w' ⟨rfl,q,rfl⟩;exact ⟨rfl,below_drewN w q⟩
theorem strSplit_of {l p0:List UInt8} {ps:List (List UInt8)} {c:UInt8} (h:splitL c l=p0 :: ps) (w:World) (hs:l.length≤1048576) :
  Calls Tryz.prog 117 #[.string ⟨l.toArray⟩,.string ⟨#[c]⟩] w fun e w'=>∃ g cap,e=.returned (.slice (some ⟨g,0,none⟩) (ps.length+1) cap)∧ps.length+1≤cap∧g < w'.heap.size∧(∀ j (hj:j < (p0 :: ps).length),w'.cell? ⟨g,j,none⟩=some (.string ⟨((p0 :: ps)[j]).toArray⟩))∧Below w.heap.size w w':=by
 have k:=strSplit_any ⟨l.toArray⟩ c w (by rw [size_list]; exact hs);refine k.mono ?_
 rintro e w' ⟨v,rfl,hown,hb⟩;have hown2:Own w' w.heap.size 9 v (strs (p0 :: ps)):=by rw [← h]; exact hown
 obtain ⟨g,cap,rfl,hc⟩:=own_strs hown2 (by simp)
 have hcap:ps.length+1≤cap∧g < w'.heap.size:=by
  rcases hown2.2 with ⟨e,_⟩ | ⟨g',cap',cur,e,hB,hg,h1,h2,h3,h4⟩
  ·simp at e
  ·simp only [Value.slice.injEq,Option.some.injEq,Addr.mk.injEq] at e;obtain ⟨⟨rfl,_⟩,_,rfl⟩:=e;rw [strs_length] at h1;refine ⟨h1,?_⟩
   apply Classical.byContradiction
   intro hge;rw [Array.getElem?_eq_none (by omega)] at hg
   cases hg
 exact ⟨g,cap,rfl,hcap.1,hcap.2,hc,hb⟩
theorem where_of {l wh:List UInt8} {wp we:Int} (h:whereV l=(wh,wp,we)) (w:World) (hs:l.length≤1048576) :
  Calls Tryz.prog 118 #[.string ⟨l.toArray⟩] w fun e w'=>e=.returned (.tuple #[.string ⟨wh.toArray⟩,.int .i64 wp,.int .i64 we])∧Below w.heap.size w w':=by
 have k:=where_any ⟨l.toArray⟩ w (by rw [size_list]; omega);have k2:Calls Tryz.prog 118 #[.string ⟨l.toArray⟩] w fun e w'=>e=.returned (.tuple #[.string ⟨(whereV l).1.toArray⟩,.int .i64 (whereV l).2.1,.int .i64 (whereV l).2.2])∧Below w.heap.size w w':=k;rw [h] at k2;exact k2
end Go.Proofs.YtbmjodlbkgblpaaGreatDoor
