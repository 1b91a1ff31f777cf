/-
  ViaStepL, RefFields, Glue, ROpen, RDisp, RefParse.
-/
import Derived.Test.YtiogedceommcoaaGreatDoorK21
import Derived.Test.YtiogedceommcoaaGreatDoorK14
set_option linter.unusedVariables false
set_option linter.unusedSimpArgs false
set_option maxRecDepth 20000
namespace Go.Proofs.YtiogedceommcoaaGreatDoor
open Go.RowKit Sc
theorem wordN_pos {l:List UInt8} {k:Nat} (hk:k < l.length) (hp:k≤wordN l) (hb:blk l[k]=true):wordN l=k:=by
 induction l generalizing k with
 | nil=>simp at hk
 | cons b l ih =>
  rw [wordN_cons] at hp ⊢
  cases k with
  | zero=>rw [if_pos (by simpa using hb)]
  | succ k =>
   split
   ·rename_i h; rw [if_pos h] at hp; omega
   ·rename_i h
    rw [if_neg h] at hp;rw [ih (by simpa using hk) (by omega) (by simpa using hb)]
theorem wordN_more {l:List UInt8} {k:Nat} (hk:k < l.length) (hp:k≤wordN l) (hb:blk l[k]=false):k+1≤wordN l:=by
 induction l generalizing k with
 | nil=>simp at hk
 | cons b l ih =>
  rw [wordN_cons] at hp ⊢
  cases k with
  | zero=>rw [if_neg (by simpa using hb)]; omega
  | succ k =>
   split
   ·rename_i h; rw [if_pos h] at hp; omega
   ·rename_i h
    rw [if_neg h] at hp
    have:=ih (k:=k) (by simpa using hk) (by omega) (by simpa using hb)
    omega
theorem br_short {b:List UInt8} (h:b.length≤7):brOf b=([],false):=by rw [brOf,if_pos (Or.inl h)]
theorem br_good {b:List UInt8} (h:¬ b.length≤7) (h2:b.take 7=cookieK):brOf b=(b,true):=by
 rw [brOf,if_neg];rintro (k | k)
 ·exact h k
 ·exact k h2
theorem cut3_of {r a b:List UInt8} {f:Bool} {c:UInt8} (h:cutL c r=(a,b,f)) (w:World) (hs:r.length≤9223372036854775807) :
  Calls Tryz.prog 54 #[.string ⟨r.toArray⟩,.int .u8 c.toNat] w fun e w'=>e=.returned (.tuple #[.string ⟨a.toArray⟩,.string ⟨b.toArray⟩,.bool f])∧Below w.heap.size w w':=by
 have k:=cut3_list r c w hs;rw [h] at k;refine k.mono ?_
 rintro e w' ⟨rfl,q,rfl⟩;exact ⟨rfl,below_drewN w q⟩
theorem head_quo (v:List UInt8):((⟨v.toArray⟩:ByteArray).size=0∧quoB v=false)∨(∃ h:0 < (⟨v.toArray⟩:ByteArray).size,((((⟨v.toArray⟩:ByteArray)[0]'h).toNat:Int)==34)=quoB v):=by
 cases v with
 | nil=>exact Or.inl ⟨rfl,rfl⟩
 | cons b r =>
  refine Or.inr ⟨by rw [size_list]; simp,?_⟩
  show ((b.toNat:Int)==34)=quoB (b :: r)
  revert b
  have:∀ b:UInt8,((b.toNat:Int)==34)=(some b==some 34):=by apply byte_all; decide +kernel
  exact this
set_option maxHeartbeats 1000000 in
set_option maxRecDepth 100000 in
theorem reffields_any (v:Value) (ls:List (List UInt8)) (w:World) (hl:∀ l ∈ ls,l.length≤1048576) (hv:StrsAt w v ls) :
  Calls Tryz.prog 97 #[v] w fun e w'=>∃ v' n,e=.returned (.tuple #[v',.int .i64 n])∧FieldsRes ls w w' v' n∧Below w.heap.size w w':=by
 obtain ⟨i0,hi,hz0,hz1,hz2⟩:=info_parts infoPar;obtain ⟨ao,cap,rfl,hc⟩:=hv;have HC:=hid hc; clear hc
 have HL:=hid hl; clear hl
 obtain ⟨n,hn'⟩:∃ n,n=ls.length:=⟨_,rfl⟩
 rw [← hn'];by_cases h16:n≤16
 ·have hbad:Hid (fieldsG [] ls=none → fieldsV ls=([],34)):=fun h=>fieldsV_bad (by omega) h;have hgood:Hid (∀ ps,fieldsG [] ls=some ps → fieldsV ls=(ps,0)):=fun ps h=>fieldsV_ok (by omega) h;have HN:=hid hn'; clear hn'
  go_enter Tryz.func97,Tryz.ntmps97
  go_wp2
  go_loopw [4,5] (fun x i wr=>∃ (k:Nat) (out:List Par),k≤n∧i=.int .i64 k∧Hid (fieldsG [] ls=fieldsG out (ls.drop k))∧Hid (out.length=k)∧Hid (SmallP 140737488355328 out)∧Hid (OwnP wr w.heap.size x out)∧Below w.heap.size w wr∧w.heap.size≤wr.heap.size) (fun _ i _=>n - (intOf i).toNat)
  case atStart=>exact ⟨0,[],by omega,rfl,rfl,hid rfl,hid ⟨by simp,by simp⟩,OwnP.nil _ _,Below.refl _ _,Nat.le_refl _⟩
  case round =>
   obtain ⟨k,out,hkn,rfl,hps,hpl,hsm,hown,hb,hB⟩:=hrel;by_cases hlt:k < n
   ·have hkl:k < ls.length:=by have:=HN.out; omega
    obtain ⟨a,hao,hab,hcell⟩:=HC.out k hkl;have hcell2:=cell_below hb (by rw [add_block]; exact hab) hcell;have hll:=HL.out _ (List.getElem_mem hkl);subst hao;clear hcell;have hon:=hid (fun p=>@fields_on ls out k p hkl hps.out);have hno:=hid (@fields_none ls out k hkl hps.out);have hnot:=hid (fun p=>@fields_not ls out k p hkl hps.out);have hy:=@fieldOf_yes ls[k];have hnn:=@fieldOf_no ls[k];have hfl:=fieldR_len hll;have hcl:=cutL_len 61 ls[k];obtain ⟨ca,cb,hs,hcut⟩:∃ ca cb cc,cutL 61 ls[k]=(ca,cb,cc):=⟨_,_,_,rfl⟩
    rw [hcut] at hcl;simp only at hcl;have hfv:=fieldR_of hcut;have hta:=trimL_len ca;have htb:=trimL_len cb;have KC:=hid (fun w'=>cut3_of hcut w' (by omega));have KA:=hid (fun w'=>reftrim_list ca w' (by omega));have KB:=hid (fun w'=>reftrim_list cb w' (by omega));have KU:=hid (fun w'=>refunquote_list (trimL cb) w' (by omega));have KW:=hid (fun w'=>refword_any (trimL cb) w' (by omega));have hq0:=head_quo (trimL cb);clear hcut hps;generalize trimL ca=nm at hfv hta KA;generalize trimL cb=vl at hfv htb KB KU KW hq0;generalize hsb:(⟨vl.toArray⟩:ByteArray)=vb at KB KU KW hq0;have HSB:=hid hsb; clear hsb
    rw [hfv] at hy hnn hfl;obtain ⟨xa,xc,hxe⟩:=hown.out.parsAt.form;subst hxe;clear hfv;go_wp2_with fail
    refine (KC.out _).mono ?_
    rintro e w1 ⟨rfl,hw1⟩;have hown1:=hid (hown.out.below hw1);have hb1:=hb.trans (hw1.mono hB);have hB1:=hb1.size;clear hown hw1 KC hb hB hcell2;go_wp2_with fail
    refine (KB.out _).mono ?_
    rintro e w2 ⟨rfl,rfl⟩;clear KB;have hqcase:quoB vl=true → Hid (∃ h:0 < vb.size,(((vb[0]'h).toNat:Int)==34)=true):=fun h=>by
     rcases hq0 with ⟨_,h2⟩ | ⟨h1,h2⟩
     ·rw [h] at h2; cases h2
     ·exact ⟨h1,by rw [h2,h]⟩
    cases hqb:quoB vl with
    | true =>
     obtain ⟨hpos,e34⟩:=(hqcase hqb).out;rw [hqb,if_pos rfl] at hy hnn hfl;clear hq0 hqcase hqb KW;generalize unquoteV vl=u at KU hy hnn hfl;obtain ⟨ut,un⟩:=u;simp only at KU hy hnn hfl;go_wp2_with fail
     refine (KU.out _).mono ?_
     rintro e w3 ⟨rfl,hw3⟩;have hown3:=hid (hown1.out.below hw3);have hb3:=hb1.trans (hw3.mono hb1.size);have hB3:=hb3.size;clear hown1 hb1 hw3 KU e34;by_cases hun:un=0
     ·subst hun;have KM:=hid (fun (x:Value) (w':World) (h:ParsAt w' x out)=>refmay_any ⟨nm,ut,hs⟩ x out w' (by simp only; omega) (by simp only; omega) hsm.out h);unfold parV at KM;simp only at KM;have hnm:=hid (hnot.out _ (hy rfl));have hye:=hid (hon.out _ (hy rfl));have hss:=hid (@small_snoc out ⟨nm,ut,hs⟩ hsm.out (by have:=hpl.out; omega));clear hy hnn hno hnot hon hfl;go_wp2_with fail
      refine (KA.out _).mono ?_
      rintro e w4 ⟨rfl,rfl⟩;clear KA;have hA:=(Below.refl _ w4).alloc (Nat.le_refl _) (.cells #[.string ⟨nm.toArray⟩,.string ⟨ut.toArray⟩,.bool hs] 158);have hbx:=boxP_new w4 ⟨nm,ut,hs⟩ 158;have hltx:=alloc_lt w4 (.cells #[.string ⟨nm.toArray⟩,.string ⟨ut.toArray⟩,.bool hs] 158);have hown4:=hid (hown3.out.below hA);have hb4:=hb3.alloc hB3 (.cells #[.string ⟨nm.toArray⟩,.string ⟨ut.toArray⟩,.bool hs] 158);have HBX:=hid hbx;obtain ⟨x0,x1,x2⟩:=hbx;simp only at x0 x1 x2;clear hown3 hA hb3;go_wp2_with fail
      refine (KM.out _ _ hown4.out.parsAt).mono ?_
      rintro e w5 ⟨rfl,hw5⟩;have hown5:=hown4.out.below hw5;have HB5:=BoxP.below HBX.out hw5 hltx;have hb5:=hb4.trans (hw5.mono hb4.size);clear hown4 HBX hw5 hb4 hltx KM x0 x1 x2
      cases hmay:mayB out ⟨nm,ut,hs⟩ with
      | false =>
       have hnone:Hid (fieldsV ls=([],34)):=hbad.out (hnm.out hmay);clear hnm hye hss hmay;go_wp2;go_ret2;exact ⟨_,_,rfl,fres_bad hnone.out,hb5⟩
      | true =>
       have hnext:=hid (hye.out hmay);have hsm2:=hid (hss.out hmay);have hB5:=hb5.size;clear hnm hye hss hmay hsm;obtain ⟨x0,x1,x2⟩:=HB5;simp only at x0 x1 x2;have HNW:=hid (new_par w5 ⟨nm,ut,hs⟩ 158);go_wp2_with (at_builtin; refine wp_appP _ rfl (.tmp 64) (.tmp 66) 27 rfl w.heap.size i0 _ Tryz.underlying27 hi hz0 hz1 hz2 rfl _ out rfl (hown5.alloc _) ⟨w5.heap.size,0,none⟩ 1 ⟨nm,ut,hs⟩ rfl (by exact HNW.out) (by have:=hpl.out; omega) w (hb5.alloc hB5 _) (by simp; omega) ?_; intro v6 w6 hown6 hb6 hB6)
       have HO6:=hid hown6;clear hown6;go_wp2;go_roundw
       case rel=>exact ⟨k+1,out++[⟨nm,ut,hs⟩],by omega,by go_num,hnext,hid (by have:=hpl.out; simp; omega),hsm2,HO6,hb6,hB6⟩
       case measure=>simp [intOf]; omega
     ·have hne:(un != 0)=true:=by simpa using hun
      have hne2:(un==0)=false:=by simpa using hun
      have hnone:Hid (fieldsV ls=([],34)):=hbad.out (hno.out (hnn (by rw [hne2])));clear hy hnn hno hnot hon hfl;go_wp2;go_ret2;exact ⟨_,_,rfl,fres_bad hnone.out,hb3⟩
    | false =>
     rw [hqb,if_neg (by simp)] at hy hnn hfl
     rcases hq0 with ⟨hz,_⟩ | ⟨hpos,e34⟩
     all_goals (
      try rw [hqb] at e34
      clear hqcase hqb KU
      cases hs with
      | false =>
       have KM:=hid (fun (x:Value) (w':World) (h:ParsAt w' x out)=>refmay_any ⟨nm,vl,false⟩ x out w' (by simp only; omega) (by simp only; omega) hsm.out h);unfold parV at KM;simp only at KM;have hnm:=hid (hnot.out _ (hy rfl));have hye:=hid (hon.out _ (hy rfl));have hss:=hid (@small_snoc out ⟨nm,vl,false⟩ hsm.out (by have:=hpl.out; omega));clear hy hnn hno hnot hon hfl;go_wp2_with fail
       refine (KA.out _).mono ?_
       rintro e w4 ⟨rfl,rfl⟩;clear KA;have hsb:=HSB.out;subst hsb;have hA:=(Below.refl _ w4).alloc (Nat.le_refl _) (.cells #[.string ⟨nm.toArray⟩,.string ⟨vl.toArray⟩,.bool false] 158);have hbx:=boxP_new w4 ⟨nm,vl,false⟩ 158;have hltx:=alloc_lt w4 (.cells #[.string ⟨nm.toArray⟩,.string ⟨vl.toArray⟩,.bool false] 158);have hown4:=hid (hown1.out.below hA);have hb4:=hb1.alloc hB1 (.cells #[.string ⟨nm.toArray⟩,.string ⟨vl.toArray⟩,.bool false] 158);have HBX:=hid hbx;obtain ⟨x0,x1,x2⟩:=hbx;simp only at x0 x1 x2;clear hown1 hA hb1;go_wp2_with fail
       refine (KM.out _ _ hown4.out.parsAt).mono ?_
       rintro e w5 ⟨rfl,hw5⟩;have hown5:=hown4.out.below hw5;have HB5:=BoxP.below HBX.out hw5 hltx;have hb5:=hb4.trans (hw5.mono hb4.size);clear hown4 HBX hw5 hb4 hltx KM x0 x1 x2
       cases hmay:mayB out ⟨nm,vl,false⟩ with
       | false =>
        have hnone:Hid (fieldsV ls=([],34)):=hbad.out (hnm.out hmay);clear hnm hye hss hmay;go_wp2;go_ret2;exact ⟨_,_,rfl,fres_bad hnone.out,hb5⟩
       | true =>
        have hnext:=hid (hye.out hmay);have hsm2:=hid (hss.out hmay);have hB5:=hb5.size;clear hnm hye hss hmay hsm;obtain ⟨x0,x1,x2⟩:=HB5;simp only at x0 x1 x2;have HNW:=hid (new_par w5 ⟨nm,vl,false⟩ 158);go_wp2_with (at_builtin; refine wp_appP _ rfl (.tmp 64) (.tmp 66) 27 rfl w.heap.size i0 _ Tryz.underlying27 hi hz0 hz1 hz2 rfl _ out rfl (hown5.alloc _) ⟨w5.heap.size,0,none⟩ 1 ⟨nm,vl,false⟩ rfl (by exact HNW.out) (by have:=hpl.out; omega) w (hb5.alloc hB5 _) (by simp; omega) ?_; intro v6 w6 hown6 hb6 hB6)
        have HO6:=hid hown6;clear hown6;go_wp2;go_roundw
        case rel=>exact ⟨k+1,out++[⟨nm,vl,false⟩],by omega,by go_num,hnext,hid (by have:=hpl.out; simp; omega),hsm2,HO6,hb6,hB6⟩
        case measure=>simp [intOf]; omega
      | true =>
       cases hwb:wordB vl with
       | true =>
        rw [hwb] at KW hy hnn hfl;go_wp2_with fail
        refine (KW.out _).mono ?_
        rintro e w3 ⟨rfl,hw3⟩;have hown3:=hid (hown1.out.below hw3);have hb3:=hb1.trans (hw3.mono hb1.size);have hB3:=hb3.size;clear hown1 hb1 hw3 KW hwb;have KM:=hid (fun (x:Value) (w':World) (h:ParsAt w' x out)=>refmay_any ⟨nm,vl,true⟩ x out w' (by simp only; omega) (by simp only; omega) hsm.out h);unfold parV at KM;simp only at KM;have hnm:=hid (hnot.out _ (hy rfl));have hye:=hid (hon.out _ (hy rfl));have hss:=hid (@small_snoc out ⟨nm,vl,true⟩ hsm.out (by have:=hpl.out; omega));clear hy hnn hno hnot hon hfl;go_wp2_with fail
        refine (KA.out _).mono ?_
        rintro e w4 ⟨rfl,rfl⟩;clear KA;have hsb:=HSB.out;subst hsb;have hA:=(Below.refl _ w4).alloc (Nat.le_refl _) (.cells #[.string ⟨nm.toArray⟩,.string ⟨vl.toArray⟩,.bool true] 158);have hbx:=boxP_new w4 ⟨nm,vl,true⟩ 158;have hltx:=alloc_lt w4 (.cells #[.string ⟨nm.toArray⟩,.string ⟨vl.toArray⟩,.bool true] 158);have hown4:=hid (hown3.out.below hA);have hb4:=hb3.alloc hB3 (.cells #[.string ⟨nm.toArray⟩,.string ⟨vl.toArray⟩,.bool true] 158);have HBX:=hid hbx;obtain ⟨x0,x1,x2⟩:=hbx;simp only at x0 x1 x2;clear hown3 hA hb3;go_wp2_with fail
        refine (KM.out _ _ hown4.out.parsAt).mono ?_
        rintro e w5 ⟨rfl,hw5⟩;have hown5:=hown4.out.below hw5;have HB5:=BoxP.below HBX.out hw5 hltx;have hb5:=hb4.trans (hw5.mono hb4.size);clear hown4 HBX hw5 hb4 hltx KM x0 x1 x2
        cases hmay:mayB out ⟨nm,vl,true⟩ with
        | false =>
         have hnone:Hid (fieldsV ls=([],34)):=hbad.out (hnm.out hmay);clear hnm hye hss hmay;go_wp2;go_ret2;exact ⟨_,_,rfl,fres_bad hnone.out,hb5⟩
        | true =>
         have hnext:=hid (hye.out hmay);have hsm2:=hid (hss.out hmay);have hB5:=hb5.size;clear hnm hye hss hmay hsm;obtain ⟨x0,x1,x2⟩:=HB5;simp only at x0 x1 x2;have HNW:=hid (new_par w5 ⟨nm,vl,true⟩ 158);go_wp2_with (at_builtin; refine wp_appP _ rfl (.tmp 64) (.tmp 66) 27 rfl w.heap.size i0 _ Tryz.underlying27 hi hz0 hz1 hz2 rfl _ out rfl (hown5.alloc _) ⟨w5.heap.size,0,none⟩ 1 ⟨nm,vl,true⟩ rfl (by exact HNW.out) (by have:=hpl.out; omega) w (hb5.alloc hB5 _) (by simp; omega) ?_; intro v6 w6 hown6 hb6 hB6)
         have HO6:=hid hown6;clear hown6;go_wp2;go_roundw
         case rel=>exact ⟨k+1,out++[⟨nm,vl,true⟩],by omega,by go_num,hnext,hid (by have:=hpl.out; simp; omega),hsm2,HO6,hb6,hB6⟩
         case measure=>simp [intOf]; omega
       | false =>
        rw [hwb] at KW hy hnn hfl;go_wp2_with fail
        refine (KW.out _).mono ?_
        rintro e w3 ⟨rfl,hw3⟩;have hb3:=hb1.trans (hw3.mono hb1.size);clear hown1 hb1 hw3 KW hwb;have hnone:Hid (fieldsV ls=([],34)):=hbad.out (hno.out (hnn rfl));clear hy hnn hno hnot hon hfl;go_wp2;go_ret2;exact ⟨_,_,rfl,fres_bad hnone.out,hb3⟩)
   ·have hend:Hid (fieldsV ls=(out,0)):=hgood.out out (by
     have h:=hps.out;have e:=HN.out;rw [List.drop_of_length_le (by omega)] at h; exact h)
    clear hps;go_wp2;go_ret2;exact ⟨_,_,rfl,⟨by rw [hend.out],by rw [hend.out]; exact hown.out⟩,hb⟩
 ·have hmany:Hid (fieldsV ls=([],4)):=fieldsV_many (by omega);have h16':(16:Int) < (n:Int):=by omega
  clear hn'
  go_enter Tryz.func97,Tryz.ntmps97
  go_wp2;go_ret2;exact ⟨_,_,rfl,⟨by rw [hmany.out],by rw [hmany.out]; exact OwnP.nil _ _⟩,Below.refl _ _⟩
theorem wp_appstr {P:Program} (w:World) {ops:Array Oper} {rest:List Oper} {o:Oper} {a:Act} {Q:Exit → Act → World → Prop} (hgd:o.guard=none) (sl x:Operand) (t u:TypeId)
  (ho:o.op=.call { callee:=.builtin .append,args:=#[sl,x],argTypes:=#[t,u] })
  (B:Nat) (e:TypeId) (i:TypeInfo) (ht:P.underlying t=some (.slice e)) (hu:P.underlying u=some .string) (hi:P.info? e=some i) (hz:i.zero=some (.int .u8 0))
  (hsize:i.size=1) (hby:i.bytes=1) (v:Value) (l:List UInt8) (hs:a.eval sl=v) (hown:Own w B e v (Lib.byteCells l)) (s:ByteArray) (hx:a.eval x=.string s)
  (h63:l.length+s.size≤140737488355328) (w0:World) (hb:Below B w0 w) (hB:B≤w.heap.size) {e2:TypeId} {v2:Value} {xs2:List Value} {B2:Nat} (hown2:Own w B2 e2 v2 xs2) (hne:e2 ≠ e)
  (h:∀ v' w',Own w' B e v' (Lib.byteCells (l++s.data.toList)) → Own w' B2 e2 v2 xs2 → Below B w0 w' → B≤w'.heap.size → wpList P ops Q rest (a.put o.dst v') w'):wpList P ops Q (o :: rest) a w:=by
 have hl:(Lib.byteCells l).length=l.length:=Lib.byteCells_length l;have hsl:(Lib.strCells s).length=s.size:=Lib.strCells_length s;refine Lib.wpList_append_own_string w hgd sl x t u ho B e i ht hu hi hz hsize hby v (Lib.byteCells l).length (Lib.byteCells l) hs hown s hx (by rw [hl]; unfold maxLen; omega) (by rw [hl]; exact h63) hB ?_
 intro v' w' ho' hgr _;refine h v' w' ?_ (World.ownsRow.kept hown2 hgr ?_) (hb.grown hgr hB (fun k hk=>(World.ownsRow.lt hown k hk).1)) (Nat.le_trans hB hgr.size)
 ·unfold Own;rw [Lib.byteCells_append,List.length_append,← Lib.strCells_eq,hsl];exact ho'
 ·rcases hown2.2 with ⟨rfl,_⟩ | ⟨g2,c2,u2,rfl,_,hg2,_⟩
  ·exact Or.inl rfl
  ·right
   rcases hown.2 with ⟨rfl,_⟩ | ⟨g1,c1,u1,rfl,_,hg1,_⟩
   ·simp [Value.ownBlock]
   ·simp only [Value.ownBlock];intro e'
    injection e' with e'
    rw [e',hg1] at hg2
    injection hg2 with hg2
    injection hg2 with _ hg2
    exact hne hg2.symm
def glueK (t:List UInt8) (ps:List (List UInt8)):Nat → List UInt8
 | 0=>[]
 | k+1=>glueK t ps k++(if 0 < k then t else [])++ps.getD k []
theorem glueK_mono (t:List UInt8) (ps:List (List UInt8)) {k n:Nat} (h:k≤n):(glueK t ps k).length≤(glueK t ps n).length:=by
 induction n with
 | zero=>have:k=0:=by omega
         subst this; exact Nat.le_refl _
 | succ n ih =>
  by_cases e:k=n+1
  ·subst e; exact Nat.le_refl _
  ·have:=ih (by omega)
   rw [glueK]; simp only [List.length_append]; omega
theorem getD_at {ps:List (List UInt8)} {k:Nat} (h:k < ps.length):ps.getD k []=ps[k]:=by simp [List.getD,h]
theorem glue_first (t:List UInt8) (ps:List (List UInt8)) (h:0 < ps.length):glueK t ps 1=ps[0]:=by
 rw [glueK,glueK,getD_at h]; rfl
theorem glue_next (t:List UInt8) (ps:List (List UInt8)) {k:Nat} (h:k < ps.length) (h0:0 < k):glueK t ps (k+1)=glueK t ps k++t++ps[k]:=by
 rw [glueK,if_pos h0,getD_at h]
theorem mks (l:List UInt8):(ByteArray.mk l.toArray).size=l.length:=by show l.toArray.size=_; simp
set_option maxHeartbeats 1000000 in
theorem glue_any (B1:Nat) (v1:Value) (ps:List (List UInt8)) (t:ByteArray) (w:World) (h1:Own w B1 9 v1 (strs ps)) (hne:ps ≠ []) (hl:ps.length≤281474976710656)
  (hlen:(glueK t.data.toList ps ps.length).length≤140737488355328) :
  Calls Tryz.prog 140 #[v1,.string t] w fun e w'=>e=.returned (.string ⟨(glueK t.data.toList ps ps.length).toArray⟩)∧Below w.heap.size w w':=by
 obtain ⟨i0,hi,hz0,hz1,hz2⟩:=info_parts info5;obtain ⟨g1,c1,hv1,k1⟩:=own_strs h1 hne;subst hv1;have K1:Hid (∀ j (hj:j < ps.length),w.cell? ⟨g1,j,none⟩=some (.string ⟨(ps[j]).toArray⟩)):=k1;have hpos:0 < ps.length:=by cases ps with | nil=>exact absurd rfl hne | cons x r=>simp
 have hg1:g1 < w.heap.size:=World.block_lt_of_cell? w ⟨g1,0,none⟩ (k1 0 hpos);have HM:Hid (∀ k,k≤ps.length → (glueK t.data.toList ps k).length≤140737488355328):=fun k hk=>Nat.le_trans (glueK_mono _ _ hk) hlen;have htl:=len_data t;have HT:Hid (t.data.toList.length=t.size):=htl;clear k1 hne hlen htl
 go_enter Tryz.func140,Tryz.ntmps140
 go_wp2
 go_loopw [5,6] (fun v i wr=>∃ k:Nat,k≤ps.length∧i=.int .i64 k∧Own wr w.heap.size 5 v (Lib.byteCells (glueK t.data.toList ps k))∧Below w.heap.size w wr∧w.heap.size≤wr.heap.size) (fun _ i _=>ps.length - (intOf i).toNat)
 case atStart=>exact ⟨0,Nat.zero_le _,rfl,Own.nil _ _ _,Below.refl _ _,Nat.le_refl _⟩
 case round =>
  obtain ⟨k,hk,rfl,hown,hb,hB⟩:=hrel;by_cases hlt:k < ps.length
  ·have f1:wr.cell? ⟨g1,k,none⟩=some (.string ⟨(ps[k]).toArray⟩):=(hb.cell (p:=⟨g1,k,none⟩) hg1).trans (K1.out k hlt);have hm1:=HM.out (k+1) (by omega);by_cases h0:k=0
   ·subst h0;have hs1:=glue_first t.data.toList ps hlt;rw [hs1] at hm1;have HS:Hid (glueK t.data.toList ps 1=ps[0]):=hs1;clear hs1;go_wp2_with (at_builtin; refine wp_appstr _ rfl (.tmp 18) (.tmp 22) 143 9 rfl w.heap.size 5 i0 Tryz.underlying143 Tryz.underlying9 hi hz0 hz1 hz2 _ _ rfl hown ⟨(ps[0]).toArray⟩ rfl (by rw [mks]; simp [glueK]; omega) w hb hB (h1.below hb) (by decide) ?_; intro v3 w3 hown3 _ hb3 hB3)
    go_wp2;go_roundw
    case rel=>exact ⟨1,by omega,by go_num,by rw [HS.out]; exact hown3,hb3,hB3⟩
    case measure=>simp [intOf]; omega
   ·have hs1:=glue_next t.data.toList ps hlt (by omega);rw [hs1] at hm1;simp only [List.length_append] at hm1;have HS:Hid (glueK t.data.toList ps (k+1)=glueK t.data.toList ps k++t.data.toList++ps[k]):=hs1;have hpk:(0:Int) < (k:Int):=by omega
    clear hs1;go_wp2_with (first
     | (at_builtin; refine wp_appstr _ rfl (.tmp 15) (.tmp 16) 143 9 rfl w.heap.size 5 i0 Tryz.underlying143 Tryz.underlying9 hi hz0 hz1 hz2 _ _ rfl hown t rfl (by have:=HT.out; omega) w hb hB (h1.below hb) (by decide) ?_; intro v2 w2 hown2 hk2 hb2 hB2; replace f1:w2.cell? ⟨g1,k,none⟩=some (.string ⟨(ps[k]).toArray⟩):=(hb2.cell (p:=⟨g1,k,none⟩) hg1).trans (K1.out k hlt))
     | (at_builtin; refine wp_appstr _ rfl (.tmp 18) (.tmp 22) 143 9 rfl w.heap.size 5 i0 Tryz.underlying143 Tryz.underlying9 hi hz0 hz1 hz2 _ _ rfl hown2 ⟨(ps[k]).toArray⟩ rfl (by rw [mks,List.length_append]; omega) w hb2 hB2 (h1.below hb2) (by decide) ?_; intro v3 w3 hown3 _ hb3 hB3))
    go_wp2;go_roundw
    case rel=>exact ⟨k+1,by omega,by go_num,by rw [HS.out]; exact hown3,hb3,hB3⟩
    case measure=>simp [intOf]; omega
  ·have hke:k=ps.length:=by omega
   rw [hke] at hown;have hcv:=conv_own (P:=Tryz.prog) _ Tryz.underlying143 Tryz.underlying5 Tryz.underlying9 hown;clear hke;go_wp2;go_ret;exact ⟨rfl,hb⟩
set_option maxHeartbeats 1000000 in
theorem ropen_any (s:ByteArray) (w:World) (hs:s.size≤140737488355328) :
  Calls Tryz.prog 95 #[.string s] w fun e w'=>e=.returned (.int .i64 (openI s.data.toList))∧w'=w:=by
 go_enter Tryz.func95,Tryz.ntmps95
 go_wp2
 go_loop [3,4] (fun x i=>∃ (k:Nat) (q:Bool),k≤s.size+1∧i=.int .i64 k∧x=.bool q∧Hid (openV false s.data.toList=(openV q (s.data.toList.drop k)).map (·+k))) (fun _ i=>s.size+1 - (intOf i).toNat)
 case atStart=>exact ⟨0,false,by omega,rfl,rfl,hid (by simp)⟩
 case round =>
  obtain ⟨k,q,hk,rfl,rfl,hop⟩:=hrel;by_cases hlt:k < s.size
  ·have hd:=drop_cons s k hlt;have hop2:openV false s.data.toList=(openV q (s[k] :: s.data.toList.drop (k+1))).map (·+k):=by rw [hop.out,← hd]
   clear hop hd
   cases q with
   | true =>
    by_cases h92:s[k]=92
    ·have e92:((s[k].toNat:Int)==92)=true:=by rw [h92]; rfl
     have h2:Hid (openV false s.data.toList=(openV true (s.data.toList.drop (k+2))).map (·+(k+2))):=show _=_ by
      rw [hop2,open_esc h92,map_add,List.drop_drop]
     clear hop2 h92;go_wp2
     go_round
     case rel=>exact ⟨k+2,true,by omega,by go_num,rfl,h2⟩
     case measure=>simp [intOf]; omega
    ·have e92:((s[k].toNat:Int)==92)=false:=u8_ne h92;by_cases h34:s[k]=34
     ·have e34:((s[k].toNat:Int)==34)=true:=by rw [h34]; rfl
      have e60:((s[k].toNat:Int)==60)=false:=by rw [h34]; rfl
      have h2:Hid (openV false s.data.toList=(openV false (s.data.toList.drop (k+1))).map (·+(k+1))):=show _=_ by
       rw [hop2,open_q2 h34,map_add]
      clear hop2 h92 h34;go_wp2
      go_round
      case rel=>exact ⟨k+1,false,by omega,by go_num,rfl,h2⟩
      case measure=>simp [intOf]; omega
     ·have e34:((s[k].toNat:Int)==34)=false:=u8_ne h34;have h2:Hid (openV false s.data.toList=(openV true (s.data.toList.drop (k+1))).map (·+(k+1))):=show _=_ by
       rw [hop2,open_in h92 h34,map_add]
      clear hop2 h92 h34
      cases e60:((s[k].toNat:Int)==60)
      all_goals
       go_wp2
       go_round
       case rel=>exact ⟨k+1,true,by omega,by go_num,rfl,h2⟩
       case measure=>simp [intOf]; omega
   | false =>
    by_cases h34:s[k]=34
    ·have e34:((s[k].toNat:Int)==34)=true:=by rw [h34]; rfl
     have e60:((s[k].toNat:Int)==60)=false:=by rw [h34]; rfl
     have h2:Hid (openV false s.data.toList=(openV true (s.data.toList.drop (k+1))).map (·+(k+1))):=show _=_ by
      rw [hop2,h34,open_q1,map_add]
     clear hop2 h34;go_wp2
     go_round
     case rel=>exact ⟨k+1,true,by omega,by go_num,rfl,h2⟩
     case measure=>simp [intOf]; omega
    ·have e34:((s[k].toNat:Int)==34)=false:=u8_ne h34;by_cases h60:s[k]=60
     ·have e60:((s[k].toNat:Int)==60)=true:=by rw [h60]; rfl
      have h2:Hid (openI s.data.toList=k):=openI_some (by rw [hop2,h60,open_hit]; simp);clear hop2 h34 h60;go_wp2;go_ret;exact ⟨ret_int h2.out.symm,rfl⟩
     ·have e60:((s[k].toNat:Int)==60)=false:=u8_ne h60;have h2:Hid (openV false s.data.toList=(openV false (s.data.toList.drop (k+1))).map (·+(k+1))):=show _=_ by
       rw [hop2,open_out h60 h34,map_add]
      clear hop2 h34 h60;go_wp2
      go_round
      case rel=>exact ⟨k+1,false,by omega,by go_num,rfl,h2⟩
      case measure=>simp [intOf]; omega
  ·have h2:Hid (openI s.data.toList=-1):=openI_none (by rw [hop.out,drop_all s k (by omega)]; cases q <;> rfl);clear hop;go_wp2;go_ret;exact ⟨ret_int h2.out.symm,rfl⟩
theorem glue_join (ps:List (List UInt8)):∀ k,k≤ps.length → glueK [32] ps k=joinB (ps.take k)
 | 0,_=>by simp [glueK,joinB]
 | k+1,h=>by
  have ih:=glue_join ps k (by omega);rw [List.take_succ_eq_append_getElem (by omega),join_snoc];by_cases h0:k=0
  ·subst h0; rw [glue_first _ _ (by omega)]; simp
  ·rw [glue_next _ _ (by omega) (by omega),ih,if_neg (by intro e; have:=congrArg List.length e; rw [List.length_take] at this; simp only [List.length_nil] at this; omega)]
theorem glue_nil (t:ByteArray) (a:Option Addr) (c:Nat) (w:World) :
  Calls Tryz.prog 140 #[.slice a 0 c,.string t] w fun e w'=>e=.returned (.string ⟨#[]⟩)∧Below w.heap.size w w':=by
 go_enter Tryz.func140,Tryz.ntmps140
 go_wp2
 go_loop [5,6] (fun v i=>v=.slice none 0 0∧i=.int .i64 0) (fun _ i=>0)
 case atStart=>exact ⟨rfl,rfl⟩
 case round =>
  obtain ⟨rfl,rfl⟩:=hrel;have hcv:=conv_own (P:=Tryz.prog) (w:=w) (B:=0) [] Tryz.underlying143 Tryz.underlying5 Tryz.underlying9 (Own.nil _ _ _);go_wp2;go_ret;exact ⟨rfl,Below.refl _ _⟩
def DispRes (o:Option (List UInt8)) (t:List UInt8) (b:Bool):Prop:=match o with | some d=>t=d∧b=true | none=>b=false
theorem words_len:∀ (t cur:List UInt8),(joinB (wordsG cur t)).length≤cur.length+t.length
 | [],cur=>by rw [wordsG]; split <;> simp [joinB]
 | b :: r,cur=>by
  rw [wordsG]
  split
  ·split
   ·have:=words_len r []; simp at this ⊢; omega
   ·have:=words_len r []
    cases hw:wordsG [] r with
    | nil=>simp [joinB] <;> omega
    | cons x xs=>rw [hw] at this; rw [join_cons _ (by simp)]; simp at this ⊢; omega
  ·have:=words_len r (cur++[b]); simp at this ⊢; omega
theorem okD_split (b:UInt8):okD b=(blk b || tokc b):=rfl
theorem disp_bad {s:List UInt8} {k:Nat} {b:UInt8} (h:s.drop k=b :: s.drop (k+1)) (hb:blk b=false) (ht:tokc b=false):s.all okD=false:=by
 rw [List.all_eq_false];refine ⟨b,List.mem_of_mem_drop (by rw [h]; simp),by rw [okD_split,hb,ht]; simp⟩
theorem strs_snoc (ws:List (List UInt8)) (x:List UInt8):strs (ws++[x])=strs ws++[.string ⟨x.toArray⟩]:=by simp [strs]
theorem glue_all (B1:Nat) (v1:Value) (ps:List (List UInt8)) (w:World) (h1:Own w B1 9 v1 (strs ps)) (hl:ps.length≤2000000) (hj:(joinB ps).length≤1048576) :
  Calls Tryz.prog 140 #[v1,.string ⟨#[32]⟩] w fun e w'=>e=.returned (.string ⟨(joinB ps).toArray⟩)∧Below w.heap.size w w':=by
 by_cases hne:ps=[]
 ·subst hne;obtain ⟨a,c,rfl⟩:=h1.form;exact glue_nil _ a c w
 ·have e:glueK (⟨#[32]⟩:ByteArray).data.toList ps ps.length=joinB ps:=by
   have:=glue_join ps ps.length (Nat.le_refl _)
   rw [List.take_length] at this;exact this
  have k:=glue_any B1 v1 ps ⟨#[32]⟩ w h1 hne (by omega) (by rw [e]; omega);rw [e] at k;exact k
set_option maxHeartbeats 2000000 in
set_option maxRecDepth 100000 in
theorem rdisplay_any (l:List UInt8) (w:World) (hl:l.length≤1048576) :
  Calls Tryz.prog 96 #[.string ⟨l.toArray⟩] w fun e w'=>(∃ t b,e=.returned (.tuple #[.string ⟨t.toArray⟩,.bool b])∧DispRes (displayV l) t b)∧Below w.heap.size w w':=by
 obtain ⟨i0,hi,hz0,hz1,hz2⟩:=info_parts info9;have htl:=trimL_len l;have KT:=hid (fun w'=>reftrim_list l w' (by omega));have hq0:=head_quo (trimL l);have hdv:displayV l=if quoB (trimL l)=true then (if (unquoteV (trimL l)).2=0 then some (unquoteV (trimL l)).1 else none) else if (trimL l).all okD=true then some (joinB (wordsG [] (trimL l))) else none:=rfl
 obtain ⟨sb,hsb⟩:∃ sb:ByteArray,sb=⟨(trimL l).toArray⟩:=⟨_,rfl⟩
 have hsl:trimL l=sb.data.toList:=by rw [hsb]
 rw [← hsb] at KT hq0;rw [hsl] at hdv hq0 htl;have hsz:=len_data sb;rw [hsz] at htl;have KU:=hid (fun w'=>refunquote_any sb w' (by omega));generalize displayV l=D at hdv ⊢;have HD:=hid hdv;clear hdv hsl hsb hsz
 go_enter Tryz.func96,Tryz.ntmps96
 go_wp2_with fail
 refine (KT.out _).mono ?_
 rintro e w ⟨rfl,rfl⟩;clear KT;have hqcase:quoB sb.data.toList=true → Hid (∃ h:0 < sb.size,(((sb[0]'h).toNat:Int)==34)=true):=fun h=>by
  rcases hq0 with ⟨_,h2⟩ | ⟨h1,h2⟩
  ·rw [h] at h2; cases h2
  ·exact ⟨h1,by rw [h2,h]⟩
 cases hqb:quoB sb.data.toList with
 | true =>
  obtain ⟨hpos,e34⟩:=(hqcase hqb).out;rw [hqb,if_pos rfl] at HD;clear hq0 hqcase hqb;generalize unquoteV sb.data.toList=u at KU HD;obtain ⟨ut,un⟩:=u;simp only at KU HD;have hres:Hid (DispRes D ut (un==0)):=by
   show DispRes _ _ _
   rw [HD.out];by_cases h:un=0
   ·rw [if_pos h,h]; exact ⟨rfl,rfl⟩
   ·rw [if_neg h]; show (un==0)=false; simpa using h
  go_wp2_with fail
  refine (KU.out _).mono ?_
  rintro e w2 ⟨rfl,hw2⟩;go_wp2;go_ret2;exact ⟨⟨_,_,rfl,hres.out⟩,hw2⟩
 | false =>
  rw [hqb,if_neg (by simp)] at HD;have hfin:Hid (∀ ws cur,wordsG [] sb.data.toList=ws++wordsG cur [] → sb.data.toList.all okD=true → DispRes D (joinB (ws++wordsG cur [])) true):=fun ws cur h1 h2=>by
   rw [HD.out,if_pos h2,h1]; exact ⟨rfl,rfl⟩
  have hbadr:Hid (sb.data.toList.all okD=false → DispRes D [] false):=fun h=>by
   rw [HD.out,if_neg (by rw [h]; simp)]; rfl
  have hjl:Hid ((joinB (wordsG [] sb.data.toList)).length≤1048576):=by
   have:=words_len sb.data.toList []
   have h2:=len_data sb
   show _≤_; simp at this; omega
  rcases hq0 with ⟨hz,_⟩ | ⟨hpos,e34⟩
  all_goals (
   try rw [hqb] at e34
   clear hqcase hqb KU HD;go_wp2
   go_loopw [6,7,8] (fun x y i wr=>∃ (k:Nat) (ws:List (List UInt8)) (cur:List UInt8),k≤sb.size∧i=.int .i64 k∧y=.string ⟨cur.toArray⟩∧Hid (wordsG [] sb.data.toList=ws++wordsG cur (sb.data.toList.drop k))∧Hid ((sb.data.toList.take k).all okD=true)∧ws.length≤k∧cur.length≤k∧Hid (Own wr w.heap.size 9 x (strs ws))∧Below w.heap.size w wr) (fun _ _ i _=>sb.size - (intOf i).toNat)
   case atStart=>exact ⟨0,[],[],by omega,rfl,rfl,hid (by simp),hid (by simp),by simp,by simp,Own.nil _ _ _,Below.refl _ _⟩
   case round =>
    obtain ⟨k,ws,cur,hk,rfl,rfl,hw,hal,hwl,hcl,hown,hb⟩:=hrel;have hB:=hb.size;by_cases hlt:k < sb.size
    ·first | (exfalso; omega) | (
     have hd:=hid (drop_cons sb k hlt);have hts:=hid (take_snoc sb k hlt);have hbd:=u8_bd sb[k];have KC:=hid (fun w'=>refclass_any sb[k].toNat w' hbd.1 hbd.2)
     cases hbk:blk sb[k] with
     | true =>
      have e32:(cls sb[k].toNat==32)=true:=by rw [← blk_cls,hbk]
      have hal2:Hid ((sb.data.toList.take (k+1)).all okD=true):=show _=_ by rw [hts.out,List.all_append,hal.out]; simp [okD,hbk]
      cases hce:cur.isEmpty with
      | true =>
       have hc0:cur=[]:=by simpa using hce
       subst hc0;have hw2:Hid (wordsG [] sb.data.toList=ws++wordsG [] (sb.data.toList.drop (k+1))):=show _=_ by rw [hw.out,hd.out,words_blank1 hbk]
       clear hw hal hbk hd hts;go_wp2_with fail
       refine (KC.out _).mono ?_
       rintro e wr ⟨rfl,rfl⟩;go_wp2;go_roundw
       case rel=>exact ⟨k+1,ws,[],by omega,by go_num,rfl,hw2,hal2,by omega,by simp,hown,hb⟩
       case measure=>simp [intOf]; omega
      | false =>
       have hcn:cur ≠ []:=by intro h; rw [h] at hce; cases hce
       have hw2:Hid (wordsG [] sb.data.toList=(ws++[cur])++wordsG [] (sb.data.toList.drop (k+1))):=show _=_ by rw [hw.out,hd.out,words_blank2 hbk hcn]; simp
       clear hw hal hbk hd hts hcn;go_wp2_with fail
       refine (KC.out _).mono ?_
       rintro e wr ⟨rfl,rfl⟩;go_wp2_with (at_builtin; refine wp_app _ rfl (.tmp 40) (.tmp 42) 35 rfl w.heap.size 9 i0 (.string .empty) 16 Tryz.underlying35 hi hz0 hz1 hz2 rfl _ _ rfl (hown.out.alloc _) ⟨_,0,none⟩ 1 1 [.string ⟨cur.toArray⟩] rfl rfl (by exact one_new _ _ _) (by intro u hu; simp at hu; subst hu; rfl) (by rw [strs_length]; unfold maxLen; omega) (by rw [strs_length]; omega) w (hb.alloc hB _) (by simp; omega) ?_; intro v5 w5 hown5 hb5 hB5)
       rw [← strs_snoc] at hown5;have HO5:=hid hown5;clear hown5;go_wp2;go_roundw
       case rel=>exact ⟨k+1,ws++[cur],[],by omega,by go_num,rfl,hw2,hal2,by simp; omega,by simp,HO5,hb5⟩
       case measure=>simp [intOf]; omega
     | false =>
      have e32:(cls sb[k].toNat==32)=false:=by rw [← blk_cls,hbk]
      cases htk:tokc sb[k] with
      | false =>
       have hz8:(bits BinOp.and IntKind.i64 (cls sb[k].toNat) 8==0)=true:=by simpa [tokc,isB] using htk
       have hres:=hid (hbadr.out (disp_bad hd.out hbk htk));clear hw hal hbk hd hts htk;go_wp2_with (go_at_call 77; refine (KC.out _).mono ?_; rintro e _ ⟨rfl,rfl⟩)
       go_ret2;exact ⟨⟨[],false,rfl,hres.out⟩,hb⟩
      | true =>
       have hz8:(bits BinOp.and IntKind.i64 (cls sb[k].toNat) 8==0)=false:=by simpa [tokc,isB] using htk
       have hal2:Hid ((sb.data.toList.take (k+1)).all okD=true):=show _=_ by rw [hts.out,List.all_append,hal.out]; simp [okD,htk]
       have hw2:Hid (wordsG [] sb.data.toList=ws++wordsG (cur++[sb[k]]) (sb.data.toList.drop (k+1))):=show _=_ by rw [hw.out,hd.out,words_sign hbk]
       have hex:Hid ((⟨cur.toArray⟩:ByteArray)++sb.extract k (k+1)=⟨(cur++[sb[k]]).toArray⟩):=show _=_ by
        rw [ext_list,hd.out,show k+1 - k=1 by omega,ByteArray.mk_append_mk]; rfl
       clear hw hal hbk hd hts htk;go_wp2_with (go_at_call 77; refine (KC.out _).mono ?_; rintro e _ ⟨rfl,rfl⟩)
       go_roundw
       case rel=>exact ⟨k+1,ws,cur++[sb[k]],by omega,by go_num,by rw [← hex.out],hw2,hal2,by omega,by simp; omega,hown,hb⟩
       case measure=>simp [intOf]; omega)
    ·have hdn:sb.data.toList.drop k=[]:=drop_all sb k (by omega);have htn:sb.data.toList.take k=sb.data.toList:=take_all sb k (by omega);have hw2:=hw.out;rw [hdn] at hw2;have hal2:=hal.out;rw [htn] at hal2;have hres:=hid (hfin.out ws cur hw2 hal2);have hjl2:=hjl.out;rw [hw2] at hjl2;clear hw hal hdn htn hw2 hal2
     cases hce:cur.isEmpty with
     | true =>
      have hc0:cur=[]:=by simpa using hce
      subst hc0;rw [show ws++wordsG [] []=ws by simp [wordsG]] at hres hjl2;have KG:=hid (fun v w' (h:Own w' w.heap.size 9 v (strs ws))=>glue_all w.heap.size v ws w' h (by omega) hjl2);go_wp2_with fail
      refine (KG.out _ _ hown.out).mono ?_
      rintro e w3 ⟨rfl,hw3⟩;go_wp2;go_ret2;exact ⟨⟨_,_,rfl,hres.out⟩,hb.trans (hw3.mono hB)⟩
     | false =>
      have hcn:cur ≠ []:=by intro h; rw [h] at hce; cases hce
      rw [show ws++wordsG cur []=ws++[cur] by simp [wordsG,hcn]] at hres hjl2;have KG:=hid (fun v w' (h:Own w' w.heap.size 9 v (strs (ws++[cur])))=>glue_all w.heap.size v (ws++[cur]) w' h (by simp; omega) hjl2);go_wp2_with (at_builtin; refine wp_app _ rfl (.tmp 59) (.tmp 61) 35 rfl w.heap.size 9 i0 (.string .empty) 16 Tryz.underlying35 hi hz0 hz1 hz2 rfl _ _ rfl (hown.out.alloc _) ⟨_,0,none⟩ 1 1 [.string ⟨cur.toArray⟩] rfl rfl (by exact one_new _ _ _) (by intro u hu; simp at hu; subst hu; rfl) (by rw [strs_length]; unfold maxLen; omega) (by rw [strs_length]; omega) w (hb.alloc hB _) (by simp; omega) ?_; intro v5 w5 hown5 hb5 hB5)
      rw [← strs_snoc] at hown5;have HO5:=hid hown5;clear hown5;go_wp2_with fail
      refine (KG.out _ _ HO5.out).mono ?_
      rintro e w3 ⟨rfl,hw3⟩;go_wp2;go_ret2;exact ⟨⟨_,_,rfl,hres.out⟩,hb5.trans (hw3.mono hB5)⟩)
theorem cut3_r {r a b:List UInt8} {f:Bool} {c:UInt8} (h:cutL c r=(a,b,f)) (w:World) (hs:r.length≤9223372036854775807) :
  Calls Tryz.prog 54 #[.string ⟨r.toArray⟩,.int .u8 c.toNat] w fun e w'=>e=.returned (.tuple #[.string ⟨a.toArray⟩,.string ⟨b.toArray⟩,.bool f])∧Below w.heap.size w w':=by
 have k:=cut3_list r c w hs;rw [h] at k;refine k.mono ?_
 rintro e w' ⟨rfl,q,rfl⟩;exact ⟨rfl,below_drewN w q⟩
theorem split3_of {l p0:List UInt8} {ps:List (List UInt8)} {c:UInt8} (h:splitL c l=p0 :: ps) (w:World) (hs:l.length≤1048576) :
  Calls Tryz.prog 87 #[.string ⟨l.toArray⟩,.int .u8 c.toNat] w fun e w'=>∃ g cap,e=.returned (.slice (some ⟨g,0,none⟩) (ps.length+1) cap)∧ps.length+1≤cap∧g < w'.heap.size∧(∀ j (hj:j < (p0 :: ps).length),w'.cell? ⟨g,j,none⟩=some (.string ⟨((p0 :: ps)[j]).toArray⟩))∧Below w.heap.size w w':=by
 have k:=split3_any ⟨l.toArray⟩ c w (by rw [size_list]; exact hs);refine k.mono ?_
 rintro e w' ⟨v,rfl,hown,hb⟩;have hown2:Own w' w.heap.size 9 v (strs (p0 :: ps)):=by rw [← h]; exact hown
 obtain ⟨g,cap,rfl,hc⟩:=own_strs hown2 (by simp);have hcap:ps.length+1≤cap∧g < w'.heap.size:=by
  rcases hown2.2 with ⟨e,_⟩ | ⟨g',cap',cur,e,hB,hg,h1,h2,h3,h4⟩
  ·simp at e
  ·simp only [Value.slice.injEq,Option.some.injEq,Addr.mk.injEq] at e;obtain ⟨⟨rfl,_⟩,_,rfl⟩:=e;rw [strs_length] at h1;refine ⟨h1,?_⟩
   apply Classical.byContradiction
   intro hge;rw [Array.getElem?_eq_none (by omega)] at hg
   cases hg
 exact ⟨g,cap,rfl,hcap.1,hcap.2,hc,hb⟩
theorem refwhere_of {l wh:List UInt8} {wp we:Int} (h:whereV l=(wh,wp,we)) (w:World) (hs:l.length≤1048576) :
  Calls Tryz.prog 88 #[.string ⟨l.toArray⟩] w fun e w'=>e=.returned (.tuple #[.string ⟨wh.toArray⟩,.int .i64 wp,.int .i64 we])∧Below w.heap.size w w':=by
 have k:=refwhere_any ⟨l.toArray⟩ w (by rw [size_list]; omega);have k2:Calls Tryz.prog 88 #[.string ⟨l.toArray⟩] w fun e w'=>e=.returned (.tuple #[.string ⟨(whereV l).1.toArray⟩,.int .i64 (whereV l).2.1,.int .i64 (whereV l).2.2])∧Below w.heap.size w w':=k;rw [h] at k2;exact k2
theorem params_of (v:Value) (ls:List (List UInt8)) (keep:List UInt8) (w:World) (hk:keep.length≤64) (hn:ls.length≤1048577) (hl:∀ l ∈ ls,l.length≤1048576) (hv:StrsAt w v ls) :
  Calls Tryz.prog 89 #[v,.string ⟨keep.toArray⟩] w fun e w'=>∃ v' b,e=.returned (.tuple #[v',.bool b])∧((∃ ps,parsOf keep ls=some ps∧b=true∧OwnP w' w.heap.size v' ps)∨(parsOf keep ls=none∧b=false∧v'=.slice none 0 0))∧Below w.heap.size w w':=params_any v ls keep w hk hn hl hv
theorem reflower_list (l:List UInt8) (w:World) (hs:l.length≤1048576) :
  Calls Tryz.prog 83 #[.string ⟨l.toArray⟩] w fun e w'=>e=.returned (.string ⟨(lowL l).toArray⟩)∧Below w.heap.size w w' :=
 reflower_txt ⟨l.toArray⟩ w (by rw [size_list]; omega)
theorem has3_r (l:List UInt8) (c:UInt8) (w:World) (hs:l.length≤1048576) :
  Calls Tryz.prog 85 #[.string ⟨l.toArray⟩,.int .u8 c.toNat] w fun e w'=>e=.returned (.bool (hasL c l))∧w'=w :=
 has3_any ⟨l.toArray⟩ c w (by rw [size_list]; unfold maxLen; omega)
theorem written_of {a t keep:List UInt8} {b:Bool} (h:writtenV keep a=(t,b)) (w:World) (hs:a.length≤1048576) (hk:keep.length≤64) :
  Calls Tryz.prog 86 #[.string ⟨a.toArray⟩,.string ⟨keep.toArray⟩] w fun e w'=>e=.returned (.tuple #[.string ⟨t.toArray⟩,.bool b])∧Below w.heap.size w w':=by
 have k:=written_list a keep w hs hk;rw [h] at k;exact k
end Go.Proofs.YtiogedceommcoaaGreatDoor
