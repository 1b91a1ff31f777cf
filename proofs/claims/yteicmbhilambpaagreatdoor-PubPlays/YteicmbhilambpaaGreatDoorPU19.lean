/-
  XChk3, NdOwn, XAwake, PC1, StrSplit, RefHost.
-/
import Derived.Test.YteicmbhilambpaaGreatDoorPU18
import Derived.OneCell
import Derived.WalkMore
import Derived.Lib.OthersKept
import Derived.Deep.AppendLies
import Derived.Lib.FrozenHead2
import Derived.Deep.CutRange
import Derived.Defers
import Derived.Recover
import Derived.Laws.Pointers
import Derived.Laws.RangeString
set_option linter.unusedVariables false
set_option linter.unusedSimpArgs false
set_option maxRecDepth 20000
namespace Go.Proofs.YteicmbhilambpaaGreatDoor
open Go.RowKit Sc
set_option maxHeartbeats 4000000 in
set_option maxRecDepth 100000 in
theorem xcheck_any (v:Value) (cs:List NdC) (w:World) (hz:cs.length≤140737488355328) (hsm:∀ c ∈ cs,SmallN 140737488355328 c.nd) (hv:NdsAt w v cs) :
  Calls Tryz.prog 145 #[v] w fun e w'=>e=.returned (.int .i64 (checkX (ndsL cs)))∧Below w.heap.size w w':=by
 obtain ⟨ao,cap,rfl,hc⟩:=hv;have HC:=hid hc;have HS:=hid hsm;clear hc hsm;by_cases h0:cs.length < 1∨200 < cs.length
 ·have hR:=hid (chk_size h0);generalize checkX (ndsL cs)=R at hR ⊢;obtain ⟨n,hn⟩:∃ n,n=cs.length:=⟨_,rfl⟩
  rw [← hn] at h0 hz ⊢;clear HC HS hn;by_cases h1:n < 1
  ·have r1:((n:Int)==0)=true:=by rw [beq_iff_eq]; omega
   go_enter Tryz.func145,Tryz.ntmps145
   go_wp2;go_ret;exact ⟨ret_int hR.out.symm,Below.refl _ _⟩
  ·have r1:((n:Int)==0)=false:=by rw [beq_eq_false_iff_ne]; omega
   have r2:(200:Int) < (n:Int):=by omega
   go_enter Tryz.func145,Tryz.ntmps145
   go_wp2;go_ret;exact ⟨ret_int hR.out.symm,Below.refl _ _⟩
 have hp:0 < cs.length:=by omega
 have h200:cs.length≤200:=by omega
 obtain ⟨ad,hao,hab,_,_⟩:=HC.out 0 hp;subst hao;have HA:=hid (@okK_all cs hp h200);have HN:=hid (fun m (hm:m < cs.length)=>@okK_node cs m hm);have HP:=hid (fun m (hm:m+1 < cs.length)=>@okK_place cs m hm);have HH:=hid (@chk_head cs hp);generalize checkX (ndsL cs)=R at HA HN HP HH ⊢;obtain ⟨n,hn⟩:∃ n,n=cs.length:=⟨_,rfl⟩
 rw [← hn] at h200 hz ⊢;have HL:=hid hn;have r1:((n:Int)==0)=false:=by rw [beq_eq_false_iff_ne]; omega
 have r2:¬ (200:Int) < (n:Int):=by omega
 clear h0 hn
 go_enter Tryz.func145,Tryz.ntmps145
 go_wp2
 go_loopw [15] (fun i wr=>∃ (j:Nat),j≤n∧i=.int .i64 j∧Below w.heap.size w wr∧Hid (∀ m (hm:m < cs.length),m < j → okK cs m hm)) (fun i _=>n - (intOf i).toNat)
 case atStart=>exact ⟨0,Nat.zero_le _,rfl,Below.refl _ _,fun m _ hm=>by omega⟩
 case round =>
  obtain ⟨j,hjn,rfl,hb,ha⟩:=hrel;by_cases hlt:j < n
  ·have hj1:j < cs.length:=by have:=HL.out; omega
   obtain ⟨ad2,hao,hab2,cN,pa⟩:=HC.out j hj1;have ead:ad2=ad:=(Option.some.inj hao).symm;subst ead;obtain ⟨s1,s2,s3,s4⟩:=HS.out cs[j] (List.getElem_mem hj1);have cN':=cN.below hb hab2;have q6:(j:Int) < (n:Int):=by omega
   obtain ⟨po,pc,hpf⟩:=pa.form;have hrow:=rc_row4 wr (.int .i64 cs[j].nd.deep) (.string ⟨cs[j].nd.name.toArray⟩) cs[j].a (.string ⟨cs[j].nd.text.toArray⟩) 209;have hbn:Below w.heap.size w (wr.alloc (.cells #[.int .i64 cs[j].nd.deep,.string ⟨cs[j].nd.name.toArray⟩,cs[j].a,.string ⟨cs[j].nd.text.toArray⟩] 209)):=hb.alloc hb.size _;have hltn:=alloc_lt wr (.cells #[.int .i64 cs[j].nd.deep,.string ⟨cs[j].nd.name.toArray⟩,cs[j].a,.string ⟨cs[j].nd.text.toArray⟩] 209)
   have hpl:∃ pb:Bool,(pb=false → R=130)∧(pb=true → (j=0 → cs[j].nd.deep=0)∧(∀ h2:0 < j,placedB (cs[j - 1]'(by omega)).nd cs[j].nd=true)∧cs[j].nd.deep < 8)∧∀ w',Below w.heap.size w w' → Calls Tryz.prog 165 #[.slice (some ad2) n cap,.int .i64 (j:Int)] w' fun e w''=>e=.returned (.bool pb)∧Below w'.heap.size w' w'':=by
    by_cases hj0:j=0
    ·subst hj0;refine ⟨cs[0].nd.deep==0,fun h=>HH.out (by simpa using h),fun h=>⟨fun _=>by simpa using h,fun h2=>absurd h2 (by omega),?_⟩,fun w' hw'=>xplaced_first ad2 n cap cs[0] w' (by omega) (cN.below hw' hab2)⟩
     have:cs[0].nd.deep=0:=by simpa using h
     omega
    ·obtain ⟨i,rfl⟩:∃ i,j=i+1:=⟨j - 1,by omega⟩
     obtain ⟨ad3,hao3,hab3,cP,pP⟩:=HC.out i (by omega);have ead3:ad3=ad2:=(Option.some.inj hao3).symm;subst ead3;have hk:=ha.out i (by omega) (by omega);obtain ⟨_,_,_,t4⟩:=HS.out cs[i] (List.getElem_mem _);obtain ⟨qo,qc,hqf⟩:=pP.form;refine ⟨placedB cs[i].nd cs[i+1].nd,fun h=>HP.out i hj1 h,fun h=>⟨fun h2=>by omega,fun _=>h,((placedB_iff _ _).1 h).2.2.2⟩,fun w' hw'=>xplaced_next ad3 n cap i cs[i] cs[i+1] w' (by omega) (by have:=HL.out; omega) (cP.below hw' hab2) (cN.below hw' hab2) ⟨qo,_,qc,hqf⟩ (node_facts hk.2.2).1 (i64_of t4).1⟩
   obtain ⟨pb,hpb1,hpb2,KP'⟩:=hpl;have KP:=hid KP';have HP1:=hid hpb1;have HNj:=hid (HN.out j hj1)
   have HAj:Hid (pb=true → nodeOk cs[j].nd=true → ∀ m (hm:m < cs.length),m < j+1 → okK cs m hm):=fun h1 h2 m hm hmj=>by
    by_cases hq:m < j
    ·exact ha.out m hm hq
    ·have:m=j:=by omega
     subst this;exact ⟨(hpb2 h1).1,(hpb2 h1).2.1,h2⟩
   have HD8:Hid (pb=true → cs[j].nd.deep < 8):=fun h=>(hpb2 h).2.2;have KN:=hid (fun w'=>xname_list cs[j].nd.name w' s1);have KT:=hid (fun w'=>xtext_any cs[j].nd.text w' s2);have KA:=hid (fun w' (h':ParsAt w' cs[j].a cs[j].nd.attrs)=>xattrs_any cs[j].a cs[j].nd.attrs w' s3 h');have HPA:=hid pa;have hok:nodeOk cs[j].nd=(decide (cs[j].nd.deep < 8) && (nameX cs[j].nd.name && (attrsOk cs[j].nd.attrs && (signsX cs[j].nd.text && xtrim cs[j].nd.text==cs[j].nd.text)))):=rfl;clear hpb1 hpb2 KP' HN HP HC HS s1 s2 s3 s4 ha pa cN HH;generalize cs[j]=c at hrow hbn hltn HNj HAj KN KT KA HPA hok cN' HD8 hpf;obtain ⟨⟨cd,cn,ca,ct⟩,cv⟩:=c;simp only at hrow hbn hltn HNj HAj KN KT KA HPA hok HD8 hpf;subst hpf;obtain ⟨c0,c1,c2,c3⟩:=cN';simp only at c0 c1 c2 c3;generalize (signsX ct && xtrim ct==ct)=tb at KT hok
   cases pb with
   | false =>
    have hR:=hid (HP1.out rfl);clear hok HNj HAj HD8;go_wp2_with fail
    clear c0 c1 c2 c3;generalize World.alloc _ _=W0 at hrow hbn hltn ⊢;refine (KP.out _ hbn).mono ?_
    rintro e w2 ⟨rfl,hw2⟩;go_wp2;go_ret;exact ⟨ret_int hR.out.symm,hbn.trans (hw2.mono hbn.size)⟩
   | true =>
    rw [decide_eq_true (HD8.out rfl),Bool.true_and] at hok;have HA2:=hid (HAj.out rfl)
    cases hnm:nameX cn with
    | false =>
     have hR:=hid (HNj.out (by rw [hok,hnm]; rfl));rw [hnm] at KN;clear hok HNj HAj HD8 HA2 hnm HP1;go_wp2_with fail
     clear c0 c1 c2 c3;generalize World.alloc _ _=W0 at hrow hbn hltn ⊢;refine (KP.out _ hbn).mono ?_
     rintro e w2 ⟨rfl,hw2⟩;obtain ⟨d0,d1,d2,d3,_,_,_,_⟩:=(hrow.below hw2 hltn).rc4;go_wp2_with fail
     refine (KN.out _).mono ?_
     rintro e w2 ⟨rfl,rfl⟩;go_wp2;go_ret;exact ⟨ret_int hR.out.symm,hbn.trans (hw2.mono hbn.size)⟩
    | true =>
     rw [hnm,Bool.true_and] at hok;rw [hnm] at KN;clear hnm
     cases hat:attrsOk ca with
     | false =>
      have hR:=hid (HNj.out (by rw [hok,hat]; rfl));rw [hat] at KA;clear hok HNj HAj HD8 HA2 hat HP1;go_wp2_with fail
      clear c0 c1 c2 c3;generalize World.alloc _ _=W0 at hrow hbn hltn ⊢;refine (KP.out _ hbn).mono ?_
      rintro e w2 ⟨rfl,hw2⟩;obtain ⟨d0,d1,d2,d3,_,_,_,_⟩:=(hrow.below hw2 hltn).rc4;have hb2:=hbn.trans (hw2.mono hbn.size);go_wp2_with fail
      refine (KN.out _).mono ?_
      rintro e w2 ⟨rfl,rfl⟩;go_wp2_with fail
      refine (KA.out _ (HPA.out.below hb2)).mono ?_
      rintro e w3 ⟨rfl,hw3⟩;go_wp2;go_ret;exact ⟨ret_int hR.out.symm,hb2.trans (hw3.mono hb2.size)⟩
     | true =>
      rw [hat,Bool.true_and] at hok;rw [hat] at KA;clear hat
      cases tb with
      | false =>
       have hR:=hid (HNj.out hok);clear hok HNj HAj HD8 HA2 HP1;go_wp2_with fail
       clear c0 c1 c2 c3;generalize World.alloc _ _=W0 at hrow hbn hltn ⊢;refine (KP.out _ hbn).mono ?_
       rintro e w2 ⟨rfl,hw2⟩;have hrow2:=hrow.below hw2 hltn;obtain ⟨d0,d1,d2,d3,_,_,_,_⟩:=hrow2.rc4;have hb2:=hbn.trans (hw2.mono hbn.size);go_wp2_with fail
       refine (KN.out _).mono ?_
       rintro e w2 ⟨rfl,rfl⟩;go_wp2_with fail
       refine (KA.out _ (HPA.out.below hb2)).mono ?_
       rintro e w3 ⟨rfl,hw3⟩;obtain ⟨g0,g1,g2,g3,_,_,_,_⟩:=(hrow2.below hw3 (Nat.lt_of_lt_of_le hltn hw2.size)).rc4;have hb3:=hb2.trans (hw3.mono hb2.size);go_wp2_with fail
       refine (KT.out _).mono ?_
       rintro e w4 ⟨rfl,hw4⟩;go_wp2;go_ret;exact ⟨ret_int hR.out.symm,hb3.trans (hw4.mono hb3.size)⟩
      | true =>
       have hN:=hid (HA2.out hok);clear hok HNj HAj HD8 HA2 HP1;go_wp2_with fail
       clear c0 c1 c2 c3;generalize World.alloc _ _=W0 at hrow hbn hltn ⊢;refine (KP.out _ hbn).mono ?_
       rintro e w2 ⟨rfl,hw2⟩;have hrow2:=hrow.below hw2 hltn;obtain ⟨d0,d1,d2,d3,_,_,_,_⟩:=hrow2.rc4;have hb2:=hbn.trans (hw2.mono hbn.size);go_wp2_with fail
       refine (KN.out _).mono ?_
       rintro e w2 ⟨rfl,rfl⟩;go_wp2_with fail
       refine (KA.out _ (HPA.out.below hb2)).mono ?_
       rintro e w3 ⟨rfl,hw3⟩;obtain ⟨g0,g1,g2,g3,_,_,_,_⟩:=(hrow2.below hw3 (Nat.lt_of_lt_of_le hltn hw2.size)).rc4;have hb3:=hb2.trans (hw3.mono hb2.size);go_wp2_with fail
       refine (KT.out _).mono ?_
       rintro e w4 ⟨rfl,hw4⟩;go_wp2;go_roundw
       case rel=>exact ⟨j+1,by omega,by go_num,hb3.trans (hw4.mono hb3.size),hN⟩
       case measure=>simp [intOf]; omega
  ·have hE:Hid (R=0):=HA.out fun m hm=>ha.out m hm (by have:=HL.out; omega);clear ha;go_wp2;go_ret;exact ⟨ret_int hE.out.symm,hb⟩
def ndsCells (cs:List NdC):List Value:=cs.flatMap ndCells
theorem ndCells_len (c:NdC):(ndCells c).length=4:=rfl
theorem ndsCells_get (cs:List NdC) (k:Nat) (hk:k < cs.length) (j:Nat) (u:Value) (h:(ndCells cs[k])[j]? = some u):(ndsCells cs)[k * 4+j]? = some u:=by
 induction cs generalizing k with
 | nil=>simp at hk
 | cons c cs ih =>
  have e:ndsCells (c :: cs)=ndCells c++ndsCells cs:=rfl
  cases k with
  | zero =>
   have hj:j < 4:=by have:=(List.getElem?_eq_some_iff.1 h).1; simpa [ndCells] using this
   rw [e,List.getElem?_append_left (by rw [ndCells_len]; omega),Nat.zero_mul,Nat.zero_add];exact h
  | succ k =>
   have:=ih k (by simpa using hk) (by simpa using h)
   rw [e,List.getElem?_append_right (by rw [ndCells_len]; omega),ndCells_len,show (k+1) * 4+j - 4=k * 4+j by omega];exact this
theorem row_at {w:World} {g:Nat} {e:TypeId} {l:List Value} (h:RowIs w g e l) {j:Nat} {u:Value} (hu:l[j]? = some u):w.cell? ⟨g,j,none⟩=some u:=by
 obtain ⟨hj,rfl⟩:=List.getElem?_eq_some_iff.1 hu;exact h.cell j hj
theorem add_zero_lit (g j:Nat):(⟨g,0,none⟩:Addr).add j=⟨g,j,none⟩:=by unfold Addr.add; split <;> simp_all
theorem row_nds {w:World} {g cap:Nat} {cs:List NdC} (h:RowIs w g 209 (ndsCells cs)) (hp:∀ k (hk:k < cs.length),ParsAt w cs[k].a cs[k].nd.attrs):NdsAt w (.slice (some ⟨g,0,none⟩) cs.length cap) cs:=by
 refine ⟨_,cap,rfl,fun k hk=>⟨_,rfl,(Array.getElem?_eq_some_iff.1 h).1,?_,hp k hk⟩⟩
 have c:∀ j u,(ndCells cs[k])[j]? = some u → w.cell? ⟨g,k * 4+j,none⟩=some u:=fun j u hj=>row_at h (ndsCells_get cs k hk j u hj);refine ⟨?_,?_,?_,?_⟩
 ·rw [add_zero_lit]; exact c 0 _ rfl
 ·rw [add_zero_lit]; exact c 1 _ rfl
 ·rw [add_zero_lit]; exact c 2 _ rfl
 ·rw [add_zero_lit]; exact c 3 _ rfl
theorem below_iter (w:World) (s:ByteArray) (pos:Nat):Below w.heap.size w (w.iter s pos):=(Below.refl _ w).alloc (Nat.le_refl _) _
set_option maxHeartbeats 1000000 in
set_option maxRecDepth 100000 in
theorem pident_any (s:ByteArray) (w:World) (hs:s.size≤140737488355328) :
  Calls Tryz.prog 144 #[.string s] w fun e w'=>e=.returned (.bool (identP s.data.toList))∧Below w.heap.size w w':=by
 have HS:=hid (all_snocX idc s);have HB:=hid (all_badX idc s);have HT:Hid (∀ k,s.size≤k → (s.data.toList.take k).all idc=true → s.data.toList.all idc=true):=fun k hk ha=>by rw [take_all s k hk] at ha; exact ha
 have hl:=len_data s;have hv:identP s.data.toList=(s.data.toList.all idc && (decide (1≤s.size) && decide (s.size≤64))):=by unfold identP; rw [hl]
 by_cases h0:s.size=0
 ·have e:s=⟨#[]⟩:=by
   have:s.data.toList=[]:=List.eq_nil_of_length_eq_zero (by rw [hl]; exact h0)
   apply ByteArray.ext
   apply Array.ext'
   exact this
  have hR:Hid (identP s.data.toList=false):=show _=_ by rw [hv,decide_eq_false (p:=1≤s.size) (by omega)]; simp
  clear hv HS HB HT hl h0;subst e;generalize identP _=R at hR ⊢
  go_enter Tryz.func144,Tryz.ntmps144
  go_wp2;go_ret;exact ⟨ret_bool hR.out.symm,Below.refl _ _⟩
 have he1:(s.data.toList==[])=false:=by rw [beq_eq_false_iff_ne]; intro e; rw [e] at hl; simp at hl; omega
 have he2:s.data.toList.isEmpty=false:=by cases hh:s.data.toList with | nil=>rw [hh] at hl; simp at hl; omega | cons a r=>rfl
 have he3:s.toList.isEmpty=false:=by rw [ByteArray.toList_eq]; exact he2
 by_cases h64:64 < s.size
 ·have q64:(64:Int) < (s.size:Int):=by omega
  have hR:Hid (identP s.data.toList=false):=show _=_ by rw [hv,decide_eq_false (p:=s.size≤64) (by omega)]; simp
  clear hv HS HB HT hl;generalize identP s.data.toList=R at hR ⊢
  go_enter Tryz.func144,Tryz.ntmps144
  go_wp2;go_ret;exact ⟨ret_bool hR.out.symm,Below.refl _ _⟩
 have q64:¬ (64:Int) < (s.size:Int):=by omega
 have hv:identP s.data.toList=s.data.toList.all idc:=by rw [hv,decide_eq_true (p:=1≤s.size) (by omega),decide_eq_true (p:=s.size≤64) (by omega)]; simp
 rw [hv];generalize s.data.toList.all idc=R at HB HT ⊢;clear hv hl
 go_enter Tryz.func144,Tryz.ntmps144
 go_wp2
 go_loopw [4] (fun v wr=>∃ k:Nat,k≤s.size∧wr=w.iter s k∧Hid ((s.data.toList.take k).all idc=true)) (fun _ wr=>s.size - wr.iterPos w.heap.size)
 case atStart=>exact ⟨0,Nat.zero_le _,rfl,show _=_ by simp⟩
 case round =>
  obtain ⟨k,hk,rfl,ha⟩:=hrel;by_cases hlt:k < s.size
  ·have hbd:=u8_bd s[k];by_cases h128:s[k].toNat < 128
   ·have hnx:∀ ty,(Instr.next (.pointer (some ⟨w.heap.size,0,none⟩)) true ty).run Tryz.prog (w.iter s k)=_:=fun ty=>run_next_ascii w s k ty hlt h128;by_cases h33:(s[k].toNat:Int) < 33
    ·have hR:Hid (R=false):=HB.out k hlt (by unfold idc; rw [decide_eq_false (by omega)]; rfl);clear ha HS HB HT;go_wp2;go_ret;exact ⟨ret_bool hR.out.symm,below_iter _ _ _⟩
    ·by_cases h126:126 < (s[k].toNat:Int)
     ·have hR:Hid (R=false):=HB.out k hlt (by unfold idc; rw [decide_eq_false (p:=s[k].toNat≤126) (by omega)]; simp);clear ha HS HB HT;go_wp2;go_ret;exact ⟨ret_bool hR.out.symm,below_iter _ _ _⟩
     ·have ha2:Hid ((s.data.toList.take (k+1)).all idc=true):=HS.out k hlt ha.out (by unfold idc; rw [decide_eq_true (by omega),decide_eq_true (by omega)]; rfl);clear ha HS HB HT;go_wp2;go_roundw
      case rel=>exact ⟨k+1,by omega,rfl,ha2⟩
      case measure=>simp; omega
   ·have hnx:∀ ty,(Instr.next (.pointer (some ⟨w.heap.size,0,none⟩)) true ty).run Tryz.prog (w.iter s k)=_:=fun ty=>run_next_any w s k ty hlt;have hd:=(decode_high s k hlt (by omega)).1;have hR:Hid (R=false):=HB.out k hlt (by unfold idc; rw [decide_eq_false (p:=s[k].toNat≤126) (by omega)]; simp);generalize Utf8.decode s k=D at hnx hd;have r1:¬ (D.1:Int) < 33:=by omega
    have r2:(126:Int) < (D.1:Int):=by omega
    clear ha HS HB HT;go_wp2;go_ret;exact ⟨ret_bool hR.out.symm,below_iter _ _ _⟩
  ·have hnx:∀ ty,(Instr.next (.pointer (some ⟨w.heap.size,0,none⟩)) true ty).run Tryz.prog (w.iter s k)=_:=fun ty=>run_next_end w s k ty hlt;have hR:Hid (R=true):=HT.out k (by omega) ha.out;clear ha HS HB HT;go_wp2;go_ret;exact ⟨ret_bool hR.out.symm,below_iter _ _ _⟩
theorem pident_list (l:List UInt8) (w:World) (h:l.length≤140737488355328) :
  Calls Tryz.prog 144 #[.string ⟨l.toArray⟩] w fun e w'=>e=.returned (.bool (identP l))∧Below w.heap.size w w':=pident_any ⟨l.toArray⟩ w (by rw [size_list]; exact h)
theorem name_note:nameX noteK=true:=by decide +kernel
theorem check_note (l:List UInt8):checkX [⟨0,noteK,[],l⟩]=if (signsX l && xtrim l==l)=true then 0 else 130:=by
 have e:stepsX [⟨0,noteK,[],l⟩]=(signsX l && xtrim l==l):=by
  unfold stepsX;unfold nodeOk
  simp [name_note,attrs_none]
 unfold checkX;rw [e]
 cases (signsX l && xtrim l==l) <;> simp
def noteC (l:List UInt8):List NdC:=[⟨⟨0,noteK,[],l⟩,.slice none 0 0⟩]
theorem note_nds (w:World) (l:List UInt8):NdsAt (w.alloc (.cells #[.int .i64 0,.string ⟨#[110,111,116,101]⟩,.slice none 0 0,.string ⟨l.toArray⟩] 209)) (.slice (some ⟨w.heap.size,0,none⟩) 1 1) (noteC l):=by
 refine row_nds (cs:=noteC l) (rc_row4 w _ _ _ _ _) (fun k hk=>?_)
 simp [noteC] at hk
 subst hk;exact Or.inl ⟨rfl,rfl⟩
set_option maxHeartbeats 1000000 in
set_option maxRecDepth 100000 in
theorem ptext_any (l:List UInt8) (w:World) (h:l.length≤140737488355328) :
  Calls Tryz.prog 125 #[.string ⟨l.toArray⟩] w fun e w'=>e=.returned (.bool (textP l))∧Below w.heap.size w w':=by
 have zl:=size_list l;have hv:textP l=(decide (l.length≤128) && (signsX l && xtrim l==l)):=rfl;generalize textP l=R at hv ⊢;by_cases h1:l.length≤128
 ·rw [decide_eq_true h1,Bool.true_and] at hv;have r1:(l.length:Int)≤128:=by omega
  have K:=hid (xcheck_any _ (noteC l) _ (by simp [noteC]) (by
   intro c hc
   simp [noteC] at hc
   subst hc;exact ⟨by simp [noteK],by simp only; omega,⟨by simp,fun p hp=>by simp at hp⟩,by rfl⟩) (note_nds w l))
  rw [show ndsL (noteC l)=[⟨0,noteK,[],l⟩] from rfl,check_note] at K;generalize (signsX l && xtrim l==l)=T at K hv;have hbn:Below w.heap.size w (w.alloc (.cells #[.int .i64 0,.string ⟨#[110,111,116,101]⟩,.slice none 0 0,.string ⟨l.toArray⟩] 209)):=(Below.refl _ w).alloc (Nat.le_refl _) _;have HV:=hid hv;clear hv
  cases T with
  | false =>
   rw [if_neg (by simp)] at K
   go_enter Tryz.func125,Tryz.ntmps125
   go_wp2_with fail
   refine K.out.mono ?_
   rintro e w' ⟨rfl,hw'⟩;go_wp2;go_ret;exact ⟨ret_bool HV.out.symm,hbn.trans (hw'.mono hbn.size)⟩
  | true =>
   rw [if_pos rfl] at K
   go_enter Tryz.func125,Tryz.ntmps125
   go_wp2_with fail
   refine K.out.mono ?_
   rintro e w' ⟨rfl,hw'⟩;go_wp2;go_ret;exact ⟨ret_bool HV.out.symm,hbn.trans (hw'.mono hbn.size)⟩
 ·rw [decide_eq_false h1,Bool.false_and] at hv;have HV:=hid hv;have r1:¬ (l.length:Int)≤128:=by omega
  clear hv
  go_enter Tryz.func125,Tryz.ntmps125
  go_wp2;go_ret;exact ⟨ret_bool HV.out.symm,Below.refl _ _⟩
theorem splitL_count (c:UInt8) (l:List UInt8):(splitL c l).length=Lib.countByte l c+1:=by
 unfold Lib.countByte
 induction l with
 | nil=>rfl
 | cons x l ih =>
  obtain ⟨p,ps,hp⟩:=splitL_cons c l;rw [splitL];rw [hp] at ih ⊢;by_cases h:x=c
  ·rw [if_pos h,h,List.count_cons_self]; simp at ih ⊢; omega
  ·rw [if_neg h,List.count_cons_of_ne h]; simpa using ih
def filledS (ps:List (List UInt8)) (n:Nat):List Value:=strs ps++List.replicate (n - ps.length) (.string .empty)
theorem filledS_len (ps:List (List UInt8)) (n:Nat) (h:ps.length≤n):(filledS ps n).length=n:=by simp [filledS,strs]; omega
theorem filledS_full (ps:List (List UInt8)) (n:Nat) (h:ps.length=n):filledS ps n=strs ps:=by simp [filledS,h]
theorem filledS_set (ps:List (List UInt8)) (n:Nat) (p:List UInt8) (h:ps.length < n):(filledS ps n).set ps.length (.string ⟨p.toArray⟩)=filledS (ps++[p]) n:=by
 have e:n - ps.length=(n - (ps.length+1))+1:=by omega
 have hl:(strs ps).length=ps.length:=strs_length ps;unfold filledS;rw [List.set_append_right _ _ (by omega),hl,Nat.sub_self,e,List.replicate_succ,List.set_cons_zero,strs_append,List.append_assoc,List.length_append]
 rfl
theorem made_rowS (w:World) (e:TypeId) (n:Nat):RowIs (w.alloc (.cells (madeCells #[.string .empty] n) e)) w.heap.size e (filledS [] n):=by
 unfold RowIs;rw [heap_alloc_new]
 have:madeCells #[.string .empty] n=(filledS [] n).toArray:=by
  apply Array.ext
  ·simp [size_madeCells,filledS,strs]
  ·intro i h1 h2
   simp [madeCells,filledS,strs,Nat.mod_one]
 rw [this]
set_option maxHeartbeats 1000000 in
theorem genSplit_any (l0:List UInt8) (c:UInt8) (w:World) (hs:l0.length≤1048576) :
  Calls Tryz.prog 175 #[.string ⟨l0.toArray⟩,.string ⟨#[c]⟩,.int .i64 0,.int .i64 (-1)] w fun e w'=>∃ v,e=.returned v∧Own w' w.heap.size 9 v (strs (splitL c l0))∧Below w.heap.size w w':=by
 obtain ⟨i0,hi,hz0,hz1,hz2⟩:=info_parts info9;have h0:(ByteArray.mk #[c]).size=1:=rfl;have hz:(⟨l0.toArray⟩:ByteArray).size=l0.length:=size_list l0;obtain ⟨N,hN⟩:∃ N,N=(splitL c l0).length:=⟨_,rfl⟩
 have hN1:N≤l0.length+1:=by rw [hN]; exact splitL_len c l0
 have hmn:min (N:Int) ((l0.length:Int)+1)=(N:Int):=by omega
 have hcn:(Lib.countByte l0 c:Int)=(N:Int) - 1:=by rw [hN,splitL_count]; omega
 have hN0:1≤N:=by rw [hN,splitL_count]; omega
 have hmk:∀ u:World,(Instr.makeSlice 33 (.int .i64 (N:Int)) (.int .i64 (N:Int))).run Tryz.prog u =
   .ok (.slice (some ⟨u.heap.size,0,none⟩) N N) (u.alloc (.cells (madeCells #[.string .empty] N) 9)):=fun u=>by
  have h:=run_make (P:=Tryz.prog) u 33 9 i0 (.string .empty) Tryz.underlying33 hi hz0 .i64 .i64 (N:Int) (N:Int) (by omega) (Int.le_refl _) (by rw [hz2]; omega) (by omega)
  simpa [hz1,Value.cells] using h
 have hr0:Hid (RowIs (w.alloc (.cells (madeCells #[.string .empty] N) 9)) w.heap.size 9 (filledS [] N)):=made_rowS w _ _
 have hw1:IntKind.i64.wrap ((N:Int) - 1+1)=(N:Int):=by
  simp [IntKind.wrap,IntKind.bits,IntKind.signed]; omega
 have hNs:Hid _:=hN;clear hN
 go_enter Tryz.func175,Tryz.ntmps175
 go_wp2_with (go_at_call 194; refine (strCount_any _ c _).mono ?_; rintro e w' ⟨rfl,rfl⟩; rw [hcn])
 clear hmk
 go_loopw [0,10] (fun x i wr=>∃ (r:List UInt8) (ps:List (List UInt8)),x=.string ⟨r.toArray⟩∧i=.int .i64 ps.length∧Hid (splitL c l0=ps++splitL c r)∧r.length≤l0.length∧Hid (RowIs wr w'.heap.size 9 (filledS ps N))∧Below w'.heap.size w' wr) (fun _ i _=>N - (intOf i).toNat)
 case atStart=>exact ⟨l0,[],rfl,rfl,show _=_ from rfl,Nat.le_refl _,hr0,(Below.refl _ _).alloc (Nat.le_refl _) _⟩
 case round =>
  clear hr0 hcn hw1 hz;obtain ⟨r,ps,rfl,rfl,hsp,hrl,hr,hb⟩:=hrel;have hz:(⟨r.toArray⟩:ByteArray).size=r.length:=size_list r;have hln:N=ps.length+(splitL c r).length:=by rw [hNs.out,hsp.out,List.length_append]
  have hln1:1≤(splitL c r).length:=by rw [splitL_count]; omega
  have hf:=hr.out.frozen ps.length;obtain ⟨x,hc⟩:∃ x,wr.cell? ⟨w'.heap.size,ps.length,none⟩=some x:=⟨_,hr.out.cell ps.length (by rw [filledS_len _ _ (by omega)]; omega)⟩
  by_cases hlt:ps.length < N - 1
  ·have hin:c ∈ r:=by
    apply Classical.byContradiction
    intro hno;rw [splitL_cut,cutL_miss hno] at hln
    simp at hln; omega
   rcases idx_cases r c with ⟨h1,_⟩ | ⟨a,b,h1,h2,h3⟩
   ·exact absurd hin h1
   ·have hd:(⟨r.toArray⟩:ByteArray).data.toList=a++c :: b:=h1;obtain ⟨e1,e2,e3⟩:=cut_data ⟨r.toArray⟩ hd;rw [hz] at e3;have hcut:cutL c r=(a,b,true):=by rw [h1]; exact cutL_hit h2
    have hsp2:Hid (splitL c l0=(ps++[a])++splitL c b):=show _=_ by
     have:=splitL_next hsp.out (by rw [hcut]); rw [hcut] at this; exact this
    have hr':Hid (RowIs (wr.setCell ⟨w'.heap.size,ps.length,none⟩ (.string ⟨a.toArray⟩)) w'.heap.size 9 (filledS (ps++[a]) N)):=by
     have h:=hr.out.set ps.length (.string ⟨a.toArray⟩);rw [filledS_set ps N a (by omega)] at h;exact h
    have hwr:IntKind.i64.wrap ((a.length:Int)+1)=((a.length+1:Nat):Int):=by
     simp [IntKind.wrap,IntKind.bits,IntKind.signed]; omega
    have h3':Lib.indexByte (⟨r.toArray⟩:ByteArray).data.toList c=(a.length:Int):=h3;rw [hz,e3] at e2;clear hd hcut hin h1 h2 hsp hr hln hln1;go_wp2_with (go_at_call 195; refine (strIndex_any _ c _).mono ?_; rintro e w2 ⟨rfl,rfl⟩; rw [h3'])
    go_roundw
    case rel=>exact ⟨b,ps++[a],by first | rfl | rw [e2],by simp,hsp2,by omega,hr',hb.setCell (Nat.le_refl _) _⟩
    case measure=>simp [intOf]; omega
  ·have hone:splitL c r=[r]:=by
    have:(splitL c r).length=1:=by omega
    rw [splitL_count,Lib.countByte] at this
    exact splitL_cut c r ▸ (by
     have hno:c ∉ r:=List.count_eq_zero.1 (by omega);rw [cutL_miss hno]; rfl)
   have hr':Hid (Own (wr.setCell ⟨w'.heap.size,ps.length,none⟩ (.string ⟨r.toArray⟩)) w'.heap.size 9 (.slice (some ⟨w'.heap.size,0,none⟩) N N) (strs (splitL c l0))):=by
    have h:=hr.out.set ps.length (.string ⟨r.toArray⟩);rw [filledS_set ps N r (by omega),filledS_full _ _ (by rw [List.length_append,hln,hone])] at h;rw [hsp.out,hone];exact h.own _ N (Nat.le_refl _) (by rw [strs_length,List.length_append,hln,hone]) (by unfold maxLen; omega)
   have hN2:ps.length+1=N:=by rw [hone] at hln; simp at hln; omega
   clear hone hr hsp hln hln1;go_wp2;go_ret;exact ⟨_,rfl,by first | exact hr'.out | (have:=hr'.out; simpa [hN2] using this),hb.setCell (Nat.le_refl _) _⟩
set_option maxHeartbeats 400000 in
theorem strSplit_any (s:ByteArray) (c:UInt8) (w:World) (hs:s.size≤1048576) :
  Calls Tryz.prog 155 #[.string s,.string ⟨#[c]⟩] w fun e w'=>∃ v,e=.returned v∧Own w' w.heap.size 9 v (strs (splitL c s.data.toList))∧Below w.heap.size w w':=by
 have hs0:s=⟨s.data.toList.toArray⟩:=by apply ByteArray.ext; simp
 have hl:=len_data s;generalize s.data.toList=l0 at hs0 hl ⊢;subst hs0;rw [← hl] at hs
 go_enter Tryz.func155,Tryz.ntmps155
 go_wp2_with (go_at_call 175; refine (genSplit_any _ c _ hs).mono ?_; rintro e w' ⟨v,rfl,hown,hb⟩)
 go_ret;exact ⟨_,rfl,hown,hb⟩
def labAll (ps:List (List UInt8)):Bool:=ps.all labB
theorem labAll_snoc {ps:List (List UInt8)} {k:Nat} (hk:k < ps.length) (h:labAll (ps.take k)=true) (hb:labB ps[k]=true):labAll (ps.take (k+1))=true:=by
 unfold labAll at *;rw [List.take_succ_eq_append_getElem hk,List.all_append,h]
 simp [hb]
theorem labAll_bad {ps:List (List UInt8)} {k:Nat} (hk:k < ps.length) (hb:labB ps[k]=false):labAll ps=false:=by
 unfold labAll;rw [List.all_eq_false];exact ⟨ps[k],List.getElem_mem hk,by simp [hb]⟩
end Go.Proofs.YteicmbhilambpaaGreatDoor
