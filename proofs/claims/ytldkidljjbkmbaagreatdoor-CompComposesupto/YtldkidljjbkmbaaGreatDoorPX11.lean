/-
  XAwake, PC1, StrSplit, RefHost, UHost, ScanKit, UWhere, UCheck.
-/
import Derived.Test.YtldkidljjbkmbaaGreatDoorPX10
import Derived.WalkMore
import Derived.Lib.OthersKept
import Derived.Deep.AppendLies
import Derived.Lib.FrozenHead2
import Derived.Deep.CutRange
import Derived.Defers
import Derived.Recover
import Derived.Laws.Pointers
import Derived.Laws.RangeString
import Derived.Maps.OwnOps
import Derived.Maps.OwnSet
set_option linter.unusedVariables false
set_option linter.unusedSimpArgs false
set_option maxRecDepth 20000
namespace Go.Proofs.YtldkidljjbkmbaaGreatDoor
open Go.RowKit Sc
theorem row_at {w:World} {g:Nat} {e:TypeId} {l:List Value} (h:RowIs w g e l) {j:Nat} {u:Value} (hu:l[j]? = some u):w.cell? ⟨g,j,none⟩=some u:=by
 obtain ⟨hj,rfl⟩:=List.getElem?_eq_some_iff.1 hu;exact h.cell j hj
theorem add_zero_lit (g j:Nat):(⟨g,0,none⟩:Addr).add j=⟨g,j,none⟩:=by unfold Addr.add; split <;> simp_all
theorem row_nds {w:World} {g cap:Nat} {cs:List NdC} (h:RowIs w g 82 (ndsCells cs)) (hp:∀ k (hk:k < cs.length),ParsAt w cs[k].a cs[k].nd.attrs):NdsAt w (.slice (some ⟨g,0,none⟩) cs.length cap) cs:=by
 refine ⟨_,cap,rfl,fun k hk=>⟨_,rfl,(Array.getElem?_eq_some_iff.1 h).1,?_,hp k hk⟩⟩
 have c:∀ j u,(ndCells cs[k])[j]? = some u → w.cell? ⟨g,k * 4+j,none⟩=some u:=fun j u hj=>row_at h (ndsCells_get cs k hk j u hj);refine ⟨?_,?_,?_,?_⟩
 ·rw [add_zero_lit]; exact c 0 _ rfl
 ·rw [add_zero_lit]; exact c 1 _ rfl
 ·rw [add_zero_lit]; exact c 2 _ rfl
 ·rw [add_zero_lit]; exact c 3 _ rfl
theorem below_iter (w:World) (s:ByteArray) (pos:Nat):Below w.heap.size w (w.iter s pos):=(Below.refl _ w).alloc (Nat.le_refl _) _
set_option maxHeartbeats 1000000 in
set_option maxRecDepth 100000 in
theorem pident_any (s:ByteArray) (w:World) (hs:s.size≤140737488355328) :
  Calls Tryz.prog 82 #[.string s] w fun e w'=>e=.returned (.bool (identP s.data.toList))∧Below w.heap.size w w':=by
 have HS:=hid (all_snocX idc s);have HB:=hid (all_badX idc s);have HT:Hid (∀ k,s.size≤k → (s.data.toList.take k).all idc=true → s.data.toList.all idc=true):=fun k hk ha=>by rw [take_all s k hk] at ha; exact ha
 have hl:=len_data s;have hv:identP s.data.toList=(s.data.toList.all idc && (decide (1≤s.size) && decide (s.size≤64))):=by unfold identP; rw [hl]
 by_cases h0:s.size=0
 ·have e:s=⟨#[]⟩:=by
   have:s.data.toList=[]:=List.eq_nil_of_length_eq_zero (by rw [hl]; exact h0)
   apply ByteArray.ext
   apply Array.ext'
   exact this
  have hR:Hid (identP s.data.toList=false):=show _=_ by rw [hv,decide_eq_false (p:=1≤s.size) (by omega)]; simp
  clear hv HS HB HT hl h0;subst e;generalize identP _=R at hR ⊢
  go_enter Tryz.func82,Tryz.ntmps82
  go_wp2;go_ret;exact ⟨ret_bool hR.out.symm,Below.refl _ _⟩
 have he1:(s.data.toList==[])=false:=by rw [beq_eq_false_iff_ne]; intro e; rw [e] at hl; simp at hl; omega
 have he2:s.data.toList.isEmpty=false:=by cases hh:s.data.toList with | nil=>rw [hh] at hl; simp at hl; omega | cons a r=>rfl
 have he3:s.toList.isEmpty=false:=by rw [ByteArray.toList_eq]; exact he2
 by_cases h64:64 < s.size
 ·have q64:(64:Int) < (s.size:Int):=by omega
  have hR:Hid (identP s.data.toList=false):=show _=_ by rw [hv,decide_eq_false (p:=s.size≤64) (by omega)]; simp
  clear hv HS HB HT hl;generalize identP s.data.toList=R at hR ⊢
  go_enter Tryz.func82,Tryz.ntmps82
  go_wp2;go_ret;exact ⟨ret_bool hR.out.symm,Below.refl _ _⟩
 have q64:¬ (64:Int) < (s.size:Int):=by omega
 have hv:identP s.data.toList=s.data.toList.all idc:=by rw [hv,decide_eq_true (p:=1≤s.size) (by omega),decide_eq_true (p:=s.size≤64) (by omega)]; simp
 rw [hv];generalize s.data.toList.all idc=R at HB HT ⊢;clear hv hl
 go_enter Tryz.func82,Tryz.ntmps82
 go_wp2
 go_loopw [4] (fun v wr=>∃ k:Nat,k≤s.size∧wr=w.iter s k∧Hid ((s.data.toList.take k).all idc=true)) (fun _ wr=>s.size - wr.iterPos w.heap.size)
 case atStart=>exact ⟨0,Nat.zero_le _,rfl,show _=_ by simp⟩
 case round =>
  obtain ⟨k,hk,rfl,ha⟩:=hrel;by_cases hlt:k < s.size
  ·have hbd:=u8_bd s[k];by_cases h128:s[k].toNat < 128
   ·have hnx:∀ ty,(Instr.next (.pointer (some ⟨w.heap.size,0,none⟩)) true ty).run Tryz.prog (w.iter s k)=_:=fun ty=>run_next_ascii w s k ty hlt h128;by_cases h33:(s[k].toNat:Int) < 33
    ·have hR:Hid (R=false):=HB.out k hlt (by unfold idc; rw [decide_eq_false (by omega)]; rfl);clear ha HS HB HT;go_wp2;go_ret;exact ⟨ret_bool hR.out.symm,below_iter _ _ _⟩
    ·by_cases h126:126 < (s[k].toNat:Int)
     ·have hR:Hid (R=false):=HB.out k hlt (by unfold idc; rw [decide_eq_false (p:=s[k].toNat≤126) (by omega)]; simp);clear ha HS HB HT;go_wp2;go_ret;exact ⟨ret_bool hR.out.symm,below_iter _ _ _⟩
     ·have ha2:Hid ((s.data.toList.take (k+1)).all idc=true):=HS.out k hlt ha.out (by unfold idc; rw [decide_eq_true (by omega),decide_eq_true (by omega)]; rfl);clear ha HS HB HT;go_wp2;go_roundw
      case rel=>exact ⟨k+1,by omega,rfl,ha2⟩
      case measure=>simp; omega
   ·have hnx:∀ ty,(Instr.next (.pointer (some ⟨w.heap.size,0,none⟩)) true ty).run Tryz.prog (w.iter s k)=_:=fun ty=>run_next_any w s k ty hlt;have hd:=(decode_high s k hlt (by omega)).1;have hR:Hid (R=false):=HB.out k hlt (by unfold idc; rw [decide_eq_false (p:=s[k].toNat≤126) (by omega)]; simp);generalize Utf8.decode s k=D at hnx hd;have r1:¬ (D.1:Int) < 33:=by omega
    have r2:(126:Int) < (D.1:Int):=by omega
    clear ha HS HB HT;go_wp2;go_ret;exact ⟨ret_bool hR.out.symm,below_iter _ _ _⟩
  ·have hnx:∀ ty,(Instr.next (.pointer (some ⟨w.heap.size,0,none⟩)) true ty).run Tryz.prog (w.iter s k)=_:=fun ty=>run_next_end w s k ty hlt;have hR:Hid (R=true):=HT.out k (by omega) ha.out;clear ha HS HB HT;go_wp2;go_ret;exact ⟨ret_bool hR.out.symm,below_iter _ _ _⟩
theorem pident_list (l:List UInt8) (w:World) (h:l.length≤140737488355328) :
  Calls Tryz.prog 82 #[.string ⟨l.toArray⟩] w fun e w'=>e=.returned (.bool (identP l))∧Below w.heap.size w w':=pident_any ⟨l.toArray⟩ w (by rw [size_list]; exact h)
theorem name_note:nameX noteK=true:=by decide +kernel
theorem check_note (l:List UInt8):checkX [⟨0,noteK,[],l⟩]=if (signsX l && xtrim l==l)=true then 0 else 130:=by
 have e:stepsX [⟨0,noteK,[],l⟩]=(signsX l && xtrim l==l):=by
  unfold stepsX;unfold nodeOk
  simp [name_note,attrs_none]
 unfold checkX;rw [e]
 cases (signsX l && xtrim l==l) <;> simp
def noteC (l:List UInt8):List NdC:=[⟨⟨0,noteK,[],l⟩,.slice none 0 0⟩]
theorem note_nds (w:World) (l:List UInt8):NdsAt (w.alloc (.cells #[.int .i64 0,.string ⟨#[110,111,116,101]⟩,.slice none 0 0,.string ⟨l.toArray⟩] 82)) (.slice (some ⟨w.heap.size,0,none⟩) 1 1) (noteC l):=by
 refine row_nds (cs:=noteC l) (rc_row4 w _ _ _ _ _) (fun k hk=>?_)
 simp [noteC] at hk
 subst hk;exact Or.inl ⟨rfl,rfl⟩
set_option maxHeartbeats 1000000 in
set_option maxRecDepth 100000 in
theorem ptext_any (l:List UInt8) (w:World) (h:l.length≤140737488355328) :
  Calls Tryz.prog 55 #[.string ⟨l.toArray⟩] w fun e w'=>e=.returned (.bool (textP l))∧Below w.heap.size w w':=by
 have zl:=size_list l;have hv:textP l=(decide (l.length≤128) && (signsX l && xtrim l==l)):=rfl;generalize textP l=R at hv ⊢;by_cases h1:l.length≤128
 ·rw [decide_eq_true h1,Bool.true_and] at hv;have r1:(l.length:Int)≤128:=by omega
  have K:=hid (xcheck_any _ (noteC l) _ (by simp [noteC]) (by
   intro c hc
   simp [noteC] at hc
   subst hc;exact ⟨by simp [noteK],by simp only; omega,⟨by simp,fun p hp=>by simp at hp⟩,by rfl⟩) (note_nds w l))
  rw [show ndsL (noteC l)=[⟨0,noteK,[],l⟩] from rfl,check_note] at K;generalize (signsX l && xtrim l==l)=T at K hv;have hbn:Below w.heap.size w (w.alloc (.cells #[.int .i64 0,.string ⟨#[110,111,116,101]⟩,.slice none 0 0,.string ⟨l.toArray⟩] 82)):=(Below.refl _ w).alloc (Nat.le_refl _) _;have HV:=hid hv;clear hv
  cases T with
  | false =>
   rw [if_neg (by simp)] at K
   go_enter Tryz.func55,Tryz.ntmps55
   go_wp2_with fail
   refine K.out.mono ?_
   rintro e w' ⟨rfl,hw'⟩;go_wp2;go_ret;exact ⟨ret_bool HV.out.symm,hbn.trans (hw'.mono hbn.size)⟩
  | true =>
   rw [if_pos rfl] at K
   go_enter Tryz.func55,Tryz.ntmps55
   go_wp2_with fail
   refine K.out.mono ?_
   rintro e w' ⟨rfl,hw'⟩;go_wp2;go_ret;exact ⟨ret_bool HV.out.symm,hbn.trans (hw'.mono hbn.size)⟩
 ·rw [decide_eq_false h1,Bool.false_and] at hv;have HV:=hid hv;have r1:¬ (l.length:Int)≤128:=by omega
  clear hv
  go_enter Tryz.func55,Tryz.ntmps55
  go_wp2;go_ret;exact ⟨ret_bool HV.out.symm,Below.refl _ _⟩
theorem splitL_count (c:UInt8) (l:List UInt8):(splitL c l).length=Lib.countByte l c+1:=by
 unfold Lib.countByte
 induction l with
 | nil=>rfl
 | cons x l ih =>
  obtain ⟨p,ps,hp⟩:=splitL_cons c l;rw [splitL];rw [hp] at ih ⊢;by_cases h:x=c
  ·rw [if_pos h,h,List.count_cons_self]; simp at ih ⊢; omega
  ·rw [if_neg h,List.count_cons_of_ne h]; simpa using ih
def filledS (ps:List (List UInt8)) (n:Nat):List Value:=strs ps++List.replicate (n - ps.length) (.string .empty)
theorem filledS_len (ps:List (List UInt8)) (n:Nat) (h:ps.length≤n):(filledS ps n).length=n:=by simp [filledS,strs]; omega
theorem filledS_full (ps:List (List UInt8)) (n:Nat) (h:ps.length=n):filledS ps n=strs ps:=by simp [filledS,h]
theorem filledS_set (ps:List (List UInt8)) (n:Nat) (p:List UInt8) (h:ps.length < n):(filledS ps n).set ps.length (.string ⟨p.toArray⟩)=filledS (ps++[p]) n:=by
 have e:n - ps.length=(n - (ps.length+1))+1:=by omega
 have hl:(strs ps).length=ps.length:=strs_length ps;unfold filledS;rw [List.set_append_right _ _ (by omega),hl,Nat.sub_self,e,List.replicate_succ,List.set_cons_zero,strs_append,List.append_assoc,List.length_append]
 rfl
theorem made_rowS (w:World) (e:TypeId) (n:Nat):RowIs (w.alloc (.cells (madeCells #[.string .empty] n) e)) w.heap.size e (filledS [] n):=by
 unfold RowIs;rw [heap_alloc_new]
 have:madeCells #[.string .empty] n=(filledS [] n).toArray:=by
  apply Array.ext
  ·simp [size_madeCells,filledS,strs]
  ·intro i h1 h2
   simp [madeCells,filledS,strs,Nat.mod_one]
 rw [this]
set_option maxHeartbeats 1000000 in
theorem genSplit_any (l0:List UInt8) (c:UInt8) (w:World) (hs:l0.length≤1048640) :
  Calls Tryz.prog 137 #[.string ⟨l0.toArray⟩,.string ⟨#[c]⟩,.int .i64 0,.int .i64 (-1)] w fun e w'=>∃ v,e=.returned v∧Own w' w.heap.size 9 v (strs (splitL c l0))∧Below w.heap.size w w':=by
 obtain ⟨i0,hi,hz0,hz1,hz2⟩:=info_parts info9;have h0:(ByteArray.mk #[c]).size=1:=rfl;have hz:(⟨l0.toArray⟩:ByteArray).size=l0.length:=size_list l0;obtain ⟨N,hN⟩:∃ N,N=(splitL c l0).length:=⟨_,rfl⟩
 have hN1:N≤l0.length+1:=by rw [hN]; exact splitL_len c l0
 have hmn:min (N:Int) ((l0.length:Int)+1)=(N:Int):=by omega
 have hcn:(Lib.countByte l0 c:Int)=(N:Int) - 1:=by rw [hN,splitL_count]; omega
 have hN0:1≤N:=by rw [hN,splitL_count]; omega
 have hmk:∀ u:World,(Instr.makeSlice 26 (.int .i64 (N:Int)) (.int .i64 (N:Int))).run Tryz.prog u =
   .ok (.slice (some ⟨u.heap.size,0,none⟩) N N) (u.alloc (.cells (madeCells #[.string .empty] N) 9)):=fun u=>by
  have h:=run_make (P:=Tryz.prog) u 26 9 i0 (.string .empty) Tryz.underlying26 hi hz0 .i64 .i64 (N:Int) (N:Int) (by omega) (Int.le_refl _) (by rw [hz2]; omega) (by omega)
  simpa [hz1,Value.cells] using h
 have hr0:Hid (RowIs (w.alloc (.cells (madeCells #[.string .empty] N) 9)) w.heap.size 9 (filledS [] N)):=made_rowS w _ _
 have hw1:IntKind.i64.wrap ((N:Int) - 1+1)=(N:Int):=by
  simp [IntKind.wrap,IntKind.bits,IntKind.signed]; omega
 have hNs:Hid _:=hN;clear hN
 go_enter Tryz.func137,Tryz.ntmps137
 go_wp2_with (go_at_call 161; refine (strCount_any _ c _).mono ?_; rintro e w' ⟨rfl,rfl⟩; rw [hcn])
 clear hmk
 go_loopw [0,10] (fun x i wr=>∃ (r:List UInt8) (ps:List (List UInt8)),x=.string ⟨r.toArray⟩∧i=.int .i64 ps.length∧Hid (splitL c l0=ps++splitL c r)∧r.length≤l0.length∧Hid (RowIs wr w'.heap.size 9 (filledS ps N))∧Below w'.heap.size w' wr) (fun _ i _=>N - (intOf i).toNat)
 case atStart=>exact ⟨l0,[],rfl,rfl,show _=_ from rfl,Nat.le_refl _,hr0,(Below.refl _ _).alloc (Nat.le_refl _) _⟩
 case round =>
  clear hr0 hcn hw1 hz;obtain ⟨r,ps,rfl,rfl,hsp,hrl,hr,hb⟩:=hrel;have hz:(⟨r.toArray⟩:ByteArray).size=r.length:=size_list r;have hln:N=ps.length+(splitL c r).length:=by rw [hNs.out,hsp.out,List.length_append]
  have hln1:1≤(splitL c r).length:=by rw [splitL_count]; omega
  have hf:=hr.out.frozen ps.length;obtain ⟨x,hc⟩:∃ x,wr.cell? ⟨w'.heap.size,ps.length,none⟩=some x:=⟨_,hr.out.cell ps.length (by rw [filledS_len _ _ (by omega)]; omega)⟩
  by_cases hlt:ps.length < N - 1
  ·have hin:c ∈ r:=by
    apply Classical.byContradiction
    intro hno;rw [splitL_cut,cutL_miss hno] at hln
    simp at hln; omega
   rcases idx_cases r c with ⟨h1,_⟩ | ⟨a,b,h1,h2,h3⟩
   ·exact absurd hin h1
   ·have hd:(⟨r.toArray⟩:ByteArray).data.toList=a++c :: b:=h1;obtain ⟨e1,e2,e3⟩:=cut_data ⟨r.toArray⟩ hd;rw [hz] at e3;have hcut:cutL c r=(a,b,true):=by rw [h1]; exact cutL_hit h2
    have hsp2:Hid (splitL c l0=(ps++[a])++splitL c b):=show _=_ by
     have:=splitL_next hsp.out (by rw [hcut]); rw [hcut] at this; exact this
    have hr':Hid (RowIs (wr.setCell ⟨w'.heap.size,ps.length,none⟩ (.string ⟨a.toArray⟩)) w'.heap.size 9 (filledS (ps++[a]) N)):=by
     have h:=hr.out.set ps.length (.string ⟨a.toArray⟩);rw [filledS_set ps N a (by omega)] at h;exact h
    have hwr:IntKind.i64.wrap ((a.length:Int)+1)=((a.length+1:Nat):Int):=by
     simp [IntKind.wrap,IntKind.bits,IntKind.signed]; omega
    have h3':Lib.indexByte (⟨r.toArray⟩:ByteArray).data.toList c=(a.length:Int):=h3;rw [hz,e3] at e2;clear hd hcut hin h1 h2 hsp hr hln hln1;go_wp2_with (go_at_call 162; refine (strIndex_any _ c _).mono ?_; rintro e w2 ⟨rfl,rfl⟩; rw [h3'])
    go_roundw
    case rel=>exact ⟨b,ps++[a],by first | rfl | rw [e2],by simp,hsp2,by omega,hr',hb.setCell (Nat.le_refl _) _⟩
    case measure=>simp [intOf]; omega
  ·have hone:splitL c r=[r]:=by
    have:(splitL c r).length=1:=by omega
    rw [splitL_count,Lib.countByte] at this
    exact splitL_cut c r ▸ (by
     have hno:c ∉ r:=List.count_eq_zero.1 (by omega);rw [cutL_miss hno]; rfl)
   have hr':Hid (Own (wr.setCell ⟨w'.heap.size,ps.length,none⟩ (.string ⟨r.toArray⟩)) w'.heap.size 9 (.slice (some ⟨w'.heap.size,0,none⟩) N N) (strs (splitL c l0))):=by
    have h:=hr.out.set ps.length (.string ⟨r.toArray⟩);rw [filledS_set ps N r (by omega),filledS_full _ _ (by rw [List.length_append,hln,hone])] at h;rw [hsp.out,hone];exact h.own _ N (Nat.le_refl _) (by rw [strs_length,List.length_append,hln,hone]) (by unfold maxLen; omega)
   have hN2:ps.length+1=N:=by rw [hone] at hln; simp at hln; omega
   clear hone hr hsp hln hln1;go_wp2;go_ret;exact ⟨_,rfl,by first | exact hr'.out | (have:=hr'.out; simpa [hN2] using this),hb.setCell (Nat.le_refl _) _⟩
set_option maxHeartbeats 400000 in
theorem strSplit_any (s:ByteArray) (c:UInt8) (w:World) (hs:s.size≤1048640) :
  Calls Tryz.prog 109 #[.string s,.string ⟨#[c]⟩] w fun e w'=>∃ v,e=.returned v∧Own w' w.heap.size 9 v (strs (splitL c s.data.toList))∧Below w.heap.size w w':=by
 have hs0:s=⟨s.data.toList.toArray⟩:=by apply ByteArray.ext; simp
 have hl:=len_data s;generalize s.data.toList=l0 at hs0 hl ⊢;subst hs0;rw [← hl] at hs
 go_enter Tryz.func109,Tryz.ntmps109
 go_wp2_with (go_at_call 137; refine (genSplit_any _ c _ hs).mono ?_; rintro e w' ⟨v,rfl,hown,hb⟩)
 go_ret;exact ⟨_,rfl,hown,hb⟩
def labAll (ps:List (List UInt8)):Bool:=ps.all labB
theorem labAll_snoc {ps:List (List UInt8)} {k:Nat} (hk:k < ps.length) (h:labAll (ps.take k)=true) (hb:labB ps[k]=true):labAll (ps.take (k+1))=true:=by
 unfold labAll at *;rw [List.take_succ_eq_append_getElem hk,List.all_append,h]
 simp [hb]
theorem labAll_bad {ps:List (List UInt8)} {k:Nat} (hk:k < ps.length) (hb:labB ps[k]=false):labAll ps=false:=by
 unfold labAll;rw [List.all_eq_false];exact ⟨ps[k],List.getElem_mem hk,by simp [hb]⟩
set_option maxHeartbeats 400000 in
theorem scheme_any (s:ByteArray) (w:World) :
  Calls Tryz.prog 76 #[.string s] w fun e w'=>e=.returned (.bool (schemeB s.data.toList))∧w'=w:=by
 have hb:schemeB s.data.toList=(s.toList==[115,105,112] || (s.toList==[115,105,112,115] || s.toList==[112,114,101,115])):=by rw [ByteArray.toList_eq]; rfl
 have HB:Hid _:=hb; clear hb
 cases h1:(s.toList==[115,105,112]) <;> cases h2:(s.toList==[115,105,112,115]) <;> cases h3:(s.toList==[112,114,101,115])
 all_goals (
  rw [h1,h2,h3] at HB
  go_enter Tryz.func76,Tryz.ntmps76
  go_wp2;go_ret;exact ⟨ret_bool HB.out.symm,rfl⟩)
theorem scheme_list (l:List UInt8) (w:World) :
  Calls Tryz.prog 76 #[.string ⟨l.toArray⟩] w fun e w'=>e=.returned (.bool (schemeB l))∧w'=w:=scheme_any ⟨l.toArray⟩ w
theorem labB_eq (p:List UInt8):labB p=(decide (1≤p.length) && (allB 64 p && (!startsB 45 p && !endsB 45 p))):=rfl
set_option maxHeartbeats 400000 in
theorem label_any (t:ByteArray) (w:World) (ht:t.size≤maxLen) :
  Calls Tryz.prog 142 #[.string t] w fun e w'=>e=.returned (.bool (labB t.data.toList))∧w'=w:=by
 have hm:t.size≤9223372036854775807:=ht;have hv:=labB_eq t.data.toList;rw [len_data] at hv;by_cases hz:t.size=0
 ·have hE:=isE_true hz;have HV:Hid (labB t.data.toList=false):=show _=_ by rw [hv]; simp [hz]
  clear hv
  go_enter Tryz.func142,Tryz.ntmps142
  go_wp2;go_ret;exact ⟨ret_bool HV.out.symm,rfl⟩
 ·have hp:0 < t.size:=by omega
  have hE:=isE_false hp;have hd:decide (1≤t.size)=true:=decide_eq_true hp;rw [hd,Bool.true_and] at hv
  cases ha:allB 64 t.data.toList
  ·have HV:Hid (labB t.data.toList=false):=show _=_ by rw [hv,ha]; rfl
   clear hv
   go_enter Tryz.func142,Tryz.ntmps142
   go_wp2_with (go_at_call 158; refine (all_any _ _ _ ht).mono ?_; rintro e w' ⟨rfl,rfl⟩; rw [ha])
   go_ret;exact ⟨ret_bool HV.out.symm,rfl⟩
  ·cases hf:startsB 45 t.data.toList
   ·have HV:Hid (labB t.data.toList=!endsB 45 t.data.toList):=show _=_ by rw [hv,ha,hf]; rfl
    clear hv
    go_enter Tryz.func142,Tryz.ntmps142
    go_wp2_with (first
     | (go_at_call 158; refine (all_any _ _ _ ht).mono ?_; rintro e w' ⟨rfl,rfl⟩; rw [ha])
     | (go_at_call 140; refine (strPrefix_any _ 45 _ rfl).mono ?_; rintro e w' ⟨rfl,rfl⟩; rw [hf])
     | (go_at_call 163; refine (strSuffix_any _ 45 _ rfl hm).mono ?_; rintro e w' ⟨rfl,rfl⟩))
    go_ret;exact ⟨ret_bool HV.out.symm,rfl⟩
   ·have HV:Hid (labB t.data.toList=false):=show _=_ by rw [hv,ha,hf]; rfl
    clear hv
    go_enter Tryz.func142,Tryz.ntmps142
    go_wp2_with (first
     | (go_at_call 158; refine (all_any _ _ _ ht).mono ?_; rintro e w' ⟨rfl,rfl⟩; rw [ha])
     | (go_at_call 140; refine (strPrefix_any _ 45 _ rfl).mono ?_; rintro e w' ⟨rfl,rfl⟩; rw [hf]))
    go_ret;exact ⟨ret_bool HV.out.symm,rfl⟩
set_option maxHeartbeats 1000000 in
theorem numbered_any (s:ByteArray) (w:World) (hs:s.size≤maxLen) :
  Calls Tryz.prog 141 #[.string s] w fun e w'=>e=.returned (.bool (brkB s.data.toList))∧w'=w:=by
 have hm:s.size≤9223372036854775807:=hs;by_cases h4:4≤s.size
 ·cases he:endsB 93 s.data.toList
  ·have HV:Hid (brkB s.data.toList=false):=brk_last rfl (by
    rw [endsB,len_data] at he; simpa using he)
   go_enter Tryz.func141,Tryz.ntmps141
   go_wp2_with (go_at_call 163; refine (strSuffix_any _ 93 _ rfl hm).mono ?_; rintro e w' ⟨rfl,rfl⟩; rw [he])
   go_ret;exact ⟨ret_bool HV.out.symm,rfl⟩
  ·have hla:Hid (s.data.toList.getD (s.size - 1) 0=93):=show _=_ by rw [endsB,len_data] at he; simpa using he
   go_enter Tryz.func141,Tryz.ntmps141
   go_wp2_with (go_at_call 163; refine (strSuffix_any _ 93 _ rfl hm).mono ?_; rintro e w' ⟨rfl,rfl⟩; rw [he])
   go_loop [3,4] (fun x i=>∃ k n:Nat,1≤k∧k+1≤s.size∧n≤k∧i=.int .i64 k∧x=.int .i64 n∧Hid ((mid s.data.toList 1 k).all okc=true)∧Hid ((mid s.data.toList 1 k).count 58=n)) (fun _ i=>s.size - (intOf i).toNat)
   case atStart=>exact ⟨1,0,by omega,by omega,by omega,rfl,rfl,show _=_ by simp [mid],show _=_ by simp [mid]⟩
   case round =>
    obtain ⟨k,n,hk1,hk,hnk,rfl,rfl,hall,hcnt⟩:=hrel;by_cases hlt:k+1 < s.size
    ·have hbd:=u8_bd s[k];have hms:=mid_snoc s 1 k hk1 (by omega);by_cases h58:s[k]=58
     ·have e58:((s[k].toNat:Int)==58)=true:=by rw [h58]; rfl
      have ha2:Hid ((mid s.data.toList 1 (k+1)).all okc=true):=show _=_ by rw [hms,List.all_append,hall.out,h58]; decide
      have hc2:Hid ((mid s.data.toList 1 (k+1)).count 58=n+1):=show _=_ by rw [hms,List.count_append,hcnt.out,h58]; rfl
      clear hms h58 hall hcnt;go_wp2
      go_round
      case rel=>exact ⟨k+1,n+1,by omega,by omega,by omega,by go_num,by go_num,ha2,hc2⟩
      case measure=>simp [intOf]; omega
     ·have e58:((s[k].toNat:Int)==58)=false:=u8_ne h58
      have hc2:Hid ((mid s.data.toList 1 (k+1)).count 58=n):=show _=_ by
       rw [hms,List.count_append,hcnt.out]
       have:List.count 58 [s[k]]=0:=List.count_eq_zero.2 (by simp; intro e; exact h58 e.symm)
       omega
      by_cases h46:s[k]=46
      ·have e46:((s[k].toNat:Int) != 46)=false:=by rw [h46]; rfl
       have ha2:Hid ((mid s.data.toList 1 (k+1)).all okc=true):=show _=_ by rw [hms,List.all_append,hall.out,h46]; decide
       clear hms h58 h46 hall hcnt;go_wp2
       go_round
       case rel=>exact ⟨k+1,n,by omega,by omega,by omega,by go_num,by go_num,ha2,hc2⟩
       case measure=>simp [intOf]; omega
      ·have e46:((s[k].toNat:Int) != 46)=true:=by
        have:=u8_ne h46
        simp only [bne,Bool.not_eq_true']; exact this
       by_cases hx:isB s[k].toNat 4=true
       ·have ha2:Hid ((mid s.data.toList 1 (k+1)).all okc=true):=show _=_ by rw [hms,List.all_append,hall.out]; simp [okc,hx]
        have hx2:(bits BinOp.and IntKind.i64 (cls s[k].toNat) 4==0)=false:=by simpa [isB] using hx
        clear hms h58 h46 hall hcnt hx;go_wp2_with (go_at_call 125; refine (class_any _ _ hbd.1 hbd.2).mono ?_; rintro e w' ⟨rfl,rfl⟩)
        go_round
        case rel=>exact ⟨k+1,n,by omega,by omega,by omega,by go_num,by go_num,ha2,hc2⟩
        case measure=>simp [intOf]; omega
       ·have hx2:(bits BinOp.and IntKind.i64 (cls s[k].toNat) 4==0)=true:=by simpa [isB] using hx
        have hbad:Hid (brkB s.data.toList=false):=brk_bad hk1 hlt (by
         simp only [okc,Bool.or_eq_false_iff,beq_eq_false_iff_ne,ne_eq];exact ⟨h58,h46,by simpa using hx⟩)
        clear hms h58 h46 hall hcnt hx hc2;go_wp2_with (go_at_call 125; refine (class_any _ _ hbd.1 hbd.2).mono ?_; rintro e w' ⟨rfl,rfl⟩)
        go_ret;exact ⟨ret_bool hbad.out.symm,rfl⟩
    ·have hke:k=s.size - 1:=by omega
     have hend:Hid (brkB s.data.toList=decide (2≤n)):=brk_end h4 hke hall.out hcnt.out (by rw [hke]; exact hla.out);clear hall hcnt hla;go_wp2
     all_goals go_ret
     all_goals exact ⟨ret_bool (by rw [hend.out]; simp; omega),rfl⟩
 ·have HV:Hid (brkB s.data.toList=false):=brk_short h4
  go_enter Tryz.func141,Tryz.ntmps141
  go_wp2;go_ret;exact ⟨ret_bool HV.out.symm,rfl⟩
theorem host_lab0 {l:List UInt8} (h2:l.length≤64) (h:(lowL l==l)=true) (hb:startsB 91 l=false):hostB l=labAll (splitL 46 l):=by
 have hb':¬ l.getD 0 0=91:=by simpa [startsB] using hb
 cases l with
 | nil=>rfl
 | cons x l=>exact host_lab (by simp) h2 h hb'
theorem host_brk0 {l:List UInt8} (h2:l.length≤64) (h:(lowL l==l)=true) (hb:startsB 91 l=true):hostB l=brkB l:=by
 have hb':l.getD 0 0=91:=by simpa [startsB] using hb
 cases l with
 | nil=>simp at hb'
 | cons x l=>exact host_brk (by simp) h2 h hb'
set_option maxHeartbeats 2000000 in
theorem host_any (s:ByteArray) (w:World) (hs:s.size≤140737488355328) :
  Calls Tryz.prog 112 #[.string s] w fun e w'=>e=.returned (.bool (hostB s.data.toList))∧Below w.heap.size w w':=by
 have hl:=len_data s;by_cases h64:64 < s.size
 ·have hv:Hid (hostB s.data.toList=false):=host_long (by omega);clear hl
  go_enter Tryz.func112,Tryz.ntmps112
  go_wp2;go_ret;exact ⟨ret_bool hv.out.symm,Below.refl _ _⟩
 have hsm:s.size≤maxLen:=by unfold maxLen; omega
 cases hlow:(s.data.toList==lowL s.data.toList)
 ·have hlq:(s.toList==lowL s.data.toList)=false:=by rw [ByteArray.toList_eq,hlow]
  have hv:Hid (hostB s.data.toList=false):=host_caps (by rw [← hlow]; exact Bool.beq_comm);clear hlow hl
  go_enter Tryz.func112,Tryz.ntmps112
  go_wp2_with (go_at_call 75; refine (lower_txt _ _ (by omega)).mono ?_; rintro e w1 ⟨rfl,hw1⟩)
  go_ret;exact ⟨ret_bool hv.out.symm,hw1⟩
 ·have hlq:(s.toList==lowL s.data.toList)=true:=by rw [ByteArray.toList_eq,hlow]
  have hlow':(lowL s.data.toList==s.data.toList)=true:=by rw [← hlow]; exact Bool.beq_comm
  cases hst:startsB 91 s.data.toList
  ·have hv:Hid (hostB s.data.toList=labAll (splitL 46 s.data.toList)):=host_lab0 (by omega) hlow' hst;have hmem:=splitL_mem_len 46 s.data.toList;have hcnt:=splitL_len 46 s.data.toList;rw [hl] at hmem hcnt;obtain ⟨p0,ps0,hp0⟩:=splitL_cons 46 s.data.toList;have hnil:splitL 46 s.data.toList ≠ []:=by rw [hp0]; simp
   clear hlow hlow' hl hp0;have HM:Hid _:=hmem; clear hmem
   have HN:Hid _:=hnil; clear hnil
   have HC:Hid _:=hcnt; clear hcnt
   go_enter Tryz.func112,Tryz.ntmps112
   go_wp2_with (first
    | (go_at_call 75; refine (lower_txt _ _ (by omega)).mono ?_; rintro e w1 ⟨rfl,hw1⟩)
    | (go_at_call 140; refine (strPrefix_any _ 91 _ rfl).mono ?_; rintro e w' ⟨rfl,rfl⟩; rw [hst])
    | (go_at_call 109; refine (strSplit_any s 46 _ (by omega)).mono ?_; rintro e w2 ⟨v,rfl,hown,hw2⟩; obtain ⟨g,cap,rfl,hcells⟩:=own_strs hown HN.out))
   clear hlq hst;have hw3:=hw1.trans (hw2.mono hw1.size);generalize splitL 46 s.data.toList=ps at hv hcells HM HN HC;have hpl:=HC.out;have HK:Hid _:=hcells; clear hcells hown HN HC hw1 hw2
   go_loop [21] (fun i=>∃ k:Nat,k≤ps.length∧i=.int .i64 k∧Hid (labAll (ps.take k)=true)) (fun i=>ps.length - (intOf i).toNat)
   case atStart=>exact ⟨0,by omega,rfl,rfl⟩
   case round =>
    obtain ⟨k,hk,rfl,hlab⟩:=hrel;by_cases hlt:k < ps.length
    ·have hc:=HK.out k hlt;have hpm:=HM.out ps[k] (List.getElem_mem hlt);obtain ⟨t,ht⟩:∃ t:ByteArray,t=⟨ps[k].toArray⟩:=⟨_,rfl⟩
     have htl:t.data.toList=ps[k]:=by rw [ht]
     rw [← ht] at hc;rw [← htl,len_data] at hpm;have htm:t.size≤maxLen:=by unfold maxLen; omega
     cases hb:labB t.data.toList
     ·have hbad:Hid (labAll ps=false):=labAll_bad hlt (by rw [← htl]; exact hb);clear ht htl hlab;go_wp2_with (go_at_call 142; refine (label_any _ _ htm).mono ?_; rintro e w' ⟨rfl,rfl⟩; rw [hb])
      go_ret;exact ⟨ret_bool (by rw [hv.out,hbad.out]),hw3⟩
     ·have hgood:Hid (labAll (ps.take (k+1))=true):=labAll_snoc hlt hlab.out (by rw [← htl]; exact hb);clear ht htl hlab;go_wp2_with (go_at_call 142; refine (label_any _ _ htm).mono ?_; rintro e w' ⟨rfl,rfl⟩; rw [hb])
      go_round
      case rel=>exact ⟨k+1,by omega,by go_num,hgood⟩
      case measure=>simp [intOf]; omega
    ·have he:ps.take k=ps:=List.take_of_length_le (by omega);have hb:Hid (labAll ps=true):=show _=_ by rw [← hlab.out,he]
     clear hlab;go_wp2;go_ret;exact ⟨ret_bool (by rw [hv.out,hb.out]),hw3⟩
  ·have hv:Hid (hostB s.data.toList=brkB s.data.toList):=host_brk0 (by omega) hlow' hst;clear hlow hlow' hl
   go_enter Tryz.func112,Tryz.ntmps112
   go_wp2_with (first
    | (go_at_call 75; refine (lower_txt _ _ (by omega)).mono ?_; rintro e w1 ⟨rfl,hw1⟩)
    | (go_at_call 140; refine (strPrefix_any _ 91 _ rfl).mono ?_; rintro e w' ⟨rfl,rfl⟩; rw [hst])
    | (go_at_call 141; refine (numbered_any s _ hsm).mono ?_; rintro e w' ⟨rfl,rfl⟩))
   go_ret;exact ⟨ret_bool hv.out.symm,hw1⟩
theorem lower_list (l:List UInt8) (w:World) (hs:l.length≤281474976710656) :
  Calls Tryz.prog 75 #[.string ⟨l.toArray⟩] w fun e w'=>e=.returned (.string ⟨(lowL l).toArray⟩)∧Below w.heap.size w w' :=
 lower_txt ⟨l.toArray⟩ w (by rw [size_list]; exact hs)
def portCut (l:List UInt8):List UInt8 × List UInt8 × Bool:=(l.take (whereGo false l),l.drop (whereGo false l+1),decide (whereGo false l < l.length))
set_option maxHeartbeats 1000000 in
theorem cutPort_any (s:ByteArray) (w:World) (hs:s.size≤maxLen) :
  Calls Tryz.prog 138 #[.string s] w fun e w'=>e=.returned (.tuple #[.string ⟨(portCut s.data.toList).1.toArray⟩,.string ⟨(portCut s.data.toList).2.1.toArray⟩,.bool (portCut s.data.toList).2.2])∧∃ q,w'=w.drewN q:=by
 unfold maxLen at hs
 go_enter Tryz.func138,Tryz.ntmps138
 go_wp2
 go_loop [5,9] (fun x i=>∃ (k:Nat) (b:Bool),k≤s.size∧i=.int .i64 k∧x=.bool b∧Hid (whereGo false s.data.toList=k+whereGo b (s.data.toList.drop k))) (fun _ i=>s.size - (intOf i).toNat)
 case atStart=>exact ⟨0,false,by omega,rfl,rfl,show _=_ by simp⟩
 case round =>
  obtain ⟨k,b,hk,rfl,rfl,hgo⟩:=hrel;by_cases hlt:k < s.size
  ·by_cases hst:b=false∧s[k]=58
   ·obtain ⟨rfl,h58⟩:=hst
    have hat:whereGo false s.data.toList=k:=by
     rw [hgo.out,drop_cons s k hlt,whereGo,if_pos ⟨rfl,h58⟩]; omega
    have hv:Hid (portCut s.data.toList=(s.data.toList.take k,s.data.toList.drop (k+1),true)):=show _=_ by
     rw [portCut,hat,len_data,decide_eq_true hlt]
    have e1:Hid ((s.extract 0 k).data.toList=s.data.toList.take k):=show _=_ by rw [ext_list]; simp
    have e2:Hid ((s.extract (k+1) s.size).data.toList=s.data.toList.drop (k+1)):=show _=_ by
     rw [ext_list,List.take_of_length_le (by rw [List.length_drop,len_data]; omega)]
    have e91:((s[k].toNat:Int)==91)=false:=u8_ne (b:=91) (by rw [h58]; decide);have e93:((s[k].toNat:Int)==93)=false:=u8_ne (b:=93) (by rw [h58]; decide);have e58:((s[k].toNat:Int)==58)=true:=by rw [h58]; rfl
    have hwr:IntKind.i64.wrap ((k:Int)+1)=((k+1:Nat):Int):=by
     simp [IntKind.wrap,IntKind.bits,IntKind.signed]; omega
    clear hgo hat h58;go_wp2
    go_quiet (fail)
    go_wp2;go_ret3
    exact ⟨ret_cut (by rw [hv.out,e1.out,e2.out]),nq,rfl⟩
   ·have hgo2:Hid (whereGo false s.data.toList=(k+1)+whereGo (insN b s[k]) (s.data.toList.drop (k+1))):=show _=_ by
     rw [hgo.out,drop_cons s k hlt,whereGo,if_neg hst]; omega
    have hins:insN b s[k]=if s[k]=93 then false else if s[k]=91 then true else b:=rfl
    by_cases h91:s[k]=91
    ·have e91:((s[k].toNat:Int)==91)=true:=by rw [h91]; rfl
     rw [hins,if_neg (by rw [h91]; decide),if_pos h91] at hgo2;clear hst h91 hins hgo;go_wp2
     go_round
     case rel=>exact ⟨k+1,true,by omega,by go_num,rfl,hgo2⟩
     case measure=>simp [intOf]; omega
    ·have e91:((s[k].toNat:Int)==91)=false:=u8_ne (b:=91) h91;by_cases h93:s[k]=93
     ·have e93:((s[k].toNat:Int)==93)=true:=by rw [h93]; rfl
      rw [hins,if_pos h93] at hgo2;clear hst h91 h93 hins hgo;go_wp2
      go_round
      case rel=>exact ⟨k+1,false,by omega,by go_num,rfl,hgo2⟩
      case measure=>simp [intOf]; omega
     ·have e93:((s[k].toNat:Int)==93)=false:=u8_ne (b:=93) h93;rw [hins,if_neg h93,if_neg h91] at hgo2;by_cases h58:s[k]=58
      ·have e58:((s[k].toNat:Int)==58)=true:=by rw [h58]; rfl
       have hb:b=true:=by
        cases b with
        | true=>rfl
        | false=>exact absurd ⟨rfl,h58⟩ hst
       subst hb;clear hst h91 h93 h58 hins hgo;go_wp2
       go_round
       case rel=>exact ⟨k+1,true,by omega,by go_num,rfl,hgo2⟩
       case measure=>simp [intOf]; omega
      ·have e58:((s[k].toNat:Int)==58)=false:=u8_ne (b:=58) h58;clear hst h91 h93 h58 hins hgo;go_wp2
       go_round
       case rel=>exact ⟨k+1,b,by omega,by go_num,rfl,hgo2⟩
       case measure=>simp [intOf]; omega
  ·have hv:Hid (portCut s.data.toList=(s.data.toList,[],false)):=show _=_ by
    have hat:whereGo false s.data.toList=s.data.toList.length:=by
     rw [hgo.out,drop_all s k (by omega),len_data]; simp [whereGo]; omega
    rw [portCut,hat,List.take_length,List.drop_of_length_le (by omega)]
    simp
   clear hgo;go_wp2;go_ret3
   exact ⟨ret_cut hv.out,0,rfl⟩
theorem host_list (l:List UInt8) (w:World) (hs:l.length≤140737488355328) :
  Calls Tryz.prog 112 #[.string ⟨l.toArray⟩] w fun e w'=>e=.returned (.bool (hostB l))∧Below w.heap.size w w' :=
 host_any ⟨l.toArray⟩ w (by rw [size_list]; exact hs)
theorem number_list (l:List UInt8) (most:Int) (w:World) (hs:l.length≤9223372036854775807) (hm0:-9223372036854775808≤most) (hm1:most≤9223372036854775807) :
  Calls Tryz.prog 139 #[.string ⟨l.toArray⟩,.int .i64 most] w fun e w'=>e=.returned (.tuple #[.int .i64 (numV most l).1,.int .i64 (numV most l).2])∧w'=w :=
 number_any ⟨l.toArray⟩ most w (by rw [size_list]; exact hs) hm0 hm1
theorem ret_where' {p:List UInt8 × Int × Int} {x:List UInt8} {a b:Int} (h:p=(x,a,b)):Ending.returned (.tuple #[.string ⟨x.toArray⟩,.int .i64 a,.int .i64 b])=.returned (.tuple #[.string ⟨p.1.toArray⟩,.int .i64 p.2.1,.int .i64 p.2.2]):=by rw [h]
set_option maxHeartbeats 2000000 in
theorem where_any (s:ByteArray) (w:World) (hs:s.size≤140737488355328) :
  Calls Tryz.prog 110 #[.string s] w fun e w'=>e=.returned (.tuple #[.string ⟨(whereV s.data.toList).1.toArray⟩,.int .i64 (whereV s.data.toList).2.1,.int .i64 (whereV s.data.toList).2.2])∧Below w.heap.size w w':=by
 have hm:s.size≤maxLen:=by unfold maxLen; omega
 have hl:=len_data s;obtain ⟨k,hat⟩:∃ k,whereGo false s.data.toList=k:=⟨_,rfl⟩
 have hkl:k≤s.size:=by rw [← hat,← hl]; exact whereGo_le _ _
 obtain ⟨a,ha⟩:∃ a,s.data.toList.take k=a:=⟨_,rfl⟩
 obtain ⟨b,hb⟩:∃ b,s.data.toList.drop (k+1)=b:=⟨_,rfl⟩
 have hal:a.length≤s.size:=by rw [← ha,List.length_take]; omega
 have hbl:b.length≤s.size:=by rw [← hb,List.length_drop]; omega
 have hll:(lowL a).length≤140737488355328:=by rw [lowL_len]; omega
 have hpc:portCut s.data.toList=(a,b,decide (k < s.size)):=by rw [portCut,hat,ha,hb,hl]
 have HV:Hid (whereV s.data.toList=if hostB (lowL a)=true then (if k=s.size then (lowL a,0,0) else if (numV 65535 b).2 ≠ 0∨(numV 65535 b).1=0 then ([],0,33) else (lowL a,(numV 65535 b).1,0)) else ([],0,32)):=show _=_ by
  rw [whereV,hat,ha,portV,hb,hl]
 have h0:=cutPort_any s w hm;rw [hpc] at h0;clear hpc ha hb hat hl
 go_enter Tryz.func110,Tryz.ntmps110
 go_wp2_with fail
 refine h0.mono ?_
 rintro e w0 ⟨rfl,q,rfl⟩;have hw0:=below_drewN w q;clear h0;generalize w.drewN q=w0 at hw0 ⊢;have fin:∀ {w1 w2:World},Below w0.heap.size w0 w1 → Below w1.heap.size w1 w2 → Below w.heap.size w w2:=fun h1 h2=>(hw0.trans (h1.mono hw0.size)).trans (h2.mono (Nat.le_trans hw0.size h1.size));have FIN:Hid _:=@fin;clear fin
 cases hh:hostB (lowL a) with
 | false =>
  rw [hh] at HV
  go_wp2_with (first
   | (go_at_call 75; refine (lower_list a _ (by omega)).mono ?_; rintro e w1 ⟨rfl,hw1⟩)
   | (go_at_call 112; refine (host_list _ _ hll).mono ?_; rintro e w2 ⟨rfl,hw2⟩; rw [hh]))
  go_ret3
  exact ⟨ret_where' (x:=[]) (by rw [HV.out]; rfl),FIN.out hw1 hw2⟩
 | true =>
  rw [hh,if_pos rfl] at HV;by_cases hk:k < s.size
  ·have hd:decide (k < s.size)=true:=decide_eq_true hk;rw [if_neg (by omega)] at HV;rw [hd];obtain ⟨n,hn⟩:∃ n,(numV 65535 b).1=n:=⟨_,rfl⟩
   obtain ⟨e,he⟩:∃ e,(numV 65535 b).2=e:=⟨_,rfl⟩
   rw [hn,he] at HV;by_cases he0:e=0
   ·subst he0;by_cases hn0:n=0
    ·subst hn0
     go_wp2_with (first
      | (go_at_call 75; refine (lower_list a _ (by omega)).mono ?_; rintro e w1 ⟨rfl,hw1⟩)
      | (go_at_call 112; refine (host_list _ _ hll).mono ?_; rintro e w2 ⟨rfl,hw2⟩; rw [hh])
      | (go_at_call 139; refine (number_list b 65535 _ (by omega) (by omega) (by omega)).mono ?_; rintro e w' ⟨rfl,rfl⟩; rw [hn,he]))
     go_ret3
     exact ⟨ret_where' (x:=[]) (by rw [HV.out]; simp),FIN.out hw1 hw2⟩
    ·have hnn:(n==0)=false:=by simpa using hn0
     go_wp2_with (first
      | (go_at_call 75; refine (lower_list a _ (by omega)).mono ?_; rintro e w1 ⟨rfl,hw1⟩)
      | (go_at_call 112; refine (host_list _ _ hll).mono ?_; rintro e w2 ⟨rfl,hw2⟩; rw [hh])
      | (go_at_call 139; refine (number_list b 65535 _ (by omega) (by omega) (by omega)).mono ?_; rintro e w' ⟨rfl,rfl⟩; rw [hn,he]))
     go_ret3
     exact ⟨ret_where' (by rw [HV.out]; simp [hn0]),FIN.out hw1 hw2⟩
   ·have hen:(e != 0)=true:=by simpa using he0
    have hen2:(e==0)=false:=by simpa using he0
    go_wp2_with (first
     | (go_at_call 75; refine (lower_list a _ (by omega)).mono ?_; rintro e w1 ⟨rfl,hw1⟩)
     | (go_at_call 112; refine (host_list _ _ hll).mono ?_; rintro e w2 ⟨rfl,hw2⟩; rw [hh])
     | (go_at_call 139; refine (number_list b 65535 _ (by omega) (by omega) (by omega)).mono ?_; rintro e w' ⟨rfl,rfl⟩; rw [hn,he]))
    go_ret3
    exact ⟨ret_where' (x:=[]) (by rw [HV.out]; simp [he0]),FIN.out hw1 hw2⟩
  ·have hd:decide (k < s.size)=false:=decide_eq_false hk;rw [if_pos (by omega)] at HV;rw [hd]
   go_wp2_with (first
    | (go_at_call 75; refine (lower_list a _ (by omega)).mono ?_; rintro e w1 ⟨rfl,hw1⟩)
    | (go_at_call 112; refine (host_list _ _ hll).mono ?_; rintro e w2 ⟨rfl,hw2⟩; rw [hh]))
   go_ret3
   exact ⟨ret_where' (by rw [HV.out]),FIN.out hw1 hw2⟩
end Go.Proofs.YtldkidljjbkmbaaGreatDoor
namespace Go.Proofs.YtldkidljjbkmbaaGreatDoor
open Go.RowKit Sc Go.Maps Go.WideMaps
set_option maxHeartbeats 1000000 in
theorem fits_any (nm vl:List UInt8) (hs:Bool) (w:World) (h1:nm.length≤140737488355328) (h2:vl.length≤140737488355328) :
  Calls Tryz.prog 143 #[.agg #[.string ⟨nm.toArray⟩,.string ⟨vl.toArray⟩,.bool hs]] w fun e w'=>e=.returned (.bool (parB ⟨nm,vl,hs⟩))∧Below w.heap.size w w':=by
 have hv:parB ⟨nm,vl,hs⟩=(decide (1≤nm.length) && (decide (nm.length≤64) && (decide (vl.length≤64) && (hs || vl.isEmpty)))):=rfl;have z1:=size_list nm;have z2:=size_list vl;by_cases c1:1≤nm.length
 ·have e1:nm.isEmpty=false:=by cases nm with | nil=>simp at c1 | cons=>rfl
  by_cases c2:nm.length≤64
  ·by_cases c3:vl.length≤64
   ·have HV:Hid (parB ⟨nm,vl,hs⟩=(hs || vl.isEmpty)):=show _=_ by rw [hv,decide_eq_true c1,decide_eq_true c2,decide_eq_true c3]; rfl
    clear hv
    cases hs
    all_goals (
     go_enter Tryz.func143,Tryz.ntmps143
     go_wp2;go_ret;exact ⟨ret_bool HV.out.symm,(Below.refl _ _).alloc (Nat.le_refl _) _⟩)
   ·have HV:Hid (parB ⟨nm,vl,hs⟩=false):=show _=_ by rw [hv,decide_eq_true c1,decide_eq_true c2,decide_eq_false c3]; rfl
    clear hv
    go_enter Tryz.func143,Tryz.ntmps143
    go_wp2;go_ret;exact ⟨ret_bool HV.out.symm,(Below.refl _ _).alloc (Nat.le_refl _) _⟩
  ·have HV:Hid (parB ⟨nm,vl,hs⟩=false):=show _=_ by rw [hv,decide_eq_true c1,decide_eq_false c2]; rfl
   clear hv
   go_enter Tryz.func143,Tryz.ntmps143
   go_wp2;go_ret;exact ⟨ret_bool HV.out.symm,(Below.refl _ _).alloc (Nat.le_refl _) _⟩
 ·have e1:nm.isEmpty=true:=by cases nm with | nil=>rfl | cons=>simp at c1
  have HV:Hid (parB ⟨nm,vl,hs⟩=false):=show _=_ by rw [hv,decide_eq_false c1]; rfl
  clear hv
  go_enter Tryz.func143,Tryz.ntmps143
  go_wp2;go_ret;exact ⟨ret_bool HV.out.symm,(Below.refl _ _).alloc (Nat.le_refl _) _⟩
def Named (D:DataW Unit) (qs:List Par):Prop:=IsMap D∧∀ kl:List UInt8,D.atKey (.string kl) (.lit (.int .i64 0))=.lit (.int .i64 (if qs.any (fun q=>lowL q.name==kl)=true then 1 else 0))
theorem named0:Named (.map []) []:=⟨⟨[],rfl⟩,fun kl=>rfl⟩
theorem any_apart (qs:List Par) (nm:List UInt8):qs.any (fun q=>lowL q.name==lowL nm)=!apartB qs nm:=by
 unfold apartB sameB
 induction qs with
 | nil=>rfl
 | cons q qs ih=>rw [List.any_cons,List.all_cons,ih]; cases (lowL q.name==lowL nm) <;> rfl
theorem Named.at {D:DataW Unit} {qs:List Par} (h:Named D qs) (nm:List UInt8):D.atKey (.string (lowL nm)) (.lit (.int .i64 0))=.lit (.int .i64 (if apartB qs nm=true then 0 else 1)):=by
 rw [h.2,any_apart]
 cases apartB qs nm <;> rfl
theorem Named.put {D:DataW Unit} {qs:List Par} (h:Named D qs) (p:Par):Named (D.put (.string (lowL p.name)) (.lit (.int .i64 1))) (qs++[p]):=by
 obtain ⟨es,rfl⟩:=h.1;refine ⟨⟨_,rfl⟩,fun kl=>?_⟩
 by_cases hk:kl=lowL p.name
 ·subst hk;rw [atKey_put_same ⟨es,rfl⟩ (by trivial)]
  simp
 ·rw [atKey_put_other (by intro e; exact hk (by injection e))];rw [h.2]
  have:(lowL p.name==kl)=false:=by rw [beq_eq_false_iff_ne]; exact fun e=>hk e.symm
  simp [List.any_append,this]
theorem ownsMap_below {P:Program} {k:TypeId} {R:Value → Option (DataW Unit × List MemPlace)} {w w':World} {b n:Nat} {D:DataW Unit} (h:w.ownsMap P k R b n D) (hb:Below w.heap.size w w'):w'.ownsMap P k R b n D:=by
 have hlt:=h.lt;obtain ⟨es,clock,h1,h2⟩:=h;exact ⟨es,clock,by rw [hb.block b hlt]; exact h1,h2⟩
theorem keyed9:Keyed Tryz.prog 9:=string_keyed Tryz.underlying9
theorem zero3i (w:World):(zeroValue 3).run Tryz.prog w=.ok (.int .i64 0) w:=by kernel_rfl
end Go.Proofs.YtldkidljjbkmbaaGreatDoor
