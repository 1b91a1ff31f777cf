/-
  UHost, UWhere, UCheck, RefCheck.
-/
import Derived.Test.YteicmbhilambpaaGreatDoorPU19
set_option linter.unusedVariables false
set_option linter.unusedSimpArgs false
set_option maxRecDepth 20000
namespace Go.Proofs.YteicmbhilambpaaGreatDoor
open Go.RowKit Sc
set_option maxHeartbeats 400000 in
theorem scheme_any (s:ByteArray) (w:World) :
  Calls Tryz.prog 138 #[.string s] w fun e w'=>e=.returned (.bool (schemeB s.data.toList))∧w'=w:=by
 have hb:schemeB s.data.toList=(s.toList==[115,105,112] || (s.toList==[115,105,112,115] || s.toList==[112,114,101,115])):=by rw [ByteArray.toList_eq]; rfl
 have HB:Hid _:=hb; clear hb
 cases h1:(s.toList==[115,105,112]) <;> cases h2:(s.toList==[115,105,112,115]) <;> cases h3:(s.toList==[112,114,101,115])
 all_goals (
  rw [h1,h2,h3] at HB
  go_enter Tryz.func138,Tryz.ntmps138
  go_wp2;go_ret;exact ⟨ret_bool HB.out.symm,rfl⟩)
theorem scheme_list (l:List UInt8) (w:World) :
  Calls Tryz.prog 138 #[.string ⟨l.toArray⟩] w fun e w'=>e=.returned (.bool (schemeB l))∧w'=w:=scheme_any ⟨l.toArray⟩ w
theorem labB_eq (p:List UInt8):labB p=(decide (1≤p.length) && (allB 64 p && (!startsB 45 p && !endsB 45 p))):=rfl
set_option maxHeartbeats 400000 in
theorem label_any (t:ByteArray) (w:World) (ht:t.size≤maxLen) :
  Calls Tryz.prog 180 #[.string t] w fun e w'=>e=.returned (.bool (labB t.data.toList))∧w'=w:=by
 have hm:t.size≤9223372036854775807:=ht;have hv:=labB_eq t.data.toList;rw [len_data] at hv;by_cases hz:t.size=0
 ·have hE:=isE_true hz;have HV:Hid (labB t.data.toList=false):=show _=_ by rw [hv]; simp [hz]
  clear hv
  go_enter Tryz.func180,Tryz.ntmps180
  go_wp2;go_ret;exact ⟨ret_bool HV.out.symm,rfl⟩
 ·have hp:0 < t.size:=by omega
  have hE:=isE_false hp;have hd:decide (1≤t.size)=true:=decide_eq_true hp;rw [hd,Bool.true_and] at hv
  cases ha:allB 64 t.data.toList
  ·have HV:Hid (labB t.data.toList=false):=show _=_ by rw [hv,ha]; rfl
   clear hv
   go_enter Tryz.func180,Tryz.ntmps180
   go_wp2_with (go_at_call 120; refine (all_any _ _ _ ht).mono ?_; rintro e w' ⟨rfl,rfl⟩; rw [ha])
   go_ret;exact ⟨ret_bool HV.out.symm,rfl⟩
  ·cases hf:startsB 45 t.data.toList
   ·have HV:Hid (labB t.data.toList=!endsB 45 t.data.toList):=show _=_ by rw [hv,ha,hf]; rfl
    clear hv
    go_enter Tryz.func180,Tryz.ntmps180
    go_wp2_with (first
     | (go_at_call 120; refine (all_any _ _ _ ht).mono ?_; rintro e w' ⟨rfl,rfl⟩; rw [ha])
     | (go_at_call 178; refine (strPrefix_any _ 45 _ rfl).mono ?_; rintro e w' ⟨rfl,rfl⟩; rw [hf])
     | (go_at_call 196; refine (strSuffix_any _ 45 _ rfl hm).mono ?_; rintro e w' ⟨rfl,rfl⟩))
    go_ret;exact ⟨ret_bool HV.out.symm,rfl⟩
   ·have HV:Hid (labB t.data.toList=false):=show _=_ by rw [hv,ha,hf]; rfl
    clear hv
    go_enter Tryz.func180,Tryz.ntmps180
    go_wp2_with (first
     | (go_at_call 120; refine (all_any _ _ _ ht).mono ?_; rintro e w' ⟨rfl,rfl⟩; rw [ha])
     | (go_at_call 178; refine (strPrefix_any _ 45 _ rfl).mono ?_; rintro e w' ⟨rfl,rfl⟩; rw [hf]))
    go_ret;exact ⟨ret_bool HV.out.symm,rfl⟩
set_option maxHeartbeats 1000000 in
theorem numbered_any (s:ByteArray) (w:World) (hs:s.size≤maxLen) :
  Calls Tryz.prog 179 #[.string s] w fun e w'=>e=.returned (.bool (brkB s.data.toList))∧w'=w:=by
 have hm:s.size≤9223372036854775807:=hs;by_cases h4:4≤s.size
 ·cases he:endsB 93 s.data.toList
  ·have HV:Hid (brkB s.data.toList=false):=brk_last rfl (by
    rw [endsB,len_data] at he; simpa using he)
   go_enter Tryz.func179,Tryz.ntmps179
   go_wp2_with (go_at_call 196; refine (strSuffix_any _ 93 _ rfl hm).mono ?_; rintro e w' ⟨rfl,rfl⟩; rw [he])
   go_ret;exact ⟨ret_bool HV.out.symm,rfl⟩
  ·have hla:Hid (s.data.toList.getD (s.size - 1) 0=93):=show _=_ by rw [endsB,len_data] at he; simpa using he
   go_enter Tryz.func179,Tryz.ntmps179
   go_wp2_with (go_at_call 196; refine (strSuffix_any _ 93 _ rfl hm).mono ?_; rintro e w' ⟨rfl,rfl⟩; rw [he])
   go_loop [3,4] (fun x i=>∃ k n:Nat,1≤k∧k+1≤s.size∧n≤k∧i=.int .i64 k∧x=.int .i64 n∧Hid ((mid s.data.toList 1 k).all okc=true)∧Hid ((mid s.data.toList 1 k).count 58=n)) (fun _ i=>s.size - (intOf i).toNat)
   case atStart=>exact ⟨1,0,by omega,by omega,by omega,rfl,rfl,show _=_ by simp [mid],show _=_ by simp [mid]⟩
   case round =>
    obtain ⟨k,n,hk1,hk,hnk,rfl,rfl,hall,hcnt⟩:=hrel;by_cases hlt:k+1 < s.size
    ·have hbd:=u8_bd s[k];have hms:=mid_snoc s 1 k hk1 (by omega);by_cases h58:s[k]=58
     ·have e58:((s[k].toNat:Int)==58)=true:=by rw [h58]; rfl
      have ha2:Hid ((mid s.data.toList 1 (k+1)).all okc=true):=show _=_ by rw [hms,List.all_append,hall.out,h58]; decide
      have hc2:Hid ((mid s.data.toList 1 (k+1)).count 58=n+1):=show _=_ by rw [hms,List.count_append,hcnt.out,h58]; rfl
      clear hms h58 hall hcnt;go_wp2
      go_round
      case rel=>exact ⟨k+1,n+1,by omega,by omega,by omega,by go_num,by go_num,ha2,hc2⟩
      case measure=>simp [intOf]; omega
     ·have e58:((s[k].toNat:Int)==58)=false:=u8_ne h58
      have hc2:Hid ((mid s.data.toList 1 (k+1)).count 58=n):=show _=_ by
       rw [hms,List.count_append,hcnt.out]
       have:List.count 58 [s[k]]=0:=List.count_eq_zero.2 (by simp; intro e; exact h58 e.symm)
       omega
      by_cases h46:s[k]=46
      ·have e46:((s[k].toNat:Int) != 46)=false:=by rw [h46]; rfl
       have ha2:Hid ((mid s.data.toList 1 (k+1)).all okc=true):=show _=_ by rw [hms,List.all_append,hall.out,h46]; decide
       clear hms h58 h46 hall hcnt;go_wp2
       go_round
       case rel=>exact ⟨k+1,n,by omega,by omega,by omega,by go_num,by go_num,ha2,hc2⟩
       case measure=>simp [intOf]; omega
      ·have e46:((s[k].toNat:Int) != 46)=true:=by
        have:=u8_ne h46
        simp only [bne,Bool.not_eq_true']; exact this
       by_cases hx:isB s[k].toNat 4=true
       ·have ha2:Hid ((mid s.data.toList 1 (k+1)).all okc=true):=show _=_ by rw [hms,List.all_append,hall.out]; simp [okc,hx]
        have hx2:(bits BinOp.and IntKind.i64 (cls s[k].toNat) 4==0)=false:=by simpa [isB] using hx
        clear hms h58 h46 hall hcnt hx;go_wp2_with (go_at_call 151; refine (class_any _ _ hbd.1 hbd.2).mono ?_; rintro e w' ⟨rfl,rfl⟩)
        go_round
        case rel=>exact ⟨k+1,n,by omega,by omega,by omega,by go_num,by go_num,ha2,hc2⟩
        case measure=>simp [intOf]; omega
       ·have hx2:(bits BinOp.and IntKind.i64 (cls s[k].toNat) 4==0)=true:=by simpa [isB] using hx
        have hbad:Hid (brkB s.data.toList=false):=brk_bad hk1 hlt (by
         simp only [okc,Bool.or_eq_false_iff,beq_eq_false_iff_ne,ne_eq];exact ⟨h58,h46,by simpa using hx⟩)
        clear hms h58 h46 hall hcnt hx hc2;go_wp2_with (go_at_call 151; refine (class_any _ _ hbd.1 hbd.2).mono ?_; rintro e w' ⟨rfl,rfl⟩)
        go_ret;exact ⟨ret_bool hbad.out.symm,rfl⟩
    ·have hke:k=s.size - 1:=by omega
     have hend:Hid (brkB s.data.toList=decide (2≤n)):=brk_end h4 hke hall.out hcnt.out (by rw [hke]; exact hla.out);clear hall hcnt hla;go_wp2
     all_goals go_ret
     all_goals exact ⟨ret_bool (by rw [hend.out]; simp; omega),rfl⟩
 ·have HV:Hid (brkB s.data.toList=false):=brk_short h4
  go_enter Tryz.func179,Tryz.ntmps179
  go_wp2;go_ret;exact ⟨ret_bool HV.out.symm,rfl⟩
theorem host_lab0 {l:List UInt8} (h2:l.length≤64) (h:(lowL l==l)=true) (hb:startsB 91 l=false):hostB l=labAll (splitL 46 l):=by
 have hb':¬ l.getD 0 0=91:=by simpa [startsB] using hb
 cases l with
 | nil=>rfl
 | cons x l=>exact host_lab (by simp) h2 h hb'
theorem host_brk0 {l:List UInt8} (h2:l.length≤64) (h:(lowL l==l)=true) (hb:startsB 91 l=true):hostB l=brkB l:=by
 have hb':l.getD 0 0=91:=by simpa [startsB] using hb
 cases l with
 | nil=>simp at hb'
 | cons x l=>exact host_brk (by simp) h2 h hb'
set_option maxHeartbeats 2000000 in
theorem host_any (s:ByteArray) (w:World) (hs:s.size≤140737488355328) :
  Calls Tryz.prog 158 #[.string s] w fun e w'=>e=.returned (.bool (hostB s.data.toList))∧Below w.heap.size w w':=by
 have hl:=len_data s;by_cases h64:64 < s.size
 ·have hv:Hid (hostB s.data.toList=false):=host_long (by omega);clear hl
  go_enter Tryz.func158,Tryz.ntmps158
  go_wp2;go_ret;exact ⟨ret_bool hv.out.symm,Below.refl _ _⟩
 have hsm:s.size≤maxLen:=by unfold maxLen; omega
 cases hlow:(s.data.toList==lowL s.data.toList)
 ·have hlq:(s.toList==lowL s.data.toList)=false:=by rw [ByteArray.toList_eq,hlow]
  have hv:Hid (hostB s.data.toList=false):=host_caps (by rw [← hlow]; exact Bool.beq_comm);clear hlow hl
  go_enter Tryz.func158,Tryz.ntmps158
  go_wp2_with (go_at_call 137; refine (lower_txt _ _ (by omega)).mono ?_; rintro e w1 ⟨rfl,hw1⟩)
  go_ret;exact ⟨ret_bool hv.out.symm,hw1⟩
 ·have hlq:(s.toList==lowL s.data.toList)=true:=by rw [ByteArray.toList_eq,hlow]
  have hlow':(lowL s.data.toList==s.data.toList)=true:=by rw [← hlow]; exact Bool.beq_comm
  cases hst:startsB 91 s.data.toList
  ·have hv:Hid (hostB s.data.toList=labAll (splitL 46 s.data.toList)):=host_lab0 (by omega) hlow' hst;have hmem:=splitL_mem_len 46 s.data.toList;have hcnt:=splitL_len 46 s.data.toList;rw [hl] at hmem hcnt;obtain ⟨p0,ps0,hp0⟩:=splitL_cons 46 s.data.toList;have hnil:splitL 46 s.data.toList ≠ []:=by rw [hp0]; simp
   clear hlow hlow' hl hp0;have HM:Hid _:=hmem; clear hmem
   have HN:Hid _:=hnil; clear hnil
   have HC:Hid _:=hcnt; clear hcnt
   go_enter Tryz.func158,Tryz.ntmps158
   go_wp2_with (first
    | (go_at_call 137; refine (lower_txt _ _ (by omega)).mono ?_; rintro e w1 ⟨rfl,hw1⟩)
    | (go_at_call 178; refine (strPrefix_any _ 91 _ rfl).mono ?_; rintro e w' ⟨rfl,rfl⟩; rw [hst])
    | (go_at_call 155; refine (strSplit_any s 46 _ (by omega)).mono ?_; rintro e w2 ⟨v,rfl,hown,hw2⟩; obtain ⟨g,cap,rfl,hcells⟩:=own_strs hown HN.out))
   clear hlq hst;have hw3:=hw1.trans (hw2.mono hw1.size);generalize splitL 46 s.data.toList=ps at hv hcells HM HN HC;have hpl:=HC.out;have HK:Hid _:=hcells; clear hcells hown HN HC hw1 hw2
   go_loop [21] (fun i=>∃ k:Nat,k≤ps.length∧i=.int .i64 k∧Hid (labAll (ps.take k)=true)) (fun i=>ps.length - (intOf i).toNat)
   case atStart=>exact ⟨0,by omega,rfl,rfl⟩
   case round =>
    obtain ⟨k,hk,rfl,hlab⟩:=hrel;by_cases hlt:k < ps.length
    ·have hc:=HK.out k hlt;have hpm:=HM.out ps[k] (List.getElem_mem hlt);obtain ⟨t,ht⟩:∃ t:ByteArray,t=⟨ps[k].toArray⟩:=⟨_,rfl⟩
     have htl:t.data.toList=ps[k]:=by rw [ht]
     rw [← ht] at hc;rw [← htl,len_data] at hpm;have htm:t.size≤maxLen:=by unfold maxLen; omega
     cases hb:labB t.data.toList
     ·have hbad:Hid (labAll ps=false):=labAll_bad hlt (by rw [← htl]; exact hb);clear ht htl hlab;go_wp2_with (go_at_call 180; refine (label_any _ _ htm).mono ?_; rintro e w' ⟨rfl,rfl⟩; rw [hb])
      go_ret;exact ⟨ret_bool (by rw [hv.out,hbad.out]),hw3⟩
     ·have hgood:Hid (labAll (ps.take (k+1))=true):=labAll_snoc hlt hlab.out (by rw [← htl]; exact hb);clear ht htl hlab;go_wp2_with (go_at_call 180; refine (label_any _ _ htm).mono ?_; rintro e w' ⟨rfl,rfl⟩; rw [hb])
      go_round
      case rel=>exact ⟨k+1,by omega,by go_num,hgood⟩
      case measure=>simp [intOf]; omega
    ·have he:ps.take k=ps:=List.take_of_length_le (by omega);have hb:Hid (labAll ps=true):=show _=_ by rw [← hlab.out,he]
     clear hlab;go_wp2;go_ret;exact ⟨ret_bool (by rw [hv.out,hb.out]),hw3⟩
  ·have hv:Hid (hostB s.data.toList=brkB s.data.toList):=host_brk0 (by omega) hlow' hst;clear hlow hlow' hl
   go_enter Tryz.func158,Tryz.ntmps158
   go_wp2_with (first
    | (go_at_call 137; refine (lower_txt _ _ (by omega)).mono ?_; rintro e w1 ⟨rfl,hw1⟩)
    | (go_at_call 178; refine (strPrefix_any _ 91 _ rfl).mono ?_; rintro e w' ⟨rfl,rfl⟩; rw [hst])
    | (go_at_call 179; refine (numbered_any s _ hsm).mono ?_; rintro e w' ⟨rfl,rfl⟩))
   go_ret;exact ⟨ret_bool hv.out.symm,hw1⟩
def portCut (l:List UInt8):List UInt8 × List UInt8 × Bool:=(l.take (whereGo false l),l.drop (whereGo false l+1),decide (whereGo false l < l.length))
set_option maxHeartbeats 1000000 in
theorem cutPort_any (s:ByteArray) (w:World) (hs:s.size≤maxLen) :
  Calls Tryz.prog 176 #[.string s] w fun e w'=>e=.returned (.tuple #[.string ⟨(portCut s.data.toList).1.toArray⟩,.string ⟨(portCut s.data.toList).2.1.toArray⟩,.bool (portCut s.data.toList).2.2])∧∃ q,w'=w.drewN q:=by
 unfold maxLen at hs
 go_enter Tryz.func176,Tryz.ntmps176
 go_wp2
 go_loop [5,9] (fun x i=>∃ (k:Nat) (b:Bool),k≤s.size∧i=.int .i64 k∧x=.bool b∧Hid (whereGo false s.data.toList=k+whereGo b (s.data.toList.drop k))) (fun _ i=>s.size - (intOf i).toNat)
 case atStart=>exact ⟨0,false,by omega,rfl,rfl,show _=_ by simp⟩
 case round =>
  obtain ⟨k,b,hk,rfl,rfl,hgo⟩:=hrel;by_cases hlt:k < s.size
  ·by_cases hst:b=false∧s[k]=58
   ·obtain ⟨rfl,h58⟩:=hst
    have hat:whereGo false s.data.toList=k:=by
     rw [hgo.out,drop_cons s k hlt,whereGo,if_pos ⟨rfl,h58⟩]; omega
    have hv:Hid (portCut s.data.toList=(s.data.toList.take k,s.data.toList.drop (k+1),true)):=show _=_ by
     rw [portCut,hat,len_data,decide_eq_true hlt]
    have e1:Hid ((s.extract 0 k).data.toList=s.data.toList.take k):=show _=_ by rw [ext_list]; simp
    have e2:Hid ((s.extract (k+1) s.size).data.toList=s.data.toList.drop (k+1)):=show _=_ by
     rw [ext_list,List.take_of_length_le (by rw [List.length_drop,len_data]; omega)]
    have e91:((s[k].toNat:Int)==91)=false:=u8_ne (b:=91) (by rw [h58]; decide);have e93:((s[k].toNat:Int)==93)=false:=u8_ne (b:=93) (by rw [h58]; decide);have e58:((s[k].toNat:Int)==58)=true:=by rw [h58]; rfl
    have hwr:IntKind.i64.wrap ((k:Int)+1)=((k+1:Nat):Int):=by
     simp [IntKind.wrap,IntKind.bits,IntKind.signed]; omega
    clear hgo hat h58;go_wp2
    go_quiet (fail)
    go_wp2;go_ret3
    exact ⟨ret_cut (by rw [hv.out,e1.out,e2.out]),nq,rfl⟩
   ·have hgo2:Hid (whereGo false s.data.toList=(k+1)+whereGo (insN b s[k]) (s.data.toList.drop (k+1))):=show _=_ by
     rw [hgo.out,drop_cons s k hlt,whereGo,if_neg hst]; omega
    have hins:insN b s[k]=if s[k]=93 then false else if s[k]=91 then true else b:=rfl
    by_cases h91:s[k]=91
    ·have e91:((s[k].toNat:Int)==91)=true:=by rw [h91]; rfl
     rw [hins,if_neg (by rw [h91]; decide),if_pos h91] at hgo2;clear hst h91 hins hgo;go_wp2
     go_round
     case rel=>exact ⟨k+1,true,by omega,by go_num,rfl,hgo2⟩
     case measure=>simp [intOf]; omega
    ·have e91:((s[k].toNat:Int)==91)=false:=u8_ne (b:=91) h91;by_cases h93:s[k]=93
     ·have e93:((s[k].toNat:Int)==93)=true:=by rw [h93]; rfl
      rw [hins,if_pos h93] at hgo2;clear hst h91 h93 hins hgo;go_wp2
      go_round
      case rel=>exact ⟨k+1,false,by omega,by go_num,rfl,hgo2⟩
      case measure=>simp [intOf]; omega
     ·have e93:((s[k].toNat:Int)==93)=false:=u8_ne (b:=93) h93;rw [hins,if_neg h93,if_neg h91] at hgo2;by_cases h58:s[k]=58
      ·have e58:((s[k].toNat:Int)==58)=true:=by rw [h58]; rfl
       have hb:b=true:=by
        cases b with
        | true=>rfl
        | false=>exact absurd ⟨rfl,h58⟩ hst
       subst hb;clear hst h91 h93 h58 hins hgo;go_wp2
       go_round
       case rel=>exact ⟨k+1,true,by omega,by go_num,rfl,hgo2⟩
       case measure=>simp [intOf]; omega
      ·have e58:((s[k].toNat:Int)==58)=false:=u8_ne (b:=58) h58;clear hst h91 h93 h58 hins hgo;go_wp2
       go_round
       case rel=>exact ⟨k+1,b,by omega,by go_num,rfl,hgo2⟩
       case measure=>simp [intOf]; omega
  ·have hv:Hid (portCut s.data.toList=(s.data.toList,[],false)):=show _=_ by
    have hat:whereGo false s.data.toList=s.data.toList.length:=by
     rw [hgo.out,drop_all s k (by omega),len_data]; simp [whereGo]; omega
    rw [portCut,hat,List.take_length,List.drop_of_length_le (by omega)]
    simp
   clear hgo;go_wp2;go_ret3
   exact ⟨ret_cut hv.out,0,rfl⟩
theorem host_list (l:List UInt8) (w:World) (hs:l.length≤140737488355328) :
  Calls Tryz.prog 158 #[.string ⟨l.toArray⟩] w fun e w'=>e=.returned (.bool (hostB l))∧Below w.heap.size w w' :=
 host_any ⟨l.toArray⟩ w (by rw [size_list]; exact hs)
theorem number_list (l:List UInt8) (most:Int) (w:World) (hs:l.length≤9223372036854775807) (hm0:-9223372036854775808≤most) (hm1:most≤9223372036854775807) :
  Calls Tryz.prog 177 #[.string ⟨l.toArray⟩,.int .i64 most] w fun e w'=>e=.returned (.tuple #[.int .i64 (numV most l).1,.int .i64 (numV most l).2])∧w'=w :=
 number_any ⟨l.toArray⟩ most w (by rw [size_list]; exact hs) hm0 hm1
theorem ret_where' {p:List UInt8 × Int × Int} {x:List UInt8} {a b:Int} (h:p=(x,a,b)):Ending.returned (.tuple #[.string ⟨x.toArray⟩,.int .i64 a,.int .i64 b])=.returned (.tuple #[.string ⟨p.1.toArray⟩,.int .i64 p.2.1,.int .i64 p.2.2]):=by rw [h]
set_option maxHeartbeats 2000000 in
theorem where_any (s:ByteArray) (w:World) (hs:s.size≤140737488355328) :
  Calls Tryz.prog 156 #[.string s] w fun e w'=>e=.returned (.tuple #[.string ⟨(whereV s.data.toList).1.toArray⟩,.int .i64 (whereV s.data.toList).2.1,.int .i64 (whereV s.data.toList).2.2])∧Below w.heap.size w w':=by
 have hm:s.size≤maxLen:=by unfold maxLen; omega
 have hl:=len_data s;obtain ⟨k,hat⟩:∃ k,whereGo false s.data.toList=k:=⟨_,rfl⟩
 have hkl:k≤s.size:=by rw [← hat,← hl]; exact whereGo_le _ _
 obtain ⟨a,ha⟩:∃ a,s.data.toList.take k=a:=⟨_,rfl⟩
 obtain ⟨b,hb⟩:∃ b,s.data.toList.drop (k+1)=b:=⟨_,rfl⟩
 have hal:a.length≤s.size:=by rw [← ha,List.length_take]; omega
 have hbl:b.length≤s.size:=by rw [← hb,List.length_drop]; omega
 have hll:(lowL a).length≤140737488355328:=by rw [lowL_len]; omega
 have hpc:portCut s.data.toList=(a,b,decide (k < s.size)):=by rw [portCut,hat,ha,hb,hl]
 have HV:Hid (whereV s.data.toList=if hostB (lowL a)=true then (if k=s.size then (lowL a,0,0) else if (numV 65535 b).2 ≠ 0∨(numV 65535 b).1=0 then ([],0,33) else (lowL a,(numV 65535 b).1,0)) else ([],0,32)):=show _=_ by
  rw [whereV,hat,ha,portV,hb,hl]
 have h0:=cutPort_any s w hm;rw [hpc] at h0;clear hpc ha hb hat hl
 go_enter Tryz.func156,Tryz.ntmps156
 go_wp2_with fail
 refine h0.mono ?_
 rintro e w0 ⟨rfl,q,rfl⟩;have hw0:=below_drewN w q;clear h0;generalize w.drewN q=w0 at hw0 ⊢;have fin:∀ {w1 w2:World},Below w0.heap.size w0 w1 → Below w1.heap.size w1 w2 → Below w.heap.size w w2:=fun h1 h2=>(hw0.trans (h1.mono hw0.size)).trans (h2.mono (Nat.le_trans hw0.size h1.size));have FIN:Hid _:=@fin;clear fin
 cases hh:hostB (lowL a) with
 | false =>
  rw [hh] at HV
  go_wp2_with (first
   | (go_at_call 137; refine (lower_list a _ (by omega)).mono ?_; rintro e w1 ⟨rfl,hw1⟩)
   | (go_at_call 158; refine (host_list _ _ hll).mono ?_; rintro e w2 ⟨rfl,hw2⟩; rw [hh]))
  go_ret3
  exact ⟨ret_where' (x:=[]) (by rw [HV.out]; rfl),FIN.out hw1 hw2⟩
 | true =>
  rw [hh,if_pos rfl] at HV;by_cases hk:k < s.size
  ·have hd:decide (k < s.size)=true:=decide_eq_true hk;rw [if_neg (by omega)] at HV;rw [hd];obtain ⟨n,hn⟩:∃ n,(numV 65535 b).1=n:=⟨_,rfl⟩
   obtain ⟨e,he⟩:∃ e,(numV 65535 b).2=e:=⟨_,rfl⟩
   rw [hn,he] at HV;by_cases he0:e=0
   ·subst he0;by_cases hn0:n=0
    ·subst hn0
     go_wp2_with (first
      | (go_at_call 137; refine (lower_list a _ (by omega)).mono ?_; rintro e w1 ⟨rfl,hw1⟩)
      | (go_at_call 158; refine (host_list _ _ hll).mono ?_; rintro e w2 ⟨rfl,hw2⟩; rw [hh])
      | (go_at_call 177; refine (number_list b 65535 _ (by omega) (by omega) (by omega)).mono ?_; rintro e w' ⟨rfl,rfl⟩; rw [hn,he]))
     go_ret3
     exact ⟨ret_where' (x:=[]) (by rw [HV.out]; simp),FIN.out hw1 hw2⟩
    ·have hnn:(n==0)=false:=by simpa using hn0
     go_wp2_with (first
      | (go_at_call 137; refine (lower_list a _ (by omega)).mono ?_; rintro e w1 ⟨rfl,hw1⟩)
      | (go_at_call 158; refine (host_list _ _ hll).mono ?_; rintro e w2 ⟨rfl,hw2⟩; rw [hh])
      | (go_at_call 177; refine (number_list b 65535 _ (by omega) (by omega) (by omega)).mono ?_; rintro e w' ⟨rfl,rfl⟩; rw [hn,he]))
     go_ret3
     exact ⟨ret_where' (by rw [HV.out]; simp [hn0]),FIN.out hw1 hw2⟩
   ·have hen:(e != 0)=true:=by simpa using he0
    have hen2:(e==0)=false:=by simpa using he0
    go_wp2_with (first
     | (go_at_call 137; refine (lower_list a _ (by omega)).mono ?_; rintro e w1 ⟨rfl,hw1⟩)
     | (go_at_call 158; refine (host_list _ _ hll).mono ?_; rintro e w2 ⟨rfl,hw2⟩; rw [hh])
     | (go_at_call 177; refine (number_list b 65535 _ (by omega) (by omega) (by omega)).mono ?_; rintro e w' ⟨rfl,rfl⟩; rw [hn,he]))
    go_ret3
    exact ⟨ret_where' (x:=[]) (by rw [HV.out]; simp [he0]),FIN.out hw1 hw2⟩
  ·have hd:decide (k < s.size)=false:=decide_eq_false hk;rw [if_pos (by omega)] at HV;rw [hd]
   go_wp2_with (first
    | (go_at_call 137; refine (lower_list a _ (by omega)).mono ?_; rintro e w1 ⟨rfl,hw1⟩)
    | (go_at_call 158; refine (host_list _ _ hll).mono ?_; rintro e w2 ⟨rfl,hw2⟩; rw [hh]))
   go_ret3
   exact ⟨ret_where' (by rw [HV.out]),FIN.out hw1 hw2⟩
end Go.Proofs.YteicmbhilambpaaGreatDoor
namespace Go.Proofs.YteicmbhilambpaaGreatDoor
open Go.RowKit Sc Go.Maps Go.WideMaps
set_option maxHeartbeats 1000000 in
theorem fits_any (nm vl:List UInt8) (hs:Bool) (w:World) (h1:nm.length≤140737488355328) (h2:vl.length≤140737488355328) :
  Calls Tryz.prog 181 #[.agg #[.string ⟨nm.toArray⟩,.string ⟨vl.toArray⟩,.bool hs]] w fun e w'=>e=.returned (.bool (parB ⟨nm,vl,hs⟩))∧Below w.heap.size w w':=by
 have hv:parB ⟨nm,vl,hs⟩=(decide (1≤nm.length) && (decide (nm.length≤64) && (decide (vl.length≤64) && (hs || vl.isEmpty)))):=rfl;have z1:=size_list nm;have z2:=size_list vl;by_cases c1:1≤nm.length
 ·have e1:nm.isEmpty=false:=by cases nm with | nil=>simp at c1 | cons=>rfl
  by_cases c2:nm.length≤64
  ·by_cases c3:vl.length≤64
   ·have HV:Hid (parB ⟨nm,vl,hs⟩=(hs || vl.isEmpty)):=show _=_ by rw [hv,decide_eq_true c1,decide_eq_true c2,decide_eq_true c3]; rfl
    clear hv
    cases hs
    all_goals (
     go_enter Tryz.func181,Tryz.ntmps181
     go_wp2;go_ret;exact ⟨ret_bool HV.out.symm,(Below.refl _ _).alloc (Nat.le_refl _) _⟩)
   ·have HV:Hid (parB ⟨nm,vl,hs⟩=false):=show _=_ by rw [hv,decide_eq_true c1,decide_eq_true c2,decide_eq_false c3]; rfl
    clear hv
    go_enter Tryz.func181,Tryz.ntmps181
    go_wp2;go_ret;exact ⟨ret_bool HV.out.symm,(Below.refl _ _).alloc (Nat.le_refl _) _⟩
  ·have HV:Hid (parB ⟨nm,vl,hs⟩=false):=show _=_ by rw [hv,decide_eq_true c1,decide_eq_false c2]; rfl
   clear hv
   go_enter Tryz.func181,Tryz.ntmps181
   go_wp2;go_ret;exact ⟨ret_bool HV.out.symm,(Below.refl _ _).alloc (Nat.le_refl _) _⟩
 ·have e1:nm.isEmpty=true:=by cases nm with | nil=>rfl | cons=>simp at c1
  have HV:Hid (parB ⟨nm,vl,hs⟩=false):=show _=_ by rw [hv,decide_eq_false c1]; rfl
  clear hv
  go_enter Tryz.func181,Tryz.ntmps181
  go_wp2;go_ret;exact ⟨ret_bool HV.out.symm,(Below.refl _ _).alloc (Nat.le_refl _) _⟩
def Named (D:DataW Unit) (qs:List Par):Prop:=IsMap D∧∀ kl:List UInt8,D.atKey (.string kl) (.lit (.int .i64 0))=.lit (.int .i64 (if qs.any (fun q=>lowL q.name==kl)=true then 1 else 0))
theorem named0:Named (.map []) []:=⟨⟨[],rfl⟩,fun kl=>rfl⟩
theorem any_apart (qs:List Par) (nm:List UInt8):qs.any (fun q=>lowL q.name==lowL nm)=!apartB qs nm:=by
 unfold apartB sameB
 induction qs with
 | nil=>rfl
 | cons q qs ih=>rw [List.any_cons,List.all_cons,ih]; cases (lowL q.name==lowL nm) <;> rfl
theorem Named.at {D:DataW Unit} {qs:List Par} (h:Named D qs) (nm:List UInt8):D.atKey (.string (lowL nm)) (.lit (.int .i64 0))=.lit (.int .i64 (if apartB qs nm=true then 0 else 1)):=by
 rw [h.2,any_apart]
 cases apartB qs nm <;> rfl
theorem Named.put {D:DataW Unit} {qs:List Par} (h:Named D qs) (p:Par):Named (D.put (.string (lowL p.name)) (.lit (.int .i64 1))) (qs++[p]):=by
 obtain ⟨es,rfl⟩:=h.1;refine ⟨⟨_,rfl⟩,fun kl=>?_⟩
 by_cases hk:kl=lowL p.name
 ·subst hk;rw [atKey_put_same ⟨es,rfl⟩ (by trivial)]
  simp
 ·rw [atKey_put_other (by intro e; exact hk (by injection e))];rw [h.2]
  have:(lowL p.name==kl)=false:=by rw [beq_eq_false_iff_ne]; exact fun e=>hk e.symm
  simp [List.any_append,this]
theorem ownsMap_below {P:Program} {k:TypeId} {R:Value → Option (DataW Unit × List MemPlace)} {w w':World} {b n:Nat} {D:DataW Unit} (h:w.ownsMap P k R b n D) (hb:Below w.heap.size w w'):w'.ownsMap P k R b n D:=by
 have hlt:=h.lt;obtain ⟨es,clock,h1,h2⟩:=h;exact ⟨es,clock,by rw [hb.block b hlt]; exact h1,h2⟩
theorem keyed9:Keyed Tryz.prog 9:=string_keyed Tryz.underlying9
theorem zero3i (w:World):(zeroValue 3).run Tryz.prog w=.ok (.int .i64 0) w:=by kernel_rfl
theorem box_cell {w w5:World} {x y z:Value} {t:TypeId} (h:Below (w.alloc (.cells #[x,y,z] t)).heap.size (w.alloc (.cells #[x,y,z] t)) w5):w5.cell? ⟨w.heap.size,0,none⟩=some x:=by
 rw [h.cell (by simp)];unfold World.cell?; rw [heap_alloc_new]; rfl
theorem box_owns {P:Program} {k:TypeId} {R:Value → Option (DataW Unit × List MemPlace)} {w w5:World} {o:Obj} {b n:Nat} {D:DataW Unit} (h:w.ownsMap P k R b n D) (h5:Below (w.alloc o).heap.size (w.alloc o) w5):w5.ownsMap P k R b n D:=ownsMap_below (h.alloc o) h5
theorem box_below {B:Nat} {a w w5:World} {o:Obj} (hb:Below B a w) (hB:B≤w.heap.size) (h5:Below (w.alloc o).heap.size (w.alloc o) w5):Below B a w5:=(hb.alloc hB o).trans (h5.mono (Nat.le_trans hB (by simp)))
theorem lit_inj {H:Type} {a b:Int} (h:(DataW.lit (Lit.int .i64 a):DataW H)=DataW.lit (Lit.int .i64 b)):a=b:=by injection h with h; injection h
theorem makeHint (n:Int) (u:World):(Instr.makeMap 72 (some (.int .i64 n))).run Tryz.prog u=.ok (.map (some u.heap.size)) (u.alloc (.map #[] 0)):=by kernel_rfl
theorem low_key (nm:List UInt8) (h:nm.length≤140737488355328):keyOf Tryz.prog 9 (.string ⟨(lowL nm).toArray⟩)=some (.string (lowL nm)) :=
 keyOf_string_mk Tryz.underlying9 (by rw [size_list,lowL_len]; unfold maxLen; omega)
set_option maxHeartbeats 2000000 in
set_option maxRecDepth 100000 in
theorem mayBe_row (a:Addr) (cap:Nat) (ps:List Par) (w:World) (hsm:SmallP 140737488355328 ps) (hc:∀ k (hk:k < ps.length),a.block < w.heap.size∧ParAt w a k ps[k]) (h16:ps.length≤16) :
  Calls Tryz.prog 159 #[.slice (some a) ps.length cap] w fun e w'=>e=.returned (.bool (listB ps))∧Below w.heap.size w w':=by
 have hv:Hid (listB ps=listGo [] ps):=show _=_ by rw [listB,decide_eq_true h16]; rfl
 have HC:Hid _:=hc; clear hc
 have HS:Hid _:=hsm.2; clear hsm
 obtain ⟨n,hn⟩:∃ n,n=ps.length:=⟨_,rfl⟩
 rw [← hn] at h16 ⊢;have HN:Hid _:=hn; clear hn
 have hmm:=makeHint n
 go_enter Tryz.func159,Tryz.ntmps159
 go_wp2;clear hmm
 go_loopw [15] (fun i wr=>∃ (k:Nat) (D:DataW Unit),k≤n∧i=.int .i64 k∧Hid (wr.ownsMap Tryz.prog 9 (plainElem Tryz.prog 3) w.heap.size k D)∧Hid (Named D (ps.take k))∧Below w.heap.size w wr∧Hid (listGo [] ps=listGo (ps.take k) (ps.drop k))) (fun i _=>n - (intOf i).toNat)
 case atStart=>exact ⟨0,.map [],by omega,rfl,World.ownsMap_made _ _ _ _,named0,(Below.refl _ _).alloc (Nat.le_refl _) _,show _=_ by simp⟩
 case round =>
  obtain ⟨k,D,hk,rfl,hown,hnam,hb,hgo⟩:=hrel;by_cases hlt:k < n
  ·have hkl:k < ps.length:=by have:=HN.out; omega
   obtain ⟨hab,hpa⟩:=HC.out k hkl;obtain ⟨c0,c1,c2⟩:=hpa.below hb hab;have hss:=HS.out ps[k] (List.getElem_mem hkl);have hat:=listGo_at ps k hkl;have htk:Hid (ps.take (k+1)=ps.take k++[ps[k]]):=List.take_succ_eq_append_getElem hkl;generalize ps[k]=p at c0 c1 c2 hss hat htk;obtain ⟨nm,vl,hs⟩:=p;simp only at c0 c1 c2 hss hat;have HA:Hid _:=hat; clear hat hpa
   cases hp:parB ⟨nm,vl,hs⟩ with
   | false =>
    have hbad:Hid (listB ps=false):=show _=_ by rw [hv.out,hgo.out,HA.out,hp]; rfl
    clear hgo HA hown hnam htk;go_wp2_with (go_at_call 181; refine (fits_any nm vl hs _ hss.1 hss.2).mono ?_; rintro e w5 ⟨rfl,h5⟩; rw [hp])
    go_ret;exact ⟨ret_bool hbad.out.symm,(hb.alloc hb.size _).trans (h5.mono (Nat.le_trans hb.size (by simp)))⟩
   | true =>
    rw [hp,Bool.true_and] at HA;have hkey:=low_key nm hss.1;have hat:=hnam.out.at nm
    cases hap:apartB (ps.take k) nm with
    | false =>
     have hbad:Hid (listB ps=false):=show _=_ by rw [hv.out,hgo.out,HA.out,hap]; rfl
     rw [hap] at hat;have HAT:Hid _:=hat;clear hat;clear hgo HA htk;have hB:=hb.size
     go_wp2_with (first
      | (go_at_call 181; refine (fits_any nm vl hs _ hss.1 hss.2).mono ?_; rintro e w5 ⟨rfl,h5⟩; rw [hp]; have hcl:=box_cell h5; have hown5:Hid _:=box_owns hown.out h5; have hb5:=box_below hb hB h5; clear h5 hown)
      | (go_at_call 137; refine (lower_list nm _ (by omega)).mono ?_; rintro e w6 ⟨rfl,h6⟩; have hownL:=ownsMap_below hown5.out h6; have hb6:=hb5.trans (h6.mono hb5.size); clear h6 hown5 hcl)
      | (at_lookup; refine wpList_lookup_own_int _ rfl _ _ 72 rfl 9 3 .i64 keyed9 Tryz.underlying72 Tryz.underlying3 (zero3i _) w.heap.size _ _ rfl hownL _ _ rfl hkey ?_; intro c hc1 hwc; obtain rfl:c=1:=lit_inj (hc1.symm.trans HAT.out); have hownU:=hownL; clear hownL HAT hc1)
      | (at_mapUpdate; refine wpList_mapUpdate_own _ rfl _ _ _ 72 rfl 9 3 keyed9 Tryz.underlying72 _ w.heap.size k _ rfl hownU (by unfold maxLen; omega) _ _ _ rfl rfl hkey (.lit (.int .i64 2)) [] (plainElem_int Tryz.underlying3 (by decide)) ?_; intro w7 hown7 hgr; have hownM:=hown7; have hb7:=hb6.grown hgr hb6.size (fun j hj=>by cases hj; exact Nat.le_refl _); clear hownU hown7 hgr)
      | (at_lookup; refine wpList_lookup_own_int _ rfl _ _ 72 rfl 9 3 .i64 keyed9 Tryz.underlying72 Tryz.underlying3 (zero3i _) w.heap.size _ _ rfl hownM _ _ rfl hkey ?_; intro c hc1 hwc; obtain rfl:c=2:=lit_inj (hc1.symm.trans (atKey_put_same hnam.out.1 (by trivial) _ _))))
     go_ret;exact ⟨ret_bool hbad.out.symm,hb7⟩
    | true =>
     have hgo2:Hid (listGo [] ps=listGo (ps.take (k+1)) (ps.drop (k+1))):=show _=_ by rw [hgo.out,HA.out,hap]; rfl
     have hnam2:Hid (Named (D.put (.string (lowL nm)) (.lit (.int .i64 1))) (ps.take (k+1))):=by
      show Named _ _
      rw [htk.out]; exact hnam.out.put ⟨nm,vl,hs⟩
     rw [hap] at hat;have HAT:Hid _:=hat;clear hat;clear hgo HA htk;have hB:=hb.size
     go_wp2_with (first
      | (go_at_call 181; refine (fits_any nm vl hs _ hss.1 hss.2).mono ?_; rintro e w5 ⟨rfl,h5⟩; rw [hp]; have hcl:=box_cell h5; have hown5:Hid _:=box_owns hown.out h5; have hb5:=box_below hb hB h5; clear h5 hown)
      | (go_at_call 137; refine (lower_list nm _ (by omega)).mono ?_; rintro e w6 ⟨rfl,h6⟩; have hownL:=ownsMap_below hown5.out h6; have hb6:=hb5.trans (h6.mono hb5.size); clear h6 hown5 hcl)
      | (at_lookup; refine wpList_lookup_own_int _ rfl _ _ 72 rfl 9 3 .i64 keyed9 Tryz.underlying72 Tryz.underlying3 (zero3i _) w.heap.size _ _ rfl hownL _ _ rfl hkey ?_; intro c hc1 hwc; obtain rfl:c=0:=lit_inj (hc1.symm.trans HAT.out); have hownU:=hownL; clear hownL HAT hc1)
      | (at_mapUpdate; refine wpList_mapUpdate_own _ rfl _ _ _ 72 rfl 9 3 keyed9 Tryz.underlying72 _ w.heap.size k _ rfl hownU (by unfold maxLen; omega) _ _ _ rfl rfl hkey (.lit (.int .i64 1)) [] (plainElem_int Tryz.underlying3 (by decide)) ?_; intro w7 hown7 hgr; have hownM:=hown7; have hownK:Hid _:=hown7; have hb7:=hb6.grown hgr hb6.size (fun j hj=>by cases hj; exact Nat.le_refl _); clear hownU hown7 hgr)
      | (at_lookup; refine wpList_lookup_own_int _ rfl _ _ 72 rfl 9 3 .i64 keyed9 Tryz.underlying72 Tryz.underlying3 (zero3i _) w.heap.size _ _ rfl hownM _ _ rfl hkey ?_; intro c hc1 hwc; obtain rfl:c=1:=lit_inj (hc1.symm.trans (atKey_put_same hnam.out.1 (by trivial) _ _)); clear hc1 hownM))
     go_roundw
     case rel=>exact ⟨k+1,_,by omega,by go_num,hownK,hnam2,hb7,hgo2⟩
     case measure=>simp [intOf]; omega
  ·have hd:Hid (listB ps=true):=show _=_ by
    have e:=HN.out;rw [hv.out,hgo.out,List.drop_of_length_le (by omega)]; rfl
   clear hgo hown hnam;go_wp2;go_ret;exact ⟨ret_bool hd.out.symm,hb⟩
end Go.Proofs.YteicmbhilambpaaGreatDoor
namespace Go.Proofs.YteicmbhilambpaaGreatDoor
open Go.RowKit Sc
def BoxU (w:World) (b:Nat) (u:Uri) (p h:Value):Prop :=
 w.cell? ⟨b,0,none⟩=some (.string ⟨u.scheme.toArray⟩)∧w.cell? ⟨b,1,none⟩=some (.string ⟨u.user.toArray⟩)∧w.cell? ⟨b,2,none⟩=some (.string ⟨u.host.toArray⟩) ∧
 w.cell? ⟨b,3,none⟩=some (.int .i64 u.port)∧w.cell? ⟨b,4,none⟩=some p∧w.cell? ⟨b,5,none⟩=some h
theorem BoxU.below {w w':World} {b B:Nat} {u:Uri} {p h:Value} (k:BoxU w b u p h) (hb:Below B w w') (hlt:b < B):BoxU w' b u p h :=
 ⟨cell_below hb hlt k.1,cell_below hb hlt k.2.1,cell_below hb hlt k.2.2.1,cell_below hb hlt k.2.2.2.1,cell_below hb hlt k.2.2.2.2.1,cell_below hb hlt k.2.2.2.2.2⟩
theorem box_new (w:World) (u:Uri) (p h:Value):BoxU (w.alloc (.cells #[.string ⟨u.scheme.toArray⟩,.string ⟨u.user.toArray⟩,.string ⟨u.host.toArray⟩,.int .i64 u.port,p,h] 143)) w.heap.size u p h:=by
 unfold BoxU World.cell?;simp only [heap_alloc_new];exact ⟨rfl,rfl,rfl,rfl,rfl,rfl⟩
theorem has_snoc {ps:List Par} {k:Nat} (hk:k < ps.length) (h:(ps.take k).all (·.has)=true) (hb:ps[k].has=true):(ps.take (k+1)).all (·.has)=true:=by
 rw [List.take_succ_eq_append_getElem hk,List.all_append,h]; simp [hb]
theorem has_bad {ps:List Par} {k:Nat} (hk:k < ps.length) (hb:ps[k].has=false):ps.all (·.has)=false:=by
 rw [List.all_eq_false]; exact ⟨ps[k],List.getElem_mem hk,by simp [hb]⟩
end Go.Proofs.YteicmbhilambpaaGreatDoor
