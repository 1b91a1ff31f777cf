/-
  RefWhere, RefCheck, RefPair, RefParse.
-/
import Derived.Test.YtldkidljjbkmbaaGreatDoorPX13
import Derived.Test.YtldkidljjbkmbaaGreatDoorPA29
set_option linter.unusedVariables false
set_option linter.unusedSimpArgs false
set_option maxRecDepth 20000
namespace Go.Proofs.YtldkidljjbkmbaaGreatDoor
open Go.RowKit Sc
set_option maxHeartbeats 2000000 in
set_option maxRecDepth 100000 in
theorem refwhere_any (s:ByteArray) (w:World) (hs:s.size≤140737488355328) :
  Calls Tryz.prog 91 #[.string s] w fun e w'=>e=.returned (.tuple #[.string ⟨(whereV s.data.toList).1.toArray⟩,.int .i64 (whereV s.data.toList).2.1,.int .i64 (whereV s.data.toList).2.2])∧Below w.heap.size w w':=by
 go_enter Tryz.func91,Tryz.ntmps91
 go_wp2
 go_loop [5,6] (fun i x=>∃ (k:Nat) (b:Bool),k≤s.size∧i=.int .i64 k∧x=.bool b∧Hid (whereGo false s.data.toList=k+whereGo b (s.data.toList.drop k))) (fun i _=>s.size - (intOf i).toNat)
 case atStart=>exact ⟨0,false,by omega,rfl,rfl,show _=_ by simp⟩
 case round =>
  obtain ⟨k,b,hk,rfl,rfl,hgo⟩:=hrel;by_cases hstop:k < s.size∧¬ (b=false∧s.data.toList.getD k 0=58)
  ·obtain ⟨hlt,hst⟩:=hstop;rw [getD_s s k hlt] at hst
   have hgo2:Hid (whereGo false s.data.toList=(k+1)+whereGo (insN b s[k]) (s.data.toList.drop (k+1))):=show _=_ by
    rw [hgo.out,drop_cons s k hlt,whereGo,if_neg hst]; omega
   have e58:b=true∨((s[k].toNat:Int) != 58)=true:=by
    cases b with
    | true=>exact Or.inl rfl
    | false =>
     right
     have:=u8_ne (a:=s[k]) (b:=58) (fun e=>hst ⟨rfl,e⟩)
     simp only [bne,Bool.not_eq_true']; exact this
   clear hgo hst;have hins:insN b s[k]=if s[k]=93 then false else if s[k]=91 then true else b:=rfl
   by_cases h93:s[k]=93
   ·have e93:((s[k].toNat:Int)==93)=true:=by rw [h93]; rfl
    have e91:((s[k].toNat:Int)==91)=false:=u8_ne (b:=91) (by rw [h93]; decide);rw [hins,if_pos h93] at hgo2;clear h93 hins
    rcases e58 with rfl | e58
    all_goals (
     first | cases b | skip
     all_goals (
      go_wp2
      go_round
      case rel=>exact ⟨k+1,false,by omega,by go_num,rfl,hgo2⟩
      case measure=>simp [intOf]; omega))
   ·have e93:((s[k].toNat:Int)==93)=false:=u8_ne (b:=93) h93;by_cases h91:s[k]=91
    ·have e91:((s[k].toNat:Int)==91)=true:=by rw [h91]; rfl
     rw [hins,if_neg h93,if_pos h91] at hgo2;clear h93 h91 hins
     rcases e58 with rfl | e58
     all_goals (
      first | cases b | skip
      all_goals (
       go_wp2
       go_round
       case rel=>exact ⟨k+1,true,by omega,by go_num,rfl,hgo2⟩
       case measure=>simp [intOf]; omega))
    ·have e91:((s[k].toNat:Int)==91)=false:=u8_ne (b:=91) h91;rw [hins,if_neg h93,if_neg h91] at hgo2;clear h93 h91 hins
     rcases e58 with rfl | e58
     all_goals (
      first | cases b | skip
      all_goals (
       go_wp2
       go_round
       case rel=>exact ⟨k+1,_,by omega,by go_num,rfl,hgo2⟩
       case measure=>simp [intOf]; omega))
  ·have hat:whereGo false s.data.toList=k:=by
    rw [hgo.out];by_cases hlt:k < s.size
    ·have:b=false∧s.data.toList.getD k 0=58:=by
      by_cases h:b=false∧s.data.toList.getD k 0=58
      ·exact h
      ·exact absurd ⟨hlt,h⟩ hstop
     rw [getD_s s k hlt] at this;rw [drop_cons s k hlt,whereGo,if_pos this]; omega
    ·rw [drop_all s k (by omega)]; simp [whereGo]
   have hend:(k=s.size)∨(k < s.size∧b=false∧s.data.toList.getD k 0=58):=by
    by_cases hlt:k < s.size
    ·right
     by_cases h:b=false∧s.data.toList.getD k 0=58
     ·exact ⟨hlt,h⟩
     ·exact absurd ⟨hlt,h⟩ hstop
    ·left; omega
   have HV:Hid (whereV s.data.toList=if hostB (lowL (s.data.toList.take k))=true then portV (lowL (s.data.toList.take k)) s.data.toList k else ([],0,32)):=show _=_ by rw [whereV,hat]
   have hll:(lowL (s.data.toList.take k)).length≤140737488355328:=by
    rw [lowL,List.length_map,List.length_take,len_data]; omega
   clear hstop hgo hat
   rcases hend with he | ⟨hlt,rfl,h58⟩
   ·have hke:((k:Int)==(s.size:Int))=true:=by simp only [beq_iff_eq]; omega
    have hge:s.size≤k:=by omega
    have HE:Hid _:=he; clear he
    cases hh:hostB (lowL (s.data.toList.take k)) with
    | false =>
     rw [hh] at HV
     go_wp2_with (first
      | (go_at_call 86; refine (reflower_cut s k _ hs (by omega)).mono ?_; rintro e w1 ⟨rfl,hw1⟩)
      | (go_at_call 121; refine (refhost_list _ _ hll).mono ?_; rintro e w2 ⟨rfl,hw2⟩))
     go_ret3
     exact ⟨ret_where (x:=[]) (by rw [HV.out]; rfl),hw1.trans (hw2.mono hw1.size)⟩
    | true =>
     rw [hh,if_pos rfl] at HV
     go_wp2_with (first
      | (go_at_call 86; refine (reflower_cut s k _ hs (by omega)).mono ?_; rintro e w1 ⟨rfl,hw1⟩)
      | (go_at_call 121; refine (refhost_list _ _ hll).mono ?_; rintro e w2 ⟨rfl,hw2⟩))
     go_ret3
     exact ⟨ret_where (by rw [HV.out,portV,if_pos (by rw [len_data]; exact HE.out)]),hw1.trans (hw2.mono hw1.size)⟩
   ·rw [getD_s s k hlt] at h58;have e58:((s[k].toNat:Int) != 58)=false:=by rw [h58]; rfl
    have hke:((k:Int)==(s.size:Int))=false:=by simp only [beq_eq_false_iff_ne,ne_eq]; omega
    clear h58
    cases hh:hostB (lowL (s.data.toList.take k)) with
    | false =>
     rw [hh] at HV
     go_wp2_with (first
      | (go_at_call 86; refine (reflower_cut s k _ hs (by omega)).mono ?_; rintro e w1 ⟨rfl,hw1⟩)
      | (go_at_call 121; refine (refhost_list _ _ hll).mono ?_; rintro e w2 ⟨rfl,hw2⟩))
     go_ret3
     exact ⟨ret_where (x:=[]) (by rw [HV.out]; rfl),hw1.trans (hw2.mono hw1.size)⟩
    | true =>
     rw [hh,if_pos rfl,portV,if_neg (by rw [len_data]; omega)] at HV;obtain ⟨n,hn⟩:∃ n,(numV 65535 (s.data.toList.drop (k+1))).1=n:=⟨_,rfl⟩
     obtain ⟨e,he⟩:∃ e,(numV 65535 (s.data.toList.drop (k+1))).2=e:=⟨_,rfl⟩
     rw [hn,he] at HV;by_cases hbad:e ≠ 0∨n=0
     ·rw [if_pos hbad] at HV;by_cases he0:e=0
      ·have hn0:n=0:=by
        rcases hbad with h | h
        ·exact absurd he0 h
        ·exact h
       subst he0 hn0;clear hbad
       go_wp2_with (first
        | (go_at_call 86; refine (reflower_cut s k _ hs (by omega)).mono ?_; rintro e w1 ⟨rfl,hw1⟩)
        | (go_at_call 122; refine (refnumber_tail s (k+1) 65535 _ hs (by omega) (by omega)).mono ?_; rintro e w' ⟨rfl,rfl⟩; rw [hn,he])
        | (go_at_call 121; refine (refhost_list _ _ hll).mono ?_; rintro e w2 ⟨rfl,hw2⟩))
       go_ret3
       exact ⟨ret_where (x:=[]) (by rw [HV.out]),hw1.trans (hw2.mono hw1.size)⟩
      ·have hen:(e != 0)=true:=by simpa using he0
       clear hbad he0
       go_wp2_with (first
        | (go_at_call 86; refine (reflower_cut s k _ hs (by omega)).mono ?_; rintro e w1 ⟨rfl,hw1⟩)
        | (go_at_call 122; refine (refnumber_tail s (k+1) 65535 _ hs (by omega) (by omega)).mono ?_; rintro e w' ⟨rfl,rfl⟩; rw [hn,he])
        | (go_at_call 121; refine (refhost_list _ _ hll).mono ?_; rintro e w2 ⟨rfl,hw2⟩))
       go_ret3
       exact ⟨ret_where (x:=[]) (by rw [HV.out]),hw1.trans (hw2.mono hw1.size)⟩
     ·rw [if_neg hbad] at HV
      have hen:e=0:=by
       by_cases h:e=0
       ·exact h
       ·exact absurd (Or.inl h) hbad
      have hnn:(n==0)=false:=by
       simp only [beq_eq_false_iff_ne,ne_eq];intro h; exact hbad (Or.inr h)
      subst hen;clear hbad
      go_wp2_with (first
       | (go_at_call 86; refine (reflower_cut s k _ hs (by omega)).mono ?_; rintro e w1 ⟨rfl,hw1⟩)
       | (go_at_call 122; refine (refnumber_tail s (k+1) 65535 _ hs (by omega) (by omega)).mono ?_; rintro e w' ⟨rfl,rfl⟩; rw [hn,he])
       | (go_at_call 121; refine (refhost_list _ _ hll).mono ?_; rintro e w2 ⟨rfl,hw2⟩))
      go_ret3
      exact ⟨ret_where (by rw [HV.out]),hw1.trans (hw2.mono hw1.size)⟩
theorem refscheme_list (l:List UInt8) (w:World) :
  Calls Tryz.prog 87 #[.string ⟨l.toArray⟩] w fun e w'=>e=.returned (.bool (schemeB l))∧w'=w:=refscheme_any ⟨l.toArray⟩ w
set_option maxHeartbeats 2000000 in
set_option maxRecDepth 100000 in
theorem refcheck_any (u:Uri) (p h:Value) (w:World) (hsm:SmallU 140737488355328 u) (hp:ParsAt w p u.params) (hh:ParsAt w h u.headers) :
  Calls Tryz.prog 93 #[uriV u p h] w fun e w'=>e=.returned (.int .i64 (checkV u))∧Below w.heap.size w w':=by
 obtain ⟨s1,s2,s3,s4,s5⟩:=hsm;have hcv:checkV u=checkV u:=rfl
 conv at hcv=>rhs; unfold checkV
 have hbox:=box_new w u p h;have hbw:Below w.heap.size w (w.alloc (.cells #[.string ⟨u.scheme.toArray⟩,.string ⟨u.user.toArray⟩,.string ⟨u.host.toArray⟩,.int .i64 u.port,p,h] 97)):=(Below.refl _ w).alloc (Nat.le_refl _) _;have hws:w.heap.size < (w.alloc (.cells #[.string ⟨u.scheme.toArray⟩,.string ⟨u.user.toArray⟩,.string ⟨u.host.toArray⟩,.int .i64 u.port,p,h] 97)).heap.size:=by simp
 unfold uriV
 cases e1:schemeB u.scheme with
 | false =>
  rw [e1] at hcv; simp at hcv
  have HV:Hid _:=hcv; clear hcv
  go_enter Tryz.func93,Tryz.ntmps93
  go_wp2_with (go_at_call 87; refine (refscheme_list _ _).mono ?_; rintro e w' ⟨rfl,rfl⟩)
  go_ret;exact ⟨ret_int HV.out.symm,hbw⟩
 | true =>
  rw [e1,if_neg (by simp)] at hcv;by_cases e2:64 < u.user.length
  ·rw [if_pos e2] at hcv;have HV:Hid _:=hcv; clear hcv
   go_enter Tryz.func93,Tryz.ntmps93
   go_wp2_with (go_at_call 87; refine (refscheme_list _ _).mono ?_; rintro e w' ⟨rfl,rfl⟩)
   go_ret;exact ⟨ret_int HV.out.symm,hbw⟩
  ·rw [if_neg e2] at hcv
   go_enter Tryz.func93,Tryz.ntmps93
   go_wp2_with (go_at_call 87; refine (refscheme_list _ _).mono ?_; rintro e w' ⟨rfl,rfl⟩)
   refine (refhost_list _ _ s3).mono ?_
   rintro e w2 ⟨rfl,hw2⟩;have hb2:=hbw.trans (hw2.mono hbw.size);have hx2:=hbox.below hw2 hws;have hs2:w.heap.size < w2.heap.size:=Nat.lt_of_lt_of_le hws hw2.size;obtain ⟨g0,g1,g2,g3,g4,g5⟩:=hx2;have hx2:Hid (BoxU w2 w.heap.size u p h):=⟨g0,g1,g2,g3,g4,g5⟩
   clear hbox hbw hws hw2
   cases e3:hostB u.host with
   | false =>
    rw [e3,if_pos rfl] at hcv;have HV:Hid _:=hcv; clear hcv
    go_wp2;go_ret;exact ⟨ret_int HV.out.symm,hb2⟩
   | true =>
    rw [e3,if_neg (by simp)] at hcv;by_cases e4:u.port < 0∨65535 < u.port
    ·rw [if_pos e4] at hcv;have HV:Hid _:=hcv; clear hcv
     by_cases e5:u.port < 0
     ·clear e4;go_wp2;go_ret;exact ⟨ret_int HV.out.symm,hb2⟩
     ·have e6:65535 < u.port:=by omega
      clear e4;go_wp2;go_ret;exact ⟨ret_int HV.out.symm,hb2⟩
    ·rw [if_neg e4] at hcv;have e5:0≤u.port:=by omega
     have e6:u.port≤65535:=by omega
     clear e4;go_wp2_with fail
     refine (list_any _ u.params _ s4 (hp.below hb2)).mono ?_
     rintro e w3 ⟨rfl,hw3⟩;have hb3:=hb2.trans (hw3.mono hb2.size);have hx3:=hx2.out.below hw3 hs2;have hs3:w.heap.size < w3.heap.size:=Nat.lt_of_lt_of_le hs2 hw3.size;clear g0 g1 g2 g3 g4 g5 hx2 hb2 hw3;obtain ⟨g0,g1,g2,g3,g4,g5⟩:=hx3;have hx3:Hid (BoxU w3 w.heap.size u p h):=⟨g0,g1,g2,g3,g4,g5⟩
     cases e7:listB u.params with
     | false =>
      rw [e7,if_pos rfl] at hcv;have HV:Hid _:=hcv; clear hcv
      go_wp2;go_ret;exact ⟨ret_int HV.out.symm,hb3⟩
     | true =>
      rw [e7,if_neg (by simp)] at hcv;go_wp2_with fail
      refine (list_any _ u.headers _ s5 (hh.below hb3)).mono ?_
      rintro e w4 ⟨rfl,hw4⟩;have hb4:=hb3.trans (hw4.mono hb3.size);have hx4:=hx3.out.below hw4 hs3;clear g0 g1 g2 g3 g4 g5 hx3 hb3 hw4 hs2;obtain ⟨g0,g1,g2,g3,g4,g5⟩:=hx4
      cases e8:listB u.headers with
      | false =>
       rw [e8,if_pos rfl] at hcv;have HV:Hid _:=hcv; clear hcv
       go_wp2;go_ret;exact ⟨ret_int HV.out.symm,hb4⟩
      | true =>
       rw [e8,if_neg (by simp)] at hcv;have HV:Hid _:=hcv; clear hcv
       have h4:=hh.below hb4;have h16:u.headers.length≤140737488355328:=s5.1;obtain ⟨n,hn⟩:∃ n,n=u.headers.length:=⟨_,rfl⟩
       rcases h4 with ⟨rfl,hnil⟩ | ⟨a,cap,rfl,hc⟩
       ·have hall:Hid (checkV u=0):=show _=_ by rw [HV.out,hnil]; rfl
        go_wp2
        go_loop [3] (fun i=>i=.int .i64 0) (fun i=>0)
        case atStart=>rfl
        case round =>
         subst hrel;go_wp2;go_ret;exact ⟨ret_int hall.out.symm,hb4⟩
       ·have HC:Hid _:=hc; clear hc
        rw [← hn] at h16 g5 ⊢;go_wp2
        go_loop [3] (fun i=>∃ k:Nat,k≤n∧i=.int .i64 k∧Hid ((u.headers.take k).all (·.has)=true)) (fun i=>n - (intOf i).toNat)
        case atStart=>exact ⟨0,by omega,rfl,rfl⟩
        case round =>
         obtain ⟨k,hk,rfl,hal⟩:=hrel;by_cases hlt:k < n
         ·have hkl:k < u.headers.length:=by omega
          obtain ⟨c0,c1,c2⟩:=(HC.out k hkl).2
          cases hhas:u.headers[k].has with
          | true =>
           have hal2:Hid ((u.headers.take (k+1)).all (·.has)=true):=has_snoc hkl hal.out hhas;rw [hhas] at c2;clear hal;go_wp2
           go_round
           case rel=>exact ⟨k+1,by omega,by go_num,hal2⟩
           case measure=>simp [intOf]; omega
          | false =>
           have hbad:Hid (checkV u=34):=show _=_ by rw [HV.out,has_bad hkl hhas]; rfl
           rw [hhas] at c2;clear hal;go_wp2;go_ret;exact ⟨ret_int hbad.out.symm,hb4⟩
         ·have hall:Hid (checkV u=0):=show _=_ by
           have:=hal.out
           rw [List.take_of_length_le (by omega)] at this;rw [HV.out,this]; rfl
          clear hal;go_wp2;go_ret;exact ⟨ret_int hall.out.symm,hb4⟩
theorem refesc_list (s keep:List UInt8) (w:World) (hs:s.length≤1048640) (hk:keep.length≤64) :
  Calls Tryz.prog 94 #[.string ⟨s.toArray⟩,.string ⟨keep.toArray⟩] w fun e w'=>e=.returned (.string ⟨(escL keep s).toArray⟩)∧Below w.heap.size w w' :=
 refescape_any ⟨s.toArray⟩ ⟨keep.toArray⟩ w (by rw [size_list]; omega) (by rw [size_list]; unfold maxLen; omega)
theorem cut3_r {r a b:List UInt8} {f:Bool} {c:UInt8} (h:cutL c r=(a,b,f)) (w:World) (hs:r.length≤9223372036854775807) :
  Calls Tryz.prog 85 #[.string ⟨r.toArray⟩,.int .u8 c.toNat] w fun e w'=>e=.returned (.tuple #[.string ⟨a.toArray⟩,.string ⟨b.toArray⟩,.bool f])∧Below w.heap.size w w':=by
 have k:=cut3_list r c w hs;rw [h] at k;refine k.mono ?_
 rintro e w' ⟨rfl,q,rfl⟩;exact ⟨rfl,below_drewN w q⟩
theorem split3_of {l p0:List UInt8} {ps:List (List UInt8)} {c:UInt8} (h:splitL c l=p0 :: ps) (w:World) (hs:l.length≤1048640) :
  Calls Tryz.prog 90 #[.string ⟨l.toArray⟩,.int .u8 c.toNat] w fun e w'=>∃ g cap,e=.returned (.slice (some ⟨g,0,none⟩) (ps.length+1) cap)∧ps.length+1≤cap∧g < w'.heap.size∧(∀ j (hj:j < (p0 :: ps).length),w'.cell? ⟨g,j,none⟩=some (.string ⟨((p0 :: ps)[j]).toArray⟩))∧Below w.heap.size w w':=by
 have k:=split3_any ⟨l.toArray⟩ c w (by rw [size_list]; exact hs);refine k.mono ?_
 rintro e w' ⟨v,rfl,hown,hb⟩;have hown2:Own w' w.heap.size 9 v (strs (p0 :: ps)):=by rw [← h]; exact hown
 obtain ⟨g,cap,rfl,hc⟩:=own_strs hown2 (by simp)
 have hcap:ps.length+1≤cap∧g < w'.heap.size:=by
  rcases hown2.2 with ⟨e,_⟩ | ⟨g',cap',cur,e,hB,hg,h1,h2,h3,h4⟩
  ·simp at e
  ·simp only [Value.slice.injEq,Option.some.injEq,Addr.mk.injEq] at e;obtain ⟨⟨rfl,_⟩,_,rfl⟩:=e;rw [strs_length] at h1;refine ⟨h1,?_⟩
   apply Classical.byContradiction
   intro hge;rw [Array.getElem?_eq_none (by omega)] at hg
   cases hg
 exact ⟨g,cap,rfl,hcap.1,hcap.2,hc,hb⟩
theorem refwhere_of {l wh:List UInt8} {wp we:Int} (h:whereV l=(wh,wp,we)) (w:World) (hs:l.length≤1048640) :
  Calls Tryz.prog 91 #[.string ⟨l.toArray⟩] w fun e w'=>e=.returned (.tuple #[.string ⟨wh.toArray⟩,.int .i64 wp,.int .i64 we])∧Below w.heap.size w w':=by
 have k:=refwhere_any ⟨l.toArray⟩ w (by rw [size_list]; omega);have k2:Calls Tryz.prog 91 #[.string ⟨l.toArray⟩] w fun e w'=>e=.returned (.tuple #[.string ⟨(whereV l).1.toArray⟩,.int .i64 (whereV l).2.1,.int .i64 (whereV l).2.2])∧Below w.heap.size w w':=k;rw [h] at k2;exact k2
theorem params_of (v:Value) (ls:List (List UInt8)) (keep:List UInt8) (w:World) (hk:keep.length≤64) (hn:ls.length≤1048641) (hl:∀ l ∈ ls,l.length≤1048640) (hv:StrsAt w v ls) :
  Calls Tryz.prog 92 #[v,.string ⟨keep.toArray⟩] w fun e w'=>∃ v' b,e=.returned (.tuple #[v',.bool b])∧((∃ ps,parsOf keep ls=some ps∧b=true∧OwnP w' w.heap.size v' ps)∨(parsOf keep ls=none∧b=false∧v'=.slice none 0 0))∧Below w.heap.size w w':=params_any v ls keep w hk hn hl hv
theorem reflower_list (l:List UInt8) (w:World) (hs:l.length≤1048640) :
  Calls Tryz.prog 86 #[.string ⟨l.toArray⟩] w fun e w'=>e=.returned (.string ⟨(lowL l).toArray⟩)∧Below w.heap.size w w' :=
 reflower_txt ⟨l.toArray⟩ w (by rw [size_list]; omega)
theorem has3_r (l:List UInt8) (c:UInt8) (w:World) (hs:l.length≤1048640) :
  Calls Tryz.prog 88 #[.string ⟨l.toArray⟩,.int .u8 c.toNat] w fun e w'=>e=.returned (.bool (hasL c l))∧w'=w :=
 has3_any ⟨l.toArray⟩ c w (by rw [size_list]; unfold maxLen; omega)
theorem written_of {a t keep:List UInt8} {b:Bool} (h:writtenV keep a=(t,b)) (w:World) (hs:a.length≤1048640) (hk:keep.length≤64) :
  Calls Tryz.prog 89 #[.string ⟨a.toArray⟩,.string ⟨keep.toArray⟩] w fun e w'=>e=.returned (.tuple #[.string ⟨t.toArray⟩,.bool b])∧Below w.heap.size w w':=by
 have k:=written_list a keep w hs hk;rw [h] at k;exact k
end Go.Proofs.YtldkidljjbkmbaaGreatDoor
