/-
  RefList, UCheck, RefWhere, RefCheck, UMay.
-/
import Derived.Test.YtbmjodlbkgblpaaGreatDoorPO16
set_option linter.unusedVariables false
set_option linter.unusedSimpArgs false
set_option maxRecDepth 20000
namespace Go.Proofs.YtbmjodlbkgblpaaGreatDoor
open Go.RowKit Sc
set_option maxHeartbeats 2000000 in
set_option maxRecDepth 100000 in
theorem list_row (a:Addr) (cap:Nat) (ps:List Par) (w:World) (hsm:SmallP 140737488355328 ps) (hc:∀ k (hk:k < ps.length),a.block < w.heap.size∧ParAt w a k ps[k]) (h16:ps.length≤16) :
  Calls Tryz.prog 112 #[.slice (some a) ps.length cap] w fun e w'=>e=.returned (.bool (listB ps))∧Below w.heap.size w w':=by
 have hv:Hid (listB ps=listGo [] ps):=show _=_ by rw [listB,decide_eq_true h16]; rfl
 have HC:Hid _:=hc; clear hc
 have HS:Hid _:=hsm.2; clear hsm
 obtain ⟨n,hn⟩:∃ n,n=ps.length:=⟨_,rfl⟩
 rw [← hn] at h16 ⊢;have HN:Hid _:=hn; clear hn
 go_enter Tryz.func112,Tryz.ntmps112
 go_wp2
 go_loopw [3] (fun i wr=>∃ k:Nat,k≤n∧i=.int .i64 k∧Below w.heap.size w wr∧Hid (listGo [] ps=listGo (ps.take k) (ps.drop k))) (fun i _=>n - (intOf i).toNat)
 case atStart=>exact ⟨0,by omega,rfl,Below.refl _ _,show _=_ by simp⟩
 case round =>
  obtain ⟨k,hk,rfl,hb,hgo⟩:=hrel;by_cases hlt:k < n
  ·have hkl:k < ps.length:=by have:=HN.out; omega
   obtain ⟨hab,hpa⟩:=HC.out k hkl;obtain ⟨c0,c1,c2⟩:=hpa.below hb hab;have hss:=HS.out ps[k] (List.getElem_mem hkl);have hat:=listGo_at ps k hkl;generalize ps[k]=p at c0 c1 c2 hss hat;obtain ⟨nm,vl,hs⟩:=p;simp only at c0 c1 c2 hss hat;have HA:Hid _:=hat; clear hat hpa
   by_cases h1:1≤nm.length
   ·by_cases h2:nm.length≤64
    ·by_cases h3:vl.length≤64
     ·by_cases h4:hs=true∨vl=[]
      ·have hpb:parB ⟨nm,vl,hs⟩=true:=by
        simp [parB]
        refine ⟨by omega,h2,h3,?_⟩
        rcases h4 with h | h
        ·exact Or.inl h
        ·exact Or.inr h
       rw [hpb,Bool.true_and] at HA
       have h4':hs=true∨(hs=false∧vl.isEmpty=true):=by
        cases hs with
        | true=>exact Or.inl rfl
        | false=>right; rcases h4 with h | h <;> simp_all
       clear hpb h4;have hcell:∀ o1 o2 o3,(wr.alloc (.cells #[.string o1,o2,o3] 173)).cell? ⟨wr.heap.size,0,none⟩=some (.string o1):=fun o1 o2 o3=>by unfold World.cell?; rw [heap_alloc_new]; rfl
       have hb3:∀ o,Below w.heap.size w (wr.alloc o):=fun o=>hb.alloc hb.size o;have hsz3:∀ o,wr.heap.size < (wr.alloc o).heap.size:=fun o=>by simp
       rcases h4' with rfl | ⟨rfl,hie⟩
       all_goals (
        go_wp2;have hcell':=hcell ⟨nm.toArray⟩ (.string ⟨vl.toArray⟩);generalize hw3:wr.alloc (Obj.cells #[Value.string ⟨nm.toArray⟩,Value.string ⟨vl.toArray⟩,_] 173)=w3;have hcl:w3.cell? ⟨wr.heap.size,0,none⟩=some (.string ⟨nm.toArray⟩):=by rw [← hw3]; exact hcell' _
        have hbw:Below w.heap.size w w3:=by rw [← hw3]; exact hb3 _
        have hsw:wr.heap.size < w3.heap.size:=by rw [← hw3]; exact hsz3 _
        have HCL:Hid _:=hcl;clear hcell hcell' hb3 hsz3 hw3 c0 c1 c2 hb hcl
        go_loopw [5] (fun i wr2=>∃ j:Nat,j≤k∧i=.int .i64 j∧Below w3.heap.size w3 wr2∧Hid (apartB (ps.take j) nm=true)) (fun i _=>k - (intOf i).toNat)
        case atStart=>exact ⟨0,by omega,rfl,Below.refl _ _,rfl⟩
        case round =>
         obtain ⟨j,hj,rfl,hb4,hap⟩:=hrel;have hbx:=hbw.trans (hb4.mono hbw.size);by_cases hjk:j < k
         ·have hjl:j < ps.length:=by omega
          obtain ⟨d0,d1,d2⟩:=(HC.out j hjl).2.below hbx hab;have hcl2:=cell_below hb4 hsw HCL.out;have hsj:=(HS.out ps[j] (List.getElem_mem hjl)).1;have hjn:(j:Int) < (n:Int):=by omega
          cases hsm:sameB ps[j].name nm with
          | true =>
           have hbad:Hid (listB ps=false):=show _=_ by
            rw [hv.out,hgo.out,HA.out,apart_bad hjl hjk hsm]; rfl
           clear hap hgo HA;go_wp2
           go_region_law (go_simp; go_at_call 135; refine (refsame_list _ _ _ hsj hss.1).mono ?_; rintro e w5 ⟨rfl,h5⟩)
           all_goals (
            go_wp2;go_ret;exact ⟨ret_bool hbad.out.symm,hbx.drew.trans (h5.mono hbx.size)⟩)
          | false =>
           have hap2:Hid (apartB (ps.take (j+1)) nm=true):=apart_snoc hjl hap.out hsm;clear hap;go_wp2
           go_region_law (go_simp; go_at_call 135; refine (refsame_list _ _ _ hsj hss.1).mono ?_; rintro e w5 ⟨rfl,h5⟩)
           all_goals (
            go_wp2;go_roundw
            case rel=>exact ⟨j+1,by omega,by go_num,hb4.drew.trans (h5.mono hb4.size),hap2⟩
            case measure=>simp [intOf]; omega)
         ·have hjk':j=k:=by omega
          subst hjk'
          have hgo2:Hid (listGo [] ps=listGo (ps.take (j+1)) (ps.drop (j+1))):=show _=_ by
           rw [hgo.out,HA.out,hap.out,Bool.true_and]
          clear hap hgo HA;go_wp2;go_roundw
          case rel=>exact ⟨j+1,by omega,by go_num,hbx,hgo2⟩
          case measure=>simp [intOf]; omega)
      ·have hbad:Hid (listB ps=false):=show _=_ by
        have:parB ⟨nm,vl,hs⟩=false:=by simp [parB] at h4 ⊢; intro _ _ _; exact ⟨h4.1,h4.2⟩
        rw [hv.out,hgo.out,HA.out,this]; rfl
       obtain ⟨h4a,h4b⟩:hs=false∧¬ vl=[]:=by
        cases hs with
        | true=>exact absurd (Or.inl rfl) h4
        | false=>exact ⟨rfl,fun e=>h4 (Or.inr e)⟩
       subst h4a;have hie:vl.isEmpty=false:=by simpa using h4b
       clear h4 hgo HA h4b;go_wp2;go_ret;exact ⟨ret_bool hbad.out.symm,hb.alloc hb.size _⟩
     ·have hbad:Hid (listB ps=false):=show _=_ by
       have:parB ⟨nm,vl,hs⟩=false:=by simp [parB]; intro _ _ h; exact absurd h h3
       rw [hv.out,hgo.out,HA.out,this]; rfl
      clear hgo HA;go_wp2;go_ret;exact ⟨ret_bool hbad.out.symm,hb.alloc hb.size _⟩
    ·have hbad:Hid (listB ps=false):=show _=_ by
      have:parB ⟨nm,vl,hs⟩=false:=by simp [parB]; intro _ h; exact absurd h h2
      rw [hv.out,hgo.out,HA.out,this]; rfl
     clear hgo HA;go_wp2;go_ret;exact ⟨ret_bool hbad.out.symm,hb.alloc hb.size _⟩
   ·have hbad:Hid (listB ps=false):=show _=_ by
     have:parB ⟨nm,vl,hs⟩=false:=by simp [parB]; intro h; omega
     rw [hv.out,hgo.out,HA.out,this]; rfl
    clear hgo HA;go_wp2;go_ret;exact ⟨ret_bool hbad.out.symm,hb.alloc hb.size _⟩
  ·have hd:Hid (listB ps=true):=show _=_ by
    have e:=HN.out;rw [hv.out,hgo.out,List.drop_of_length_le (by omega)]; rfl
   clear hgo;go_wp2;go_ret;exact ⟨ret_bool hd.out.symm,hb⟩
set_option maxHeartbeats 400000 in
theorem list_long (a:Option Addr) (cap:Nat) (ps:List Par) (w:World) (h16:¬ ps.length≤16) :
  Calls Tryz.prog 112 #[.slice a ps.length cap] w fun e w'=>e=.returned (.bool (listB ps))∧Below w.heap.size w w':=by
 have hv:Hid (listB ps=false):=show _=_ by rw [listB,decide_eq_false h16]; rfl
 go_enter Tryz.func112,Tryz.ntmps112
 go_wp2;go_ret;exact ⟨ret_bool hv.out.symm,Below.refl _ _⟩
set_option maxHeartbeats 400000 in
theorem list_nil (a:Option Addr) (cap:Nat) (w:World) :
  Calls Tryz.prog 112 #[.slice a 0 cap] w fun e w'=>e=.returned (.bool true)∧w'=w:=by
 go_enter Tryz.func112,Tryz.ntmps112
 go_wp2
 go_loop [3] (fun i=>i=.int .i64 0) (fun i=>0)
 case atStart=>rfl
 case round =>
  subst hrel;go_wp2;go_ret;exact ⟨rfl,rfl⟩
theorem list_any (v:Value) (ps:List Par) (w:World) (hsm:SmallP 140737488355328 ps) (h:ParsAt w v ps) :
  Calls Tryz.prog 112 #[v] w fun e w'=>e=.returned (.bool (listB ps))∧Below w.heap.size w w':=by
 by_cases h16:ps.length≤16
 ·rcases h with ⟨rfl,rfl⟩ | ⟨a,cap,rfl,hc⟩
  ·refine (list_nil none 0 w).mono ?_
   rintro e w' ⟨rfl,rfl⟩;exact ⟨rfl,Below.refl _ _⟩
  ·exact list_row a cap ps w hsm hc h16
 ·obtain ⟨a,cap,rfl⟩:=h.form;exact list_long a cap ps w h16
end Go.Proofs.YtbmjodlbkgblpaaGreatDoor
namespace Go.Proofs.YtbmjodlbkgblpaaGreatDoor
open Go.RowKit Sc Go.Maps Go.WideMaps
set_option maxHeartbeats 1000000 in
theorem fits_any (nm vl:List UInt8) (hs:Bool) (w:World) (h1:nm.length≤140737488355328) (h2:vl.length≤140737488355328) :
  Calls Tryz.prog 146 #[.agg #[.string ⟨nm.toArray⟩,.string ⟨vl.toArray⟩,.bool hs]] w fun e w'=>e=.returned (.bool (parB ⟨nm,vl,hs⟩))∧Below w.heap.size w w':=by
 have hv:parB ⟨nm,vl,hs⟩=(decide (1≤nm.length) && (decide (nm.length≤64) && (decide (vl.length≤64) && (hs || vl.isEmpty)))):=rfl;have z1:=size_list nm;have z2:=size_list vl;by_cases c1:1≤nm.length
 ·have e1:nm.isEmpty=false:=by cases nm with | nil=>simp at c1 | cons=>rfl
  by_cases c2:nm.length≤64
  ·by_cases c3:vl.length≤64
   ·have HV:Hid (parB ⟨nm,vl,hs⟩=(hs || vl.isEmpty)):=show _=_ by rw [hv,decide_eq_true c1,decide_eq_true c2,decide_eq_true c3]; rfl
    clear hv
    cases hs
    all_goals (
     go_enter Tryz.func146,Tryz.ntmps146
     go_wp2;go_ret;exact ⟨ret_bool HV.out.symm,(Below.refl _ _).alloc (Nat.le_refl _) _⟩)
   ·have HV:Hid (parB ⟨nm,vl,hs⟩=false):=show _=_ by rw [hv,decide_eq_true c1,decide_eq_true c2,decide_eq_false c3]; rfl
    clear hv
    go_enter Tryz.func146,Tryz.ntmps146
    go_wp2;go_ret;exact ⟨ret_bool HV.out.symm,(Below.refl _ _).alloc (Nat.le_refl _) _⟩
  ·have HV:Hid (parB ⟨nm,vl,hs⟩=false):=show _=_ by rw [hv,decide_eq_true c1,decide_eq_false c2]; rfl
   clear hv
   go_enter Tryz.func146,Tryz.ntmps146
   go_wp2;go_ret;exact ⟨ret_bool HV.out.symm,(Below.refl _ _).alloc (Nat.le_refl _) _⟩
 ·have e1:nm.isEmpty=true:=by cases nm with | nil=>rfl | cons=>simp at c1
  have HV:Hid (parB ⟨nm,vl,hs⟩=false):=show _=_ by rw [hv,decide_eq_false c1]; rfl
  clear hv
  go_enter Tryz.func146,Tryz.ntmps146
  go_wp2;go_ret;exact ⟨ret_bool HV.out.symm,(Below.refl _ _).alloc (Nat.le_refl _) _⟩
def Named (D:DataW Unit) (qs:List Par):Prop:=IsMap D∧∀ kl:List UInt8,D.atKey (.string kl) (.lit (.int .i64 0))=.lit (.int .i64 (if qs.any (fun q=>lowL q.name==kl)=true then 1 else 0))
theorem named0:Named (.map []) []:=⟨⟨[],rfl⟩,fun kl=>rfl⟩
theorem any_apart (qs:List Par) (nm:List UInt8):qs.any (fun q=>lowL q.name==lowL nm)=!apartB qs nm:=by
 unfold apartB sameB
 induction qs with
 | nil=>rfl
 | cons q qs ih=>rw [List.any_cons,List.all_cons,ih]; cases (lowL q.name==lowL nm) <;> rfl
theorem Named.at {D:DataW Unit} {qs:List Par} (h:Named D qs) (nm:List UInt8):D.atKey (.string (lowL nm)) (.lit (.int .i64 0))=.lit (.int .i64 (if apartB qs nm=true then 0 else 1)):=by
 rw [h.2,any_apart]
 cases apartB qs nm <;> rfl
theorem Named.put {D:DataW Unit} {qs:List Par} (h:Named D qs) (p:Par):Named (D.put (.string (lowL p.name)) (.lit (.int .i64 1))) (qs++[p]):=by
 obtain ⟨es,rfl⟩:=h.1;refine ⟨⟨_,rfl⟩,fun kl=>?_⟩
 by_cases hk:kl=lowL p.name
 ·subst hk;rw [atKey_put_same ⟨es,rfl⟩ (by trivial)]
  simp
 ·rw [atKey_put_other (by intro e; exact hk (by injection e))];rw [h.2]
  have:(lowL p.name==kl)=false:=by rw [beq_eq_false_iff_ne]; exact fun e=>hk e.symm
  simp [List.any_append,this]
theorem ownsMap_below {P:Program} {k:TypeId} {R:Value → Option (DataW Unit × List MemPlace)} {w w':World} {b n:Nat} {D:DataW Unit} (h:w.ownsMap P k R b n D) (hb:Below w.heap.size w w'):w'.ownsMap P k R b n D:=by
 have hlt:=h.lt;obtain ⟨es,clock,h1,h2⟩:=h;exact ⟨es,clock,by rw [hb.block b hlt]; exact h1,h2⟩
theorem keyed9:Keyed Tryz.prog 9:=string_keyed Tryz.underlying9
theorem zero3i (w:World):(zeroValue 3).run Tryz.prog w=.ok (.int .i64 0) w:=by kernel_rfl
theorem box_cell {w w5:World} {x y z:Value} {t:TypeId} (h:Below (w.alloc (.cells #[x,y,z] t)).heap.size (w.alloc (.cells #[x,y,z] t)) w5):w5.cell? ⟨w.heap.size,0,none⟩=some x:=by
 rw [h.cell (by simp)];unfold World.cell?; rw [heap_alloc_new]; rfl
theorem box_owns {P:Program} {k:TypeId} {R:Value → Option (DataW Unit × List MemPlace)} {w w5:World} {o:Obj} {b n:Nat} {D:DataW Unit} (h:w.ownsMap P k R b n D) (h5:Below (w.alloc o).heap.size (w.alloc o) w5):w5.ownsMap P k R b n D:=ownsMap_below (h.alloc o) h5
theorem box_below {B:Nat} {a w w5:World} {o:Obj} (hb:Below B a w) (hB:B≤w.heap.size) (h5:Below (w.alloc o).heap.size (w.alloc o) w5):Below B a w5:=(hb.alloc hB o).trans (h5.mono (Nat.le_trans hB (by simp)))
theorem lit_inj {H:Type} {a b:Int} (h:(DataW.lit (Lit.int .i64 a):DataW H)=DataW.lit (Lit.int .i64 b)):a=b:=by injection h with h; injection h
theorem makeHint (n:Int) (u:World):(Instr.makeMap 53 (some (.int .i64 n))).run Tryz.prog u=.ok (.map (some u.heap.size)) (u.alloc (.map #[] 0)):=by kernel_rfl
theorem low_key (nm:List UInt8) (h:nm.length≤140737488355328):keyOf Tryz.prog 9 (.string ⟨(lowL nm).toArray⟩)=some (.string (lowL nm)) :=
 keyOf_string_mk Tryz.underlying9 (by rw [size_list,lowL_len]; unfold maxLen; omega)
set_option maxHeartbeats 2000000 in
set_option maxRecDepth 100000 in
theorem mayBe_row (a:Addr) (cap:Nat) (ps:List Par) (w:World) (hsm:SmallP 140737488355328 ps) (hc:∀ k (hk:k < ps.length),a.block < w.heap.size∧ParAt w a k ps[k]) (h16:ps.length≤16) :
  Calls Tryz.prog 121 #[.slice (some a) ps.length cap] w fun e w'=>e=.returned (.bool (listB ps))∧Below w.heap.size w w':=by
 have hv:Hid (listB ps=listGo [] ps):=show _=_ by rw [listB,decide_eq_true h16]; rfl
 have HC:Hid _:=hc; clear hc
 have HS:Hid _:=hsm.2; clear hsm
 obtain ⟨n,hn⟩:∃ n,n=ps.length:=⟨_,rfl⟩
 rw [← hn] at h16 ⊢;have HN:Hid _:=hn; clear hn
 have hmm:=makeHint n
 go_enter Tryz.func121,Tryz.ntmps121
 go_wp2;clear hmm
 go_loopw [15] (fun i wr=>∃ (k:Nat) (D:DataW Unit),k≤n∧i=.int .i64 k∧Hid (wr.ownsMap Tryz.prog 9 (plainElem Tryz.prog 3) w.heap.size k D)∧Hid (Named D (ps.take k))∧Below w.heap.size w wr∧Hid (listGo [] ps=listGo (ps.take k) (ps.drop k))) (fun i _=>n - (intOf i).toNat)
 case atStart=>exact ⟨0,.map [],by omega,rfl,World.ownsMap_made _ _ _ _,named0,(Below.refl _ _).alloc (Nat.le_refl _) _,show _=_ by simp⟩
 case round =>
  obtain ⟨k,D,hk,rfl,hown,hnam,hb,hgo⟩:=hrel;by_cases hlt:k < n
  ·have hkl:k < ps.length:=by have:=HN.out; omega
   obtain ⟨hab,hpa⟩:=HC.out k hkl;obtain ⟨c0,c1,c2⟩:=hpa.below hb hab;have hss:=HS.out ps[k] (List.getElem_mem hkl);have hat:=listGo_at ps k hkl;have htk:Hid (ps.take (k+1)=ps.take k++[ps[k]]):=List.take_succ_eq_append_getElem hkl;generalize ps[k]=p at c0 c1 c2 hss hat htk;obtain ⟨nm,vl,hs⟩:=p;simp only at c0 c1 c2 hss hat;have HA:Hid _:=hat; clear hat hpa
   cases hp:parB ⟨nm,vl,hs⟩ with
   | false =>
    have hbad:Hid (listB ps=false):=show _=_ by rw [hv.out,hgo.out,HA.out,hp]; rfl
    clear hgo HA hown hnam htk;go_wp2_with (go_at_call 146; refine (fits_any nm vl hs _ hss.1 hss.2).mono ?_; rintro e w5 ⟨rfl,h5⟩; rw [hp])
    go_ret;exact ⟨ret_bool hbad.out.symm,(hb.alloc hb.size _).trans (h5.mono (Nat.le_trans hb.size (by simp)))⟩
   | true =>
    rw [hp,Bool.true_and] at HA;have hkey:=low_key nm hss.1;have hat:=hnam.out.at nm
    cases hap:apartB (ps.take k) nm with
    | false =>
     have hbad:Hid (listB ps=false):=show _=_ by rw [hv.out,hgo.out,HA.out,hap]; rfl
     rw [hap] at hat;have HAT:Hid _:=hat;clear hat;clear hgo HA htk;have hB:=hb.size
     go_wp2_with (first
      | (go_at_call 146; refine (fits_any nm vl hs _ hss.1 hss.2).mono ?_; rintro e w5 ⟨rfl,h5⟩; rw [hp]; have hcl:=box_cell h5; have hown5:Hid _:=box_owns hown.out h5; have hb5:=box_below hb hB h5; clear h5 hown)
      | (go_at_call 95; refine (lower_list nm _ (by omega)).mono ?_; rintro e w6 ⟨rfl,h6⟩; have hownL:=ownsMap_below hown5.out h6; have hb6:=hb5.trans (h6.mono hb5.size); clear h6 hown5 hcl)
      | (at_lookup; refine wpList_lookup_own_int _ rfl _ _ 53 rfl 9 3 .i64 keyed9 Tryz.underlying53 Tryz.underlying3 (zero3i _) w.heap.size _ _ rfl hownL _ _ rfl hkey ?_; intro c hc1 hwc; obtain rfl:c=1:=lit_inj (hc1.symm.trans HAT.out); have hownU:=hownL; clear hownL HAT hc1)
      | (at_mapUpdate; refine wpList_mapUpdate_own _ rfl _ _ _ 53 rfl 9 3 keyed9 Tryz.underlying53 _ w.heap.size k _ rfl hownU (by unfold maxLen; omega) _ _ _ rfl rfl hkey (.lit (.int .i64 2)) [] (plainElem_int Tryz.underlying3 (by decide)) ?_; intro w7 hown7 hgr; have hownM:=hown7; have hb7:=hb6.grown hgr hb6.size (fun j hj=>by cases hj; exact Nat.le_refl _); clear hownU hown7 hgr)
      | (at_lookup; refine wpList_lookup_own_int _ rfl _ _ 53 rfl 9 3 .i64 keyed9 Tryz.underlying53 Tryz.underlying3 (zero3i _) w.heap.size _ _ rfl hownM _ _ rfl hkey ?_; intro c hc1 hwc; obtain rfl:c=2:=lit_inj (hc1.symm.trans (atKey_put_same hnam.out.1 (by trivial) _ _))))
     go_ret;exact ⟨ret_bool hbad.out.symm,hb7⟩
    | true =>
     have hgo2:Hid (listGo [] ps=listGo (ps.take (k+1)) (ps.drop (k+1))):=show _=_ by rw [hgo.out,HA.out,hap]; rfl
     have hnam2:Hid (Named (D.put (.string (lowL nm)) (.lit (.int .i64 1))) (ps.take (k+1))):=by
      show Named _ _
      rw [htk.out]; exact hnam.out.put ⟨nm,vl,hs⟩
     rw [hap] at hat;have HAT:Hid _:=hat;clear hat;clear hgo HA htk;have hB:=hb.size
     go_wp2_with (first
      | (go_at_call 146; refine (fits_any nm vl hs _ hss.1 hss.2).mono ?_; rintro e w5 ⟨rfl,h5⟩; rw [hp]; have hcl:=box_cell h5; have hown5:Hid _:=box_owns hown.out h5; have hb5:=box_below hb hB h5; clear h5 hown)
      | (go_at_call 95; refine (lower_list nm _ (by omega)).mono ?_; rintro e w6 ⟨rfl,h6⟩; have hownL:=ownsMap_below hown5.out h6; have hb6:=hb5.trans (h6.mono hb5.size); clear h6 hown5 hcl)
      | (at_lookup; refine wpList_lookup_own_int _ rfl _ _ 53 rfl 9 3 .i64 keyed9 Tryz.underlying53 Tryz.underlying3 (zero3i _) w.heap.size _ _ rfl hownL _ _ rfl hkey ?_; intro c hc1 hwc; obtain rfl:c=0:=lit_inj (hc1.symm.trans HAT.out); have hownU:=hownL; clear hownL HAT hc1)
      | (at_mapUpdate; refine wpList_mapUpdate_own _ rfl _ _ _ 53 rfl 9 3 keyed9 Tryz.underlying53 _ w.heap.size k _ rfl hownU (by unfold maxLen; omega) _ _ _ rfl rfl hkey (.lit (.int .i64 1)) [] (plainElem_int Tryz.underlying3 (by decide)) ?_; intro w7 hown7 hgr; have hownM:=hown7; have hownK:Hid _:=hown7; have hb7:=hb6.grown hgr hb6.size (fun j hj=>by cases hj; exact Nat.le_refl _); clear hownU hown7 hgr)
      | (at_lookup; refine wpList_lookup_own_int _ rfl _ _ 53 rfl 9 3 .i64 keyed9 Tryz.underlying53 Tryz.underlying3 (zero3i _) w.heap.size _ _ rfl hownM _ _ rfl hkey ?_; intro c hc1 hwc; obtain rfl:c=1:=lit_inj (hc1.symm.trans (atKey_put_same hnam.out.1 (by trivial) _ _)); clear hc1 hownM))
     go_roundw
     case rel=>exact ⟨k+1,_,by omega,by go_num,hownK,hnam2,hb7,hgo2⟩
     case measure=>simp [intOf]; omega
  ·have hd:Hid (listB ps=true):=show _=_ by
    have e:=HN.out;rw [hv.out,hgo.out,List.drop_of_length_le (by omega)]; rfl
   clear hgo hown hnam;go_wp2;go_ret;exact ⟨ret_bool hd.out.symm,hb⟩
end Go.Proofs.YtbmjodlbkgblpaaGreatDoor
namespace Go.Proofs.YtbmjodlbkgblpaaGreatDoor
open Go.RowKit Sc
theorem ret_where {p:List UInt8 × Int × Int} {x:List UInt8} {a b:Int} (h:p=(x,a,b)):Ending.returned (.tuple #[.string ⟨x.toArray⟩,.int .i64 a,.int .i64 b])=.returned (.tuple #[.string ⟨p.1.toArray⟩,.int .i64 p.2.1,.int .i64 p.2.2]):=by rw [h]
theorem reflower_cut (s:ByteArray) (k:Nat) (w:World) (hs:s.size≤140737488355328) (hk:k≤s.size) :
  Calls Tryz.prog 83 #[.string (s.extract 0 k)] w fun e w'=>e=.returned (.string ⟨(lowL (s.data.toList.take k)).toArray⟩)∧Below w.heap.size w w':=by
 have h:=reflower_txt (s.extract 0 k) w (by rw [ByteArray.size_extract]; omega);have e1:(s.extract 0 k).data.toList=s.data.toList.take k:=by rw [ext_list]; simp
 rw [e1] at h;exact h
theorem refhost_list (l:List UInt8) (w:World) (hs:l.length≤140737488355328) :
  Calls Tryz.prog 110 #[.string ⟨l.toArray⟩] w fun e w'=>e=.returned (.bool (hostB l))∧Below w.heap.size w w' :=
 refhost_any ⟨l.toArray⟩ w (by rw [size_list]; exact hs)
theorem refnumber_tail (s:ByteArray) (k:Nat) (most:Int) (w:World) (hs:s.size≤140737488355328) (hm0:-9223372036854775808≤most) (hm1:most≤9223372036854775807) :
  Calls Tryz.prog 111 #[.string (s.extract k s.size),.int .i64 most] w fun e w'=>e=.returned (.tuple #[.int .i64 (numV most (s.data.toList.drop k)).1,.int .i64 (numV most (s.data.toList.drop k)).2])∧w'=w:=by
 have h:=refnumber_any (s.extract k s.size) most w (by rw [ByteArray.size_extract]; unfold maxLen; omega) hm0 hm1;have e1:(s.extract k s.size).data.toList=s.data.toList.drop k:=by rw [ext_list,List.take_of_length_le (by rw [List.length_drop,len_data]; omega)]
 rw [e1] at h;exact h
set_option maxHeartbeats 2000000 in
set_option maxRecDepth 100000 in
theorem refwhere_any (s:ByteArray) (w:World) (hs:s.size≤140737488355328) :
  Calls Tryz.prog 88 #[.string s] w fun e w'=>e=.returned (.tuple #[.string ⟨(whereV s.data.toList).1.toArray⟩,.int .i64 (whereV s.data.toList).2.1,.int .i64 (whereV s.data.toList).2.2])∧Below w.heap.size w w':=by
 go_enter Tryz.func88,Tryz.ntmps88
 go_wp2
 go_loop [5,6] (fun i x=>∃ (k:Nat) (b:Bool),k≤s.size∧i=.int .i64 k∧x=.bool b∧Hid (whereGo false s.data.toList=k+whereGo b (s.data.toList.drop k))) (fun i _=>s.size - (intOf i).toNat)
 case atStart=>exact ⟨0,false,by omega,rfl,rfl,show _=_ by simp⟩
 case round =>
  obtain ⟨k,b,hk,rfl,rfl,hgo⟩:=hrel;by_cases hstop:k < s.size∧¬ (b=false∧s.data.toList.getD k 0=58)
  ·obtain ⟨hlt,hst⟩:=hstop;rw [getD_s s k hlt] at hst
   have hgo2:Hid (whereGo false s.data.toList=(k+1)+whereGo (insN b s[k]) (s.data.toList.drop (k+1))):=show _=_ by
    rw [hgo.out,drop_cons s k hlt,whereGo,if_neg hst]; omega
   have e58:b=true∨((s[k].toNat:Int) != 58)=true:=by
    cases b with
    | true=>exact Or.inl rfl
    | false =>
     right
     have:=u8_ne (a:=s[k]) (b:=58) (fun e=>hst ⟨rfl,e⟩)
     simp only [bne,Bool.not_eq_true']; exact this
   clear hgo hst;have hins:insN b s[k]=if s[k]=93 then false else if s[k]=91 then true else b:=rfl
   by_cases h93:s[k]=93
   ·have e93:((s[k].toNat:Int)==93)=true:=by rw [h93]; rfl
    have e91:((s[k].toNat:Int)==91)=false:=u8_ne (b:=91) (by rw [h93]; decide);rw [hins,if_pos h93] at hgo2;clear h93 hins
    rcases e58 with rfl | e58
    all_goals (
     first | cases b | skip
     all_goals (
      go_wp2
      go_round
      case rel=>exact ⟨k+1,false,by omega,by go_num,rfl,hgo2⟩
      case measure=>simp [intOf]; omega))
   ·have e93:((s[k].toNat:Int)==93)=false:=u8_ne (b:=93) h93;by_cases h91:s[k]=91
    ·have e91:((s[k].toNat:Int)==91)=true:=by rw [h91]; rfl
     rw [hins,if_neg h93,if_pos h91] at hgo2;clear h93 h91 hins
     rcases e58 with rfl | e58
     all_goals (
      first | cases b | skip
      all_goals (
       go_wp2
       go_round
       case rel=>exact ⟨k+1,true,by omega,by go_num,rfl,hgo2⟩
       case measure=>simp [intOf]; omega))
    ·have e91:((s[k].toNat:Int)==91)=false:=u8_ne (b:=91) h91;rw [hins,if_neg h93,if_neg h91] at hgo2;clear h93 h91 hins
     rcases e58 with rfl | e58
     all_goals (
      first | cases b | skip
      all_goals (
       go_wp2
       go_round
       case rel=>exact ⟨k+1,_,by omega,by go_num,rfl,hgo2⟩
       case measure=>simp [intOf]; omega))
  ·have hat:whereGo false s.data.toList=k:=by
    rw [hgo.out];by_cases hlt:k < s.size
    ·have:b=false∧s.data.toList.getD k 0=58:=by
      by_cases h:b=false∧s.data.toList.getD k 0=58
      ·exact h
      ·exact absurd ⟨hlt,h⟩ hstop
     rw [getD_s s k hlt] at this;rw [drop_cons s k hlt,whereGo,if_pos this]; omega
    ·rw [drop_all s k (by omega)]; simp [whereGo]
   have hend:(k=s.size)∨(k < s.size∧b=false∧s.data.toList.getD k 0=58):=by
    by_cases hlt:k < s.size
    ·right
     by_cases h:b=false∧s.data.toList.getD k 0=58
     ·exact ⟨hlt,h⟩
     ·exact absurd ⟨hlt,h⟩ hstop
    ·left; omega
   have HV:Hid (whereV s.data.toList=if hostB (lowL (s.data.toList.take k))=true then portV (lowL (s.data.toList.take k)) s.data.toList k else ([],0,32)):=show _=_ by rw [whereV,hat]
   have hll:(lowL (s.data.toList.take k)).length≤140737488355328:=by
    rw [lowL,List.length_map,List.length_take,len_data]; omega
   clear hstop hgo hat
   rcases hend with he | ⟨hlt,rfl,h58⟩
   ·have hke:((k:Int)==(s.size:Int))=true:=by simp only [beq_iff_eq]; omega
    have hge:s.size≤k:=by omega
    have HE:Hid _:=he; clear he
    cases hh:hostB (lowL (s.data.toList.take k)) with
    | false =>
     rw [hh] at HV
     go_wp2_with (first
      | (go_at_call 83; refine (reflower_cut s k _ hs (by omega)).mono ?_; rintro e w1 ⟨rfl,hw1⟩)
      | (go_at_call 110; refine (refhost_list _ _ hll).mono ?_; rintro e w2 ⟨rfl,hw2⟩))
     go_ret3
     exact ⟨ret_where (x:=[]) (by rw [HV.out]; rfl),hw1.trans (hw2.mono hw1.size)⟩
    | true =>
     rw [hh,if_pos rfl] at HV
     go_wp2_with (first
      | (go_at_call 83; refine (reflower_cut s k _ hs (by omega)).mono ?_; rintro e w1 ⟨rfl,hw1⟩)
      | (go_at_call 110; refine (refhost_list _ _ hll).mono ?_; rintro e w2 ⟨rfl,hw2⟩))
     go_ret3
     exact ⟨ret_where (by rw [HV.out,portV,if_pos (by rw [len_data]; exact HE.out)]),hw1.trans (hw2.mono hw1.size)⟩
   ·rw [getD_s s k hlt] at h58;have e58:((s[k].toNat:Int) != 58)=false:=by rw [h58]; rfl
    have hke:((k:Int)==(s.size:Int))=false:=by simp only [beq_eq_false_iff_ne,ne_eq]; omega
    clear h58
    cases hh:hostB (lowL (s.data.toList.take k)) with
    | false =>
     rw [hh] at HV
     go_wp2_with (first
      | (go_at_call 83; refine (reflower_cut s k _ hs (by omega)).mono ?_; rintro e w1 ⟨rfl,hw1⟩)
      | (go_at_call 110; refine (refhost_list _ _ hll).mono ?_; rintro e w2 ⟨rfl,hw2⟩))
     go_ret3
     exact ⟨ret_where (x:=[]) (by rw [HV.out]; rfl),hw1.trans (hw2.mono hw1.size)⟩
    | true =>
     rw [hh,if_pos rfl,portV,if_neg (by rw [len_data]; omega)] at HV;obtain ⟨n,hn⟩:∃ n,(numV 65535 (s.data.toList.drop (k+1))).1=n:=⟨_,rfl⟩
     obtain ⟨e,he⟩:∃ e,(numV 65535 (s.data.toList.drop (k+1))).2=e:=⟨_,rfl⟩
     rw [hn,he] at HV;by_cases hbad:e ≠ 0∨n=0
     ·rw [if_pos hbad] at HV;by_cases he0:e=0
      ·have hn0:n=0:=by
        rcases hbad with h | h
        ·exact absurd he0 h
        ·exact h
       subst he0 hn0;clear hbad
       go_wp2_with (first
        | (go_at_call 83; refine (reflower_cut s k _ hs (by omega)).mono ?_; rintro e w1 ⟨rfl,hw1⟩)
        | (go_at_call 111; refine (refnumber_tail s (k+1) 65535 _ hs (by omega) (by omega)).mono ?_; rintro e w' ⟨rfl,rfl⟩; rw [hn,he])
        | (go_at_call 110; refine (refhost_list _ _ hll).mono ?_; rintro e w2 ⟨rfl,hw2⟩))
       go_ret3
       exact ⟨ret_where (x:=[]) (by rw [HV.out]),hw1.trans (hw2.mono hw1.size)⟩
      ·have hen:(e != 0)=true:=by simpa using he0
       clear hbad he0
       go_wp2_with (first
        | (go_at_call 83; refine (reflower_cut s k _ hs (by omega)).mono ?_; rintro e w1 ⟨rfl,hw1⟩)
        | (go_at_call 111; refine (refnumber_tail s (k+1) 65535 _ hs (by omega) (by omega)).mono ?_; rintro e w' ⟨rfl,rfl⟩; rw [hn,he])
        | (go_at_call 110; refine (refhost_list _ _ hll).mono ?_; rintro e w2 ⟨rfl,hw2⟩))
       go_ret3
       exact ⟨ret_where (x:=[]) (by rw [HV.out]),hw1.trans (hw2.mono hw1.size)⟩
     ·rw [if_neg hbad] at HV
      have hen:e=0:=by
       by_cases h:e=0
       ·exact h
       ·exact absurd (Or.inl h) hbad
      have hnn:(n==0)=false:=by
       simp only [beq_eq_false_iff_ne,ne_eq];intro h; exact hbad (Or.inr h)
      subst hen;clear hbad
      go_wp2_with (first
       | (go_at_call 83; refine (reflower_cut s k _ hs (by omega)).mono ?_; rintro e w1 ⟨rfl,hw1⟩)
       | (go_at_call 111; refine (refnumber_tail s (k+1) 65535 _ hs (by omega) (by omega)).mono ?_; rintro e w' ⟨rfl,rfl⟩; rw [hn,he])
       | (go_at_call 110; refine (refhost_list _ _ hll).mono ?_; rintro e w2 ⟨rfl,hw2⟩))
      go_ret3
      exact ⟨ret_where (by rw [HV.out]),hw1.trans (hw2.mono hw1.size)⟩
def BoxU (w:World) (b:Nat) (u:Uri) (p h:Value):Prop :=
 w.cell? ⟨b,0,none⟩=some (.string ⟨u.scheme.toArray⟩)∧w.cell? ⟨b,1,none⟩=some (.string ⟨u.user.toArray⟩)∧w.cell? ⟨b,2,none⟩=some (.string ⟨u.host.toArray⟩) ∧
 w.cell? ⟨b,3,none⟩=some (.int .i64 u.port)∧w.cell? ⟨b,4,none⟩=some p∧w.cell? ⟨b,5,none⟩=some h
theorem BoxU.below {w w':World} {b B:Nat} {u:Uri} {p h:Value} (k:BoxU w b u p h) (hb:Below B w w') (hlt:b < B):BoxU w' b u p h :=
 ⟨cell_below hb hlt k.1,cell_below hb hlt k.2.1,cell_below hb hlt k.2.2.1,cell_below hb hlt k.2.2.2.1,cell_below hb hlt k.2.2.2.2.1,cell_below hb hlt k.2.2.2.2.2⟩
theorem box_new (w:World) (u:Uri) (p h:Value):BoxU (w.alloc (.cells #[.string ⟨u.scheme.toArray⟩,.string ⟨u.user.toArray⟩,.string ⟨u.host.toArray⟩,.int .i64 u.port,p,h] 120)) w.heap.size u p h:=by
 unfold BoxU World.cell?;simp only [heap_alloc_new];exact ⟨rfl,rfl,rfl,rfl,rfl,rfl⟩
theorem refscheme_list (l:List UInt8) (w:World) :
  Calls Tryz.prog 84 #[.string ⟨l.toArray⟩] w fun e w'=>e=.returned (.bool (schemeB l))∧w'=w:=refscheme_any ⟨l.toArray⟩ w
theorem has_snoc {ps:List Par} {k:Nat} (hk:k < ps.length) (h:(ps.take k).all (·.has)=true) (hb:ps[k].has=true):(ps.take (k+1)).all (·.has)=true:=by
 rw [List.take_succ_eq_append_getElem hk,List.all_append,h]; simp [hb]
theorem has_bad {ps:List Par} {k:Nat} (hk:k < ps.length) (hb:ps[k].has=false):ps.all (·.has)=false:=by
 rw [List.all_eq_false]; exact ⟨ps[k],List.getElem_mem hk,by simp [hb]⟩
set_option maxHeartbeats 2000000 in
set_option maxRecDepth 100000 in
theorem refcheck_any (u:Uri) (p h:Value) (w:World) (hsm:SmallU 140737488355328 u) (hp:ParsAt w p u.params) (hh:ParsAt w h u.headers) :
  Calls Tryz.prog 90 #[uriV u p h] w fun e w'=>e=.returned (.int .i64 (checkV u))∧Below w.heap.size w w':=by
 obtain ⟨s1,s2,s3,s4,s5⟩:=hsm;have hcv:checkV u=checkV u:=rfl
 conv at hcv=>rhs; unfold checkV
 have hbox:=box_new w u p h;have hbw:Below w.heap.size w (w.alloc (.cells #[.string ⟨u.scheme.toArray⟩,.string ⟨u.user.toArray⟩,.string ⟨u.host.toArray⟩,.int .i64 u.port,p,h] 120)):=(Below.refl _ w).alloc (Nat.le_refl _) _;have hws:w.heap.size < (w.alloc (.cells #[.string ⟨u.scheme.toArray⟩,.string ⟨u.user.toArray⟩,.string ⟨u.host.toArray⟩,.int .i64 u.port,p,h] 120)).heap.size:=by simp
 unfold uriV
 cases e1:schemeB u.scheme with
 | false =>
  rw [e1] at hcv; simp at hcv
  have HV:Hid _:=hcv; clear hcv
  go_enter Tryz.func90,Tryz.ntmps90
  go_wp2_with (go_at_call 84; refine (refscheme_list _ _).mono ?_; rintro e w' ⟨rfl,rfl⟩)
  go_ret;exact ⟨ret_int HV.out.symm,hbw⟩
 | true =>
  rw [e1,if_neg (by simp)] at hcv;by_cases e2:64 < u.user.length
  ·rw [if_pos e2] at hcv;have HV:Hid _:=hcv; clear hcv
   go_enter Tryz.func90,Tryz.ntmps90
   go_wp2_with (go_at_call 84; refine (refscheme_list _ _).mono ?_; rintro e w' ⟨rfl,rfl⟩)
   go_ret;exact ⟨ret_int HV.out.symm,hbw⟩
  ·rw [if_neg e2] at hcv
   go_enter Tryz.func90,Tryz.ntmps90
   go_wp2_with (go_at_call 84; refine (refscheme_list _ _).mono ?_; rintro e w' ⟨rfl,rfl⟩)
   refine (refhost_list _ _ s3).mono ?_
   rintro e w2 ⟨rfl,hw2⟩;have hb2:=hbw.trans (hw2.mono hbw.size);have hx2:=hbox.below hw2 hws;have hs2:w.heap.size < w2.heap.size:=Nat.lt_of_lt_of_le hws hw2.size;obtain ⟨g0,g1,g2,g3,g4,g5⟩:=hx2;have hx2:Hid (BoxU w2 w.heap.size u p h):=⟨g0,g1,g2,g3,g4,g5⟩
   clear hbox hbw hws hw2
   cases e3:hostB u.host with
   | false =>
    rw [e3,if_pos rfl] at hcv;have HV:Hid _:=hcv; clear hcv
    go_wp2;go_ret;exact ⟨ret_int HV.out.symm,hb2⟩
   | true =>
    rw [e3,if_neg (by simp)] at hcv;by_cases e4:u.port < 0∨65535 < u.port
    ·rw [if_pos e4] at hcv;have HV:Hid _:=hcv; clear hcv
     by_cases e5:u.port < 0
     ·clear e4;go_wp2;go_ret;exact ⟨ret_int HV.out.symm,hb2⟩
     ·have e6:65535 < u.port:=by omega
      clear e4;go_wp2;go_ret;exact ⟨ret_int HV.out.symm,hb2⟩
    ·rw [if_neg e4] at hcv;have e5:0≤u.port:=by omega
     have e6:u.port≤65535:=by omega
     clear e4;go_wp2_with fail
     refine (list_any _ u.params _ s4 (hp.below hb2)).mono ?_
     rintro e w3 ⟨rfl,hw3⟩;have hb3:=hb2.trans (hw3.mono hb2.size);have hx3:=hx2.out.below hw3 hs2;have hs3:w.heap.size < w3.heap.size:=Nat.lt_of_lt_of_le hs2 hw3.size;clear g0 g1 g2 g3 g4 g5 hx2 hb2 hw3;obtain ⟨g0,g1,g2,g3,g4,g5⟩:=hx3;have hx3:Hid (BoxU w3 w.heap.size u p h):=⟨g0,g1,g2,g3,g4,g5⟩
     cases e7:listB u.params with
     | false =>
      rw [e7,if_pos rfl] at hcv;have HV:Hid _:=hcv; clear hcv
      go_wp2;go_ret;exact ⟨ret_int HV.out.symm,hb3⟩
     | true =>
      rw [e7,if_neg (by simp)] at hcv;go_wp2_with fail
      refine (list_any _ u.headers _ s5 (hh.below hb3)).mono ?_
      rintro e w4 ⟨rfl,hw4⟩;have hb4:=hb3.trans (hw4.mono hb3.size);have hx4:=hx3.out.below hw4 hs3;clear g0 g1 g2 g3 g4 g5 hx3 hb3 hw4 hs2;obtain ⟨g0,g1,g2,g3,g4,g5⟩:=hx4
      cases e8:listB u.headers with
      | false =>
       rw [e8,if_pos rfl] at hcv;have HV:Hid _:=hcv; clear hcv
       go_wp2;go_ret;exact ⟨ret_int HV.out.symm,hb4⟩
      | true =>
       rw [e8,if_neg (by simp)] at hcv;have HV:Hid _:=hcv; clear hcv
       have h4:=hh.below hb4;have h16:u.headers.length≤140737488355328:=s5.1;obtain ⟨n,hn⟩:∃ n,n=u.headers.length:=⟨_,rfl⟩
       rcases h4 with ⟨rfl,hnil⟩ | ⟨a,cap,rfl,hc⟩
       ·have hall:Hid (checkV u=0):=show _=_ by rw [HV.out,hnil]; rfl
        go_wp2
        go_loop [3] (fun i=>i=.int .i64 0) (fun i=>0)
        case atStart=>rfl
        case round =>
         subst hrel;go_wp2;go_ret;exact ⟨ret_int hall.out.symm,hb4⟩
       ·have HC:Hid _:=hc; clear hc
        rw [← hn] at h16 g5 ⊢;go_wp2
        go_loop [3] (fun i=>∃ k:Nat,k≤n∧i=.int .i64 k∧Hid ((u.headers.take k).all (·.has)=true)) (fun i=>n - (intOf i).toNat)
        case atStart=>exact ⟨0,by omega,rfl,rfl⟩
        case round =>
         obtain ⟨k,hk,rfl,hal⟩:=hrel;by_cases hlt:k < n
         ·have hkl:k < u.headers.length:=by omega
          obtain ⟨c0,c1,c2⟩:=(HC.out k hkl).2
          cases hhas:u.headers[k].has with
          | true =>
           have hal2:Hid ((u.headers.take (k+1)).all (·.has)=true):=has_snoc hkl hal.out hhas;rw [hhas] at c2;clear hal;go_wp2
           go_round
           case rel=>exact ⟨k+1,by omega,by go_num,hal2⟩
           case measure=>simp [intOf]; omega
          | false =>
           have hbad:Hid (checkV u=34):=show _=_ by rw [HV.out,has_bad hkl hhas]; rfl
           rw [hhas] at c2;clear hal;go_wp2;go_ret;exact ⟨ret_int hbad.out.symm,hb4⟩
         ·have hall:Hid (checkV u=0):=show _=_ by
           have:=hal.out
           rw [List.take_of_length_le (by omega)] at this;rw [HV.out,this]; rfl
          clear hal;go_wp2;go_ret;exact ⟨ret_int hall.out.symm,hb4⟩
set_option maxHeartbeats 400000 in
theorem mayBe_long (a:Option Addr) (cap:Nat) (ps:List Par) (w:World) (h16:¬ ps.length≤16) :
  Calls Tryz.prog 121 #[.slice a ps.length cap] w fun e w'=>e=.returned (.bool (listB ps))∧Below w.heap.size w w':=by
 have hv:Hid (listB ps=false):=show _=_ by rw [listB,decide_eq_false h16]; rfl
 go_enter Tryz.func121,Tryz.ntmps121
 go_wp2;go_ret;exact ⟨ret_bool hv.out.symm,Below.refl _ _⟩
set_option maxHeartbeats 400000 in
theorem mayBe_nil (a:Option Addr) (cap:Nat) (w:World) :
  Calls Tryz.prog 121 #[.slice a 0 cap] w fun e w'=>e=.returned (.bool true)∧Below w.heap.size w w':=by
 have hmm:=makeHint 0
 go_enter Tryz.func121,Tryz.ntmps121
 go_wp2
 go_loop [15] (fun i=>i=.int .i64 0) (fun i=>0)
 case atStart=>rfl
 case round =>
  subst hrel;go_wp2;go_ret;exact ⟨rfl,(Below.refl _ _).alloc (Nat.le_refl _) _⟩
theorem mayBe_any (v:Value) (ps:List Par) (w:World) (hsm:SmallP 140737488355328 ps) (h:ParsAt w v ps) :
  Calls Tryz.prog 121 #[v] w fun e w'=>e=.returned (.bool (listB ps))∧Below w.heap.size w w':=by
 by_cases h16:ps.length≤16
 ·rcases h with ⟨rfl,rfl⟩ | ⟨a,cap,rfl,hc⟩
  ·exact mayBe_nil none 0 w
  ·exact mayBe_row a cap ps w hsm hc h16
 ·obtain ⟨a,cap,rfl⟩:=h.form;exact mayBe_long a cap ps w h16
set_option maxHeartbeats 1000000 in
theorem allHave_row (a:Addr) (cap:Nat) (ps:List Par) (w:World) (h16:ps.length≤140737488355328) (hc:∀ k (hk:k < ps.length),a.block < w.heap.size∧ParAt w a k ps[k]) :
  Calls Tryz.prog 122 #[.slice (some a) ps.length cap] w fun e w'=>e=.returned (.bool (ps.all (·.has)))∧Below w.heap.size w w':=by
 have HC:Hid _:=hc; clear hc
 obtain ⟨b,hb0⟩:∃ b,ps.all (·.has)=b:=⟨_,rfl⟩
 rw [hb0];have HB:Hid _:=hb0; clear hb0
 obtain ⟨n,hn⟩:∃ n,n=ps.length:=⟨_,rfl⟩
 rw [← hn] at h16 ⊢;have HN:Hid _:=hn; clear hn
 go_enter Tryz.func122,Tryz.ntmps122
 go_wp2
 go_loopw [7] (fun i wr=>∃ k:Nat,k≤n∧i=.int .i64 k∧Below w.heap.size w wr∧Hid ((ps.take k).all (·.has)=true)) (fun i _=>n - (intOf i).toNat)
 case atStart=>exact ⟨0,by omega,rfl,Below.refl _ _,rfl⟩
 case round =>
  obtain ⟨k,hk,rfl,hb,hal⟩:=hrel;by_cases hlt:k < n
  ·have hkl:k < ps.length:=by have:=HN.out; omega
   obtain ⟨hab,hpa⟩:=HC.out k hkl;obtain ⟨c0,c1,c2⟩:=hpa.below hb hab
   cases hhas:ps[k].has with
   | true =>
    have hal2:Hid ((ps.take (k+1)).all (·.has)=true):=has_snoc hkl hal.out hhas;rw [hhas] at c2;clear hal hpa;go_wp2;go_roundw
    case rel=>exact ⟨k+1,by omega,by go_num,hb.alloc hb.size _,hal2⟩
    case measure=>simp [intOf]; omega
   | false =>
    have hbad:Hid (b=false):=show _=_ by rw [← HB.out,has_bad hkl hhas]
    rw [hhas] at c2;clear hal hpa;go_wp2;go_ret;exact ⟨ret_bool hbad.out.symm,hb.alloc hb.size _⟩
  ·have hall:Hid (b=true):=show _=_ by
    have:=hal.out
    rw [List.take_of_length_le (by have:=HN.out; omega)] at this;rw [← HB.out,this]
   clear hal;go_wp2;go_ret;exact ⟨ret_bool hall.out.symm,hb⟩
set_option maxHeartbeats 400000 in
theorem allHave_nil (a:Option Addr) (cap:Nat) (w:World) :
  Calls Tryz.prog 122 #[.slice a 0 cap] w fun e w'=>e=.returned (.bool true)∧Below w.heap.size w w':=by
 go_enter Tryz.func122,Tryz.ntmps122
 go_wp2
 go_loop [7] (fun i=>i=.int .i64 0) (fun i=>0)
 case atStart=>rfl
 case round =>
  subst hrel;go_wp2;go_ret;exact ⟨rfl,Below.refl _ _⟩
theorem allHave_any (v:Value) (ps:List Par) (w:World) (h16:ps.length≤140737488355328) (h:ParsAt w v ps) :
  Calls Tryz.prog 122 #[v] w fun e w'=>e=.returned (.bool (ps.all (·.has)))∧Below w.heap.size w w':=by
 rcases h with ⟨rfl,rfl⟩ | ⟨a,cap,rfl,hc⟩
 ·exact allHave_nil none 0 w
 ·exact allHave_row a cap ps w h16 hc
end Go.Proofs.YtbmjodlbkgblpaaGreatDoor
