/-
  UCheck, RefCheck, UMay, UMean, UPrint.
-/
import Derived.Test.YtldkidljjbkmbaaGreatDoorPX11
set_option linter.unusedVariables false
set_option linter.unusedSimpArgs false
set_option maxRecDepth 20000
namespace Go.Proofs.YtldkidljjbkmbaaGreatDoor
open Go.RowKit Sc Go.Maps Go.WideMaps
theorem box_cell {w w5:World} {x y z:Value} {t:TypeId} (h:Below (w.alloc (.cells #[x,y,z] t)).heap.size (w.alloc (.cells #[x,y,z] t)) w5):w5.cell? ⟨w.heap.size,0,none⟩=some x:=by
 rw [h.cell (by simp)];unfold World.cell?; rw [heap_alloc_new]; rfl
theorem box_owns {P:Program} {k:TypeId} {R:Value → Option (DataW Unit × List MemPlace)} {w w5:World} {o:Obj} {b n:Nat} {D:DataW Unit} (h:w.ownsMap P k R b n D) (h5:Below (w.alloc o).heap.size (w.alloc o) w5):w5.ownsMap P k R b n D:=ownsMap_below (h.alloc o) h5
theorem box_below {B:Nat} {a w w5:World} {o:Obj} (hb:Below B a w) (hB:B≤w.heap.size) (h5:Below (w.alloc o).heap.size (w.alloc o) w5):Below B a w5:=(hb.alloc hB o).trans (h5.mono (Nat.le_trans hB (by simp)))
theorem lit_inj {H:Type} {a b:Int} (h:(DataW.lit (Lit.int .i64 a):DataW H)=DataW.lit (Lit.int .i64 b)):a=b:=by injection h with h; injection h
theorem makeHint (n:Int) (u:World):(Instr.makeMap 162 (some (.int .i64 n))).run Tryz.prog u=.ok (.map (some u.heap.size)) (u.alloc (.map #[] 0)):=by kernel_rfl
theorem low_key (nm:List UInt8) (h:nm.length≤140737488355328):keyOf Tryz.prog 9 (.string ⟨(lowL nm).toArray⟩)=some (.string (lowL nm)) :=
 keyOf_string_mk Tryz.underlying9 (by rw [size_list,lowL_len]; unfold maxLen; omega)
set_option maxHeartbeats 2000000 in
set_option maxRecDepth 100000 in
theorem mayBe_row (a:Addr) (cap:Nat) (ps:List Par) (w:World) (hsm:SmallP 140737488355328 ps) (hc:∀ k (hk:k < ps.length),a.block < w.heap.size∧ParAt w a k ps[k]) (h16:ps.length≤16) :
  Calls Tryz.prog 113 #[.slice (some a) ps.length cap] w fun e w'=>e=.returned (.bool (listB ps))∧Below w.heap.size w w':=by
 have hv:Hid (listB ps=listGo [] ps):=show _=_ by rw [listB,decide_eq_true h16]; rfl
 have HC:Hid _:=hc; clear hc
 have HS:Hid _:=hsm.2; clear hsm
 obtain ⟨n,hn⟩:∃ n,n=ps.length:=⟨_,rfl⟩
 rw [← hn] at h16 ⊢;have HN:Hid _:=hn; clear hn
 have hmm:=makeHint n
 go_enter Tryz.func113,Tryz.ntmps113
 go_wp2;clear hmm
 go_loopw [15] (fun i wr=>∃ (k:Nat) (D:DataW Unit),k≤n∧i=.int .i64 k∧Hid (wr.ownsMap Tryz.prog 9 (plainElem Tryz.prog 3) w.heap.size k D)∧Hid (Named D (ps.take k))∧Below w.heap.size w wr∧Hid (listGo [] ps=listGo (ps.take k) (ps.drop k))) (fun i _=>n - (intOf i).toNat)
 case atStart=>exact ⟨0,.map [],by omega,rfl,World.ownsMap_made _ _ _ _,named0,(Below.refl _ _).alloc (Nat.le_refl _) _,show _=_ by simp⟩
 case round =>
  obtain ⟨k,D,hk,rfl,hown,hnam,hb,hgo⟩:=hrel;by_cases hlt:k < n
  ·have hkl:k < ps.length:=by have:=HN.out; omega
   obtain ⟨hab,hpa⟩:=HC.out k hkl;obtain ⟨c0,c1,c2⟩:=hpa.below hb hab;have hss:=HS.out ps[k] (List.getElem_mem hkl);have hat:=listGo_at ps k hkl;have htk:Hid (ps.take (k+1)=ps.take k++[ps[k]]):=List.take_succ_eq_append_getElem hkl;generalize ps[k]=p at c0 c1 c2 hss hat htk;obtain ⟨nm,vl,hs⟩:=p;simp only at c0 c1 c2 hss hat;have HA:Hid _:=hat; clear hat hpa
   cases hp:parB ⟨nm,vl,hs⟩ with
   | false =>
    have hbad:Hid (listB ps=false):=show _=_ by rw [hv.out,hgo.out,HA.out,hp]; rfl
    clear hgo HA hown hnam htk;go_wp2_with (go_at_call 143; refine (fits_any nm vl hs _ hss.1 hss.2).mono ?_; rintro e w5 ⟨rfl,h5⟩; rw [hp])
    go_ret;exact ⟨ret_bool hbad.out.symm,(hb.alloc hb.size _).trans (h5.mono (Nat.le_trans hb.size (by simp)))⟩
   | true =>
    rw [hp,Bool.true_and] at HA;have hkey:=low_key nm hss.1;have hat:=hnam.out.at nm
    cases hap:apartB (ps.take k) nm with
    | false =>
     have hbad:Hid (listB ps=false):=show _=_ by rw [hv.out,hgo.out,HA.out,hap]; rfl
     rw [hap] at hat;have HAT:Hid _:=hat;clear hat;clear hgo HA htk;have hB:=hb.size
     go_wp2_with (first
      | (go_at_call 143; refine (fits_any nm vl hs _ hss.1 hss.2).mono ?_; rintro e w5 ⟨rfl,h5⟩; rw [hp]; have hcl:=box_cell h5; have hown5:Hid _:=box_owns hown.out h5; have hb5:=box_below hb hB h5; clear h5 hown)
      | (go_at_call 75; refine (lower_list nm _ (by omega)).mono ?_; rintro e w6 ⟨rfl,h6⟩; have hownL:=ownsMap_below hown5.out h6; have hb6:=hb5.trans (h6.mono hb5.size); clear h6 hown5 hcl)
      | (at_lookup; refine wpList_lookup_own_int _ rfl _ _ 162 rfl 9 3 .i64 keyed9 Tryz.underlying162 Tryz.underlying3 (zero3i _) w.heap.size _ _ rfl hownL _ _ rfl hkey ?_; intro c hc1 hwc; obtain rfl:c=1:=lit_inj (hc1.symm.trans HAT.out); have hownU:=hownL; clear hownL HAT hc1)
      | (at_mapUpdate; refine wpList_mapUpdate_own _ rfl _ _ _ 162 rfl 9 3 keyed9 Tryz.underlying162 _ w.heap.size k _ rfl hownU (by unfold maxLen; omega) _ _ _ rfl rfl hkey (.lit (.int .i64 2)) [] (plainElem_int Tryz.underlying3 (by decide)) ?_; intro w7 hown7 hgr; have hownM:=hown7; have hb7:=hb6.grown hgr hb6.size (fun j hj=>by cases hj; exact Nat.le_refl _); clear hownU hown7 hgr)
      | (at_lookup; refine wpList_lookup_own_int _ rfl _ _ 162 rfl 9 3 .i64 keyed9 Tryz.underlying162 Tryz.underlying3 (zero3i _) w.heap.size _ _ rfl hownM _ _ rfl hkey ?_; intro c hc1 hwc; obtain rfl:c=2:=lit_inj (hc1.symm.trans (atKey_put_same hnam.out.1 (by trivial) _ _))))
     go_ret;exact ⟨ret_bool hbad.out.symm,hb7⟩
    | true =>
     have hgo2:Hid (listGo [] ps=listGo (ps.take (k+1)) (ps.drop (k+1))):=show _=_ by rw [hgo.out,HA.out,hap]; rfl
     have hnam2:Hid (Named (D.put (.string (lowL nm)) (.lit (.int .i64 1))) (ps.take (k+1))):=by
      show Named _ _
      rw [htk.out]; exact hnam.out.put ⟨nm,vl,hs⟩
     rw [hap] at hat;have HAT:Hid _:=hat;clear hat;clear hgo HA htk;have hB:=hb.size
     go_wp2_with (first
      | (go_at_call 143; refine (fits_any nm vl hs _ hss.1 hss.2).mono ?_; rintro e w5 ⟨rfl,h5⟩; rw [hp]; have hcl:=box_cell h5; have hown5:Hid _:=box_owns hown.out h5; have hb5:=box_below hb hB h5; clear h5 hown)
      | (go_at_call 75; refine (lower_list nm _ (by omega)).mono ?_; rintro e w6 ⟨rfl,h6⟩; have hownL:=ownsMap_below hown5.out h6; have hb6:=hb5.trans (h6.mono hb5.size); clear h6 hown5 hcl)
      | (at_lookup; refine wpList_lookup_own_int _ rfl _ _ 162 rfl 9 3 .i64 keyed9 Tryz.underlying162 Tryz.underlying3 (zero3i _) w.heap.size _ _ rfl hownL _ _ rfl hkey ?_; intro c hc1 hwc; obtain rfl:c=0:=lit_inj (hc1.symm.trans HAT.out); have hownU:=hownL; clear hownL HAT hc1)
      | (at_mapUpdate; refine wpList_mapUpdate_own _ rfl _ _ _ 162 rfl 9 3 keyed9 Tryz.underlying162 _ w.heap.size k _ rfl hownU (by unfold maxLen; omega) _ _ _ rfl rfl hkey (.lit (.int .i64 1)) [] (plainElem_int Tryz.underlying3 (by decide)) ?_; intro w7 hown7 hgr; have hownM:=hown7; have hownK:Hid _:=hown7; have hb7:=hb6.grown hgr hb6.size (fun j hj=>by cases hj; exact Nat.le_refl _); clear hownU hown7 hgr)
      | (at_lookup; refine wpList_lookup_own_int _ rfl _ _ 162 rfl 9 3 .i64 keyed9 Tryz.underlying162 Tryz.underlying3 (zero3i _) w.heap.size _ _ rfl hownM _ _ rfl hkey ?_; intro c hc1 hwc; obtain rfl:c=1:=lit_inj (hc1.symm.trans (atKey_put_same hnam.out.1 (by trivial) _ _)); clear hc1 hownM))
     go_roundw
     case rel=>exact ⟨k+1,_,by omega,by go_num,hownK,hnam2,hb7,hgo2⟩
     case measure=>simp [intOf]; omega
  ·have hd:Hid (listB ps=true):=show _=_ by
    have e:=HN.out;rw [hv.out,hgo.out,List.drop_of_length_le (by omega)]; rfl
   clear hgo hown hnam;go_wp2;go_ret;exact ⟨ret_bool hd.out.symm,hb⟩
end Go.Proofs.YtldkidljjbkmbaaGreatDoor
namespace Go.Proofs.YtldkidljjbkmbaaGreatDoor
open Go.RowKit Sc
def BoxU (w:World) (b:Nat) (u:Uri) (p h:Value):Prop :=
 w.cell? ⟨b,0,none⟩=some (.string ⟨u.scheme.toArray⟩)∧w.cell? ⟨b,1,none⟩=some (.string ⟨u.user.toArray⟩)∧w.cell? ⟨b,2,none⟩=some (.string ⟨u.host.toArray⟩) ∧
 w.cell? ⟨b,3,none⟩=some (.int .i64 u.port)∧w.cell? ⟨b,4,none⟩=some p∧w.cell? ⟨b,5,none⟩=some h
theorem BoxU.below {w w':World} {b B:Nat} {u:Uri} {p h:Value} (k:BoxU w b u p h) (hb:Below B w w') (hlt:b < B):BoxU w' b u p h :=
 ⟨cell_below hb hlt k.1,cell_below hb hlt k.2.1,cell_below hb hlt k.2.2.1,cell_below hb hlt k.2.2.2.1,cell_below hb hlt k.2.2.2.2.1,cell_below hb hlt k.2.2.2.2.2⟩
theorem box_new (w:World) (u:Uri) (p h:Value):BoxU (w.alloc (.cells #[.string ⟨u.scheme.toArray⟩,.string ⟨u.user.toArray⟩,.string ⟨u.host.toArray⟩,.int .i64 u.port,p,h] 97)) w.heap.size u p h:=by
 unfold BoxU World.cell?;simp only [heap_alloc_new];exact ⟨rfl,rfl,rfl,rfl,rfl,rfl⟩
theorem has_snoc {ps:List Par} {k:Nat} (hk:k < ps.length) (h:(ps.take k).all (·.has)=true) (hb:ps[k].has=true):(ps.take (k+1)).all (·.has)=true:=by
 rw [List.take_succ_eq_append_getElem hk,List.all_append,h]; simp [hb]
theorem has_bad {ps:List Par} {k:Nat} (hk:k < ps.length) (hb:ps[k].has=false):ps.all (·.has)=false:=by
 rw [List.all_eq_false]; exact ⟨ps[k],List.getElem_mem hk,by simp [hb]⟩
set_option maxHeartbeats 400000 in
theorem mayBe_long (a:Option Addr) (cap:Nat) (ps:List Par) (w:World) (h16:¬ ps.length≤16) :
  Calls Tryz.prog 113 #[.slice a ps.length cap] w fun e w'=>e=.returned (.bool (listB ps))∧Below w.heap.size w w':=by
 have hv:Hid (listB ps=false):=show _=_ by rw [listB,decide_eq_false h16]; rfl
 go_enter Tryz.func113,Tryz.ntmps113
 go_wp2;go_ret;exact ⟨ret_bool hv.out.symm,Below.refl _ _⟩
set_option maxHeartbeats 400000 in
theorem mayBe_nil (a:Option Addr) (cap:Nat) (w:World) :
  Calls Tryz.prog 113 #[.slice a 0 cap] w fun e w'=>e=.returned (.bool true)∧Below w.heap.size w w':=by
 have hmm:=makeHint 0
 go_enter Tryz.func113,Tryz.ntmps113
 go_wp2
 go_loop [15] (fun i=>i=.int .i64 0) (fun i=>0)
 case atStart=>rfl
 case round =>
  subst hrel;go_wp2;go_ret;exact ⟨rfl,(Below.refl _ _).alloc (Nat.le_refl _) _⟩
theorem mayBe_any (v:Value) (ps:List Par) (w:World) (hsm:SmallP 140737488355328 ps) (h:ParsAt w v ps) :
  Calls Tryz.prog 113 #[v] w fun e w'=>e=.returned (.bool (listB ps))∧Below w.heap.size w w':=by
 by_cases h16:ps.length≤16
 ·rcases h with ⟨rfl,rfl⟩ | ⟨a,cap,rfl,hc⟩
  ·exact mayBe_nil none 0 w
  ·exact mayBe_row a cap ps w hsm hc h16
 ·obtain ⟨a,cap,rfl⟩:=h.form;exact mayBe_long a cap ps w h16
set_option maxHeartbeats 1000000 in
theorem allHave_row (a:Addr) (cap:Nat) (ps:List Par) (w:World) (h16:ps.length≤140737488355328) (hc:∀ k (hk:k < ps.length),a.block < w.heap.size∧ParAt w a k ps[k]) :
  Calls Tryz.prog 114 #[.slice (some a) ps.length cap] w fun e w'=>e=.returned (.bool (ps.all (·.has)))∧Below w.heap.size w w':=by
 have HC:Hid _:=hc; clear hc
 obtain ⟨b,hb0⟩:∃ b,ps.all (·.has)=b:=⟨_,rfl⟩
 rw [hb0];have HB:Hid _:=hb0; clear hb0
 obtain ⟨n,hn⟩:∃ n,n=ps.length:=⟨_,rfl⟩
 rw [← hn] at h16 ⊢;have HN:Hid _:=hn; clear hn
 go_enter Tryz.func114,Tryz.ntmps114
 go_wp2
 go_loopw [7] (fun i wr=>∃ k:Nat,k≤n∧i=.int .i64 k∧Below w.heap.size w wr∧Hid ((ps.take k).all (·.has)=true)) (fun i _=>n - (intOf i).toNat)
 case atStart=>exact ⟨0,by omega,rfl,Below.refl _ _,rfl⟩
 case round =>
  obtain ⟨k,hk,rfl,hb,hal⟩:=hrel;by_cases hlt:k < n
  ·have hkl:k < ps.length:=by have:=HN.out; omega
   obtain ⟨hab,hpa⟩:=HC.out k hkl;obtain ⟨c0,c1,c2⟩:=hpa.below hb hab
   cases hhas:ps[k].has with
   | true =>
    have hal2:Hid ((ps.take (k+1)).all (·.has)=true):=has_snoc hkl hal.out hhas;rw [hhas] at c2;clear hal hpa;go_wp2;go_roundw
    case rel=>exact ⟨k+1,by omega,by go_num,hb.alloc hb.size _,hal2⟩
    case measure=>simp [intOf]; omega
   | false =>
    have hbad:Hid (b=false):=show _=_ by rw [← HB.out,has_bad hkl hhas]
    rw [hhas] at c2;clear hal hpa;go_wp2;go_ret;exact ⟨ret_bool hbad.out.symm,hb.alloc hb.size _⟩
  ·have hall:Hid (b=true):=show _=_ by
    have:=hal.out
    rw [List.take_of_length_le (by have:=HN.out; omega)] at this;rw [← HB.out,this]
   clear hal;go_wp2;go_ret;exact ⟨ret_bool hall.out.symm,hb⟩
set_option maxHeartbeats 400000 in
theorem allHave_nil (a:Option Addr) (cap:Nat) (w:World) :
  Calls Tryz.prog 114 #[.slice a 0 cap] w fun e w'=>e=.returned (.bool true)∧Below w.heap.size w w':=by
 go_enter Tryz.func114,Tryz.ntmps114
 go_wp2
 go_loop [7] (fun i=>i=.int .i64 0) (fun i=>0)
 case atStart=>rfl
 case round =>
  subst hrel;go_wp2;go_ret;exact ⟨rfl,Below.refl _ _⟩
theorem allHave_any (v:Value) (ps:List Par) (w:World) (h16:ps.length≤140737488355328) (h:ParsAt w v ps) :
  Calls Tryz.prog 114 #[v] w fun e w'=>e=.returned (.bool (ps.all (·.has)))∧Below w.heap.size w w':=by
 rcases h with ⟨rfl,rfl⟩ | ⟨a,cap,rfl,hc⟩
 ·exact allHave_nil none 0 w
 ·exact allHave_row a cap ps w h16 hc
set_option maxHeartbeats 2000000 in
set_option maxRecDepth 100000 in
theorem check_any (u:Uri) (p h:Value) (w:World) (hsm:SmallU 140737488355328 u) (hp:ParsAt w p u.params) (hh:ParsAt w h u.headers) :
  Calls Tryz.prog 79 #[uriV u p h] w fun e w'=>e=.returned (.int .i64 (checkV u))∧Below w.heap.size w w':=by
 obtain ⟨s1,s2,s3,s4,s5⟩:=hsm;have hcv:checkV u=checkV u:=rfl
 conv at hcv=>rhs; unfold checkV
 have hbox:=box_new w u p h;have hbw:Below w.heap.size w (w.alloc (.cells #[.string ⟨u.scheme.toArray⟩,.string ⟨u.user.toArray⟩,.string ⟨u.host.toArray⟩,.int .i64 u.port,p,h] 97)):=(Below.refl _ w).alloc (Nat.le_refl _) _;have hws:w.heap.size < (w.alloc (.cells #[.string ⟨u.scheme.toArray⟩,.string ⟨u.user.toArray⟩,.string ⟨u.host.toArray⟩,.int .i64 u.port,p,h] 97)).heap.size:=by simp
 unfold uriV
 cases e1:schemeB u.scheme with
 | false =>
  rw [e1] at hcv; simp at hcv
  have HV:Hid _:=hcv; clear hcv
  go_enter Tryz.func79,Tryz.ntmps79
  go_wp2_with (go_at_call 76; refine (scheme_list _ _).mono ?_; rintro e w' ⟨rfl,rfl⟩; rw [e1])
  go_ret;exact ⟨ret_int HV.out.symm,hbw⟩
 | true =>
  rw [e1,if_neg (by simp)] at hcv;by_cases e2:64 < u.user.length
  ·rw [if_pos e2] at hcv;have HV:Hid _:=hcv; clear hcv
   go_enter Tryz.func79,Tryz.ntmps79
   go_wp2_with (go_at_call 76; refine (scheme_list _ _).mono ?_; rintro e w' ⟨rfl,rfl⟩; rw [e1])
   go_ret;exact ⟨ret_int HV.out.symm,hbw⟩
  ·rw [if_neg e2] at hcv
   go_enter Tryz.func79,Tryz.ntmps79
   go_wp2_with (go_at_call 76; refine (scheme_list _ _).mono ?_; rintro e w' ⟨rfl,rfl⟩; rw [e1])
   refine (host_list _ _ s3).mono ?_
   rintro e w2 ⟨rfl,hw2⟩;have hb2:=hbw.trans (hw2.mono hbw.size);have hx2:=hbox.below hw2 hws;have hs2:w.heap.size < w2.heap.size:=Nat.lt_of_lt_of_le hws hw2.size;obtain ⟨g0,g1,g2,g3,g4,g5⟩:=hx2;have hx2:Hid (BoxU w2 w.heap.size u p h):=⟨g0,g1,g2,g3,g4,g5⟩
   clear hbox hbw hws hw2
   cases e3:hostB u.host with
   | false =>
    rw [e3,if_pos rfl] at hcv;have HV:Hid _:=hcv; clear hcv
    go_wp2;go_ret;exact ⟨ret_int HV.out.symm,hb2⟩
   | true =>
    rw [e3,if_neg (by simp)] at hcv;by_cases e4:u.port < 0∨65535 < u.port
    ·rw [if_pos e4] at hcv;have HV:Hid _:=hcv; clear hcv
     by_cases e5:u.port < 0
     ·clear e4;go_wp2;go_ret;exact ⟨ret_int HV.out.symm,hb2⟩
     ·have e6:65535 < u.port:=by omega
      clear e4;go_wp2;go_ret;exact ⟨ret_int HV.out.symm,hb2⟩
    ·rw [if_neg e4] at hcv;have e5:0≤u.port:=by omega
     have e6:u.port≤65535:=by omega
     clear e4;go_wp2_with fail
     refine (mayBe_any _ u.params _ s4 (hp.below hb2)).mono ?_
     rintro e w3 ⟨rfl,hw3⟩;have hb3:=hb2.trans (hw3.mono hb2.size);have hx3:=hx2.out.below hw3 hs2;have hs3:w.heap.size < w3.heap.size:=Nat.lt_of_lt_of_le hs2 hw3.size;clear g0 g1 g2 g3 g4 g5 hx2 hb2 hw3;obtain ⟨g0,g1,g2,g3,g4,g5⟩:=hx3;have hx3:Hid (BoxU w3 w.heap.size u p h):=⟨g0,g1,g2,g3,g4,g5⟩
     cases e7:listB u.params with
     | false =>
      rw [e7,if_pos rfl] at hcv;have HV:Hid _:=hcv; clear hcv
      go_wp2;go_ret;exact ⟨ret_int HV.out.symm,hb3⟩
     | true =>
      rw [e7,if_neg (by simp)] at hcv;go_wp2_with fail
      refine (mayBe_any _ u.headers _ s5 (hh.below hb3)).mono ?_
      rintro e w4 ⟨rfl,hw4⟩;have hb4:=hb3.trans (hw4.mono hb3.size);have hx4:=hx3.out.below hw4 hs3;clear g0 g1 g2 g3 g4 g5 hx3 hb3 hw4 hs2;obtain ⟨g0,g1,g2,g3,g4,g5⟩:=hx4
      cases e8:listB u.headers with
      | false =>
       rw [e8,if_pos rfl] at hcv;have HV:Hid _:=hcv; clear hcv
       go_wp2;go_ret;exact ⟨ret_int HV.out.symm,hb4⟩
      | true =>
       rw [e8,if_neg (by simp)] at hcv;have HV:Hid _:=hcv; clear hcv
       have h16:u.headers.length≤140737488355328:=s5.1;go_wp2_with fail
       refine (allHave_any _ u.headers _ h16 (hh.below hb4)).mono ?_
       rintro e w5 ⟨rfl,hw5⟩;have hb5:=hb4.trans (hw5.mono hb4.size)
       cases e9:u.headers.all (·.has) with
       | false =>
        have hbad:Hid (checkV u=34):=show _=_ by rw [HV.out,e9]; rfl
        clear HV;go_wp2;go_ret;exact ⟨ret_int hbad.out.symm,hb5⟩
       | true =>
        have hall:Hid (checkV u=0):=show _=_ by rw [HV.out,e9]; rfl
        clear HV;go_wp2;go_ret;exact ⟨ret_int hall.out.symm,hb5⟩
theorem idx_neg {keep:List UInt8} {b:UInt8} (h:hasL b keep=false):Lib.indexByte keep b=-1:=by
 rcases idx_cases keep b with ⟨_,h2⟩ | ⟨a,c,h1,_,_⟩
 ·exact h2
 ·exfalso
  unfold hasL at h;rw [h1] at h; simp at h
theorem idx_pos {keep:List UInt8} {b:UInt8} (h:hasL b keep=true):0≤Lib.indexByte keep b:=by
 rcases idx_cases keep b with ⟨h1,_⟩ | ⟨a,c,_,_,h3⟩
 ·unfold hasL at h; simp [h1] at h
 ·omega
set_option maxHeartbeats 1000000 in
theorem meaning_any (s keep:ByteArray) (w:World) (hs:s.size≤140737488355328) (hk:keep.size≤maxLen) :
  Calls Tryz.prog 108 #[.string s,.string keep] w fun e w'=>e=.returned (.tuple #[.string ⟨(writtenV keep.data.toList s.data.toList).1.toArray⟩,.bool (writtenV keep.data.toList s.data.toList).2])∧Below w.heap.size w w':=by
 go_enter Tryz.func108,Tryz.ntmps108
 go_wp2
 go_loop [12] (fun i=>∃ k:Nat,k≤s.size∧i=.int .i64 k∧Hid ((s.data.toList.take k).all (okw keep.data.toList)=true)) (fun i=>s.size - (intOf i).toNat)
 case atStart=>exact ⟨0,by omega,rfl,rfl⟩
 case round =>
  obtain ⟨k,hk',rfl,hall⟩:=hrel;by_cases hlt:k < s.size
  ·have hbd:=u8_bd s[k];by_cases h37:s[k]=37
   ·have e37:((s[k].toNat:Int) != 37)=false:=by rw [h37]; rfl
    have e37':((s[k].toNat:Int)==37)=true:=by rw [h37]; rfl
    have ha:Hid ((s.data.toList.take (k+1)).all (okw keep.data.toList)=true):=okw_snoc hlt hall.out (by simp [okw,h37]);clear h37 hall;go_wp2
    go_round
    case rel=>exact ⟨k+1,by omega,by go_num,ha⟩
    case measure=>simp [intOf]; omega
   ·have e37:((s[k].toNat:Int) != 37)=true:=by
     have:=u8_ne (b:=37) h37
     simp only [bne,Bool.not_eq_true']; exact this
    by_cases hx:isB s[k].toNat 16=true
    ·have hx2:(bits BinOp.and IntKind.i64 (cls s[k].toNat) 16==0)=false:=by simpa [isB] using hx
     have ha:Hid ((s.data.toList.take (k+1)).all (okw keep.data.toList)=true):=okw_snoc hlt hall.out (by simp [okw,hx]);clear h37 hall hx;go_wp2_with (go_at_call 125; refine (class_any _ _ hbd.1 hbd.2).mono ?_; rintro e w' ⟨rfl,rfl⟩)
     go_round
     case rel=>exact ⟨k+1,by omega,by go_num,ha⟩
     case measure=>simp [intOf]; omega
    ·have hx2:(bits BinOp.and IntKind.i64 (cls s[k].toNat) 16==0)=true:=by simpa [isB] using hx
     by_cases hh:hasL s[k] keep.data.toList=true
     ·have ha:Hid ((s.data.toList.take (k+1)).all (okw keep.data.toList)=true):=okw_snoc hlt hall.out (by simp [okw,hh]);have hix:=idx_pos hh;clear h37 hall hx
      go_wp2_with (first
       | (go_at_call 125; refine (class_any _ _ hbd.1 hbd.2).mono ?_; rintro e w' ⟨rfl,rfl⟩)
       | (go_at_call 126; refine (strIndexByte_any keep s[k] _).mono ?_; rintro e w' ⟨rfl,rfl⟩))
      go_round
      case rel=>exact ⟨k+1,by omega,by go_num,ha⟩
      case measure=>simp [intOf]; omega
     ·have hh':hasL s[k] keep.data.toList=false:=by simpa using hh
      have hix:=idx_neg hh'
      have hb:Hid (writtenV keep.data.toList s.data.toList=([],false)):=written_bad hlt (by
       simp only [okw,Bool.or_eq_false_iff,beq_eq_false_iff_ne,ne_eq];exact ⟨h37,by simpa using hx,hh'⟩)
      clear h37 hall hx hh
      go_wp2_with (first
       | (go_at_call 125; refine (class_any _ _ hbd.1 hbd.2).mono ?_; rintro e w' ⟨rfl,rfl⟩)
       | (go_at_call 126; refine (strIndexByte_any keep s[k] _).mono ?_; rintro e w' ⟨rfl,rfl⟩; rw [hix]))
      go_ret2;exact ⟨ret_wr (x:=[]) hb.out,Below.refl _ _⟩
  ·rw [take_all s k (by omega)] at hall;have hv:=written_all hall.out;have HV:Hid _:=hv; clear hv hall
   go_wp2_with (go_at_call 136; refine (unescape_any _ _ hs).mono ?_; rintro e w1 ⟨rfl,hw1⟩)
   all_goals go_ret2
   all_goals exact ⟨ret_wr HV.out,hw1⟩
theorem parsOf_snoc_some {keep:List UInt8} {ls:List (List UInt8)} {l:List UInt8} {ps:List Par} {p:Par} (h1:parsOf keep ls=some ps) (h2:parOf keep l=some p):parsOf keep (ls++[l])=some (ps++[p]):=by
 rw [parsOf_snoc,h1,h2]
theorem meaning_list (s keep:List UInt8) (w:World) (hs:s.length≤1048640) (hk:keep.length≤64) :
  Calls Tryz.prog 108 #[.string ⟨s.toArray⟩,.string ⟨keep.toArray⟩] w fun e w'=>e=.returned (.tuple #[.string ⟨(writtenV keep s).1.toArray⟩,.bool (writtenV keep s).2])∧Below w.heap.size w w' :=
 meaning_any ⟨s.toArray⟩ ⟨keep.toArray⟩ w (by rw [size_list]; omega) (by rw [size_list]; unfold maxLen; omega)
theorem strCut_list (r:List UInt8) (c:UInt8) (w:World) (hs:r.length≤9223372036854775807) :
  Calls Tryz.prog 74 #[.string ⟨r.toArray⟩,.string ⟨#[c]⟩] w fun e w'=>e=.returned (.tuple #[.string ⟨(cutL c r).1.toArray⟩,.string ⟨(cutL c r).2.1.toArray⟩,.bool (cutL c r).2.2])∧∃ q,w'=w.drewN q :=
 strCut_any ⟨r.toArray⟩ c w (by rw [size_list]; exact hs)
set_option maxHeartbeats 2000000 in
set_option maxRecDepth 100000 in
theorem fields_any (v:Value) (ls:List (List UInt8)) (keep:List UInt8) (w:World) (hk:keep.length≤64) (hn:ls.length≤1048641) (hl:∀ l ∈ ls,l.length≤1048640) (hv:StrsAt w v ls) :
  Calls Tryz.prog 111 #[v,.string ⟨keep.toArray⟩] w fun e w'=>∃ v' b,e=.returned (.tuple #[v',.bool b])∧ParsRes keep ls w w' v' b∧Below w.heap.size w w':=by
 obtain ⟨i0,hi,hz0,hz1,hz2⟩:=info_parts infoPar;obtain ⟨ao,cap,rfl,hc⟩:=hv;have HC:Hid _:=hc; clear hc
 have HL:Hid _:=hl; clear hl
 obtain ⟨n,hn'⟩:∃ n,n=ls.length:=⟨_,rfl⟩
 rw [← hn'] at hn ⊢;have HN:Hid _:=hn'; clear hn'
 go_enter Tryz.func111,Tryz.ntmps111
 go_wp2
 go_loopw [6,17] (fun x i wr=>∃ (k:Nat) (ps:List Par),k≤n∧i=.int .i64 k∧Hid (parsOf keep (ls.take k)=some ps)∧ps.length=k∧OwnP wr w.heap.size x ps∧Below w.heap.size w wr∧w.heap.size≤wr.heap.size) (fun _ i _=>n - (intOf i).toNat)
 case atStart=>exact ⟨0,[],by omega,rfl,rfl,rfl,OwnP.nil _ _,Below.refl _ _,Nat.le_refl _⟩
 case round =>
  obtain ⟨k,ps,hkn,rfl,hps,hpl,hown,hb,hB⟩:=hrel;by_cases hlt:k < n
  ·have hkl:k < ls.length:=by have:=HN.out; omega
   obtain ⟨a,hao,hab,hcell⟩:=HC.out k hkl;have hcell2:=cell_below hb (by rw [add_block]; exact hab) hcell;have hll:=HL.out _ (List.getElem_mem hkl);have hcl:=cutL_len 61 ls[k];subst hao;clear hcell;go_wp2_with fail
   refine (strCut_list ls[k] 61 _ (by omega)).mono ?_
   rintro e w' ⟨rfl,q,rfl⟩;have hown1:=hown.below (below_drewN _ q);have hb1:=hb.trans ((below_drewN _ q).mono hB);go_wp2_with fail
   refine (meaning_list (cutL 61 ls[k]).1 keep _ (by omega) hk).mono ?_
   rintro e w3 ⟨rfl,hw3⟩;have hown3:=hown1.below hw3;have hb3:=hb1.trans (hw3.mono hb1.size);have hB3:=hb3.size
   have hsn:∀ p,parOf keep ls[k]=some p → parsOf keep (ls.take (k+1))=some (ps++[p]):=fun p h=>by
    rw [List.take_succ_eq_append_getElem hkl]; exact parsOf_snoc_some hps.out h
   have hpbad:=@parsOf_bad keep ls k hkl;have hpsome:=@parOf_some keep ls[k];have hpnone:=@parOf_none keep ls[k];clear hown hown1 hb hb1 hw3 hB hcell2;have hlb:(cutL 61 ls[k]).2.1.length≤1048640:=by omega
   generalize cutL 61 ls[k]=c3 at hpsome hpnone hlb ⊢;obtain ⟨ca,cb,cc⟩:=c3;simp only at hpsome hpnone hlb ⊢;obtain ⟨wb,hwb⟩:∃ wb,writtenV keep cb=wb:=⟨_,rfl⟩
   rw [hwb] at hpsome hpnone;generalize writtenV keep ca=wa at hpsome hpnone ⊢;obtain ⟨na,ha⟩:=wa;obtain ⟨nb,hbb⟩:=wb;simp only at hpsome hpnone ⊢;have HPB:Hid _:=hpbad; clear hpbad
   have HPN:Hid _:=hpnone; clear hpnone
   have HPS:Hid _:=hpsome; clear hpsome
   have HSN:Hid _:=hsn; clear hsn
   cases ha with
   | false =>
    have hnone:Hid (parsOf keep ls=none):=HPB.out (HPN.out (by simp));go_wp2;go_ret2
    first | exact ⟨.slice none 0 0,false,rfl,Or.inr ⟨hnone.out,rfl,rfl⟩,hb3⟩ | exact ⟨.slice none 0 0,Or.inl ⟨rfl,Or.inr ⟨hnone.out,rfl,rfl⟩,hb3⟩⟩
   | true =>
    go_wp2_with fail
    refine (meaning_list cb keep _ hlb hk).mono ?_
    rw [hwb];rintro e w4 ⟨rfl,hw4⟩;have hown4:=hown3.below hw4;have hb4:=hb3.trans (hw4.mono hb3.size);have hB4:=hb4.size;clear hown3 hb3 hw4 hB3 hwb
    cases hbb with
    | false =>
     have hnone:Hid (parsOf keep ls=none):=HPB.out (HPN.out (by simp));go_wp2;go_ret2
     first | exact ⟨.slice none 0 0,false,rfl,Or.inr ⟨hnone.out,rfl,rfl⟩,hb4⟩ | exact ⟨.slice none 0 0,Or.inl ⟨rfl,Or.inr ⟨hnone.out,rfl,rfl⟩,hb4⟩⟩
    | true =>
     have hsn2:Hid (parsOf keep (ls.take (k+1))=some (ps++[⟨na,nb,cc⟩])):=HSN.out _ (HPS.out (by simp) (by simp))
     have hnew:∀ (j:Nat) (u:Value),(parCells ⟨na,nb,cc⟩)[j]? = some u → (w4.alloc (.cells #[.string ⟨na.toArray⟩,.string ⟨nb.toArray⟩,.bool cc] 78)).cell? ((⟨w4.heap.size,0,none⟩:Addr).add j)=some u:=by
      intro j u hj;have e:(⟨w4.heap.size,0,none⟩:Addr).add j=⟨w4.heap.size,j,none⟩:=by unfold Addr.add; split <;> simp_all
      rw [e];unfold World.cell?;rw [heap_alloc_new]
      simpa [parCells] using hj
     have HNW:Hid _:=hnew; clear hnew HSN HPS HPN HPB
     go_wp2_with (at_builtin; refine wp_appP _ rfl (.tmp 43) (.tmp 48) 80 rfl w.heap.size i0 _ Tryz.underlying80 hi hz0 hz1 hz2 rfl _ ps rfl (hown4.alloc _) ⟨w4.heap.size,0,none⟩ 1 ⟨na,nb,cc⟩ rfl (by exact HNW.out) (by omega) w (hb4.alloc hB4 _) (by simp; omega) ?_; intro v5 w5 hown5 hb5 hB5)
     go_wp2;go_roundw
     case rel=>exact ⟨k+1,ps++[⟨na,nb,cc⟩],by omega,by go_num,hsn2,by simp; omega,hown5,hb5,hB5⟩
     case measure=>simp [intOf]; omega
  ·have hend:Hid (parsOf keep ls=some ps):=show _=_ by
    have h:=hps.out;have e:=HN.out;rw [List.take_of_length_le (by omega)] at h; exact h
   clear hps;go_wp2;go_ret2
   first | exact ⟨_,_,rfl,Or.inl ⟨ps,hend.out,rfl,hown⟩,hb⟩ | exact ⟨_,Or.inr ⟨rfl,Or.inl ⟨ps,hend.out,rfl,hown⟩,hb⟩⟩
theorem ret_user {p:List UInt8 × List UInt8 × Int} {x y:List UInt8} {b:Int} (h:p=(x,y,b)):Ending.returned (.tuple #[.string ⟨x.toArray⟩,.string ⟨y.toArray⟩,.int .i64 b])=.returned (.tuple #[.string ⟨p.1.toArray⟩,.string ⟨p.2.1.toArray⟩,.int .i64 p.2.2]):=by rw [h]
set_option maxHeartbeats 1000000 in
theorem cutUser_any (s:List UInt8) (w:World) (hs:s.length≤1048640) :
  Calls Tryz.prog 77 #[.string ⟨s.toArray⟩] w fun e w'=>e=.returned (.tuple #[.string ⟨(userV s).1.toArray⟩,.string ⟨(userV s).2.1.toArray⟩,.int .i64 (userV s).2.2])∧Below w.heap.size w w':=by
 have hcl:=cutL_len 64 s;have hv:userV s=userV s:=rfl
 conv at hv=>rhs; unfold userV
 go_enter Tryz.func77,Tryz.ntmps77
 go_wp2_with fail
 refine (strCut_list s 64 _ (by omega)).mono ?_
 rintro e w0 ⟨rfl,q,rfl⟩;have hw0:=below_drewN w q;generalize w.drewN q=w0 at hw0 ⊢;have hl1:(cutL 64 s).1.length≤1048640:=by omega
 clear hcl;generalize cutL 64 s=c at hv hl1 ⊢;obtain ⟨ca,cb,cc⟩:=c;simp only at hv hl1 ⊢
 cases cc with
 | false =>
  have HV:Hid (userV s=([],s,0)):=show _=_ by rw [hv]; rfl
  clear hv;go_wp2;go_ret3
  exact ⟨ret_user (x:=[]) HV.out,hw0⟩
 | true =>
  rw [if_pos rfl] at hv;have hm:=meaning_list ca usersK w0 hl1 (by decide);go_wp2_with fail
  refine hm.mono ?_
  rintro e w1 ⟨rfl,hw1⟩;have hb:=hw0.trans (hw1.mono hw0.size);clear hm hw1;generalize writtenV usersK ca=t at hv ⊢;obtain ⟨t1,tb⟩:=t;simp only at hv ⊢
  cases tb with
  | false =>
   have HV:Hid (userV s=([],[],31)):=show _=_ by rw [hv]; simp
   clear hv;go_wp2;go_ret3
   exact ⟨ret_user (x:=[]) (y:=[]) HV.out,hb⟩
  | true =>
   have z:=size_list t1;by_cases h0:t1=[]
   ·subst h0;have HV:Hid (userV s=([],[],31)):=show _=_ by rw [hv]; simp
    clear hv;go_wp2;go_ret3
    exact ⟨ret_user (x:=[]) (y:=[]) HV.out,hb⟩
   ·have he:t1.isEmpty=false:=by simpa using h0
    by_cases h64:64 < t1.length
    ·have HV:Hid (userV s=([],[],31)):=show _=_ by rw [hv,if_pos (Or.inr (Or.inr h64))]
     clear hv;go_wp2;go_ret3
     exact ⟨ret_user (x:=[]) (y:=[]) HV.out,hb⟩
    ·have HV:Hid (userV s=(t1,cb,0)):=show _=_ by rw [hv,if_neg (by simp [h0]; omega)]
     clear hv;go_wp2;go_ret3
     exact ⟨ret_user HV.out,hb⟩
theorem esc_list (s keep:List UInt8) (w:World) (hs:s.length≤1048640) (hk:keep.length≤64) :
  Calls Tryz.prog 115 #[.string ⟨s.toArray⟩,.string ⟨keep.toArray⟩] w fun e w'=>e=.returned (.string ⟨(escL keep s).toArray⟩)∧Below w.heap.size w w' :=
 escape_any ⟨s.toArray⟩ ⟨keep.toArray⟩ w (by rw [size_list]; omega) (by rw [size_list]; omega)
theorem digits_int (n:Int) (w:World) (h0:0≤n) (h1:n≤65535) :
  Calls Tryz.prog 57 #[.int .i64 n] w fun e w'=>e=.returned (.string ⟨(digL n.toNat).toArray⟩)∧Below w.heap.size w w':=by
 have h:=digits_any n.toNat w (by omega);have e:((n.toNat:Nat):Int)=n:=by omega
 rw [e] at h;exact h
theorem escLn (keep s:List UInt8):(escL keep s).length≤3 * s.length:=by
 have:=esc_cells_len (kpF keep) s
 rw [Lib.byteCells_length] at this;exact this
theorem appL (a b:List UInt8):(⟨a.toArray⟩:ByteArray)++(⟨b.toArray⟩:ByteArray)=⟨(a++b).toArray⟩:=by
 apply ByteArray.ext; simp
def wrT (f n keep:List UInt8) (ps:List Par):List UInt8:=(ps.zipIdx).flatMap fun (p,i)=>(if i=0 then f else n)++pairV keep p
theorem wrT_snoc {f n keep:List UInt8} {ps:List Par} {k:Nat} (hk:k < ps.length):wrT f n keep (ps.take (k+1))=wrT f n keep (ps.take k)++((if k=0 then f else n)++pairV keep ps[k]):=by
 unfold wrT;rw [List.take_succ_eq_append_getElem hk,List.zipIdx_append,List.flatMap_append,List.length_take,Nat.min_eq_left (by omega)]
 simp
theorem wrT_hdr (ps:List Par):wrT [63] [38] headersK ps=hdrT ps:=rfl
theorem wrT_pars (ps:List Par):wrT [59] [59] paramsK ps=parsT ps:=by
 unfold wrT parsT
 have key:∀ (m:Nat) (qs:List Par),((qs.zipIdx m).flatMap fun (p,i)=>(if i=0 then ([59]:List UInt8) else [59])++pairV paramsK p)=qs.flatMap fun p=>[59]++pairV paramsK p:=by
  intro m qs
  induction qs generalizing m with
  | nil=>rfl
  | cons q qs ih =>
   rw [List.zipIdx_cons,List.flatMap_cons,ih (m+1),List.flatMap_cons]
   simp
 exact key 0 ps
theorem pairVn (keep:List UInt8) (p:Par) (h:parB p=true):(pairV keep p).length≤400:=by
 have hp:=parB_ok h;have l1:=escLn keep p.name;have l2:=escLn keep p.value;unfold pairV
 split
 ·simp; omega
 ·omega
theorem wrT_len (f n keep:List UInt8) (ps:List Par) (hf:f.length≤1) (hn:n.length≤1) (hp:∀ p ∈ ps,parB p=true):(wrT f n keep ps).length≤401 * ps.length:=by
 have key:∀ k,k≤ps.length → (wrT f n keep (ps.take k)).length≤401 * k:=by
  intro k
  induction k with
  | zero=>intro _; simp [wrT]
  | succ k ih =>
   intro hk;have h1:=ih (by omega);have h2:=pairVn keep ps[k] (hp _ (List.getElem_mem (by omega)));rw [wrT_snoc (by omega),List.length_append,List.length_append]
   split <;> omega
 have:=key ps.length (Nat.le_refl _)
 rwa [List.take_length] at this
set_option maxHeartbeats 2000000 in
set_option maxRecDepth 100000 in
theorem wr_row (a:Addr) (cap:Nat) (ps:List Par) (f n keep:List UInt8) (w:World) (h16:ps.length≤16) (hp:∀ p ∈ ps,parB p=true) (hf:f.length≤1) (hn:n.length≤1) (hkp:keep.length≤64) (hc:∀ k (hk:k < ps.length),a.block < w.heap.size∧ParAt w a k ps[k]) :
  Calls Tryz.prog 116 #[.slice (some a) ps.length cap,.string ⟨f.toArray⟩,.string ⟨n.toArray⟩,.string ⟨keep.toArray⟩] w fun e w'=>e=.returned (.string ⟨(wrT f n keep ps).toArray⟩)∧Below w.heap.size w w':=by
 have HC:Hid _:=hc; clear hc
 have HP:Hid _:=hp; clear hp
 obtain ⟨m,hm⟩:∃ m,m=ps.length:=⟨_,rfl⟩
 rw [← hm] at h16 ⊢;have HN:Hid _:=hm; clear hm
 go_enter Tryz.func116,Tryz.ntmps116
 go_wp2
 go_loopw [9,10,16] (fun x y i wr=>∃ (k:Nat) (l g:List UInt8),k≤m∧i=.int .i64 k∧x=.string ⟨l.toArray⟩∧y=.string ⟨g.toArray⟩∧l.length≤401 * k∧g.length≤1∧Hid (g=if k=0 then f else n)∧Hid (l=wrT f n keep (ps.take k))∧Below w.heap.size w wr) (fun _ _ i _=>m - (intOf i).toNat)
 case atStart=>exact ⟨0,[],f,by omega,rfl,rfl,rfl,by simp,hf,rfl,rfl,Below.refl _ _⟩
 case round =>
  obtain ⟨k,l,g,hk,rfl,rfl,rfl,hll,hgl,hg,hle,hb⟩:=hrel;by_cases hlt:k < m
  ·have hkl:k < ps.length:=by have:=HN.out; omega
   obtain ⟨hab,hpa⟩:=HC.out k hkl;obtain ⟨c0,c1,c2⟩:=hpa.below hb hab;have hpb:=HP.out _ (List.getElem_mem hkl);have hpo:=parB_ok hpb;have hpl:=pairVn keep _ hpb;have hsn:Hid (wrT f n keep (ps.take (k+1))=l++(g++pairV keep ps[k])):=show _=_ by rw [wrT_snoc hkl,hle.out,hg.out]
   generalize ps[k]=p at c0 c1 c2 hpo hpl hsn;obtain ⟨nm,vl,hs⟩:=p;simp only at c0 c1 c2 hpo;have l1:=escLn keep nm;have l2:=escLn keep vl;have hB:=hb.size;clear hpb hpa hle hg;have hbx:∀ o,Below w.heap.size w (wr.alloc o):=fun o=>hb.alloc hB o
   cases hs with
   | false =>
    have hpv:pairV keep ⟨nm,vl,false⟩=escL keep nm:=rfl;rw [hpv] at hsn hpl
    have hcl:∀ o1 o2 w5,Below (wr.alloc (.cells #[o1,o2,.bool false] 78)).heap.size (wr.alloc (.cells #[o1,o2,.bool false] 78)) w5 → w5.cell? ⟨wr.heap.size,2,none⟩=some (.bool false):=fun o1 o2 w5 h=>by
     rw [h.cell (by simp)]; unfold World.cell?; rw [heap_alloc_new]; rfl
    go_wp2_with (go_at_call 115; refine (esc_list nm keep _ (by omega) hkp).mono ?_; rintro e w5 ⟨rfl,h5⟩; have hc5:=hcl _ _ _ h5; have hb5:=box_below hb hB h5; clear h5 hcl hbx)
    go_roundw
    case rel=>exact ⟨k+1,l++(g++escL keep nm),n,by omega,by go_num,by rw [← appL,← appL],rfl,by simp; omega,hn,show _=_ from (if_neg (by omega)).symm,hsn.out.symm,hb5⟩
    case measure=>simp [intOf]; omega
   | true =>
    have hpv:pairV keep ⟨nm,vl,true⟩=escL keep nm++[61]++escL keep vl:=rfl;rw [hpv] at hsn hpl;simp only [List.length_append] at hpl
    have hcl:∀ o1 o2 w5,Below (wr.alloc (.cells #[o1,o2,.bool true] 78)).heap.size (wr.alloc (.cells #[o1,o2,.bool true] 78)) w5 → w5.cell? ⟨wr.heap.size,1,none⟩=some o2∧w5.cell? ⟨wr.heap.size,2,none⟩=some (.bool true):=fun o1 o2 w5 h=>by
     constructor <;> (rw [h.cell (by simp)]; unfold World.cell?; rw [heap_alloc_new]; rfl)
    go_wp2_with fail
    refine (esc_list nm keep _ (by omega) hkp).mono ?_
    rintro e w5 ⟨rfl,h5⟩;obtain ⟨hc5,hd5⟩:=hcl _ _ _ h5;have hb5:=box_below hb hB h5;clear h5 hcl hbx;go_wp2_with fail
    refine (esc_list vl keep _ (by omega) hkp).mono ?_
    rintro e w6 ⟨rfl,h6⟩;have hb6:=hb5.trans (h6.mono hb5.size);clear h6 hc5 hd5;go_wp2;go_roundw
    case rel=>exact ⟨k+1,l++(g++(escL keep nm++[61]++escL keep vl)),n,by omega,by go_num,by first | (simp only [← appL,ByteArray.append_assoc]; rfl) | (simp only [← appL,ByteArray.append_assoc]),rfl,by simp; omega,hn,show _=_ from (if_neg (by omega)).symm,hsn.out.symm,hb6⟩
    case measure=>simp [intOf]; omega
  ·have hd:Hid (wrT f n keep ps=l):=show _=_ by
    rw [hle.out,List.take_of_length_le (by have:=HN.out; omega)]
   clear hle hg;go_wp2;go_ret;exact ⟨by rw [hd.out]; rfl,hb⟩
set_option maxHeartbeats 400000 in
theorem wr_nil (a:Option Addr) (cap:Nat) (f n keep:List UInt8) (w:World) :
  Calls Tryz.prog 116 #[.slice a 0 cap,.string ⟨f.toArray⟩,.string ⟨n.toArray⟩,.string ⟨keep.toArray⟩] w fun e w'=>e=.returned (.string ⟨#[]⟩)∧Below w.heap.size w w':=by
 go_enter Tryz.func116,Tryz.ntmps116
 go_wp2
 go_loop [9,16] (fun x i=>x=.string ⟨#[]⟩∧i=.int .i64 0) (fun _ i=>0)
 case atStart=>exact ⟨rfl,rfl⟩
 case round =>
  obtain ⟨rfl,rfl⟩:=hrel;go_wp2;go_ret;exact ⟨rfl,Below.refl _ _⟩
theorem wr_any (v:Value) (ps:List Par) (f n keep:List UInt8) (w:World) (h16:ps.length≤16) (hp:∀ p ∈ ps,parB p=true) (hf:f.length≤1) (hn:n.length≤1) (hkp:keep.length≤64) (h:ParsAt w v ps) :
  Calls Tryz.prog 116 #[v,.string ⟨f.toArray⟩,.string ⟨n.toArray⟩,.string ⟨keep.toArray⟩] w fun e w'=>e=.returned (.string ⟨(wrT f n keep ps).toArray⟩)∧Below w.heap.size w w':=by
 rcases h with ⟨rfl,rfl⟩ | ⟨a,cap,rfl,hc⟩
 ·exact wr_nil none 0 f n keep w
 ·exact wr_row a cap ps f n keep w h16 hp hf hn hkp hc
theorem ret_prt {p:List UInt8 × Int} {x:List UInt8} {a:Int} (h:p=(x,a)):Ending.returned (.tuple #[.string ⟨x.toArray⟩,.int .i64 a])=.returned (.tuple #[.string ⟨p.1.toArray⟩,.int .i64 p.2]):=by rw [h]
theorem ret_prb {p:List UInt8 × Int} {b:ByteArray} {x:List UInt8} {a:Int} (h:p=(x,a)) (hb:b=⟨x.toArray⟩):Ending.returned (.tuple #[.string b,.int .i64 a])=.returned (.tuple #[.string ⟨p.1.toArray⟩,.int .i64 p.2]):=by rw [h,hb]
set_option maxHeartbeats 1000000 in
theorem print_bad (u:Uri) (p h:Value) (w:World) (hsm:SmallU 140737488355328 u) (hp:ParsAt w p u.params) (hh:ParsAt w h u.headers) (hne:¬ checkV u=0) :
  Calls Tryz.prog 80 #[uriV u p h] w fun e w'=>e=.returned (.tuple #[.string ⟨(printV u).1.toArray⟩,.int .i64 (printV u).2])∧Below w.heap.size w w':=by
 have hv:Hid (printV u=([],checkV u)):=show _=_ by rw [printV,if_neg hne]
 have hn:(checkV u != 0)=true:=by simpa using hne
 have hn2:(checkV u==0)=false:=by simpa using hne
 have hbw:Below w.heap.size w (w.alloc (.cells #[.string ⟨u.scheme.toArray⟩,.string ⟨u.user.toArray⟩,.string ⟨u.host.toArray⟩,.int .i64 u.port,p,h] 97)):=(Below.refl _ w).alloc (Nat.le_refl _) _;clear hne;unfold uriV
 go_enter Tryz.func80,Tryz.ntmps80
 go_wp2_with fail
 refine (check_any u p h _ hsm (hp.below hbw) (hh.below hbw)).mono ?_
 rintro e w2 ⟨rfl,hw2⟩;go_wp2;go_ret2;exact ⟨ret_prt (x:=[]) hv.out,hbw.trans (hw2.mono hbw.size)⟩
end Go.Proofs.YtldkidljjbkmbaaGreatDoor
