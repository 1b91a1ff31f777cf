/-
  UMay, SFind, RefPlace, RefWritten, ParOwn, RefParams, OpenAddr, OpenEv.
-/
import Derived.Test.YtiogedceommcoaaGreatDoorK09
set_option linter.unusedVariables false
set_option linter.unusedSimpArgs false
set_option maxRecDepth 20000
namespace Go.Proofs.YtiogedceommcoaaGreatDoor
open Go.RowKit Sc
set_option maxHeartbeats 400000 in
theorem mayBe_long (a:Option Addr) (cap:Nat) (ps:List Par) (w:World) (h16:¬ ps.length≤16) :
  Calls Tryz.prog 167 #[.slice a ps.length cap] w fun e w'=>e=.returned (.bool (listB ps))∧Below w.heap.size w w':=by
 have hv:Hid (listB ps=false):=show _=_ by rw [listB,decide_eq_false h16]; rfl
 go_enter Tryz.func167,Tryz.ntmps167
 go_wp2;go_ret;exact ⟨ret_bool hv.out.symm,Below.refl _ _⟩
set_option maxHeartbeats 400000 in
theorem mayBe_nil (a:Option Addr) (cap:Nat) (w:World) :
  Calls Tryz.prog 167 #[.slice a 0 cap] w fun e w'=>e=.returned (.bool true)∧Below w.heap.size w w':=by
 have hmm:=makeHint 0
 go_enter Tryz.func167,Tryz.ntmps167
 go_wp2
 go_loop [15] (fun i=>i=.int .i64 0) (fun i=>0)
 case atStart=>rfl
 case round =>
  subst hrel;go_wp2;go_ret;exact ⟨rfl,(Below.refl _ _).alloc (Nat.le_refl _) _⟩
theorem mayBe_any (v:Value) (ps:List Par) (w:World) (hsm:SmallP 140737488355328 ps) (h:ParsAt w v ps) :
  Calls Tryz.prog 167 #[v] w fun e w'=>e=.returned (.bool (listB ps))∧Below w.heap.size w w':=by
 by_cases h16:ps.length≤16
 ·rcases h with ⟨rfl,rfl⟩ | ⟨a,cap,rfl,hc⟩
  ·exact mayBe_nil none 0 w
  ·exact mayBe_row a cap ps w hsm hc h16
 ·obtain ⟨a,cap,rfl⟩:=h.form;exact mayBe_long a cap ps w h16
set_option maxHeartbeats 1000000 in
theorem allHave_row (a:Addr) (cap:Nat) (ps:List Par) (w:World) (h16:ps.length≤140737488355328) (hc:∀ k (hk:k < ps.length),a.block < w.heap.size∧ParAt w a k ps[k]) :
  Calls Tryz.prog 168 #[.slice (some a) ps.length cap] w fun e w'=>e=.returned (.bool (ps.all (·.has)))∧Below w.heap.size w w':=by
 have HC:Hid _:=hc; clear hc
 obtain ⟨b,hb0⟩:∃ b,ps.all (·.has)=b:=⟨_,rfl⟩
 rw [hb0];have HB:Hid _:=hb0; clear hb0
 obtain ⟨n,hn⟩:∃ n,n=ps.length:=⟨_,rfl⟩
 rw [← hn] at h16 ⊢;have HN:Hid _:=hn; clear hn
 go_enter Tryz.func168,Tryz.ntmps168
 go_wp2
 go_loopw [7] (fun i wr=>∃ k:Nat,k≤n∧i=.int .i64 k∧Below w.heap.size w wr∧Hid ((ps.take k).all (·.has)=true)) (fun i _=>n - (intOf i).toNat)
 case atStart=>exact ⟨0,by omega,rfl,Below.refl _ _,rfl⟩
 case round =>
  obtain ⟨k,hk,rfl,hb,hal⟩:=hrel;by_cases hlt:k < n
  ·have hkl:k < ps.length:=by have:=HN.out; omega
   obtain ⟨hab,hpa⟩:=HC.out k hkl;obtain ⟨c0,c1,c2⟩:=hpa.below hb hab
   cases hhas:ps[k].has with
   | true =>
    have hal2:Hid ((ps.take (k+1)).all (·.has)=true):=has_snoc hkl hal.out hhas;rw [hhas] at c2;clear hal hpa;go_wp2;go_roundw
    case rel=>exact ⟨k+1,by omega,by go_num,hb.alloc hb.size _,hal2⟩
    case measure=>simp [intOf]; omega
   | false =>
    have hbad:Hid (b=false):=show _=_ by rw [← HB.out,has_bad hkl hhas]
    rw [hhas] at c2;clear hal hpa;go_wp2;go_ret;exact ⟨ret_bool hbad.out.symm,hb.alloc hb.size _⟩
  ·have hall:Hid (b=true):=show _=_ by
    have:=hal.out
    rw [List.take_of_length_le (by have:=HN.out; omega)] at this;rw [← HB.out,this]
   clear hal;go_wp2;go_ret;exact ⟨ret_bool hall.out.symm,hb⟩
set_option maxHeartbeats 400000 in
theorem allHave_nil (a:Option Addr) (cap:Nat) (w:World) :
  Calls Tryz.prog 168 #[.slice a 0 cap] w fun e w'=>e=.returned (.bool true)∧Below w.heap.size w w':=by
 go_enter Tryz.func168,Tryz.ntmps168
 go_wp2
 go_loop [7] (fun i=>i=.int .i64 0) (fun i=>0)
 case atStart=>rfl
 case round =>
  subst hrel;go_wp2;go_ret;exact ⟨rfl,Below.refl _ _⟩
theorem allHave_any (v:Value) (ps:List Par) (w:World) (h16:ps.length≤140737488355328) (h:ParsAt w v ps) :
  Calls Tryz.prog 168 #[v] w fun e w'=>e=.returned (.bool (ps.all (·.has)))∧Below w.heap.size w w':=by
 rcases h with ⟨rfl,rfl⟩ | ⟨a,cap,rfl,hc⟩
 ·exact allHave_nil none 0 w
 ·exact allHave_row a cap ps w h16 hc
set_option maxHeartbeats 2000000 in
set_option maxRecDepth 100000 in
theorem check_any (u:Uri) (p h:Value) (w:World) (hsm:SmallU 140737488355328 u) (hp:ParsAt w p u.params) (hh:ParsAt w h u.headers) :
  Calls Tryz.prog 125 #[uriV u p h] w fun e w'=>e=.returned (.int .i64 (checkV u))∧Below w.heap.size w w':=by
 obtain ⟨s1,s2,s3,s4,s5⟩:=hsm;have hcv:checkV u=checkV u:=rfl
 conv at hcv=>rhs; unfold checkV
 have hbox:=box_new w u p h;have hbw:Below w.heap.size w (w.alloc (.cells #[.string ⟨u.scheme.toArray⟩,.string ⟨u.user.toArray⟩,.string ⟨u.host.toArray⟩,.int .i64 u.port,p,h] 29)):=(Below.refl _ w).alloc (Nat.le_refl _) _;have hws:w.heap.size < (w.alloc (.cells #[.string ⟨u.scheme.toArray⟩,.string ⟨u.user.toArray⟩,.string ⟨u.host.toArray⟩,.int .i64 u.port,p,h] 29)).heap.size:=by simp
 unfold uriV
 cases e1:schemeB u.scheme with
 | false =>
  rw [e1] at hcv; simp at hcv
  have HV:Hid _:=hcv; clear hcv
  go_enter Tryz.func125,Tryz.ntmps125
  go_wp2_with (go_at_call 122; refine (scheme_list _ _).mono ?_; rintro e w' ⟨rfl,rfl⟩; rw [e1])
  go_ret;exact ⟨ret_int HV.out.symm,hbw⟩
 | true =>
  rw [e1,if_neg (by simp)] at hcv;by_cases e2:64 < u.user.length
  ·rw [if_pos e2] at hcv;have HV:Hid _:=hcv; clear hcv
   go_enter Tryz.func125,Tryz.ntmps125
   go_wp2_with (go_at_call 122; refine (scheme_list _ _).mono ?_; rintro e w' ⟨rfl,rfl⟩; rw [e1])
   go_ret;exact ⟨ret_int HV.out.symm,hbw⟩
  ·rw [if_neg e2] at hcv
   go_enter Tryz.func125,Tryz.ntmps125
   go_wp2_with (go_at_call 122; refine (scheme_list _ _).mono ?_; rintro e w' ⟨rfl,rfl⟩; rw [e1])
   refine (host_list _ _ s3).mono ?_
   rintro e w2 ⟨rfl,hw2⟩;have hb2:=hbw.trans (hw2.mono hbw.size);have hx2:=hbox.below hw2 hws;have hs2:w.heap.size < w2.heap.size:=Nat.lt_of_lt_of_le hws hw2.size;obtain ⟨g0,g1,g2,g3,g4,g5⟩:=hx2;have hx2:Hid (BoxU w2 w.heap.size u p h):=⟨g0,g1,g2,g3,g4,g5⟩
   clear hbox hbw hws hw2
   cases e3:hostB u.host with
   | false =>
    rw [e3,if_pos rfl] at hcv;have HV:Hid _:=hcv; clear hcv
    go_wp2;go_ret;exact ⟨ret_int HV.out.symm,hb2⟩
   | true =>
    rw [e3,if_neg (by simp)] at hcv;by_cases e4:u.port < 0∨65535 < u.port
    ·rw [if_pos e4] at hcv;have HV:Hid _:=hcv; clear hcv
     by_cases e5:u.port < 0
     ·clear e4;go_wp2;go_ret;exact ⟨ret_int HV.out.symm,hb2⟩
     ·have e6:65535 < u.port:=by omega
      clear e4;go_wp2;go_ret;exact ⟨ret_int HV.out.symm,hb2⟩
    ·rw [if_neg e4] at hcv;have e5:0≤u.port:=by omega
     have e6:u.port≤65535:=by omega
     clear e4;go_wp2_with fail
     refine (mayBe_any _ u.params _ s4 (hp.below hb2)).mono ?_
     rintro e w3 ⟨rfl,hw3⟩;have hb3:=hb2.trans (hw3.mono hb2.size);have hx3:=hx2.out.below hw3 hs2;have hs3:w.heap.size < w3.heap.size:=Nat.lt_of_lt_of_le hs2 hw3.size;clear g0 g1 g2 g3 g4 g5 hx2 hb2 hw3;obtain ⟨g0,g1,g2,g3,g4,g5⟩:=hx3;have hx3:Hid (BoxU w3 w.heap.size u p h):=⟨g0,g1,g2,g3,g4,g5⟩
     cases e7:listB u.params with
     | false =>
      rw [e7,if_pos rfl] at hcv;have HV:Hid _:=hcv; clear hcv
      go_wp2;go_ret;exact ⟨ret_int HV.out.symm,hb3⟩
     | true =>
      rw [e7,if_neg (by simp)] at hcv;go_wp2_with fail
      refine (mayBe_any _ u.headers _ s5 (hh.below hb3)).mono ?_
      rintro e w4 ⟨rfl,hw4⟩;have hb4:=hb3.trans (hw4.mono hb3.size);have hx4:=hx3.out.below hw4 hs3;clear g0 g1 g2 g3 g4 g5 hx3 hb3 hw4 hs2;obtain ⟨g0,g1,g2,g3,g4,g5⟩:=hx4
      cases e8:listB u.headers with
      | false =>
       rw [e8,if_pos rfl] at hcv;have HV:Hid _:=hcv; clear hcv
       go_wp2;go_ret;exact ⟨ret_int HV.out.symm,hb4⟩
      | true =>
       rw [e8,if_neg (by simp)] at hcv;have HV:Hid _:=hcv; clear hcv
       have h16:u.headers.length≤140737488355328:=s5.1;go_wp2_with fail
       refine (allHave_any _ u.headers _ h16 (hh.below hb4)).mono ?_
       rintro e w5 ⟨rfl,hw5⟩;have hb5:=hb4.trans (hw5.mono hb4.size)
       cases e9:u.headers.all (·.has) with
       | false =>
        have hbad:Hid (checkV u=34):=show _=_ by rw [HV.out,e9]; rfl
        clear HV;go_wp2;go_ret;exact ⟨ret_int hbad.out.symm,hb5⟩
       | true =>
        have hall:Hid (checkV u=0):=show _=_ by rw [HV.out,e9]; rfl
        clear HV;go_wp2;go_ret;exact ⟨ret_int hall.out.symm,hb5⟩
def parV (p:Par):Value:=.agg #[.string ⟨p.name.toArray⟩,.string ⟨p.value.toArray⟩,.bool p.has]
def findR (ps:List Par) (nm:List UInt8):Par × Bool:=match findV ps nm with | some p=>(p,true) | none=>(noP,false)
def BoxP (w:World) (b:Nat) (p:Par):Prop :=
 w.cell? ⟨b,0,none⟩=some (.string ⟨p.name.toArray⟩)∧w.cell? ⟨b,1,none⟩=some (.string ⟨p.value.toArray⟩)∧w.cell? ⟨b,2,none⟩=some (.bool p.has)
theorem BoxP.below {w w':World} {b B:Nat} {p:Par} (k:BoxP w b p) (hb:Below B w w') (hlt:b < B):BoxP w' b p :=
 ⟨cell_below hb hlt k.1,cell_below hb hlt k.2.1,cell_below hb hlt k.2.2⟩
theorem boxP_new (w:World) (p:Par) (t:TypeId):BoxP (w.alloc (.cells #[.string ⟨p.name.toArray⟩,.string ⟨p.value.toArray⟩,.bool p.has] t)) w.heap.size p:=by
 unfold BoxP World.cell?;simp only [heap_alloc_new];exact ⟨rfl,rfl,rfl⟩
theorem row3_new (w:World) (t:TypeId):RowIs (w.alloc (.cells #[.string ⟨#[]⟩,.string ⟨#[]⟩,.bool false] t)) w.heap.size t [.string ⟨#[]⟩,.string ⟨#[]⟩,.bool false]:=by
 unfold RowIs; rw [heap_alloc_new]
structure Three (w:World) (b:Nat) (v0 v1 v2:Value):Prop where
 c0:w.cell? ⟨b,0,none⟩=some v0
 c1:w.cell? ⟨b,1,none⟩=some v1
 c2:w.cell? ⟨b,2,none⟩=some v2
 f0:w.frozen? ⟨b,0,none⟩=false
 f1:w.frozen? ⟨b,1,none⟩=false
 f2:w.frozen? ⟨b,2,none⟩=false
theorem RowIs.three {w:World} {b:Nat} {e:TypeId} {v0 v1 v2:Value} (h:RowIs w b e [v0,v1,v2]):Three w b v0 v1 v2 :=
 ⟨h.cell 0 (by simp),h.cell 1 (by simp),h.cell 2 (by simp),h.frozen 0,h.frozen 1,h.frozen 2⟩
theorem row_store3 {w:World} {b:Nat} {e:TypeId} {u0 u1 u2:Value} (h:RowIs w b e [u0,u1,u2]) (v0 v1 v2:Value) :
  RowIs (((w.setCell ⟨b,0,none⟩ v0).setCell ⟨b,1,none⟩ v1).setCell ⟨b,2,none⟩ v2) b e [v0,v1,v2]:=by
 have:=((h.set 0 v0).set 1 v1).set 2 v2
 simpa using this
theorem store_below3 {B:Nat} {a w:World} (h:Below B a w) (b:Nat) (hb:B≤b) (v0 v1 v2:Value) :
  Below B a (((w.setCell ⟨b,0,none⟩ v0).setCell ⟨b,1,none⟩ v1).setCell ⟨b,2,none⟩ v2) :=
 ((h.setCell hb _).setCell hb _).setCell hb _
theorem box_lt {w w5:World} {o:Obj} {b:Nat} (h:b < w.heap.size) (h5:Below (w.alloc o).heap.size (w.alloc o) w5):b < w5.heap.size:=Nat.lt_of_lt_of_le (Nat.lt_trans h (alloc_lt w o)) h5.size
theorem row_box {w w5:World} {o:Obj} {g:Nat} {e:TypeId} {l:List Value} (h:RowIs w g e l) (hl:g < w.heap.size) (h5:Below (w.alloc o).heap.size (w.alloc o) w5):RowIs w5 g e l :=
 (h.below ((Below.refl _ w).alloc (Nat.le_refl _) o) hl).below h5 (Nat.lt_trans hl (alloc_lt w o))
theorem ret_find {ps:List Par} {nm:List UInt8} {p:Par} {b:Bool} (h:findR ps nm=(p,b)) :
  Ending.returned (.tuple #[.agg #[.string ⟨p.name.toArray⟩,.string ⟨p.value.toArray⟩,.bool p.has],.bool b])=.returned (.tuple #[parV (findR ps nm).1,.bool (findR ps nm).2]):=by rw [h]; rfl
set_option maxHeartbeats 1000000 in
set_option maxRecDepth 100000 in
theorem find_row (a:Addr) (cap:Nat) (ps:List Par) (nm:List UInt8) (w:World) (hnm:nm.length≤140737488355328) (hsm:SmallP 140737488355328 ps) (hc:∀ k (hk:k < ps.length),a.block < w.heap.size∧ParAt w a k ps[k]) :
  Calls Tryz.prog 117 #[.slice (some a) ps.length cap,.string ⟨nm.toArray⟩] w fun e w'=>e=.returned (.tuple #[parV (findR ps nm).1,.bool (findR ps nm).2])∧Below w.heap.size w w':=by
 have HC:Hid _:=hc; clear hc
 have HS:Hid _:=hsm.2;have hz:=hsm.1;clear hsm;obtain ⟨n,hn⟩:∃ n,n=ps.length:=⟨_,rfl⟩
 rw [← hn] at hz ⊢;have HN:Hid _:=hn; clear hn
 have hr0:=row3_new w 158;have hb0:Below w.heap.size w (w.alloc (.cells #[.string ⟨#[]⟩,.string ⟨#[]⟩,.bool false] 158)):=(Below.refl _ w).alloc (Nat.le_refl _) _;have hlt0:=alloc_lt w (.cells #[.string ⟨#[]⟩,.string ⟨#[]⟩,.bool false] 158)
 go_enter Tryz.func117,Tryz.ntmps117
 go_wp2_with fail
 refine (lower_list nm _ (by omega)).mono ?_
 rintro e w1 ⟨rfl,hw1⟩;have hr1:Hid _:=hr0.below hw1 hlt0;have hb1:=hb0.trans (hw1.mono hb0.size);have hlt1:=Nat.lt_of_lt_of_le hlt0 hw1.size;clear hr0 hb0 hlt0 hw1;go_wp2
 go_loopw [13] (fun i wr=>∃ k:Nat,k≤n∧i=.int .i64 k∧Below w.heap.size w wr∧w.heap.size < wr.heap.size∧Hid (RowIs wr w.heap.size 158 [.string ⟨#[]⟩,.string ⟨#[]⟩,.bool false])∧Hid (findV (ps.take k) nm=none)) (fun i _=>n - (intOf i).toNat)
 case atStart=>exact ⟨0,by omega,rfl,hb1,hlt1,hr1,rfl⟩
 case round =>
  obtain ⟨k,hk,rfl,hb,hl,hr,hfn⟩:=hrel;clear hb1 hlt1 hr1;by_cases hlt:k < n
  ·have hkl:k < ps.length:=by have:=HN.out; omega
   obtain ⟨hab,hpa⟩:=HC.out k hkl;obtain ⟨c0,c1,c2⟩:=hpa.below hb hab;have hss:=HS.out ps[k] (List.getElem_mem hkl);have hs1:sameB ps[k].name nm=true → Hid (findR ps nm=(ps[k],true)):=fun h=>show _=_ by rw [findR,find_hit hkl hfn.out h]
   have hs2:sameB ps[k].name nm=false → Hid (findV (ps.take (k+1)) nm=none):=fun h=>find_snoc hkl hfn.out h;generalize ps[k]=p at c0 c1 c2 hss hs1 hs2;obtain ⟨pn,pv,ph⟩:=p;simp only at c0 c1 c2 hss hs1 hs2;clear hpa hfn;have hB:=hb.size;go_wp2_with fail
   refine (lower_list pn _ (by omega)).mono ?_
   rintro e w2 ⟨rfl,hw2⟩;have hbx:BoxP w2 _ ⟨pn,pv,ph⟩:=(boxP_new _ ⟨pn,pv,ph⟩ _).below hw2 (alloc_lt _ _);have hb2:=box_below hb hB hw2;have hl2:=box_lt hl hw2;have hr2:=row_box hr.out hl hw2;clear hw2 hr hb hl c0 c1 c2 hB hab;obtain ⟨x0,x1,x2⟩:=hbx;simp only at x0 x1 x2
   cases hsb:sameB pn nm with
   | true =>
    have hcmp:(lowL pn==lowL nm)=true:=hsb;have hv:=hs1 hsb;clear hs1 hs2 hsb;obtain ⟨y0,y1,y2,f0,f1,f2⟩:=hr2.three;go_wp2;have hr5:=row_store3 hr2 (.string ⟨pn.toArray⟩) (.string ⟨pv.toArray⟩) (.bool ph);have hb5:=store_below3 hb2 w.heap.size (Nat.le_refl _) (.string ⟨pn.toArray⟩) (.string ⟨pv.toArray⟩) (.bool ph);generalize World.setCell _ _ _=w5 at hr5 hb5 ⊢;obtain ⟨d0,d1,d2,_,_,_⟩:=hr5.three
    try simp only [Exit.inBlock,Exit.then]
    refine bodyPost_ret (v:=.tuple #[.agg #[.string ⟨pn.toArray⟩,.string ⟨pv.toArray⟩,.bool ph],.bool true]) (by simp [results,Tryz.results117,go_sem,d0,d1,d2]; try rfl) rfl ?_
    exact ⟨ret_find hv.out,hb5⟩
   | false =>
    have hcmp:(lowL pn==lowL nm)=false:=hsb;have hf2:=hs2 hsb;have HR2:Hid _:=hr2;clear hs1 hs2 hsb hr2;go_wp2;go_roundw
    case rel=>exact ⟨k+1,by omega,by go_num,hb2,hl2,HR2,hf2⟩
    case measure=>simp [intOf]; omega
  ·have hv:Hid (findR ps nm=(noP,false)):=show _=_ by
    have:=hfn.out
    rw [List.take_of_length_le (by have:=HN.out; omega)] at this;rw [findR,this]
   have hr2:=hr.out;clear hfn hr;obtain ⟨y0,y1,y2,f0,f1,f2⟩:=hr2.three;go_wp2;have hr5:=row_store3 hr2 (.string ⟨#[]⟩) (.string ⟨#[]⟩) (.bool false);have hb5:=store_below3 hb w.heap.size (Nat.le_refl _) (.string ⟨#[]⟩) (.string ⟨#[]⟩) (.bool false);generalize World.setCell _ _ _=w5 at hr5 hb5 ⊢;obtain ⟨d0,d1,d2,_,_,_⟩:=hr5.three
   try simp only [Exit.inBlock,Exit.then]
   refine bodyPost_ret (v:=.tuple #[.agg #[.string ⟨#[]⟩,.string ⟨#[]⟩,.bool false],.bool false]) (by simp [results,Tryz.results117,go_sem,d0,d1,d2]; try rfl) rfl ?_
   exact ⟨ret_find hv.out,hb5⟩
set_option maxHeartbeats 400000 in
theorem find_nil (a:Option Addr) (cap:Nat) (nm:List UInt8) (w:World) (hnm:nm.length≤140737488355328) :
  Calls Tryz.prog 117 #[.slice a 0 cap,.string ⟨nm.toArray⟩] w fun e w'=>e=.returned (.tuple #[parV (findR [] nm).1,.bool (findR [] nm).2])∧Below w.heap.size w w':=by
 have hr0:=row3_new w 158;have hb0:Below w.heap.size w (w.alloc (.cells #[.string ⟨#[]⟩,.string ⟨#[]⟩,.bool false] 158)):=(Below.refl _ w).alloc (Nat.le_refl _) _;have hlt0:=alloc_lt w (.cells #[.string ⟨#[]⟩,.string ⟨#[]⟩,.bool false] 158)
 go_enter Tryz.func117,Tryz.ntmps117
 go_wp2_with fail
 refine (lower_list nm _ (by omega)).mono ?_
 rintro e w1 ⟨rfl,hw1⟩;have hr1:=hr0.below hw1 hlt0;have hb1:=hb0.trans (hw1.mono hb0.size);clear hr0 hb0 hlt0 hw1;obtain ⟨y0,y1,y2,f0,f1,f2⟩:=hr1.three;go_wp2
 go_loop [13] (fun i=>i=.int .i64 0) (fun i=>0)
 case atStart=>rfl
 case round =>
  subst hrel;go_wp2;have hr5:=row_store3 hr1 (.string ⟨#[]⟩) (.string ⟨#[]⟩) (.bool false);have hb5:=store_below3 hb1 w.heap.size (Nat.le_refl _) (.string ⟨#[]⟩) (.string ⟨#[]⟩) (.bool false);generalize World.setCell _ _ _=w5 at hr5 hb5 ⊢;obtain ⟨d0,d1,d2,_,_,_⟩:=hr5.three
  try simp only [Exit.inBlock,Exit.then]
  refine bodyPost_ret (v:=.tuple #[.agg #[.string ⟨#[]⟩,.string ⟨#[]⟩,.bool false],.bool false]) (by simp [results,Tryz.results117,go_sem,d0,d1,d2]; try rfl) rfl ?_
  exact ⟨rfl,hb5⟩
theorem find_any (v:Value) (ps:List Par) (nm:List UInt8) (w:World) (hnm:nm.length≤140737488355328) (hsm:SmallP 140737488355328 ps) (h:ParsAt w v ps) :
  Calls Tryz.prog 117 #[v,.string ⟨nm.toArray⟩] w fun e w'=>e=.returned (.tuple #[parV (findR ps nm).1,.bool (findR ps nm).2])∧Below w.heap.size w w':=by
 rcases h with ⟨rfl,rfl⟩ | ⟨a,cap,rfl,hc⟩
 ·exact find_nil none 0 nm w hnm
 ·exact find_row a cap ps nm w hnm hsm hc
def valV (ps:List Par) (nm:List UInt8):List UInt8 × Bool:=match findV ps nm with | some p=>(p.value,true) | none=>([],false)
theorem ret_val {ps:List Par} {nm t:List UInt8} {b:Bool} (h:valV ps nm=(t,b)):Ending.returned (.tuple #[.string ⟨t.toArray⟩,.bool b])=.returned (.tuple #[.string ⟨(valV ps nm).1.toArray⟩,.bool (valV ps nm).2]):=by rw [h]
set_option maxHeartbeats 1000000 in
theorem value_any (v:Value) (ps:List Par) (nm:List UInt8) (w:World) (hnm:nm.length≤140737488355328) (hsm:SmallP 140737488355328 ps) (h:ParsAt w v ps) :
  Calls Tryz.prog 72 #[v,.string ⟨nm.toArray⟩] w fun e w'=>e=.returned (.tuple #[.string ⟨(valV ps nm).1.toArray⟩,.bool (valV ps nm).2])∧Below w.heap.size w w':=by
 have HV:Hid (valV ps nm=((findR ps nm).1.value,(findR ps nm).2)):=show _=_ by unfold valV findR; cases findV ps nm <;> rfl
 have hsz:(findR ps nm).1.value.length≤281474976710656:=by
  unfold findR
  cases hf:findV ps nm with
  | none=>simp [noP]
  | some q=>have hm:=hsm.2 q (by unfold findV at hf; exact List.mem_of_find?_eq_some hf); simp only; omega
 have K:=hid (find_any v ps nm w hnm hsm h);generalize findR ps nm=r at HV hsz K;obtain ⟨⟨qn,qv,qh⟩,b⟩:=r;unfold parV at K;simp only at HV hsz K;obtain ⟨a,cap,rfl⟩:=h.form;clear h hsm
 go_enter Tryz.func72,Tryz.ntmps72
 go_wp2_with fail
 refine K.out.mono ?_
 rintro e w1 ⟨rfl,hw1⟩;have hx:=boxP_new w1 ⟨qn,qv,qh⟩ 158;obtain ⟨x0,x1,x2⟩:=hx;simp only at x0 x1 x2;have hb1:=hw1.alloc hw1.size (.cells #[.string ⟨qn.toArray⟩,.string ⟨qv.toArray⟩,.bool qh] 158);go_wp2_with fail
 refine (sclone_any ⟨qv.toArray⟩ _ (by simpa [ByteArray.size] using hsz)).mono ?_
 rintro e w2 ⟨rfl,hw2⟩;have hb2:=hb1.trans (hw2.mono hb1.size);go_wp2;go_ret2;exact ⟨ret_val HV.out,hb2⟩
theorem ret_wr {p:List UInt8 × Bool} {x:List UInt8} {b:Bool} (h:p=(x,b)):Ending.returned (.tuple #[.string ⟨x.toArray⟩,.bool b])=.returned (.tuple #[.string ⟨p.1.toArray⟩,.bool p.2]):=by rw [h]
def parsCells (ps:List Par):List Value:=ps.flatMap parCells
theorem parsCells_get (ps:List Par) (k:Nat) (hk:k < ps.length):(parsCells ps)[k * 3]? = some (.string ⟨ps[k].name.toArray⟩)∧(parsCells ps)[k * 3+1]? = some (.string ⟨ps[k].value.toArray⟩)∧(parsCells ps)[k * 3+2]? = some (.bool ps[k].has):=by
 induction ps generalizing k with
 | nil=>simp at hk
 | cons p ps ih =>
  have e:parsCells (p :: ps)=parCells p++parsCells ps:=rfl
  cases k with
  | zero=>rw [e]; simp [parCells]
  | succ k =>
   have:=ih k (by simpa using hk)
   rw [e,show (k+1) * 3=k * 3+3 by omega]
   simpa [parCells] using this
def OwnP (w:World) (B:Nat) (v:Value) (ps:List Par):Prop:=w.ownsRow B 158 3 v ps.length (parsCells ps)
theorem OwnP.nil (w:World) (B:Nat):OwnP w B (.slice none 0 0) []:=World.ownsRow_nil _ _ _ _
theorem OwnP.alloc {w:World} {B:Nat} {v:Value} {ps:List Par} (h:OwnP w B v ps) (o:Obj):OwnP (w.alloc o) B v ps:=World.ownsRow.alloc h o
theorem OwnP.below {w w':World} {B:Nat} {v:Value} {ps:List Par} (h:OwnP w B v ps) (hb:Below w.heap.size w w'):OwnP w' B v ps:=by
 obtain ⟨h1,h2⟩:=h;refine ⟨h1,?_⟩
 rcases h2 with h2 | ⟨g,cap,cur,hv,hg,hh,r⟩
 ·exact Or.inl h2
 ·exact Or.inr ⟨g,cap,cur,hv,hg,by rw [hb.block g (Array.getElem?_eq_some_iff.1 hh).1]; exact hh,r⟩
theorem OwnP.parsAt {w:World} {B:Nat} {v:Value} {ps:List Par} (h:OwnP w B v ps):ParsAt w v ps:=by
 have h0:=h
 rcases h.2 with ⟨rfl,hn⟩ | ⟨g,cap,cur,rfl,hb,hg,r⟩
 ·exact Or.inl ⟨rfl,List.eq_nil_of_length_eq_zero hn⟩
 ·refine Or.inr ⟨⟨g,0,none⟩,cap,rfl,fun k hk=>⟨(Array.getElem?_eq_some_iff.1 hg).1,?_⟩⟩
  obtain ⟨c0,c1,c2⟩:=parsCells_get ps k hk;have a0:=World.ownsRow.cells h0 (g:=g) rfl (k * 3) _ c0;have a1:=World.ownsRow.cells h0 (g:=g) rfl (k * 3+1) _ c1;have a2:=World.ownsRow.cells h0 (g:=g) rfl (k * 3+2) _ c2;have e:∀ j,(⟨g,0,none⟩:Addr).add j=⟨g,j,none⟩:=fun j=>by unfold Addr.add; split <;> simp_all
  rw [e] at a0 a1 a2;unfold ParAt;rw [e];exact ⟨a0,a1,a2⟩
theorem infoPar:(Tryz.prog.info? 158).map (fun i=>(i.zero,i.size,i.bytes))=some (some (.agg #[.string .empty,.string .empty,.bool false]),3,40):=by kernel_rfl
theorem wp_appP {P:Program} (w:World) {ops:Array Oper} {rest:List Oper} {o:Oper} {a:Act} {Q:Exit → Act → World → Prop} (hgd:o.guard=none)
  (s x:Operand) (t:TypeId) (ho:o.op=Op.call { callee:=Callee.builtin Builtin.append,args:=#[s,x],argTypes:=#[t,t] }) (B:Nat) (i:TypeInfo)
  (z:Value) (ht:P.underlying t=some (TypeDesc.slice 158)) (hi:P.info? 158=some i) (hz:i.zero=some z) (hsize:i.size=3) (hby:i.bytes=40) (hzs:z.cells.size=3)
  (v:Value) (ps:List Par) (hs:a.eval s=v) (hown:OwnP w B v ps) (ad:Addr) (c:Nat) (p:Par) (hx:a.eval x=Value.slice (some ad) 1 c)
  (hnews:∀ (j:Nat) (u:Value),(parCells p)[j]? = some u → w.cell? (ad.add j)=some u)
  (hlen:ps.length≤2000000) (w0:World) (hb:Below B w0 w) (hB:B≤w.heap.size)
  (h:∀ (v':Value) (w':World),OwnP w' B v' (ps++[p]) → Below B w0 w' → B≤w'.heap.size → wpList P ops Q rest (a.put o.dst v') w'):wpList P ops Q (o :: rest) a w:=by
 refine wpList_append_own w hgd s x t ho B 158 i z 3 40 ht hi hz hsize hby hzs (by decide) v ps.length (parsCells ps) hs hown ad 1 c (parCells p) hx rfl hnews (by intro u hu; simp [parCells] at hu; rcases hu with rfl | rfl | rfl <;> rfl) (by unfold maxLen; omega) (by omega) hB ?_
 intro v' w' hown' hgr _;refine h v' w' ?_ (hb.grown hgr hB (fun k hk=>(World.ownsRow.lt hown k hk).1)) (Nat.le_trans hB hgr.size)
 unfold OwnP;have e:parsCells (ps++[p])=parsCells ps++parCells p:=by simp [parsCells]
 rw [e,List.length_append];exact hown'
def StrsAt (w:World) (v:Value) (ls:List (List UInt8)):Prop :=
 ∃ (ao:Option Addr) (cap:Nat),v=.slice ao ls.length cap∧∀ k (hk:k < ls.length),∃ a,ao=some a∧a.block < w.heap.size∧w.cell? (a.add k)=some (.string ⟨ls[k].toArray⟩)
theorem parsOf_snoc (keep:List UInt8) (ls:List (List UInt8)) (l:List UInt8):parsOf keep (ls++[l])=match parsOf keep ls,parOf keep l with | some ps,some p=>some (ps++[p]) | _,_=>none:=by
 induction ls with
 | nil =>
  rw [List.nil_append,parsOf,parsOf]
  cases parOf keep l <;> rfl
 | cons x ls ih =>
  rw [List.cons_append,parsOf,parsOf,ih]
  cases parOf keep x <;> cases parsOf keep ls <;> cases parOf keep l <;> rfl
theorem parsOf_bad {keep:List UInt8} {ls:List (List UInt8)} {k:Nat} (hk:k < ls.length) (h:parOf keep ls[k]=none):parsOf keep ls=none:=by
 induction ls generalizing k with
 | nil=>simp at hk
 | cons x ls ih =>
  rw [parsOf]
  cases k with
  | zero=>simp at h; rw [h]
  | succ k =>
   rw [ih (by simpa using hk) (by simpa using h)]
   cases parOf keep x <;> rfl
theorem parsOf_len {keep:List UInt8} {ls:List (List UInt8)} {ps:List Par} (h:parsOf keep ls=some ps):ps.length=ls.length:=by
 induction ls generalizing ps with
 | nil=>simp [parsOf] at h; subst h; rfl
 | cons x ls ih =>
  rw [parsOf] at h
  cases hx:parOf keep x with
  | none=>rw [hx] at h; simp at h
  | some p =>
   cases hl:parsOf keep ls with
   | none=>rw [hx,hl] at h; simp at h
   | some qs=>rw [hx,hl] at h; simp at h; subst h; simp [ih hl]
theorem parOf_some {keep l:List UInt8} (h1:(writtenV keep (cutL 61 l).1).2=true) (h2:(writtenV keep (cutL 61 l).2.1).2=true):parOf keep l=some ⟨(writtenV keep (cutL 61 l).1).1,(writtenV keep (cutL 61 l).2.1).1,(cutL 61 l).2.2⟩:=by
 rw [parOf,if_pos ⟨h1,h2⟩]
theorem parOf_none {keep l:List UInt8} (h:¬ ((writtenV keep (cutL 61 l).1).2=true∧(writtenV keep (cutL 61 l).2.1).2=true)):parOf keep l=none:=by
 rw [parOf,if_neg h]
def ParsRes (keep:List UInt8) (ls:List (List UInt8)) (w w':World) (v:Value) (b:Bool):Prop :=
 (∃ ps,parsOf keep ls=some ps∧b=true∧OwnP w' w.heap.size v ps)∨(parsOf keep ls=none∧b=false∧v=.slice none 0 0)
end Go.Proofs.YtiogedceommcoaaGreatDoor
namespace Go.Proofs.YtiogedceommcoaaGreatDoor
open Go.RowKit Go.ChangeShapes Go.WideShapes Go.Deep
structure AdrC where
 a:Adr
 p:Value
 h:Value
 q:Value
def adrCells (c:AdrC):List Value:=[.string ⟨c.a.display.toArray⟩,.string ⟨c.a.uri.scheme.toArray⟩,.string ⟨c.a.uri.user.toArray⟩,.string ⟨c.a.uri.host.toArray⟩,.int .i64 c.a.uri.port,c.p,c.h,c.q]
def adrV (a:Adr) (p h q:Value):Value:=.agg #[.string ⟨a.display.toArray⟩,.string ⟨a.uri.scheme.toArray⟩,.string ⟨a.uri.user.toArray⟩,.string ⟨a.uri.host.toArray⟩,.int .i64 a.uri.port,p,h,q]
def CapOk:Value → Prop
 | .slice _ n c=>n≤c
 | _=>True
def AdrC.At (w:World) (c:AdrC):Prop:=ParsAt w c.p c.a.uri.params∧ParsAt w c.h c.a.uri.headers∧ParsAt w c.q c.a.params∧CapOk c.q
def AdrsAt (w:World) (v:Value) (cs:List AdrC):Prop :=
 (∃ (ao:Option Addr) (cap:Nat),v=.slice ao cs.length cap∧∀ k (hk:k < cs.length),∃ ad,ao=some ad∧ad.block < w.heap.size∧∀ j (u:Value),(adrCells cs[k])[j]? = some u → w.cell? (if j=0 then ad.add (k * 8) else ⟨(ad.add (k * 8)).block,(ad.add (k * 8)).off+j,none⟩)=some u)∧∀ c ∈ cs,c.At w
theorem OwnP.cap {w:World} {B:Nat} {v:Value} {ps:List Par} (h:OwnP w B v ps):CapOk v:=by
 rcases h.2 with ⟨rfl,hn⟩ | ⟨g,cap,cur,rfl,hb,hg,h1,_⟩
 ·exact Nat.le_refl 0
 ·exact h1
end Go.Proofs.YtiogedceommcoaaGreatDoor
namespace Go.Proofs.YtiogedceommcoaaGreatDoor
open Go.RowKit Go.ChangeShapes Go.WideShapes Go.Deep
variable {H : Type} {enc : TypeId × Value → H} {W : World} {sp : Nat → Bool}
def SmallA (B:Nat) (a:Adr):Prop:=a.display.length≤B∧SmallU B a.uri∧SmallP B a.params
end Go.Proofs.YtiogedceommcoaaGreatDoor
namespace Go.Proofs.YtiogedceommcoaaGreatDoor
open Go.RowKit Go.ChangeShapes Go.WideShapes Go.Deep
structure EvC where
 v:Ev
 q:Value
def evV (v:Ev) (q:Value):Value:=.agg #[.string ⟨v.name.toArray⟩,q]
def EvC.At (w:World) (c:EvC):Prop:=ParsAt w c.q c.v.params∧CapOk c.q
end Go.Proofs.YtiogedceommcoaaGreatDoor
