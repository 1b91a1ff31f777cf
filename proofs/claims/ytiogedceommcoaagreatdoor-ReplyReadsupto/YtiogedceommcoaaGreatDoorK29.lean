/-
  HRef1, HRef3, TailQ, RBase2.
-/
import Derived.Test.YtiogedceommcoaaGreatDoorK27
set_option linter.unusedVariables false
set_option linter.unusedSimpArgs false
set_option maxRecDepth 20000
namespace Go.Proofs.YtiogedceommcoaaGreatDoor
open Go.RowKit Sc
set_option maxHeartbeats 1000000 in
set_option maxRecDepth 100000 in
theorem rcall_any (s:List UInt8) (w:World) (hs:s.length≤140737488355328) :
  Calls Tryz.prog 30 #[.string ⟨s.toArray⟩] w fun e w'=>e=.returned (.bool (callB s))∧Below w.heap.size w w':=by
 have HN:=hid (fun k (hk:k < s.length) (h:visB1 s[k]=false)=>callB_bad hk h);have HS:=hid (fun (h:∀ b ∈ s,visB1 b=true)=>callB_good h);have hz:=size_list s;generalize callB s=R at HN HS ⊢
 go_enter Tryz.func30,Tryz.ntmps30
 go_wp2
 go_loopw [3] (fun i wr=>∃ k:Nat,k≤s.length∧i=.int .i64 k∧Hid (∀ b ∈ s.take k,visB1 b=true)∧wr=w) (fun i _=>s.length - (intOf i).toNat)
 case atStart=>exact ⟨0,by omega,rfl,hid (by simp),rfl⟩
 case round =>
  obtain ⟨k,hk,rfl,HA,rfl⟩:=hrel;by_cases hlt:k < s.length
  ·have hk2:k < (⟨s.toArray⟩:ByteArray).size:=by rw [size_list]; exact hlt
   have hki:(k:Int) < (s.length:Int):=by omega
   have hge:(⟨s.toArray⟩:ByteArray)[k]'hk2=s[k]:=rfl;have hn:=HN.out k hlt;have htk:s.take (k+1)=s.take k++[s[k]]:=List.take_succ_eq_append_getElem hlt;have HTK:=hid htk;clear htk;generalize s[k]=x at hge hn HTK;have hxb:visB1 x=(decide (33≤x.toNat) && decide (x.toNat≤126)):=rfl;by_cases g1:(x.toNat:Int) < 33
   ·have HR:Hid (R=false):=hn (by rw [hxb]; simp; omega);have dg:decide ((x.toNat:Int) < 33)=true:=decide_eq_true g1;clear hn HTK hxb;go_wp2;go_ret;exact ⟨ret_bool HR.out.symm,Below.refl _ _⟩
   ·have dg:decide ((x.toNat:Int) < 33)=false:=decide_eq_false g1;by_cases g2:(126:Int) < (x.toNat:Int)
    ·have HR:Hid (R=false):=hn (by rw [hxb]; simp; omega);have dg2:decide ((126:Int) < (x.toNat:Int))=true:=decide_eq_true g2;clear hn HTK hxb;go_wp2;go_ret;exact ⟨ret_bool HR.out.symm,Below.refl _ _⟩
    ·have dg2:decide ((126:Int) < (x.toNat:Int))=false:=decide_eq_false g2;have hx:visB1 x=true:=by rw [hxb]; simp; omega
     have HA2:Hid (∀ b ∈ s.take (k+1),visB1 b=true):=fun b hb=>by
      rw [HTK.out] at hb
      rcases List.mem_append.1 hb with hb | hb
      ·exact HA.out b hb
      ·simp at hb; subst hb; exact hx
     clear hn HTK hxb hx;go_wp2;go_roundw
     case rel=>exact ⟨k+1,by omega,by go_num,HA2,by first | rfl | trivial⟩
     case measure=>simp [intOf]; omega
  ·have hall:∀ b ∈ s,visB1 b=true:=by
    have:=HA.out
    rw [List.take_of_length_le (by omega)] at this;exact this
   have HR:=hid (HS.out hall);clear hall;by_cases g1:1≤s.length
   ·have g1':(1:Int)≤(s.length:Int):=by omega
    by_cases g2:s.length≤128
    ·have g2':(s.length:Int)≤128:=by omega
     go_wp2;go_ret;exact ⟨ret_bool (by rw [HR.out]; simp [g1,g2]),Below.refl _ _⟩
    ·have g2':decide ((s.length:Int)≤128)=false:=decide_eq_false (by omega);go_wp2;go_ret;exact ⟨ret_bool (by rw [HR.out]; simp [g2]),Below.refl _ _⟩
   ·have g1':decide ((1:Int)≤(s.length:Int))=false:=decide_eq_false (by omega);go_wp2;go_ret;exact ⟨ret_bool (by rw [HR.out]; simp [g1]),Below.refl _ _⟩
end Go.Proofs.YtiogedceommcoaaGreatDoor
namespace Go.Proofs.YtiogedceommcoaaGreatDoor
open Go.RowKit Go.Sort Sc
set_option maxHeartbeats 2000000 in
set_option maxRecDepth 100000 in
theorem rseq_any (s:List UInt8) (w:World) (hs:s.length≤140737488355328) :
  Calls Tryz.prog 31 #[.string ⟨s.toArray⟩] w fun e w'=>e=.returned (.tuple #[.int .i64 (seqV s).1,.string ⟨(seqV s).2.1.toArray⟩,.int .i64 (seqV s).2.2])∧Below w.heap.size w w':=by
 have hts:=trimL_len s;have KT:=hid (fun w'=>reftrim_list s w' (by omega));have HV:=hid (seqV_is s);generalize seqV s=R at HV ⊢;generalize trimL s=t at KT HV hts;have HLE:=hid (hword_le t);have HPOS:=hid (fun k (hk:k < t.length) (hp:k≤wordN t) (hb:blk t[k]=true)=>hword_pos hk hp hb);have HMORE:=hid (fun k (hk:k < t.length) (hp:k≤wordN t) (hb:blk t[k]=false)=>hword_more hk hp hb);have hle2:=hword_le t;have KN:=hid (fun w'=>refnumber_list (t.take (wordN t)) w' (by simp; omega));have hdl:(t.drop (wordN t)).length≤140737488355328:=by simp; omega
 have htd:=trimL_len (t.drop (wordN t));have KD:=hid (fun w'=>reftrim_list (t.drop (wordN t)) w' (by omega));have KK:=hid (fun w'=>reftoken_list (trimL (t.drop (wordN t))) w' (by omega));have HTK:=hid (htake_ext t (wordN t));have HDR:=hid (hdrop_ext t (wordN t));have HFU:Hid (wordN t=t.length → t.take (wordN t)=t∧t.drop (wordN t)=[]):=fun h=>by rw [h]; simp
 clear hle2 hdl htd;generalize wordN t=n at HV HLE HPOS HMORE KN KD KK HTK HDR HFU;generalize t.take n=tk at HV KN HTK HFU;generalize t.drop n=td at HV KD KK HDR HFU;generalize trimL td=m at HV KD KK;generalize numV maxS tk=nv at HV KN;obtain ⟨vn,ve⟩:=nv;simp only at HV KN
 go_enter Tryz.func31,Tryz.ntmps31
 go_wp2_with fail
 refine (KT.out _).mono ?_
 rintro e w1 ⟨rfl,hw1⟩;rw [hw1];clear KT hw1;go_wp2
 go_loopw [5] (fun i wr=>∃ k:Nat,k≤n∧i=.int .i64 k∧wr=w) (fun i _=>n - (intOf i).toNat)
 case atStart=>exact ⟨0,by omega,rfl,rfl⟩
 case round =>
  obtain ⟨k,hkn,rfl,rfl⟩:=hrel;have hle:=HLE.out;have fin:n=k → True:=fun _=>trivial;by_cases hlt:k < t.length
  ·have hk2:k < (⟨t.toArray⟩:ByteArray).size:=by rw [size_list]; exact hlt
   have hki:(k:Int) < (t.length:Int):=by omega
   have hge:(⟨t.toArray⟩:ByteArray)[k]'hk2=t[k]:=rfl;have hpos:=HPOS.out k hlt hkn;have hmore:=HMORE.out k hlt hkn;generalize t[k]=x at hge hpos hmore;have hbt:=UInt8.toNat_lt x;have KC:=hid (fun w'=>refclass_any (x.toNat:Int) w' (by omega) (by omega));have hbn:=@hblk_no x
   cases hbx:blk x with
   | false =>
    have hc:(cls (x.toNat:Int) != 32)=true:=hbn.1 hbx;have hm:=hmore hbx;clear hpos hmore hbn hbx;go_wp2_with fail
    refine (KC.out _).mono ?_
    rintro e w2 ⟨rfl,hw2⟩;rw [hw2];go_wp2;go_roundw
    case rel=>exact ⟨k+1,by omega,by go_num,by first | rfl | trivial⟩
    case measure=>simp [intOf]; omega
   | true =>
    have hc:(cls (x.toNat:Int) != 32)=false:=by
     cases h:(cls (x.toNat:Int) != 32) with
     | false=>rfl
     | true=>rw [hbn.2 h] at hbx; cases hbx
    have hn:=hpos hbx;clear hpos hmore hbn hbx;subst hn;have htk:=HTK.out;have hdr:=HDR.out;have hdr2:(⟨t.toArray⟩:ByteArray).extract n t.length=⟨td.toArray⟩:=by rw [← hdr,size_list]
    clear HTK HDR HPOS HMORE HLE;by_cases hz:ve=0
    ·subst hz
     cases htok:tokenB m with
     | false =>
      have HR:Hid (R=(0,[],80)):=show _=_ by rw [HV.out,if_pos (Or.inr htok)]
      rw [htok] at KK;clear HV;go_wp2_with (first | (go_at_call 77; refine (KC.out _).mono ?_; rintro e w2 ⟨rfl,hw2⟩; rw [hw2]) | (go_at_call 60; refine (KN.out _).mono ?_; rintro e w2 ⟨rfl,hw2⟩; rw [hw2]) | (go_at_call 57; refine (KD.out _).mono ?_; rintro e w2 ⟨rfl,hw2⟩; rw [hw2]) | (go_at_call 47; refine (KK.out _).mono ?_; rintro e w2 ⟨rfl,hw2⟩; rw [hw2]))
      go_ret3
      exact ⟨ret_seq (m:=[]) HR.out,Below.refl _ _⟩
     | true =>
      have HR:Hid (R=(vn,m,0)):=show _=_ by rw [HV.out,if_neg (by simp [htok])]
      rw [htok] at KK;clear HV;go_wp2_with (first | (go_at_call 77; refine (KC.out _).mono ?_; rintro e w2 ⟨rfl,hw2⟩; rw [hw2]) | (go_at_call 60; refine (KN.out _).mono ?_; rintro e w2 ⟨rfl,hw2⟩; rw [hw2]) | (go_at_call 57; refine (KD.out _).mono ?_; rintro e w2 ⟨rfl,hw2⟩; rw [hw2]) | (go_at_call 47; refine (KK.out _).mono ?_; rintro e w2 ⟨rfl,hw2⟩; rw [hw2]))
      go_ret3
      exact ⟨ret_seq HR.out,Below.refl _ _⟩
    ·have HR:Hid (R=(0,[],80)):=show _=_ by rw [HV.out,if_pos (Or.inl hz)]
     have hne:(ve != 0)=true:=by simpa using hz
     clear HV;go_wp2_with (first | (go_at_call 77; refine (KC.out _).mono ?_; rintro e w2 ⟨rfl,hw2⟩; rw [hw2]) | (go_at_call 60; refine (KN.out _).mono ?_; rintro e w2 ⟨rfl,hw2⟩; rw [hw2]) | (go_at_call 57; refine (KD.out _).mono ?_; rintro e w2 ⟨rfl,hw2⟩; rw [hw2]))
     go_ret3
     exact ⟨ret_seq (m:=[]) HR.out,Below.refl _ _⟩
  ·have hn:k=t.length:=by omega
   have hn2:n=t.length:=by omega
   obtain ⟨h1,h2⟩:=HFU.out hn2;subst h1 h2;subst hn;have hex:(⟨tk.toArray⟩:ByteArray).extract 0 tk.length=⟨tk.toArray⟩:=by rw [htake_ext,List.take_length]
   clear HTK HDR HPOS HMORE HLE hn2 HFU;by_cases hz:ve=0
   ·subst hz
    cases htok:tokenB m with
    | false =>
     have HR:Hid (R=(0,[],80)):=show _=_ by rw [HV.out,if_pos (Or.inr htok)]
     rw [htok] at KK;clear HV;go_wp2_with (first | (go_at_call 60; refine (KN.out _).mono ?_; rintro e w2 ⟨rfl,hw2⟩; rw [hw2]) | (go_at_call 57; refine (KD.out _).mono ?_; rintro e w2 ⟨rfl,hw2⟩; rw [hw2]) | (go_at_call 47; refine (KK.out _).mono ?_; rintro e w2 ⟨rfl,hw2⟩; rw [hw2]))
     go_ret3
     exact ⟨ret_seq (m:=[]) HR.out,Below.refl _ _⟩
    | true =>
     have HR:Hid (R=(vn,m,0)):=show _=_ by rw [HV.out,if_neg (by simp [htok])]
     rw [htok] at KK;clear HV;go_wp2_with (first | (go_at_call 60; refine (KN.out _).mono ?_; rintro e w2 ⟨rfl,hw2⟩; rw [hw2]) | (go_at_call 57; refine (KD.out _).mono ?_; rintro e w2 ⟨rfl,hw2⟩; rw [hw2]) | (go_at_call 47; refine (KK.out _).mono ?_; rintro e w2 ⟨rfl,hw2⟩; rw [hw2]))
     go_ret3
     exact ⟨ret_seq HR.out,Below.refl _ _⟩
   ·have HR:Hid (R=(0,[],80)):=show _=_ by rw [HV.out,if_pos (Or.inl hz)]
    have hne:(ve != 0)=true:=by simpa using hz
    clear HV;go_wp2_with (first | (go_at_call 60; refine (KN.out _).mono ?_; rintro e w2 ⟨rfl,hw2⟩; rw [hw2]) | (go_at_call 57; refine (KD.out _).mono ?_; rintro e w2 ⟨rfl,hw2⟩; rw [hw2]))
    go_ret3
    exact ⟨ret_seq (m:=[]) HR.out,Below.refl _ _⟩
end Go.Proofs.YtiogedceommcoaaGreatDoor
namespace Go.Proofs.YtiogedceommcoaaGreatDoor
section
variable {P : Program} {md : Region.Mode} {C : World → Prop} {Q' : Exit → Act → World → Prop} {Q1 : Act → Prop}
def tailB (md:Region.Mode) (l:List Oper) (n:Nat):Bool :=
 decide (n≤l.length) &&
 (List.range n).all (fun j=>match l[j]? with
  | some o=>o.after.all (fun e=>!Region.binds md e || decide (e.on < j)) && (match o.guard with | some (g,_)=>decide (g < n) | none=>true)
  | none=>false) &&
 (List.range l.length).all (fun j=>decide (j < n) || match l[j]? with
  | some o=>(List.range n).all fun i=>o.after.any fun e=>Region.binds md e && e.on==i
  | none=>false)
theorem tail_spec {l:List Oper} {n:Nat} (h:tailB md l n=true):n≤l.length ∧
  (∀ j o,j < n → l[j]? = some o → (∀ e ∈ o.after,Region.binds md e=true → e.on < j)∧∀ g b,o.guard=some (g,b) → g < n) ∧
  (∀ j o,n≤j → l[j]? = some o → ∀ i,i < n → ∃ e ∈ o.after,Region.binds md e=true∧e.on=i):=by
 simp only [tailB,Bool.and_eq_true,decide_eq_true_eq] at h;obtain ⟨⟨h1,h2⟩,h3⟩:=h;refine ⟨h1,fun j o hj ho=>?_,fun j o hj ho i hi=>?_⟩
 ·have:=List.all_eq_true.1 h2 j (List.mem_range.2 hj)
  simp only [ho,Bool.and_eq_true] at this;refine ⟨fun e he hb=>?_,fun g b hg=>?_⟩
  ·have h4:=Array.all_eq_true_iff_forall_mem.1 this.1 e he;simp only [hb,Bool.not_true,Bool.false_or,decide_eq_true_eq] at h4;exact h4
  ·have h5:=this.2;simp only [hg,decide_eq_true_eq] at h5;exact h5
 ·have hlt:j < l.length:=(List.getElem?_eq_some_iff.1 ho).1
  have:=List.all_eq_true.1 h3 j (List.mem_range.2 hlt)
  simp only [ho,show ¬ j < n by omega,decide_false,Bool.false_or] at this;have h4:=List.all_eq_true.1 this i (List.mem_range.2 hi);obtain ⟨e,he,hb⟩:=Array.any_eq_true'.1 h4;simp only [Bool.and_eq_true,beq_iff_eq] at hb;exact ⟨e,he,hb.1,hb.2⟩
theorem tail_all {l:List Oper} {n:Nat} (hT:tailB md l n=true) {l1:Array Bool} (hs:l1.size=n) (h:Region.ready md (l.take n).toArray l1=[]):∀ i,i < n → l1[i]? = some true:=by
 obtain ⟨hn,hlo,_⟩:=tail_spec hT;intro i
 induction i using Nat.strongRecOn with
 | _ i ih =>
  intro hi
  cases e:l1[i]? with
  | none=>rw [Array.getElem?_eq_none_iff] at e; omega
  | some b =>
   cases b with
   | true=>rfl
   | false =>
    exfalso
    have ho:l[i]? = some (l[i]'(by omega)):=List.getElem?_eq_getElem (by omega)
    have:i ∈ Region.ready md (l.take n).toArray l1:=by
     rw [mem_ready];refine ⟨by rw [Array.getD_eq_getD_getElem?,e]; rfl,l[i]'(by omega),by rw [take_at hi,List.getElem?_toArray]; exact ho,fun x hx hb=>?_⟩
     have hlt:=(hlo i _ hi ho).1 x hx hb;rw [Array.getD_eq_getD_getElem?,ih x.on hlt (by omega)]; rfl
    rw [h] at this
    cases this
theorem wpAny_tail {l:List Oper} {n:Nat} (hT:tailB md l n=true) (H:∀ a w,C w → Q1 a → wpAny P md l.toArray Q' (l.length - n) (endL n l.length) a w) :
  ∀ (f:Nat) (l1 listed:Array Bool) (a:Act) (w:World),wpAnyQ P md (l.take n).toArray C Q1 f l1 a → LRel n l.length listed l1 → C w → wpAny P md l.toArray Q' (f+(l.length - n)) listed a w:=by
 obtain ⟨hn,hlo,hhi⟩:=tail_spec hT;intro f
 induction f with
 | zero =>
  intro l1 listed a w h hr hw;rw [hr.end hn (tail_all hT hr.s1 h.1),Nat.zero_add];exact H a w hw h.2
 | succ f ih =>
  intro l1 listed a w h hr hw
  cases hz:Region.ready md (l.take n).toArray l1 with
  | nil =>
   rw [hr.end hn (tail_all hT hr.s1 hz)];exact wpAny_plus (H a w hw (h.1 hz)) _
  | cons k ks =>
   have hk:k ∈ Region.ready md (l.take n).toArray l1:=by rw [hz]; simp
   obtain ⟨hk0,ok,hok,hkall⟩:=mem_ready.1 hk;have hkn:=take_lt hok;have up:∀ i,i < n → i ∈ Region.ready md l.toArray listed → i ∈ Region.ready md (l.take n).toArray l1:=fun i hi hm=>by
    obtain ⟨h0,o,ho,hall⟩:=mem_ready.1 hm;refine mem_ready.2 ⟨by rw [← hr.getD hi]; exact h0,o,by rw [take_at hi]; exact ho,fun e he hb=>?_⟩
    have hlt:=(hlo i o hi (by rw [← List.getElem?_toArray]; exact ho)).1 e he hb;rw [← hr.getD (by omega)]; exact hall e he hb
   rw [Nat.succ_add];refine ⟨fun h0=>?_,fun i hi=>?_⟩
   ·exfalso
    have:k ∈ Region.ready md l.toArray listed:=by
     refine mem_ready.2 ⟨by rw [hr.getD hkn]; exact hk0,ok,by rw [← take_at hkn]; exact hok,fun e he hb=>?_⟩
     have hlt:=(hlo k ok hkn (by rw [take_at hkn,List.getElem?_toArray] at hok; exact hok)).1 e he hb;rw [hr.getD (by omega)]; exact hkall e he hb
    rw [h0] at this
    cases this
   ·by_cases hin:i < n
    ·have h1:=h.2 i (up i hin hi);refine wpOp_of_qOp hw (fun a' w' hw' hk'=>ih _ _ a' w' hk' (hr.set hn hin) hw') (qOp_take hin (fun o ho=>(hlo i o hin ho).2) h1)
    ·exfalso
     obtain ⟨h0,o,ho,hall⟩:=mem_ready.1 hi;obtain ⟨e,he,hb,hon⟩:=hhi i o (by omega) (by rw [← List.getElem?_toArray]; exact ho) k hkn
     have:=hall e he hb
     rw [hon,hr.getD hkn] at this;rw [Array.getD_eq_getD_getElem?] at hk0 this
     cases hx:l1[k]? with
     | none=>rw [hx] at hk0; cases hk0
     | some b=>rw [hx] at hk0 this; simp at hk0 this; rw [hk0] at this; cases this
theorem wp_region_tail {id:Nat} {a:Act} {w:World} {l:List Oper} (n:Nat) (hm:P.follows .mixedOrders=true) (hB:Region.lexB .any (l.take n).toArray=true) (hT:tailB .any l n=true) (hC:C { w with drawn:=w.drawn+1 })
  (h:wpQuiet P (l.take n).toArray C (fun a'=>∀ w',C w' → wpAny P .any l.toArray Q' (l.length - n) (endL n l.length) a' w') (l.take n) a):(Code.region id l.toArray true).wp P Q' a w:=by
 obtain ⟨hn,_,_⟩:=tail_spec hT;simp only [Region.lexB,Bool.and_eq_true] at hB;refine wp_region_any hm ?_
 have hq:=wpAnyQ_lex (C:=C) (md:=.any) (P:=P) hB.1 (l.take n) 0 (Array.replicate (l.take n).toArray.size false) a (by simp) (by simpa using hB.2) h;have hrel:LRel n l.length (Array.replicate l.length false) (Array.replicate (l.take n).toArray.size false):=by
  refine ⟨by simp,by simp; omega,fun i hi=>?_,fun i h1 h2=>?_⟩
  ·rw [Array.getElem?_replicate,Array.getElem?_replicate,if_pos (by omega),if_pos (by simp; omega)]
  ·rw [Array.getElem?_replicate,if_pos h2]
 have:=wpAny_tail (Q':=Q') hT (fun a w hw h1=>h1 w hw) _ _ _ a _ hq hrel hC
 rw [List.length_take,Nat.min_eq_left hn,Nat.add_sub_cancel' hn] at this
 simpa using this
theorem wp_region_tail_below {id:Nat} {a:Act} {w:World} {l:List Oper} (n:Nat) (hm:P.follows .mixedOrders=true) (hB:Region.lexB .any (l.take n).toArray=true) (hT:tailB .any l n=true)
  (h:wpQuiet P (l.take n).toArray (fun w'=>∃ p:Regrown,w'=Sort.grow (redrawn w p.d) p.os) (fun a'=>∀ w',(∃ p:Regrown,w'=Sort.grow (redrawn w p.d) p.os) → wpAny P .any l.toArray Q' (l.length - n) (endL n l.length) a' w') (l.take n) a):(Code.region id l.toArray true).wp P Q' a w :=
 wp_region_tail (C:=fun w'=>∃ p:Regrown,w'=Sort.grow (redrawn w p.d) p.os) n hm hB hT ⟨⟨w.drawn+1,#[]⟩,by rw [Sort.grow_empty]; rfl⟩ h
theorem wp_region_tail_of {id:Nat} {a:Act} {w:World} {l:List Oper} (n:Nat) (hm:P.follows .mixedOrders=true) (hB:Region.lexB .any (l.take n).toArray=true) (hT:tailB .any l n=true)
  (h:∀ T:Act → Prop,(∀ a',(∀ w',(∃ p:Regrown,w'=Sort.grow (redrawn w p.d) p.os) → wpAny P .any l.toArray Q' (l.length - n) (endL n l.length) a' w') → T a') →
   wpQuiet P (l.take n).toArray (fun w'=>∃ p:Regrown,w'=Sort.grow (redrawn w p.d) p.os) T (l.take n) a):(Code.region id l.toArray true).wp P Q' a w :=
 wp_region_tail_below n hm hB hT (h _ fun _ h=>h)
theorem wp_assign_op {o:Oper} {a:Act} {w:World} {K:Act → World → Prop} {Q:Exit → Act → World → Prop} (x:Operand) (ho:o.op=.assign x) (h:K (a.put o.dst (a.eval x)) w):o.wp P a w K Q:=by
 unfold Oper.wp execOp;simp only [ho];exact h
end
end Go.Proofs.YtiogedceommcoaaGreatDoor
namespace Go.Proofs.YtiogedceommcoaaGreatDoor
open Go.RowKit Sc
theorem BaseIn.below {w wr w':World} {m:Ms} {h:Value} (H:BaseIn w m h wr) (hb:Below wr.heap.size wr w'):BaseIn w m h w' :=
 ⟨H.bx.below hb (by have:=H.lt; omega),by rw [hb.block _ (by have:=H.lt; omega)]; exact H.rs,by rw [hb.block _ H.lt]; exact H.no,H.b.trans (hb.mono H.b.size),Nat.lt_of_lt_of_le H.lt hb.size⟩
structure BaseHop (w:World) (m:Ms) (h:Value) (g:Nat) (c:HopC) (wr:World):Prop where
 i:BaseIn w m h wr
 c0:wr.cell? ⟨g,0,none⟩=some (.string ⟨c.h.host.toArray⟩)
 c1:wr.cell? ⟨g,1,none⟩=some (.int .i64 c.h.port)
 c2:wr.cell? ⟨g,2,none⟩=some c.q
 a:c.At wr
 lt:g < wr.heap.size
theorem BaseHop.below {w wr w':World} {m:Ms} {h:Value} {g:Nat} {c:HopC} (H:BaseHop w m h g c wr) (hb:Below wr.heap.size wr w'):BaseHop w m h g c w' :=
 ⟨H.i.below hb,cell_below hb H.lt H.c0,cell_below hb H.lt H.c1,cell_below hb H.lt H.c2,H.a.below hb,Nat.lt_of_lt_of_le H.lt hb.size⟩
def adrL (c:AdrC):List Value:=[.string ⟨c.a.display.toArray⟩,.string ⟨c.a.uri.scheme.toArray⟩,.string ⟨c.a.uri.user.toArray⟩,.string ⟨c.a.uri.host.toArray⟩,.int .i64 c.a.uri.port,c.p,c.h,c.q]
structure AdrIn (B b:Nat) (c:AdrC) (wr:World):Prop where
 r:RowIs wr b 31 (adrL c)
 p:OwnP wr B c.p c.a.uri.params
 h:OwnP wr B c.h c.a.uri.headers
 q:OwnP wr B c.q c.a.params
theorem AdrIn.below {B b:Nat} {c:AdrC} {wr w':World} (H:AdrIn B b c wr) (hb:Below wr.heap.size wr w'):AdrIn B b c w':=⟨H.r.below hb (Array.getElem?_eq_some_iff.1 H.r).1,OwnP.below H.p hb,OwnP.below H.h hb,OwnP.below H.q hb⟩
theorem AdrIn.at {B b:Nat} {c:AdrC} {wr:World} (H:AdrIn B b c wr):c.At wr:=⟨H.p.parsAt,H.h.parsAt,H.q.parsAt,H.q.cap⟩
def baseC (me bt sby:List UInt8) (cf ct:AdrC) (ft tt ci:List UInt8) (sn:Int) (bo:List UInt8):RqC :=
 ⟨⟨me,noU,bt,sby,cf.a,ct.a,ft,tt,ci,sn,-1,noE,[],[],[],[],[],bo⟩,nilS,nilS,cf.p,cf.h,cf.q,ct.p,ct.h,ct.q,nilS,nilS,nilS,nilS⟩
theorem base_sl {me bt sby ft tt ci bo:List UInt8} {cf ct:AdrC} {sn:Int} {w:World} (hf:cf.At w) (ht:ct.At w):(baseC me bt sby cf ct ft tt ci sn bo).Sl :=
 ⟨nil_sl,nil_sl,pars_sl hf.1,pars_sl hf.2.1,pars_sl hf.2.2.1,pars_sl ht.1,pars_sl ht.2.1,pars_sl ht.2.2.1,nil_sl,nil_sl,nil_sl,nil_sl⟩
theorem AdrIn.setRow {B b:Nat} {c:AdrC} {wr:World} (H:AdrIn B b c wr) {g:Nat} (hg:g < B) (hb:b ≠ g) (cs:Array Value):AdrIn B b c (wr.setRow g cs) :=
 ⟨by unfold RowIs; rw [setRow_other _ _ _ _ hb]; exact H.r,OwnP.setRow H.p hg cs,OwnP.setRow H.h hg cs,OwnP.setRow H.q hg cs⟩
theorem base_end {R:Rq × Int} {w wx:World} {m:Ms} {h:Value} {b1 b2:Nat} {cf ct:AdrC} {me bt sby ft tt ci bo:List UInt8} {sn:Int} (hR:R=((baseC me bt sby cf ct ft tt ci sn bo).r,0))
  (hi:BaseIn w m h wx) (hf:AdrIn (w.heap.size+1+1) b1 cf wx) (ht:AdrIn (w.heap.size+1+1) b2 ct wx) (h1:b1 ≠ w.heap.size+1) (h2:b2 ≠ w.heap.size+1) :
  (BaseRes R w.heap.size (wx.setRow (w.heap.size+1) (rqCells (baseC me bt sby cf ct ft tt ci sn bo)).toArray) (.returned (.tuple #[.agg (rqCells (baseC me bt sby cf ct ft tt ci sn bo)).toArray,.int .i64 0])) ∧
   Below w.heap.size w (wx.setRow (w.heap.size+1) (rqCells (baseC me bt sby cf ct ft tt ci sn bo)).toArray)) ∧
  (wx.setRow (w.heap.size+1) (rqCells (baseC me bt sby cf ct ft tt ci sn bo)).toArray).heap[w.heap.size+1]? = some (.cells (rqCells (baseC me bt sby cf ct ft tt ci sn bo)).toArray 37 (0,0)):=by
 have f2:=hf.setRow (g:=w.heap.size+1) (by omega) h1 (rqCells (baseC me bt sby cf ct ft tt ci sn bo)).toArray;have t2:=ht.setRow (g:=w.heap.size+1) (by omega) h2 (rqCells (baseC me bt sby cf ct ft tt ci sn bo)).toArray;refine ⟨⟨⟨baseC me bt sby cf ct ft tt ci sn bo,by rw [hR],by rw [hR]; rfl,⟨⟨f2.p.mono (by omega),f2.h.mono (by omega),f2.q.mono (by omega)⟩,⟨t2.p.mono (by omega),t2.h.mono (by omega),t2.q.mono (by omega)⟩,rfl,rfl,rfl,rfl,rfl,rfl,rfl,rfl,⟨rfl,rfl,rfl⟩⟩⟩,below_setRow hi.b (by omega) _⟩,setRow_heap _ _ _ _ _ _ hi.rs⟩
set_option maxHeartbeats 4000000 in
set_option maxRecDepth 100000 in
theorem rbase_any (m:Ms) (h:Value) (w:World) (hsm:SmallM 1048576 m) (hhl:m.headers.length≤1048576) (hat:HdrsAt w h m.headers) :
  Calls Tryz.prog 11 #[msgV m h] w fun e w'=>BaseRes (baseV m) w.heap.size w' e∧Below w.heap.size w w':=by
 have hz:=zeroR0;have H0:=hid (base_in w m h);have hst0:=H0.out.no;have hge:=H0.out.bx;have HM:=hid hsm;have HAT:=hid hat;obtain ⟨ao,cap,hh0,_⟩:=hat.get;subst hh0;by_cases hme:m.method=[]
 ·have HR:Hid (baseV m=(noR,1)):=show _=_ by unfold baseV; rw [if_pos hme]
  generalize baseV m=R at HR ⊢;obtain ⟨me,ta,st,re,hs,bo⟩:=m;simp only at hme;subst hme;unfold msgV;unfold objM at H0 hst0 hge;simp only at H0 hst0 hge ⊢;obtain ⟨x0,x1,x2,x3,x4,x5⟩:=hge;simp only at x0 x1 x2 x3 x4 x5
  go_enter Tryz.func11,Tryz.ntmps11
  go_wp2_with (first
   | (refine wpList_store_row rfl 37 (.tmp 4) _ rfl (w.heap.size+1+1) rq0 rfl rfl _ _ hst0 infoR0 rfl oneR0 ?_; rw [setRow_self _ _ _ _ _ hst0]; have hlo:=H0.out.no; have hst:=H0.out.rs)
   | (refine wpList_load_row rfl 37 (.tmp 4) rfl (w.heap.size+1+1) rfl _ _ _ _ hlo Tryz.underlying37 rfl infoR0 ?_)
   | (refine wpList_store_row rfl 37 (.tmp 2) _ rfl (w.heap.size+1) rq0 rfl rfl _ _ hst infoR0 rfl oneR0 ?_; rw [setRow_self _ _ _ _ _ hst]))
  have hld:=run_loadVar_row (P:=Tryz.prog) _ _ _ 37 _ _ _ hst Tryz.underlying37 rfl infoR0
  try simp only [Exit.inBlock,Exit.then]
  refine bodyPost_ret (v:=.tuple #[.agg rq0,.int .i64 1]) (by simp [results,Tryz.results11,asAddr,hld]; try rfl) rfl ?_
  exact ⟨base_none HR.out,H0.out.b⟩
 ·have hme1:(m.method==[])=false:=by cases hm:m.method with | nil=>exact absurd hm hme | cons a b=>rfl
  have hme2:m.method.isEmpty=false:=by cases hm:m.method with | nil=>exact absurd hm hme | cons a b=>rfl
  have hsm2:SmallM 140737488355328 m:=hsm.le (by omega);have KL:=hid (fun w' (hb:Below w.heap.size w w')=>rvlist_any m _ w' hsm2 (by omega) (hat.below hb) (all_small hsm _));have KF:=hid (fun w' (hb:Below w.heap.size w w')=>raddress_any m _ fromK w' hsm2 (by omega) (by decide) (hat.below hb) (one_small hsm _));have KT:=hid (fun w' (hb:Below w.heap.size w w')=>raddress_any m _ toK w' hsm2 (by omega) (by decide) (hat.below hb) (one_small hsm _));have KC:=hid (fun w' (hb:Below w.heap.size w w')=>rone_any m _ callK w' hsm2 (by omega) (by decide) (hat.below hb));have KQ:=hid (fun w' (hb:Below w.heap.size w w')=>rone_any m _ cseqK w' hsm2 (by omega) (by decide) (hat.below hb));have hcl:=one_small hsm callK;have hql:=one_small hsm cseqK;have HS:=hid (hopsV_small (allV m rViaK));have HNE:=hid (@hops_some (allV m rViaK));obtain ⟨hl,hn,E1⟩:∃ hl hn,hopsV (allV m rViaK)=(hl,hn):=⟨_,_,rfl⟩
  obtain ⟨fa,fe,E2⟩:∃ a b,addressV m fromK=(a,b):=⟨_,_,rfl⟩
  obtain ⟨ta',te,E3⟩:∃ a b,addressV m toK=(a,b):=⟨_,_,rfl⟩
  obtain ⟨ct,cb,E4⟩:∃ a b,oneV m callK=(a,b):=⟨_,_,rfl⟩
  obtain ⟨qt,qb,E5⟩:∃ a b,oneV m cseqK=(a,b):=⟨_,_,rfl⟩
  obtain ⟨sn,sm,se,E6⟩:∃ a b c,seqV qt=(a,b,c):=⟨_,_,_,rfl⟩
  have E1':hopsV (allV m viaK)=(hl,hn):=E1;rw [E1'] at KL;rw [E1] at HS HNE;rw [E2] at KF;rw [E3] at KT;rw [E4] at KC hcl;rw [E5] at KQ hql;simp only at HS HNE KL KF KT KC KQ hcl hql;have KCall:=hid (fun w'=>rcall_any ct w' (by omega));have KSeq:=hid (fun w'=>rseq_any qt w' (by omega));rw [E6] at KSeq;simp only at KSeq;have HV:Hid (baseV m=if hn ≠ 0 then (noR,hn) else if (brV (hl.headD noH).params).2=false then (noR,70) else if fe ≠ 0 then (noR,fe) else if te ≠ 0 then (noR,te)
    else if cb=false∨qb=false∨callB ct=false then (noR,100) else if se ≠ 0∨sm ≠ m.method then (noR,80)
    else (⟨m.method,noU,(brV (hl.headD noH).params).1,whoH (hl.headD noH),fa,ta',tagV fa,tagV ta',ct,sn,-1,noE,[],[],[],[],[],m.body⟩,0)):=show _=_ by
   unfold baseV baseR hop0;rw [if_neg hme,E1,E2,E3,E4,E5,E6]
  have HFS:Hid (SmallP 140737488355328 fa.params∧SmallP 140737488355328 ta'.params):=by
   have f:=@adr_small m fromK;have t:=@adr_small m toK;rw [E2] at f;rw [E3] at t;exact ⟨f.2.2,t.2.2⟩
  clear E1 E1' E2 E3 E4 E5 E6 hsm hsm2 HM HAT hat;generalize baseV m=R at HV ⊢;generalize callB ct=cok at KCall HV;obtain ⟨me,ta,st,re,hs,bo⟩:=m;simp only at hme1 hme2 HV hhl;unfold msgV at KL KF KT KC KQ ⊢;unfold objM at H0 hst0 hge;simp only at KL KF KT KC KQ H0 hst0 hge ⊢;obtain ⟨x0,x1,x2,x3,x4,x5⟩:=hge;simp only at x0 x1 x2 x3 x4 x5
  go_enter Tryz.func11,Tryz.ntmps11
  go_wp2_with (first
   | (refine wpList_store_row rfl 37 (.tmp 4) _ rfl (w.heap.size+1+1) rq0 rfl rfl _ _ hst0 infoR0 rfl oneR0 ?_; rw [setRow_self _ _ _ _ _ hst0]))
  refine (KL.out _ H0.out.b).mono ?_
  rintro e w1 ⟨⟨v,cs,rfl,hcs,hown⟩,hw1⟩;have H:=hid (H0.out.below hw1);simp only at hcs;obtain ⟨va,vc,hve⟩:=hown.form;clear hw1 x0 x1 x2 x3 x4 x5 H0 hst0 KL hz;by_cases hn0:hn=0
  case neg =>
   have HR:Hid (R=(noR,hn)):=show _=_ by rw [HV.out,if_pos hn0]
   have hne:(hn != 0)=true:=by simpa using hn0
   subst hve;clear HV KF KT KC KQ KCall KSeq hown;have hlo:=H.out.no;have hst:=H.out.rs;have hbE:=H.out.b;have hld:=run_loadVar_row (P:=Tryz.prog) _ _ _ 37 _ _ _ hst Tryz.underlying37 rfl infoR0;go_wp2_with (first
    | (refine wpList_load_row rfl 37 (.tmp 4) rfl (w.heap.size+1+1) rfl _ _ _ _ hlo Tryz.underlying37 rfl infoR0 ?_)
    | (refine wpList_store_row rfl 37 (.tmp 2) _ rfl (w.heap.size+1) rq0 rfl rfl _ _ hst infoR0 rfl oneR0 ?_; rw [setRow_self _ _ _ _ _ hst]))
   try simp only [Exit.inBlock,Exit.then]
   refine bodyPost_ret (v:=.tuple #[.agg rq0,.int .i64 hn]) (by simp [results,Tryz.results11,asAddr,hld]; try rfl) rfl ?_
   exact ⟨base_none HR.out,hbE⟩
  subst hn0;have hln:=HNE.out rfl;have hsv:=HS.out.1
  cases cs with
  | nil=>exact absurd (show hl=[] by rw [← hcs]; rfl) hln
  | cons c0 cs' =>
  have hhd:hl.headD noH=c0.h:=by rw [← hcs]; rfl
  have hsc:SmallV 140737488355328 c0.h:=hsv _ (by rw [← hcs]; simp);rw [hhd,if_neg (by simp)] at HV;have hat0:=(hown.2 c0 (by simp)).at
  rcases hown.1.2 with ⟨_,h0⟩ | ⟨g,cap2,cur,hv2,hcc⟩
  ·simp at h0
  rw [hv2] at hve
  injection hve with e1 e2 e3
  subst e1;subst hv2;have hng:¬ g=w.heap.size+1:=by have:=hcc.1; simp at this; omega
  have cel:∀ j (u:Value),(hpCells c0)[j]? = some u → w1.cell? ⟨g,j,none⟩=some u:=fun j u hj=>by
   have:=World.ownsRow.cells hown.1 (g:=g) rfl j u (by have:=hopsCells_get (c0 :: cs') 0 (by simp) j u hj; simpa using this)
   unfold Addr.add at this
   split at this <;> simp_all
  obtain ⟨h0,q0⟩:=c0;obtain ⟨qa,qc,hq0⟩:=hat0.1.form;simp only at hq0;subst hq0;have H1:Hid (BaseHop w ⟨me,ta,st,re,hs,bo⟩ (.slice ao hs.length cap) g ⟨h0,.slice qa h0.params.length qc⟩ w1):=⟨H.out,cel 0 _ rfl,cel 1 _ rfl,cel 2 _ rfl,hat0,block_lt_of_cell (cel 0 _ rfl)⟩
  have KB:=hid (rvbranch_any ⟨h0,.slice qa h0.params.length qc⟩ w1 hsc hat0);have KY:=hid (fun w' (x:HopC.At w' ⟨h0,.slice qa h0.params.length qc⟩)=>rvby_any ⟨h0,.slice qa h0.params.length qc⟩ w' hsc x);clear hown cel hcs hln hsv HNE HS hcc H e2 e3 hhd hat0;unfold hpV at KB KY;simp only at KB KY HV;generalize whoH h0=sby at KY HV;generalize brV h0.params=br at KB HV;obtain ⟨bt,bb⟩:=br;simp only at KB HV;have y0:=H1.out.c0;have y1:=H1.out.c1;have y2:=H1.out.c2;simp only at y0 y1 y2;go_wp2_with fail
  refine KB.out.mono ?_
  rintro e w2 ⟨rfl,hw2⟩;have H2:=hid (H1.out.below hw2);clear y0 y1 y2 H1 hw2 KB
  cases bb with
  | false =>
   have HR:Hid (R=(noR,70)):=show _=_ by rw [HV.out,if_pos rfl]
   clear HV KF KT KC KQ KCall KSeq KY;have hlo:=H2.out.i.no;have hst:=H2.out.i.rs;have hbE:=H2.out.i.b;have hld:=run_loadVar_row (P:=Tryz.prog) _ _ _ 37 _ _ _ hst Tryz.underlying37 rfl infoR0;go_wp2_with (first
    | (refine wpList_load_row rfl 37 (.tmp 4) rfl (w.heap.size+1+1) rfl _ _ _ _ hlo Tryz.underlying37 rfl infoR0 ?_)
    | (refine wpList_store_row rfl 37 (.tmp 2) _ rfl (w.heap.size+1) rq0 rfl rfl _ _ hst infoR0 rfl oneR0 ?_; rw [setRow_self _ _ _ _ _ hst]))
   try simp only [Exit.inBlock,Exit.then]
   refine bodyPost_ret (v:=.tuple #[.agg rq0,.int .i64 70]) (by simp [results,Tryz.results11,asAddr,hld]; try rfl) rfl ?_
   exact ⟨base_none HR.out,hbE⟩
  | true =>
  rw [if_neg (by simp)] at HV;obtain ⟨fd,⟨fs,fu,fo,fr,fpp,fhh⟩,fps⟩:=fa;obtain ⟨td,⟨ts,tu,to,tr,tpp,thh⟩,tps⟩:=ta';unfold ParseRes adrV at KF KT;simp only at KF KT;obtain ⟨x0,x1,x2,x3,x4,x5⟩:=H2.out.i.bx;simp only at x0 x1 x2 x3 x4 x5;unfold fromK at KF;unfold toK at KT;unfold callK at KC;unfold cseqK at KQ;go_wp2_with fail
  refine (KF.out _ H2.out.i.b).mono ?_
  rintro e w3 ⟨⟨fp,fh,fq,rfl,f1,f2,f3⟩,hw3⟩;obtain ⟨a1,k1,e1⟩:=f1.parsAt.form;obtain ⟨a2,k2,e2⟩:=f2.parsAt.form;obtain ⟨a3,k3,e3⟩:=f3.parsAt.form;subst e1 e2 e3;have hlB:w.heap.size+1+1≤_:=Nat.le_of_lt H2.out.i.lt;have hn3:¬ w3.heap.size=w.heap.size+1:=by have h1:=H2.out.i.lt; have h2:=hw3.size; omega
  have hAF:=(Below.refl _ w3).alloc (Nat.le_refl _) (.cells #[.string ⟨fd.toArray⟩,.string ⟨fs.toArray⟩,.string ⟨fu.toArray⟩,.string ⟨fo.toArray⟩,.int .i64 fr,.slice a1 fpp.length k1,.slice a2 fhh.length k2,.slice a3 fps.length k3] 31);have H3:=hid ((H2.out.below hw3).below hAF);have F3:Hid (AdrIn (w.heap.size+1+1) w3.heap.size ⟨⟨fd,⟨fs,fu,fo,fr,fpp,fhh⟩,fps⟩,.slice a1 fpp.length k1,.slice a2 fhh.length k2,.slice a3 fps.length k3⟩ (w3.alloc (.cells #[.string ⟨fd.toArray⟩,.string ⟨fs.toArray⟩,.string ⟨fu.toArray⟩,.string ⟨fo.toArray⟩,.int .i64 fr,.slice a1 fpp.length k1,.slice a2 fhh.length k2,.slice a3 fps.length k3] 31))):=⟨by unfold RowIs; rw [heap_alloc_new]; rfl,OwnP.mono (OwnP.below f1 hAF) hlB,OwnP.mono (OwnP.below f2 hAF) hlB,OwnP.mono (OwnP.below f3 hAF) hlB⟩
  clear x0 x1 x2 x3 x4 x5 H2 hw3 f1 f2 f3 hAF hlB KF;by_cases hfe:fe=0
  case neg =>
   have HR:Hid (R=(noR,fe)):=show _=_ by rw [HV.out,if_pos hfe]
   have hne:(fe != 0)=true:=by simpa using hfe
   clear HV KT KC KQ KCall KSeq KY F3;have hlo:=H3.out.i.no;have hst:=H3.out.i.rs;have hbE:=H3.out.i.b;have hld:=run_loadVar_row (P:=Tryz.prog) _ _ _ 37 _ _ _ hst Tryz.underlying37 rfl infoR0;go_wp2_with (first
    | (refine wpList_load_row rfl 37 (.tmp 4) rfl (w.heap.size+1+1) rfl _ _ _ _ hlo Tryz.underlying37 rfl infoR0 ?_)
    | (refine wpList_store_row rfl 37 (.tmp 2) _ rfl (w.heap.size+1) rq0 rfl rfl _ _ hst infoR0 rfl oneR0 ?_; rw [setRow_self _ _ _ _ _ hst]))
   try simp only [Exit.inBlock,Exit.then]
   refine bodyPost_ret (v:=.tuple #[.agg rq0,.int .i64 fe]) (by simp [results,Tryz.results11,asAddr,hld]; try rfl) rfl ?_
   exact ⟨base_none HR.out,hbE⟩
  subst hfe;rw [if_neg (by simp)] at HV;obtain ⟨x0,x1,x2,x3,x4,x5⟩:=H3.out.i.bx;simp only at x0 x1 x2 x3 x4 x5;go_wp2_with fail
  refine (KT.out _ H3.out.i.b).mono ?_
  rintro e w4 ⟨⟨tp,th,tq,rfl,f1,f2,f3⟩,hw4⟩;obtain ⟨b1,j1,e1⟩:=f1.parsAt.form;obtain ⟨b2,j2,e2⟩:=f2.parsAt.form;obtain ⟨b3,j3,e3⟩:=f3.parsAt.form;subst e1 e2 e3;have hlB:w.heap.size+1+1≤_:=Nat.le_of_lt H3.out.i.lt;have hn4:¬ w4.heap.size=w.heap.size+1:=by have h1:=H3.out.i.lt; have h2:=hw4.size; omega
  have hAT:=(Below.refl _ w4).alloc (Nat.le_refl _) (.cells #[.string ⟨td.toArray⟩,.string ⟨ts.toArray⟩,.string ⟨tu.toArray⟩,.string ⟨to.toArray⟩,.int .i64 tr,.slice b1 tpp.length j1,.slice b2 thh.length j2,.slice b3 tps.length j3] 31);have H4:=hid ((H3.out.below hw4).below hAT);have F4:=hid ((F3.out.below hw4).below hAT);have T4:Hid (AdrIn (w.heap.size+1+1) w4.heap.size ⟨⟨td,⟨ts,tu,to,tr,tpp,thh⟩,tps⟩,.slice b1 tpp.length j1,.slice b2 thh.length j2,.slice b3 tps.length j3⟩ (w4.alloc (.cells #[.string ⟨td.toArray⟩,.string ⟨ts.toArray⟩,.string ⟨tu.toArray⟩,.string ⟨to.toArray⟩,.int .i64 tr,.slice b1 tpp.length j1,.slice b2 thh.length j2,.slice b3 tps.length j3] 31))):=⟨by unfold RowIs; rw [heap_alloc_new]; rfl,OwnP.mono (OwnP.below f1 hAT) hlB,OwnP.mono (OwnP.below f2 hAT) hlB,OwnP.mono (OwnP.below f3 hAT) hlB⟩
  clear x0 x1 x2 x3 x4 x5 H3 F3 hw4 f1 f2 f3 hAT hlB KT;by_cases hte:te=0
  case neg =>
   have HR:Hid (R=(noR,te)):=show _=_ by rw [HV.out,if_pos hte]
   have hne:(te != 0)=true:=by simpa using hte
   clear HV KC KQ KCall KSeq KY F4 T4;have hlo:=H4.out.i.no;have hst:=H4.out.i.rs;have hbE:=H4.out.i.b;have hld:=run_loadVar_row (P:=Tryz.prog) _ _ _ 37 _ _ _ hst Tryz.underlying37 rfl infoR0;go_wp2_with (first
    | (refine wpList_load_row rfl 37 (.tmp 4) rfl (w.heap.size+1+1) rfl _ _ _ _ hlo Tryz.underlying37 rfl infoR0 ?_)
    | (refine wpList_store_row rfl 37 (.tmp 2) _ rfl (w.heap.size+1) rq0 rfl rfl _ _ hst infoR0 rfl oneR0 ?_; rw [setRow_self _ _ _ _ _ hst]))
   try simp only [Exit.inBlock,Exit.then]
   refine bodyPost_ret (v:=.tuple #[.agg rq0,.int .i64 te]) (by simp [results,Tryz.results11,asAddr,hld]; try rfl) rfl ?_
   exact ⟨base_none HR.out,hbE⟩
  subst hte;rw [if_neg (by simp)] at HV;obtain ⟨x0,x1,x2,x3,x4,x5⟩:=H4.out.i.bx;simp only at x0 x1 x2 x3 x4 x5;go_wp2_with fail
  refine (KC.out _ H4.out.i.b).mono ?_
  rintro e w5 ⟨rfl,hw5⟩;have H5:=hid (H4.out.below hw5);have F5:=hid (F4.out.below hw5);have T5:=hid (T4.out.below hw5);clear x0 x1 x2 x3 x4 x5 H4 F4 T4 hw5 KC;obtain ⟨x0,x1,x2,x3,x4,x5⟩:=H5.out.i.bx;simp only at x0 x1 x2 x3 x4 x5;go_wp2_with fail
  refine (KQ.out _ H5.out.i.b).mono ?_
  rintro e w6 ⟨rfl,hw6⟩;have H6:=hid (H5.out.below hw6);have F6:=hid (F5.out.below hw6);have T6:=hid (T5.out.below hw6);clear x0 x1 x2 x3 x4 x5 H5 F5 T5 hw6 KQ
  cases cb with
  | false =>
   have HR:Hid (R=(noR,100)):=show _=_ by rw [HV.out,if_pos (Or.inl rfl)]
   clear HV KCall KSeq KY F6 T6;have hlo:=H6.out.i.no;have hst:=H6.out.i.rs;have hbE:=H6.out.i.b;have hld:=run_loadVar_row (P:=Tryz.prog) _ _ _ 37 _ _ _ hst Tryz.underlying37 rfl infoR0;go_wp2_with (first
    | (refine wpList_load_row rfl 37 (.tmp 4) rfl (w.heap.size+1+1) rfl _ _ _ _ hlo Tryz.underlying37 rfl infoR0 ?_)
    | (refine wpList_store_row rfl 37 (.tmp 2) _ rfl (w.heap.size+1) rq0 rfl rfl _ _ hst infoR0 rfl oneR0 ?_; rw [setRow_self _ _ _ _ _ hst]))
   try simp only [Exit.inBlock,Exit.then]
   refine bodyPost_ret (v:=.tuple #[.agg rq0,.int .i64 100]) (by simp [results,Tryz.results11,asAddr,hld]; try rfl) rfl ?_
   exact ⟨base_none HR.out,hbE⟩
  | true =>
  cases qb with
  | false =>
   have HR:Hid (R=(noR,100)):=show _=_ by rw [HV.out,if_pos (Or.inr (Or.inl rfl))]
   clear HV KCall KSeq KY F6 T6;have hlo:=H6.out.i.no;have hst:=H6.out.i.rs;have hbE:=H6.out.i.b;have hld:=run_loadVar_row (P:=Tryz.prog) _ _ _ 37 _ _ _ hst Tryz.underlying37 rfl infoR0;go_wp2_with (first
    | (refine wpList_load_row rfl 37 (.tmp 4) rfl (w.heap.size+1+1) rfl _ _ _ _ hlo Tryz.underlying37 rfl infoR0 ?_)
    | (refine wpList_store_row rfl 37 (.tmp 2) _ rfl (w.heap.size+1) rq0 rfl rfl _ _ hst infoR0 rfl oneR0 ?_; rw [setRow_self _ _ _ _ _ hst]))
   try simp only [Exit.inBlock,Exit.then]
   refine bodyPost_ret (v:=.tuple #[.agg rq0,.int .i64 100]) (by simp [results,Tryz.results11,asAddr,hld]; try rfl) rfl ?_
   exact ⟨base_none HR.out,hbE⟩
  | true =>
  go_wp2_with fail
  refine (KCall.out _).mono ?_
  rintro e w7 ⟨rfl,hw7⟩;have H7:=hid (H6.out.below hw7);have F7:=hid (F6.out.below hw7);have T7:=hid (T6.out.below hw7);clear H6 F6 T6 hw7 KCall
  cases cok with
  | false =>
   have HR:Hid (R=(noR,100)):=show _=_ by rw [HV.out,if_pos (Or.inr (Or.inr rfl))]
   clear HV KSeq KY F7 T7;have hlo:=H7.out.i.no;have hst:=H7.out.i.rs;have hbE:=H7.out.i.b;have hld:=run_loadVar_row (P:=Tryz.prog) _ _ _ 37 _ _ _ hst Tryz.underlying37 rfl infoR0;go_wp2_with (first
    | (refine wpList_load_row rfl 37 (.tmp 4) rfl (w.heap.size+1+1) rfl _ _ _ _ hlo Tryz.underlying37 rfl infoR0 ?_)
    | (refine wpList_store_row rfl 37 (.tmp 2) _ rfl (w.heap.size+1) rq0 rfl rfl _ _ hst infoR0 rfl oneR0 ?_; rw [setRow_self _ _ _ _ _ hst]))
   try simp only [Exit.inBlock,Exit.then]
   refine bodyPost_ret (v:=.tuple #[.agg rq0,.int .i64 100]) (by simp [results,Tryz.results11,asAddr,hld]; try rfl) rfl ?_
   exact ⟨base_none HR.out,hbE⟩
  | true =>
  rw [if_neg (by simp)] at HV;go_wp2_with fail
  refine (KSeq.out _).mono ?_
  rintro e w8 ⟨rfl,hw8⟩;have H8:=hid (H7.out.below hw8);have F8:=hid (F7.out.below hw8);have T8:=hid (T7.out.below hw8);clear H7 F7 T7 hw8 KSeq;by_cases hse:se=0
  case neg =>
   have HR:Hid (R=(noR,80)):=show _=_ by rw [HV.out,if_pos (Or.inl hse)]
   have hne:(se != 0)=true:=by simpa using hse
   clear HV KY F8 T8;have hlo:=H8.out.i.no;have hst:=H8.out.i.rs;have hbE:=H8.out.i.b;have hld:=run_loadVar_row (P:=Tryz.prog) _ _ _ 37 _ _ _ hst Tryz.underlying37 rfl infoR0;go_wp2_with (first
    | (refine wpList_load_row rfl 37 (.tmp 4) rfl (w.heap.size+1+1) rfl _ _ _ _ hlo Tryz.underlying37 rfl infoR0 ?_)
    | (refine wpList_store_row rfl 37 (.tmp 2) _ rfl (w.heap.size+1) rq0 rfl rfl _ _ hst infoR0 rfl oneR0 ?_; rw [setRow_self _ _ _ _ _ hst]))
   try simp only [Exit.inBlock,Exit.then]
   refine bodyPost_ret (v:=.tuple #[.agg rq0,.int .i64 80]) (by simp [results,Tryz.results11,asAddr,hld]; try rfl) rfl ?_
   exact ⟨base_none HR.out,hbE⟩
  subst hse;obtain ⟨x0,x1,x2,x3,x4,x5⟩:=H8.out.i.bx;simp only at x0 x1 x2 x3 x4 x5;by_cases hsm:sm=me
  case neg =>
   have HR:Hid (R=(noR,80)):=show _=_ by rw [HV.out,if_pos (Or.inr hsm)]
   have hne:(sm != me)=true:=bne_iff_ne.2 hsm;have hne2:(sm==me)=false:=by rw [beq_eq_false_iff_ne]; exact hsm
   clear HV KY F8 T8;have hlo:=H8.out.i.no;have hst:=H8.out.i.rs;have hbE:=H8.out.i.b;have hld:=run_loadVar_row (P:=Tryz.prog) _ _ _ 37 _ _ _ hst Tryz.underlying37 rfl infoR0;go_wp2_with (first
    | (refine wpList_load_row rfl 37 (.tmp 4) rfl (w.heap.size+1+1) rfl _ _ _ _ hlo Tryz.underlying37 rfl infoR0 ?_)
    | (refine wpList_store_row rfl 37 (.tmp 2) _ rfl (w.heap.size+1) rq0 rfl rfl _ _ hst infoR0 rfl oneR0 ?_; rw [setRow_self _ _ _ _ _ hst]))
   try simp only [Exit.inBlock,Exit.then]
   refine bodyPost_ret (v:=.tuple #[.agg rq0,.int .i64 80]) (by simp [results,Tryz.results11,asAddr,hld]; try rfl) rfl ?_
   exact ⟨base_none HR.out,hbE⟩
  subst hsm;have hne:(sm != sm)=false:=by simp
  rw [if_neg (by simp)] at HV;have KG1:=hid (fun w' (x:AdrC.At w' ⟨⟨fd,⟨fs,fu,fo,fr,fpp,fhh⟩,fps⟩,.slice a1 fpp.length k1,.slice a2 fhh.length k2,.slice a3 fps.length k3⟩)=>rtag_any ⟨⟨fd,⟨fs,fu,fo,fr,fpp,fhh⟩,fps⟩,.slice a1 fpp.length k1,.slice a2 fhh.length k2,.slice a3 fps.length k3⟩ w' HFS.out.1 x);have KG2:=hid (fun w' (x:AdrC.At w' ⟨⟨td,⟨ts,tu,to,tr,tpp,thh⟩,tps⟩,.slice b1 tpp.length j1,.slice b2 thh.length j2,.slice b3 tps.length j3⟩)=>rtag_any ⟨⟨td,⟨ts,tu,to,tr,tpp,thh⟩,tps⟩,.slice b1 tpp.length j1,.slice b2 thh.length j2,.slice b3 tps.length j3⟩ w' HFS.out.2 x);unfold adrV at KG1 KG2;simp only at KG1 KG2;have hvf:Hid (tagV ⟨fd,⟨fs,fu,fo,fr,fpp,fhh⟩,fps⟩=(valV fps [116,97,103]).1):=show _=_ from rfl
  have hvt:Hid (tagV ⟨td,⟨ts,tu,to,tr,tpp,thh⟩,tps⟩=(valV tps [116,97,103]).1):=show _=_ from rfl
  rw [hvf.out,hvt.out] at HV;generalize (valV fps [116,97,103]).1=ft at KG1 HV;generalize (valV tps [116,97,103]).1=tt at KG2 HV;clear hvf hvt x0 x1 x2 x3 x4 x5;have hng':¬ w.heap.size+1=g:=fun e=>hng e.symm;have hn3':¬ w.heap.size+1=w3.heap.size:=fun e=>hn3 e.symm;have hn4':¬ w.heap.size+1=w4.heap.size:=fun e=>hn4 e.symm;obtain ⟨x0,_,_,_,_,x5⟩:=H8.out.i.bx;have y0:=H8.out.c0;have y1:=H8.out.c1;have y2:=H8.out.c2;have Fr:=F8.out.r;have Tr:=T8.out.r;unfold adrL at Fr Tr;obtain ⟨z0,z1,z2,z3,z4,z5,z6,z7,_,_,_,_,_,_,_,_⟩:=Fr.eight;obtain ⟨v0,v1,v2,v3,v4,v5,v6,v7,_,_,_,_,_,_,_,_⟩:=Tr.eight;simp only at x0 x5 y0 y1 y2 z0 z1 z2 z3 z4 z5 z6 z7 v0 v1 v2 v3 v4 v5 v6 v7;have cY:=hid (fun (d:Nat) (os:Array Obj)=>Calls.regrown_of (KY.out (Sort.grow (redrawn w8 d) os) (H8.out.below (below_regrown w8 d os)).a));have cF:=hid (fun (d:Nat) (os:Array Obj)=>Calls.regrown_of (KG1.out (Sort.grow (redrawn w8 d) os) (F8.out.below (below_regrown w8 d os)).at));have cT:=hid (fun (d:Nat) (os:Array Obj)=>Calls.regrown_of (KG2.out (Sort.grow (redrawn w8 d) os) (T8.out.below (below_regrown w8 d os)).at));have HE:=hid (fun (wx:World) (hq:Below w8.heap.size w8 wx)=>base_end (me:=sm) (bt:=bt) (sby:=sby) (ft:=ft) (tt:=tt) (ci:=ct) (sn:=sn) (bo:=bo) (cf:=(⟨⟨fd,⟨fs,fu,fo,fr,fpp,fhh⟩,fps⟩,.slice a1 fpp.length k1,.slice a2 fhh.length k2,.slice a3 fps.length k3⟩:AdrC)) (ct:=(⟨⟨td,⟨ts,tu,to,tr,tpp,thh⟩,tps⟩,.slice b1 tpp.length j1,.slice b2 thh.length j2,.slice b3 tps.length j3⟩:AdrC)) HV.out (H8.out.below hq).i (F8.out.below hq) (T8.out.below hq) hn3 hn4);have HSL:=hid (base_sl (me:=sm) (bt:=bt) (sby:=sby) (ft:=ft) (tt:=tt) (ci:=ct) (sn:=sn) (bo:=bo) F8.out.at T8.out.at);obtain ⟨CA,hCA⟩:∃ a,a=(rqCells (baseC sm bt sby (⟨⟨fd,⟨fs,fu,fo,fr,fpp,fhh⟩,fps⟩,.slice a1 fpp.length k1,.slice a2 fhh.length k2,.slice a3 fps.length k3⟩:AdrC) (⟨⟨td,⟨ts,tu,to,tr,tpp,thh⟩,tps⟩,.slice b1 tpp.length j1,.slice b2 thh.length j2,.slice b3 tps.length j3⟩:AdrC) ft tt ct sn bo)).toArray:=⟨_,rfl⟩
  rw [← hCA] at HE;have hone:CA.all (·.oneCell')=true:=by rw [hCA]; exact oneR HSL.out
  have hinf:(Tryz.prog.info? 37).map (·.size)=some CA.size:=by rw [hCA]; exact infoR
  have hsz:rq0.size=CA.size:=by rw [hCA]; rfl
  have HCA:=hid hCA;clear hCA;have hst:=hid (fun (wx:World) (hq:Below w8.heap.size w8 wx)=>(H8.out.below hq).i.rs);clear H8 F8 T8 Fr Tr KY KG1 KG2 HFS HV;go_wp2;replace x0:=cell_regrown x0;replace x5:=cell_regrown x5;replace y0:=cell_regrown y0;replace y1:=cell_regrown y1;replace y2:=cell_regrown y2;replace z0:=cell_regrown z0;replace z1:=cell_regrown z1;replace z2:=cell_regrown z2;replace z3:=cell_regrown z3;replace z4:=cell_regrown z4;replace z5:=cell_regrown z5;replace z6:=cell_regrown z6;replace z7:=cell_regrown z7;replace v0:=cell_regrown v0;replace v1:=cell_regrown v1;replace v2:=cell_regrown v2;replace v3:=cell_regrown v3;replace v4:=cell_regrown v4;replace v5:=cell_regrown v5;replace v6:=cell_regrown v6;replace v7:=cell_regrown v7;refine wp_region_tail_of 18 followsMixed10 (by kernel_rfl) (by kernel_rfl) ?_
  intro T HT;replace HT:=hid HT;simp only [List.take_succ_cons,List.take_zero]
  repeat (go_big_quiet_step (first | with_reducible exact cY.out _ _ | with_reducible exact cF.out _ _ | with_reducible exact cT.out _ _))
  refine wpQuiet_nil (HT.out _ ?_)
  clear HT cY cF cT x0 x5 y0 y1 y2 z0 z1 z2 z3 z4 z5 z6 z7 v0 v1 v2 v3 v4 v5 v6 v7;intro _ hw';obtain ⟨⟨dq,osq⟩,hw''⟩:=hw';subst hw'';have hq:=below_regrown w8 dq osq;generalize Sort.grow _ _=wx at hq ⊢;obtain ⟨HE1,HE2⟩:=HE.out wx hq;refine wpAny_go (f:=1) 18 _ (by kernel_rfl) rfl rfl ?_
  refine wp_store_row 37 (.tmp 2) (.tmp 113) rfl (w.heap.size+1) CA rfl (by rw [HCA.out]; rfl) _ _ (hst.out wx hq) hinf hsz hone ?_
  refine wpAny_go (f:=0) 19 _ (by kernel_rfl) rfl rfl ?_
  refine wp_assign_op _ rfl ?_
  refine wpAny_end (by kernel_rfl) ?_
  clear HE hst HSL HCA hone hsz hq;generalize World.setRow _ _ _=wE at HE1 HE2 ⊢;have hld:=run_loadVar_row (P:=Tryz.prog) _ _ _ 37 _ _ _ HE2 Tryz.underlying37 rfl hinf;go_wp2
  try simp only [Exit.inBlock,Exit.then]
  refine bodyPost_ret (v:=.tuple #[.agg CA,.int .i64 0]) (by simp [results,Tryz.results11,asAddr,Act.put,Act.eval,hld]; try rfl) rfl ?_
  exact HE1
end Go.Proofs.YtiogedceommcoaaGreatDoor
