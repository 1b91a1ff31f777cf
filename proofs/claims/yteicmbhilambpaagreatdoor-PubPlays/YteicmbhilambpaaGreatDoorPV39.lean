/-
  Parts, PubP, PubR, PubS, PtD, PtH, OpenPa, PtU, PtV.
-/
import Derived.Test.YteicmbhilambpaaGreatDoorPU35
import Derived.Test.YteicmbhilambpaaGreatDoorPV42
set_option linter.unusedVariables false
set_option linter.unusedSimpArgs false
set_option maxRecDepth 20000
namespace Go.Proofs.YteicmbhilambpaaGreatDoor
open Go.RowKit Sc
theorem strs_one (ps:List (List UInt8)):∀ u ∈ strs ps,u.oneCell'=true:=by
 intro u hu;simp only [strs,List.mem_map] at hu;obtain ⟨b,_,rfl⟩:=hu
 rfl
def cfL (c:Cf):List Value:=[.string ⟨c.host.toArray⟩,.int .i64 c.calls,.int .i64 c.pubs,.int .i64 c.subs,.int .i64 c.least,.int .i64 c.most,.int .i64 c.usual]
set_option maxHeartbeats 4000000 in
set_option maxRecDepth 100000 in
theorem rright16_any (c:Cf) (w:World):Calls Tryz.prog 11 #[cfV c] w fun e w'=>e=.returned (.bool (rightC c))∧Below w.heap.size w w':=by
 have HB:=hid ((Below.refl _ w).alloc (Nat.le_refl _) (objF c));have hbx:=boxF_new w c;have hR:rightC c=decide (1≤c.calls∧c.calls≤200∧1≤c.pubs∧c.pubs≤200∧1≤c.subs∧c.subs≤200∧1≤c.least∧c.least≤c.usual∧c.usual≤c.most∧c.most≤2147483647):=rfl;have HN:Hid ((¬ (1≤c.calls∧c.calls≤200∧1≤c.pubs∧c.pubs≤200∧1≤c.subs∧c.subs≤200∧1≤c.least∧c.least≤c.usual∧c.usual≤c.most∧c.most≤2147483647)) → rightC c=false):=fun h=>by rw [hR]; exact decide_eq_false h
 have HY:Hid ((1≤c.calls∧c.calls≤200∧1≤c.pubs∧c.pubs≤200∧1≤c.subs∧c.subs≤200∧1≤c.least∧c.least≤c.usual∧c.usual≤c.most∧c.most≤2147483647) → rightC c=true):=fun h=>by rw [hR]; exact decide_eq_true h
 clear hR;generalize rightC c=R at HN HY ⊢;obtain ⟨ho,ca,pu,su,le,mo,us⟩:=c;unfold cfV;unfold objF at HB hbx;simp only at HB hbx HN HY ⊢;obtain ⟨x0,x1,x2,x3,x4,x5,x6⟩:=hbx;simp only at x0 x1 x2 x3 x4 x5 x6
 go_enter Tryz.func11,Tryz.ntmps11
 by_cases q0:pu < 1
 ·have d0:decide (pu < 1)=true:=decide_eq_true q0;have HV:=hid (HN.out (by omega));clear HN HY q0;go_wp2;go_ret;exact ⟨ret_bool HV.out.symm,HB.out⟩
 have d0:decide (pu < 1)=false:=decide_eq_false q0;by_cases q1:200 < pu
 ·have d1:decide (200 < pu)=true:=decide_eq_true q1;have HV:=hid (HN.out (by omega));clear HN HY q0 q1;go_wp2;go_ret;exact ⟨ret_bool HV.out.symm,HB.out⟩
 have d1:decide (200 < pu)=false:=decide_eq_false q1;by_cases q2:su < 1
 ·have d2:decide (su < 1)=true:=decide_eq_true q2;have HV:=hid (HN.out (by omega));clear HN HY q0 q1 q2;go_wp2;go_ret;exact ⟨ret_bool HV.out.symm,HB.out⟩
 have d2:decide (su < 1)=false:=decide_eq_false q2;by_cases q3:200 < su
 ·have d3:decide (200 < su)=true:=decide_eq_true q3;have HV:=hid (HN.out (by omega));clear HN HY q0 q1 q2 q3;go_wp2;go_ret;exact ⟨ret_bool HV.out.symm,HB.out⟩
 have d3:decide (200 < su)=false:=decide_eq_false q3;by_cases q4:ca < 1
 ·have d4:decide (ca < 1)=true:=decide_eq_true q4;have HV:=hid (HN.out (by omega));clear HN HY q0 q1 q2 q3 q4;go_wp2;go_ret;exact ⟨ret_bool HV.out.symm,HB.out⟩
 have d4:decide (ca < 1)=false:=decide_eq_false q4;by_cases q5:200 < ca
 ·have d5:decide (200 < ca)=true:=decide_eq_true q5;have HV:=hid (HN.out (by omega));clear HN HY q0 q1 q2 q3 q4 q5;go_wp2;go_ret;exact ⟨ret_bool HV.out.symm,HB.out⟩
 have d5:decide (200 < ca)=false:=decide_eq_false q5;by_cases q6:1≤le
 case neg =>
  have d6:decide (1≤le)=false:=decide_eq_false q6;have HV:=hid (HN.out (by omega));clear HN HY q0 q1 q2 q3 q4 q5 q6;go_wp2;go_ret;exact ⟨ret_bool HV.out.symm,HB.out⟩
 have d6:decide (1≤le)=true:=decide_eq_true q6;by_cases q7:le≤us
 case neg =>
  have d7:decide (le≤us)=false:=decide_eq_false q7;have HV:=hid (HN.out (by omega));clear HN HY q0 q1 q2 q3 q4 q5 q6 q7;go_wp2;go_ret;exact ⟨ret_bool HV.out.symm,HB.out⟩
 have d7:decide (le≤us)=true:=decide_eq_true q7;by_cases q8:us≤mo
 case neg =>
  have d8:decide (us≤mo)=false:=decide_eq_false q8;have HV:=hid (HN.out (by omega));clear HN HY q0 q1 q2 q3 q4 q5 q6 q7 q8;go_wp2;go_ret;exact ⟨ret_bool HV.out.symm,HB.out⟩
 have d8:decide (us≤mo)=true:=decide_eq_true q8;by_cases q9:mo≤2147483647
 case neg =>
  have d9:decide (mo≤2147483647)=false:=decide_eq_false q9;have HV:=hid (HN.out (by omega));clear HN HY q0 q1 q2 q3 q4 q5 q6 q7 q8 q9;go_wp2;go_ret;exact ⟨ret_bool HV.out.symm,HB.out⟩
 have d9:decide (mo≤2147483647)=true:=decide_eq_true q9;have HV:=hid (HY.out (by omega));clear HN HY q0 q1 q2 q3 q4 q5 q6 q7 q8 q9;go_wp2;go_ret;exact ⟨ret_bool HV.out.symm,HB.out⟩
theorem strs_len (l:List (List UInt8)):(strs l).length=l.length:=by simp [strs]
theorem rise_hit {l:List (List UInt8)} {s:List UInt8} {k:Nat} (hk:k < l.length) (hp:∀ x ∈ l.take k,Op.bytesLess x s=true) (hn:Op.bytesLess l[k] s=false) (he:l[k]=s):riseV l s=l:=by
 induction l generalizing k with
 | nil=>simp at hk
 | cons x l ih =>
  cases k with
  | zero =>
   simp only [List.getElem_cons_zero] at hn he;rw [riseV,if_neg (by rw [hn]; simp),if_pos he]
  | succ k =>
   have h0:=hp x (by simp);rw [riseV,if_pos h0,ih (k:=k) (by simpa using hk) (fun y hy=>hp y (by simp [hy])) (by simpa using hn) (by simpa using he)]
theorem rise_put {l:List (List UInt8)} {s:List UInt8} {k:Nat} (hk:k < l.length) (hp:∀ x ∈ l.take k,Op.bytesLess x s=true) (hn:Op.bytesLess l[k] s=false) (he:l[k] ≠ s):riseV l s=l.take k++[s]++l.drop k:=by
 induction l generalizing k with
 | nil=>simp at hk
 | cons x l ih =>
  cases k with
  | zero =>
   simp only [List.getElem_cons_zero] at hn he;rw [riseV,if_neg (by rw [hn]; simp),if_neg he]
   rfl
  | succ k =>
   have h0:=hp x (by simp);rw [riseV,if_pos h0,ih (k:=k) (by simpa using hk) (fun y hy=>hp y (by simp [hy])) (by simpa using hn) (by simpa using he)]
   rfl
theorem rise_end {l:List (List UInt8)} {s:List UInt8} (hp:∀ x ∈ l,Op.bytesLess x s=true):riseV l s=l++[s]:=by
 induction l with
 | nil=>rfl
 | cons x l ih =>
  rw [riseV,if_pos (hp x (by simp)),ih fun y hy=>hp y (by simp [hy])]
  rfl
theorem rise_len (l:List (List UInt8)) (s:List UInt8):(riseV l s).length≤l.length+1:=by
 induction l with
 | nil=>simp [riseV]
 | cons x l ih =>
  rw [riseV]
  split
  ·simp only [List.length_cons]; omega
  ·split <;> simp
theorem rise_stp {l:List (List UInt8)} {s:List UInt8} {k:Nat} (hk:k < l.length) (hp:∀ x ∈ l.take k,Op.bytesLess x s=true) (hn:Op.bytesLess l[k] s=true):∀ x ∈ l.take (k+1),Op.bytesLess x s=true:=by
 intro c hc;rw [List.take_succ_eq_append_getElem hk] at hc
 rcases List.mem_append.1 hc with h | h
 ·exact hp c h
 ·simp at h; subst h; exact hn
theorem wp_app0 {P:Program} (w:World) {ops:Array Oper} {rest:List Oper} {o:Oper} {a:Act} {Q:Exit → Act → World → Prop} (hgd:o.guard=none)
  (s x:Operand) (t:TypeId) (ho:o.op=Op.call { callee:=Callee.builtin Builtin.append,args:=#[s,x],argTypes:=#[t,t] }) (B:Nat) (e:TypeId) (i:TypeInfo)
  (z:Value) (bytes:Nat) (ht:P.underlying t=some (TypeDesc.slice e)) (hi:P.info? e=some i) (hz:i.zero=some z) (hsize:i.size=1) (hby:i.bytes=bytes) (hzs:z.cells.size=1)
  (v:Value) (xs:List Value) (hs:a.eval s=v) (hown:Own w B e v xs) (va:Value) (news:List Value) (hx:a.eval x=va)
  (hat:(va=.slice none 0 0∧news=[])∨∃ ad c,va=.slice (some ad) news.length c∧∀ (j:Nat) (u:Value),news[j]? = some u → w.cell? (ad.add j)=some u)
  (h1:∀ u ∈ news,u.oneCell'=true)
  (h63:xs.length+news.length≤maxLen) (hbytes:(xs.length+news.length) * bytes≤140737488355328) (hB:B≤w.heap.size)
  (h:∀ (v':Value) (w':World),Own w' B e v' (xs++news) → Below B w w' → wpList P ops Q rest (a.put o.dst v') w'):wpList P ops Q (o :: rest) a w:=by
 rcases hat with ⟨hv,hn⟩ | ⟨ad,c,hv,hc⟩
 ·subst hn;rw [hv] at hx;refine wpList_append_own_none hgd s x t ho B e i 1 ht hi v xs.length xs hs hown hx ?_
  exact h v w (by rw [List.append_nil]; exact hown) (Below.refl _ _)
 ·rw [hv] at hx;exact wp_app w hgd s x t ho B e i z bytes ht hi hz hsize hby hzs v xs hs hown ad news.length c news hx rfl hc h1 h63 hbytes w (Below.refl _ _) hB (fun v' w' a b _=>h v' w' a b)
theorem own_empty (w:World) (B:Nat) (e:TypeId) (hb:B≤w.heap.size):Own (w.alloc (.cells #[] e)) B e (.slice (some ⟨w.heap.size,0,none⟩) 0 0) []:=by
 have:=World.ownsRow_lit (base:=B) (e:=e) (size:=1) w #[] 0 hb (by decide) rfl
 exact this
theorem str_take {l:List (List UInt8)} {k j:Nat} {u:Value} (h:(strs (l.take k))[j]? = some u):(strs l)[j]? = some u:=by
 have e:strs l=strs (l.take k)++strs (l.drop k):=by unfold strs; rw [← List.map_append,List.take_append_drop]
 rw [e,List.getElem?_append_left (List.getElem?_eq_some_iff.1 h).1];exact h
theorem str_drop {l:List (List UInt8)} {k j:Nat} {u:Value} (h:(strs (l.drop k))[j]? = some u):(strs l)[k+j]? = some u:=by
 simpa [strs] using h
theorem own_up {w:World} {B C:Nat} {e:TypeId} {v:Value} {xs:List Value} (h:Own w B e v xs) (hc:C≤B):Own w C e v xs:=sv_mono h hc
theorem add_g (g k j:Nat):(⟨g,k,none⟩:Addr).add j=⟨g,k+j,none⟩:=by unfold Addr.add; split <;> simp_all
theorem own_get {w:World} {B:Nat} {e:TypeId} {v:Value} {xs:List Value} (h:Own w B e v xs):(v=.slice none 0 0∧xs=[])∨∃ g cap,v=.slice (some ⟨g,0,none⟩) xs.length cap∧g < w.heap.size∧xs.length≤cap∧∀ (j:Nat) (u:Value),xs[j]? = some u → w.cell? ⟨g,j,none⟩=some u:=by
 have h0:=h
 rcases h.2 with ⟨rfl,hn⟩ | ⟨g,cap,cur,rfl,hb,hg,r⟩
 ·exact .inl ⟨rfl,List.eq_nil_of_length_eq_zero hn⟩
 ·refine .inr ⟨g,cap,rfl,(Array.getElem?_eq_some_iff.1 hg).1,r.1,fun j u hj=>?_⟩
  have:=World.ownsRow.cells h0 (g:=g) rfl j u hj
  rwa [show (⟨g,0,none⟩:Addr).add j=⟨g,j,none⟩ by unfold Addr.add; split <;> simp_all] at this
set_option maxHeartbeats 4000000 in
set_option maxRecDepth 100000 in
theorem rrising_any {w:World} {B:Nat} {v:Value} {l:List (List UInt8)} {s:List UInt8} (h:Own w B 9 v (strs l)) (hB:B≤w.heap.size) (hn:l.length≤1000000) :
  Calls Tryz.prog 33 #[v,.string ⟨s.toArray⟩] w fun e w'=>∃ v',e=.returned v'∧Own w' B 9 v' (strs (riseV l s))∧Below w.heap.size w w':=by
 obtain ⟨i0,hi,hz0,hz1,hz2⟩:=info_parts infoStrU;have HO:=hid h
 rcases own_get h with ⟨rfl,hnil⟩ | ⟨g,cap,rfl,hg,hcap,hat⟩
 ·have hl:l=[]:=by simpa [strs] using hnil
  subst hl;clear h hnil;have OE:=own_empty w w.heap.size 9 (Nat.le_refl _);have HB1:=hid ((Below.refl _ w).alloc (Nat.le_refl _) (.cells #[] 9))
  go_enter Tryz.func33,Tryz.ntmps33
  go_wp2
  go_loopw [5] (fun i wr=>i=.int .i64 0∧wr=w) (fun i _=>0)
  case atStart=>exact ⟨rfl,by first | rfl | trivial⟩
  case round =>
   obtain ⟨rfl,rfl⟩:=hrel
   go_wp2_with (first
    | (at_builtin; refine wp_app0 _ rfl (.tmp 34) (.tmp 37) 33 rfl wr.heap.size 9 i0 _ 16 Tryz.underlying33 hi hz0 hz1 hz2 rfl _ [] rfl OE _ [] rfl (.inl ⟨rfl,rfl⟩) (by intro u hu; simp at hu) (by simp [maxLen]) (by simp) (by simp) ?_; intro v1 w1 O1 hb1)
    | (at_builtin; refine wp_app0 _ rfl (.tmp 39) (.tmp 41) 33 rfl wr.heap.size 9 i0 _ 16 Tryz.underlying33 hi hz0 hz1 hz2 rfl _ _ rfl (O1.alloc _) _ [.string ⟨s.toArray⟩] rfl (.inr ⟨_,1,rfl,cell_one_new _ _ _⟩) (by intro u hu; simp at hu; subst hu; rfl) (by simp [maxLen]) (by simp) (Nat.le_trans (Nat.le_trans (by simp) hb1.size) (by simp)) ?_; intro v2 w2 O2 hb2)
    | (at_builtin; refine wp_app0 _ rfl (.tmp 43) (.tmp 46) 33 rfl wr.heap.size 9 i0 _ 16 Tryz.underlying33 hi hz0 hz1 hz2 rfl _ _ rfl O2 _ [] rfl (.inl ⟨rfl,rfl⟩) (by intro u hu; simp at hu) (by simp [maxLen]) (by simp) (Nat.le_trans (Nat.le_trans (by simp) hb1.size) (Nat.le_trans (by simp) hb2.size)) ?_; intro v3 w3 O3 hb3))
   have HR:=hid (And.intro (own_up O3 hB) (HB1.out.trans ((hb1.trans ((Below.refl _ w1).alloc (Nat.le_refl _) (.cells #[.string ⟨s.toArray⟩] 9) |>.mono (Nat.le_trans (by simp) hb1.size))).trans (hb2.trans hb3))));clear O1 O2 O3 OE hb1 hb2 hb3;go_ret;exact ⟨_,rfl,by simpa [strs,riseV] using HR.out.1,HR.out.2⟩
 ·have HAT:=hid hat;have hcap':l.length≤cap:=by simpa [strs] using hcap
  obtain ⟨n,hnn⟩:∃ n,n=l.length:=⟨_,rfl⟩
  have e0:(strs l).length=n:=by rw [strs_len,hnn]
  rw [e0] at HO ⊢;have HN:=hid hnn;rw [← hnn] at hn hcap';clear h hat hcap e0 hnn;have OE:=own_empty w w.heap.size 9 (Nat.le_refl _);have HB1:=hid ((Below.refl _ w).alloc (Nat.le_refl _) (.cells #[] 9))
  go_enter Tryz.func33,Tryz.ntmps33
  go_wp2
  go_loopw [5] (fun i wr=>∃ k:Nat,k≤n∧i=.int .i64 k∧wr=w∧Hid (∀ x ∈ l.take k,Op.bytesLess x s=true)) (fun i _=>n - (intOf i).toNat)
  case atStart=>exact ⟨0,by omega,rfl,by first | rfl | trivial,fun c hc=>by simp at hc⟩
  case round =>
   obtain ⟨k,hk,rfl,rfl,hinv⟩:=hrel;by_cases hlt:k < n
   ·have hlt':(k:Int) < n:=by omega
    have hkl:k < l.length:=by rw [← HN.out]; exact hlt
    have c0:=HAT.out k (.string ⟨l[k].toArray⟩) (by simp [strs,hkl]);have RS:=hid (fun x=>rise_stp (s:=s) hkl hinv.out x);have RH:=hid (fun x=>rise_hit (s:=s) hkl hinv.out x);have RP:=hid (fun x=>rise_put (s:=s) hkl hinv.out x);clear hinv;generalize l[k]=t at c0 RS RH RP
    cases hle:Op.bytesLess t s
    ·by_cases het:t=s
     ·subst het;have hR:=hid (RH.out hle rfl);have heq:(t==t)=true:=by simp
      clear RS RH RP;go_wp2;go_ret;exact ⟨_,rfl,by rw [hR.out]; exact HO.out,Below.refl _ _⟩
     ·have hR:=hid (RP.out hle het);have heq:(t==s)=false:=by simpa using het
      clear RS RH RP het
      have TN:Hid (((.slice (some ⟨g,0,none⟩) k cap:Value)=.slice none 0 0∧strs (l.take k)=[])∨∃ ad c,(.slice (some ⟨g,0,none⟩) k cap:Value)=.slice (some ad) (strs (l.take k)).length c∧∀ (j:Nat) (u:Value),(strs (l.take k))[j]? = some u → (wr.alloc (.cells #[] 9)).cell? (ad.add j)=some u):=.inr ⟨⟨g,0,none⟩,cap,by rw [strs_len,List.length_take,Nat.min_eq_left (by have:=HN.out; omega)],fun j u hj=>by
       have:=HAT.out j u (str_take hj)
       rw [show (⟨g,0,none⟩:Addr).add j=⟨g,j,none⟩ by unfold Addr.add; split <;> simp_all,World.cell?_alloc_lt _ _ ⟨g,j,none⟩ hg]; exact this⟩
      go_wp2_with (first
       | (at_builtin; refine wp_app0 _ rfl (.tmp 34) (.tmp 37) 33 rfl wr.heap.size 9 i0 _ 16 Tryz.underlying33 hi hz0 hz1 hz2 rfl _ [] rfl OE _ (strs (l.take k)) rfl TN.out (strs_one _) (by rw [strs_len,List.length_take]; simp only [List.length_nil]; unfold maxLen; omega) (by rw [strs_len,List.length_take]; simp only [List.length_nil]; omega) (by simp) ?_; intro v1 w1 O1 hb1)
       | (at_builtin; refine wp_app0 _ rfl (.tmp 39) (.tmp 41) 33 rfl wr.heap.size 9 i0 _ 16 Tryz.underlying33 hi hz0 hz1 hz2 rfl _ _ rfl (O1.alloc _) _ [.string ⟨s.toArray⟩] rfl (.inr ⟨_,1,rfl,cell_one_new _ _ _⟩) (by intro u hu; simp at hu; subst hu; rfl) (by rw [List.nil_append,strs_len,List.length_take,List.length_singleton]; unfold maxLen; omega) (by rw [List.nil_append,strs_len,List.length_take,List.length_singleton]; omega) (Nat.le_trans (Nat.le_trans (by simp) hb1.size) (by simp)) ?_; intro v2 w2 O2 hb2; have HB2:=hid (HB1.out.trans (hb1.trans (((Below.refl wr.heap.size w1).alloc (Nat.le_trans (by simp) hb1.size) (.cells #[.string ⟨s.toArray⟩] 9)).trans hb2))))
       | (at_builtin; refine wp_app0 _ rfl (.tmp 43) (.tmp 46) 33 rfl wr.heap.size 9 i0 _ 16 Tryz.underlying33 hi hz0 hz1 hz2 rfl _ _ rfl O2 _ (strs (l.drop k)) rfl (.inr ⟨⟨g,k,none⟩,cap - k,by rw [strs_len,List.length_drop,← HN.out]; rfl,fun j u hj=>by rw [add_g]; exact cell_below HB2.out hg (HAT.out (k+j) u (str_drop hj))⟩) (strs_one _) (by have hnl:=HN.out; rw [strs_len,List.length_drop,List.nil_append,List.length_append,strs_len,List.length_take,List.length_singleton]; unfold maxLen; omega) (by have hnl:=HN.out; rw [strs_len,List.length_drop,List.nil_append,List.length_append,strs_len,List.length_take,List.length_singleton]; omega) HB2.out.size ?_; intro v3 w3 O3 hb3))
      have HR2:=hid (And.intro (own_up O3 hB) (HB2.out.trans hb3));clear O1 O2 O3 OE hb1 hb2 hb3;go_ret;refine ⟨_,rfl,?_,HR2.out.2⟩
      rw [hR.out];have h9:=HR2.out.1
      simpa [strs] using h9
    ·have hi2:=hid (RS.out hle);clear RS RH RP;go_wp2;go_roundw
     case rel=>exact ⟨k+1,by omega,by go_num,(by first | rfl | trivial),hi2.out⟩
     case measure=>simp [intOf]; omega
   ·have hlt':¬ ((k:Int) < n):=by omega
    obtain rfl:k=n:=by omega
    have hR:=hid (show riseV l s=l.take k++[s]++l.drop k from by
     have hk2:k=l.length:=HN.out
     have:=rise_end (l:=l) (s:=s) (by have h:=hinv.out; rw [hk2,List.take_length] at h; exact h)
     rw [this,hk2,List.take_length,List.drop_length,List.append_nil])
    clear hinv
    have TN:Hid (((.slice (some ⟨g,0,none⟩) k cap:Value)=.slice none 0 0∧strs (l.take k)=[])∨∃ ad c,(.slice (some ⟨g,0,none⟩) k cap:Value)=.slice (some ad) (strs (l.take k)).length c∧∀ (j:Nat) (u:Value),(strs (l.take k))[j]? = some u → (wr.alloc (.cells #[] 9)).cell? (ad.add j)=some u):=.inr ⟨⟨g,0,none⟩,cap,by rw [strs_len,List.length_take,Nat.min_eq_left (by have:=HN.out; omega)],fun j u hj=>by
     have:=HAT.out j u (str_take hj)
     rw [show (⟨g,0,none⟩:Addr).add j=⟨g,j,none⟩ by unfold Addr.add; split <;> simp_all,World.cell?_alloc_lt _ _ ⟨g,j,none⟩ hg]; exact this⟩
    by_cases hck:cap=k
    ·subst hck
     go_wp2_with (first
      | (at_builtin; refine wp_app0 _ rfl (.tmp 34) (.tmp 37) 33 rfl wr.heap.size 9 i0 _ 16 Tryz.underlying33 hi hz0 hz1 hz2 rfl _ [] rfl OE _ (strs (l.take cap)) rfl TN.out (strs_one _) (by rw [strs_len,List.length_take]; simp only [List.length_nil]; unfold maxLen; omega) (by rw [strs_len,List.length_take]; simp only [List.length_nil]; omega) (by simp) ?_; intro v1 w1 O1 hb1)
      | (at_builtin; refine wp_app0 _ rfl (.tmp 39) (.tmp 41) 33 rfl wr.heap.size 9 i0 _ 16 Tryz.underlying33 hi hz0 hz1 hz2 rfl _ _ rfl (O1.alloc _) _ [.string ⟨s.toArray⟩] rfl (.inr ⟨_,1,rfl,cell_one_new _ _ _⟩) (by intro u hu; simp at hu; subst hu; rfl) (by rw [List.nil_append,strs_len,List.length_take,List.length_singleton]; unfold maxLen; omega) (by rw [List.nil_append,strs_len,List.length_take,List.length_singleton]; omega) (Nat.le_trans (Nat.le_trans (by simp) hb1.size) (by simp)) ?_; intro v2 w2 O2 hb2; have HB2:=hid (HB1.out.trans (hb1.trans (((Below.refl wr.heap.size w1).alloc (Nat.le_trans (by simp) hb1.size) (.cells #[.string ⟨s.toArray⟩] 9)).trans hb2))))
      | (at_builtin; refine wp_app0 _ rfl (.tmp 43) (.tmp 46) 33 rfl wr.heap.size 9 i0 _ 16 Tryz.underlying33 hi hz0 hz1 hz2 rfl _ _ rfl O2 _ (strs (l.drop cap)) rfl (.inr ⟨_,_,by rw [List.drop_eq_nil_of_le (by have:=HN.out; omega)]; simp [strs]; rfl,fun j u hj=>by rw [List.drop_eq_nil_of_le (by have:=HN.out; omega)] at hj; simp [strs] at hj⟩) (strs_one _) (by have hnl:=HN.out; rw [strs_len,List.length_drop,List.nil_append,List.length_append,strs_len,List.length_take,List.length_singleton]; unfold maxLen; omega) (by have hnl:=HN.out; rw [strs_len,List.length_drop,List.nil_append,List.length_append,strs_len,List.length_take,List.length_singleton]; omega) HB2.out.size ?_; intro v3 w3 O3 hb3))
     have HR2:=hid (And.intro (own_up O3 hB) (HB2.out.trans hb3));clear O1 O2 O3 OE hb1 hb2 hb3;go_ret;refine ⟨_,rfl,?_,HR2.out.2⟩
     rw [hR.out];have h9:=HR2.out.1
     simpa [strs] using h9
    ·go_wp2_with (first
      | (at_builtin; refine wp_app0 _ rfl (.tmp 34) (.tmp 37) 33 rfl wr.heap.size 9 i0 _ 16 Tryz.underlying33 hi hz0 hz1 hz2 rfl _ [] rfl OE _ (strs (l.take k)) rfl TN.out (strs_one _) (by rw [strs_len,List.length_take]; simp only [List.length_nil]; unfold maxLen; omega) (by rw [strs_len,List.length_take]; simp only [List.length_nil]; omega) (by simp) ?_; intro v1 w1 O1 hb1)
      | (at_builtin; refine wp_app0 _ rfl (.tmp 39) (.tmp 41) 33 rfl wr.heap.size 9 i0 _ 16 Tryz.underlying33 hi hz0 hz1 hz2 rfl _ _ rfl (O1.alloc _) _ [.string ⟨s.toArray⟩] rfl (.inr ⟨_,1,rfl,cell_one_new _ _ _⟩) (by intro u hu; simp at hu; subst hu; rfl) (by rw [List.nil_append,strs_len,List.length_take,List.length_singleton]; unfold maxLen; omega) (by rw [List.nil_append,strs_len,List.length_take,List.length_singleton]; omega) (Nat.le_trans (Nat.le_trans (by simp) hb1.size) (by simp)) ?_; intro v2 w2 O2 hb2; have HB2:=hid (HB1.out.trans (hb1.trans (((Below.refl wr.heap.size w1).alloc (Nat.le_trans (by simp) hb1.size) (.cells #[.string ⟨s.toArray⟩] 9)).trans hb2))))
      | (at_builtin; refine wp_app0 _ rfl (.tmp 43) (.tmp 46) 33 rfl wr.heap.size 9 i0 _ 16 Tryz.underlying33 hi hz0 hz1 hz2 rfl _ _ rfl O2 _ (strs (l.drop k)) rfl (.inr ⟨_,_,by rw [List.drop_eq_nil_of_le (by have:=HN.out; omega)]; simp [strs]; rfl,fun j u hj=>by rw [List.drop_eq_nil_of_le (by have:=HN.out; omega)] at hj; simp [strs] at hj⟩) (strs_one _) (by have hnl:=HN.out; rw [strs_len,List.length_drop,List.nil_append,List.length_append,strs_len,List.length_take,List.length_singleton]; unfold maxLen; omega) (by have hnl:=HN.out; rw [strs_len,List.length_drop,List.nil_append,List.length_append,strs_len,List.length_take,List.length_singleton]; omega) HB2.out.size ?_; intro v3 w3 O3 hb3))
     have HR2:=hid (And.intro (own_up O3 hB) (HB2.out.trans hb3));clear O1 O2 O3 OE hb1 hb2 hb3;go_ret;refine ⟨_,rfl,?_,HR2.out.2⟩
     rw [hR.out];have h9:=HR2.out.1
     simpa [strs] using h9
def overC (now:Int) (c:PbC):Bool:=decide (c.p.til≤now)
def leftP (cs:List PbC) (now:Int):List PbC:=cs.filter fun c=>!overC now c
def goneP (cs:List PbC) (now:Int):List (List UInt8):=((cs.filter (overC now)).map fun c=>c.p.who).foldl riseV []
theorem left_is (cs:List PbC) (now:Int):pbsL (leftP cs now)=(pbsL cs).filter fun p=>!overP now p:=by
 unfold pbsL leftP;rw [List.filter_map]; rfl
theorem gone_is (cs:List PbC) (now:Int):goneP cs now=(((pbsL cs).filter (overP now)).map Pb.who).foldl riseV []:=by
 unfold goneP pbsL;rw [List.filter_map,List.map_map]; rfl
theorem left_stp {cs:List PbC} {now:Int} {k:Nat} (hk:k < cs.length):leftP (cs.take (k+1)) now=leftP (cs.take k) now++(if overC now cs[k]=true then [] else [cs[k]]):=by
 rw [List.take_succ_eq_append_getElem hk];unfold leftP;rw [List.filter_append]
 cases h:overC now cs[k] <;> simp [h]
theorem gone_stp {cs:List PbC} {now:Int} {k:Nat} (hk:k < cs.length):goneP (cs.take (k+1)) now=if overC now cs[k]=true then riseV (goneP (cs.take k) now) cs[k].p.who else goneP (cs.take k) now:=by
 rw [List.take_succ_eq_append_getElem hk];unfold goneP;rw [List.filter_append,List.map_append,List.foldl_append]
 cases h:overC now cs[k] <;> simp [h]
theorem left_ln (cs:List PbC) (now:Int) (k:Nat):(leftP (cs.take k) now).length≤k:=by
 unfold leftP;exact Nat.le_trans (List.length_filter_le _ _) (by rw [List.length_take]; omega)
theorem fold_ln (xs:List (List UInt8)) (l:List (List UInt8)):(xs.foldl riseV l).length≤l.length+xs.length:=by
 induction xs generalizing l with
 | nil=>simp
 | cons x xs ih =>
  have:=ih (riseV l x)
  have h1:=rise_len l x;simp only [List.foldl_cons,List.length_cons]; omega
theorem gone_ln (cs:List PbC) (now:Int) (k:Nat):(goneP (cs.take k) now).length≤k:=by
 unfold goneP
 have:=fold_ln (((cs.take k).filter (overC now)).map fun c=>c.p.who) []
 rw [List.length_map] at this;have h2:=List.length_filter_le (overC now) (cs.take k);rw [List.length_take] at h2;simp only [List.length_nil] at this;omega
structure MadeP (W:World) (wr:World) (l:List PbC) (g:List (List UInt8)) (va vg:Value):Prop where
 a:OwnPb wr W.heap.size va l
 b:Own wr W.heap.size 9 vg (strs g)
 c:Below W.heap.size W wr
theorem MadeP.addP {W wr w':World} {l l':List PbC} {g:List (List UInt8)} {va vg v':Value} {o:Obj} (h:MadeP W wr l g va vg) (h':OwnPb w' W.heap.size v' l') (hgr:(wr.alloc o).grownBy w' va.ownBlock):MadeP W w' l' g v' vg:=by
 have hs:=h.c.size;have a1:=h.a.alloc o;have b1:=h.b.alloc o;refine ⟨h',?_,(h.c.alloc hs o).grown hgr (Nat.le_trans hs (by simp)) fun k hk=>(World.ownsRow.lt h.a k hk).1⟩
 exact World.ownsRow.kept b1 hgr (ow_rows_ne a1 b1 strNe)
theorem MadeP.addS {W wr w':World} {l:List PbC} {g g':List (List UInt8)} {va vg v':Value} (h:MadeP W wr l g va vg) (h':Own w' W.heap.size 9 v' (strs g')) (hb:Below wr.heap.size wr w'):MadeP W w' l g' va v' :=
 ⟨h.a.below hb,h',h.c.trans (hb.mono h.c.size)⟩
set_option maxHeartbeats 4000000 in
set_option maxRecDepth 100000 in
theorem rexpire16_any {w:World} {v:Value} {s:Sto} {cs:List PbC} (h:PbsAt w v cs) (hd:DocsAt w cs) (now:Int) (hn:cs.length≤100000) :
  Calls Tryz.prog 14 #[stoV s v,.int .i64 now] w fun e w'=>∃ v1 v2,e=.returned (.tuple #[stoV s v1,v2])∧OwnPb w' w.heap.size v1 (leftP cs now)∧Own w' w.heap.size 9 v2 (strs (goneP cs now))∧Below w.heap.size w w':=by
 obtain ⟨i0,hi,hz0,hz1,hz2⟩:=info_parts infoPub;obtain ⟨oa,cap,rfl,hcp,hat⟩:=h;have HO:=hid hat;have HD:=hid hd.one;obtain ⟨n,hnn⟩:∃ n,n=cs.length:=⟨_,rfl⟩
 have hb1:Below w.heap.size w (w.alloc (objS s (.slice oa cs.length cap))):=(Below.refl _ w).alloc (Nat.le_refl _) _;have hl1:=alloc_lt w (objS s (.slice oa cs.length cap));have hbx:=boxS_new w s (.slice oa cs.length cap);rw [← hnn] at hn hb1 hl1 hbx ⊢;have HN:=hid hnn;clear hat hnn hcp hd;generalize hw1:w.alloc (objS s (.slice oa n cap))=w1 at hb1 hbx hl1;obtain ⟨objZ,hZ⟩:∃ o,o=Obj.cells #[.string ⟨#[]⟩,.int .i64 0,.int .i64 0,.int .i64 0,.int .i64 0,.int .i64 0,.int .i64 0,.int .i64 0,.slice none 0 0] 31:=⟨_,rfl⟩
 have hr0:RowIs (w1.alloc objZ) w1.heap.size 31 [.string ⟨#[]⟩,.int .i64 0,.int .i64 0,.int .i64 0,.int .i64 0,.int .i64 0,.int .i64 0,.int .i64 0,.slice none 0 0]:=by rw [hZ]; exact rc_row9 w1 _ _ _ _ _ _ _ _ _ _
 have hb2:Below w1.heap.size w1 (w1.alloc objZ):=(Below.refl _ w1).alloc (Nat.le_refl _) _;have hl2:=alloc_lt w1 objZ;have hx1:=hbx.below hb2 hl1;have hbW:=hb1.trans (hb2.mono hb1.size);unfold objS at hw1
 go_enter Tryz.func14,Tryz.ntmps14
 unfold stoV;go_wp2;rw [← hZ];clear hZ;generalize hW:w1.alloc objZ=W at hr0 hb2 hl2 hx1 hbW ⊢
 go_loopw [8,6,7] (fun i va vg wr=>∃ k:Nat,k≤n∧i=.int .i64 k∧Hid (MadeP W wr (leftP (cs.take k) now) (goneP (cs.take k) now) va vg)) (fun i _ _ _=>n - (intOf i).toNat)
 case atStart=>exact ⟨0,by omega,rfl,⟨OwnPb.nil _ _,Own.nil _ _ _,Below.refl _ _⟩⟩
 case round =>
  obtain ⟨k,hk,rfl,hM⟩:=hrel;have hbr:=hM.out.c;have hxr:=hx1.below hbr (Nat.lt_trans hl1 hl2);obtain ⟨⟨x0,x1,x2,x3,x4,x5,x6⟩,x7,x8⟩:=hxr;obtain ⟨ga,ka,hga⟩:=hM.out.a.form;obtain ⟨gb,kb,hgb⟩:=hM.out.b.form;have hL:=left_ln cs now k;have hG:=gone_ln cs now k;rw [strs_len] at hgb;by_cases hlt:k < n
  ·have hlt':(k:Int) < n:=by omega
   have hkl:k < cs.length:=by rw [← HN.out]; exact hlt
   obtain ⟨ad,rfl,hab,cel⟩:=HO.out k hkl;have cel:=cel.below (hbW.trans (hbr.mono hbW.size)) hab;have ONE:=hid (HD.out _ (List.getElem_mem hkl));have S1:=hid (left_stp (now:=now) hkl);have S2:=hid (gone_stp (now:=now) hkl);clear HO HD hr0 hx1 hbx hb1 hb2;generalize cs[k]=c at cel S1 S2 ONE;obtain ⟨c0,c1,c2,c3,c4,c5,c6⟩:=cel.seven;clear cel;generalize leftP (cs.take k) now=L0 at *;generalize goneP (cs.take k) now=G0 at *;subst hga; subst hgb
   by_cases hov:c.p.til≤now
   ·have T1:=hid (show leftP (cs.take (k+1)) now=L0 from by have h:=S1.out; rw [show overC now c=true from decide_eq_true hov] at h; simpa using h);have T2:=hid (show goneP (cs.take (k+1)) now=riseV G0 c.p.who from by have h:=S2.out; rw [show overC now c=true from decide_eq_true hov] at h; simpa using h);have hovd:decide (c.p.til≤now)=true:=decide_eq_true hov;clear S1 S2 hov;go_wp2_with fail
    refine (rrising_any hM.out.b hbr.size (by omega)).mono ?_
    rintro e w4 ⟨v4,rfl,hown4,hb4⟩;have M4:=hid (hM.out.addS hown4 hb4);clear hown4 hb4 x0 x1 x2 x3 x4 x5 x6 x7 x8 c0 c1 c2 c3 c4 c5 c6;go_wp2;go_roundw
    case rel=>exact ⟨k+1,by omega,by go_num,by rw [T1.out,T2.out]; exact M4.out⟩
    case measure=>simp [intOf]; omega
   ·have T1:=hid (show leftP (cs.take (k+1)) now=L0++[c] from by have h:=S1.out; rw [show overC now c=false from decide_eq_false hov] at h; simpa using h);have T2:=hid (show goneP (cs.take (k+1)) now=G0 from by have h:=S2.out; rw [show overC now c=false from decide_eq_false hov] at h; simpa using h);have hovd:decide (c.p.til≤now)=false:=decide_eq_false hov;clear S1 S2 hov;go_wp2_with (at_builtin; refine wp_appPg _ rfl (.tmp 32) (.tmp 38) 29 rfl W.heap.size i0 _ Tryz.underlying29 hi hz0 hz1 hz2 rfl _ L0 rfl (hM.out.a.alloc _) ⟨_,0,none⟩ 1 [c] 1 rfl (fun d hd=>by simp at hd; subst hd; exact ONE.out) rfl (pb_new1 _ c) (by omega) (by simp) (Nat.le_trans hbr.size (by simp)) ?_; intro v4 w4 hown4 hgr4; have M4:=hid (hM.out.addP hown4 hgr4); clear hown4 hgr4)
    go_roundw
    case rel=>exact ⟨k+1,by omega,by go_num,by rw [T1.out,T2.out]; exact M4.out⟩
    case measure=>simp [intOf]; omega
  ·have hlt':¬ ((k:Int) < n):=by omega
   have hkl:k=cs.length:=by have:=HN.out; omega
   rw [hkl,List.take_length] at hga hgb hM;have hr9:=hr0.below hbr hl2;obtain ⟨y0,y1,y2,y3,y4,y5,y6,y7,y8,f0,f1,f2,f3,f4,f5,f6,f7,f8⟩:=hr9.rc9;have hb9:=hbW.trans (hbr.mono hbW.size)
   have HA:Hid (RowIs _ w1.heap.size 31 [.string ⟨s.c.host.toArray⟩,.int .i64 s.c.calls,.int .i64 s.c.pubs,.int .i64 s.c.subs,.int .i64 s.c.least,.int .i64 s.c.most,.int .i64 s.c.usual,.int .i64 s.last,u6]∧Below w.heap.size w _∧OwnPb _ w.heap.size u6 (leftP cs now)∧Own _ w.heap.size 9 u7 (strs (goneP cs now))) :=
    ⟨rc_store9 hr9 (.string ⟨s.c.host.toArray⟩) (.int .i64 s.c.calls) (.int .i64 s.c.pubs) (.int .i64 s.c.subs) (.int .i64 s.c.least) (.int .i64 s.c.most) (.int .i64 s.c.usual) (.int .i64 s.last) u6,rc_below9 hb9 w1.heap.size (Nat.le_of_lt hl1) (.string ⟨s.c.host.toArray⟩) (.int .i64 s.c.calls) (.int .i64 s.c.pubs) (.int .i64 s.c.subs) (.int .i64 s.c.least) (.int .i64 s.c.most) (.int .i64 s.c.usual) (.int .i64 s.last) u6,sv_mono (own_set9 hM.out.a hl2 (.string ⟨s.c.host.toArray⟩) (.int .i64 s.c.calls) (.int .i64 s.c.pubs) (.int .i64 s.c.subs) (.int .i64 s.c.least) (.int .i64 s.c.most) (.int .i64 s.c.usual) (.int .i64 s.last) u6) hbW.size,sv_mono (own_set9 hM.out.b hl2 (.string ⟨s.c.host.toArray⟩) (.int .i64 s.c.calls) (.int .i64 s.c.pubs) (.int .i64 s.c.subs) (.int .i64 s.c.least) (.int .i64 s.c.most) (.int .i64 s.c.usual) (.int .i64 s.last) u6) hbW.size⟩
   clear hM hr9 hb9 hbr hr0 hx1 hbx hb2 hb1;subst hga; subst hgb
   go_wp2;generalize World.setCell _ _ _=wA at HA ⊢;obtain ⟨hrA,hbA,hoA,hiA⟩:=HA.out;obtain ⟨d0,d1,d2,d3,d4,d5,d6,d7,d8,_,_,_,_,_,_,_,_,_⟩:=hrA.rc9
   try simp only [Exit.inBlock,Exit.then]
   refine bodyPost_ret (v:=.tuple #[.agg #[.string ⟨s.c.host.toArray⟩,.int .i64 s.c.calls,.int .i64 s.c.pubs,.int .i64 s.c.subs,.int .i64 s.c.least,.int .i64 s.c.most,.int .i64 s.c.usual,.int .i64 s.last,.slice ga (leftP cs now).length ka],.slice gb (goneP cs now).length kb]) (by simp [results,Tryz.results14,go_sem,d0,d1,d2,d3,d4,d5,d6,d7,d8]; try rfl) rfl ?_
   exact ⟨_,_,rfl,hoA,hiA,hbA⟩
end Go.Proofs.YteicmbhilambpaaGreatDoor
namespace Go.Proofs.YteicmbhilambpaaGreatDoor
open Go.RowKit Go.Maps Go.WideMaps Sc
set_option maxHeartbeats 1000000 in
set_option maxRecDepth 100000 in
theorem pnew_bad (w:World) (c:Cf) (hr:rightC c=false) :
  Calls Tryz.prog 30 #[cfV c] w fun e w'=>e=.returned (.tuple #[.pointer none,.int .i64 1])∧Below w.heap.size w w':=by
 have KR:=hid (fun (u:World)=>pright_any c u);rw [hr] at KR;clear hr;have r1:=rp_row7 w (.string ⟨c.host.toArray⟩) (.int .i64 c.calls) (.int .i64 c.pubs) (.int .i64 c.subs) (.int .i64 c.least) (.int .i64 c.most) (.int .i64 c.usual) 23;have b1:Below w.heap.size w (w.alloc (.cells #[.string ⟨c.host.toArray⟩,.int .i64 c.calls,.int .i64 c.pubs,.int .i64 c.subs,.int .i64 c.least,.int .i64 c.most,.int .i64 c.usual] 23)):=(Below.refl _ w).alloc (Nat.le_refl _) _;unfold cfV at KR ⊢
 go_enter Tryz.func30,Tryz.ntmps30
 go_upto_region 1 with fail
 generalize World.alloc _ _=w1 at r1 b1 ⊢;obtain ⟨x0,x1,x2,x3,x4,x5,x6,_,_,_,_,_,_,_⟩:=r1.rp7;go_wp2_with fail
 refine (KR.out _).mono ?_
 rintro e w2 ⟨rfl,hb2⟩;have b2:=b1.trans (hb2.mono b1.size);go_wp2;go_ret2;exact ⟨rfl,b2⟩
set_option maxHeartbeats 1000000 in
set_option maxRecDepth 100000 in
theorem begun16_bad (w:World) (c:Cf) (hr:rightC c=false) :
  Calls Tryz.prog 9 #[cfV c] w fun e w'=>e=.returned (.pointer none)∧Below w.heap.size w w':=by
 have KN:=hid (fun (u:World)=>pnew_bad u c hr);have r1:=rp_row7 w (.string ⟨c.host.toArray⟩) (.int .i64 c.calls) (.int .i64 c.pubs) (.int .i64 c.subs) (.int .i64 c.least) (.int .i64 c.most) (.int .i64 c.usual) 23;have b1:Below w.heap.size w (w.alloc (.cells #[.string ⟨c.host.toArray⟩,.int .i64 c.calls,.int .i64 c.pubs,.int .i64 c.subs,.int .i64 c.least,.int .i64 c.most,.int .i64 c.usual] 23)):=(Below.refl _ w).alloc (Nat.le_refl _) _;unfold cfV at KN ⊢
 go_enter Tryz.func9,Tryz.ntmps9
 go_upto_region 1 with fail
 generalize World.alloc _ _=w1 at r1 b1 ⊢;obtain ⟨x0,x1,x2,x3,x4,x5,x6,_,_,_,_,_,_,_⟩:=r1.rp7;go_wp2_with fail
 refine (KN.out _).mono ?_
 rintro e w2 ⟨rfl,hb2⟩;go_wp2;go_ret;exact ⟨rfl,b1.trans (hb2.mono b1.size)⟩
end Go.Proofs.YteicmbhilambpaaGreatDoor
namespace Go.Proofs.YteicmbhilambpaaGreatDoor
open Go.RowKit Go.ChangeShapes Go.WideShapes Go.Deep
section
variable {H : Type} {enc : TypeId × Value → H} {W : World} {sp : Nat → Bool}
def CfIn (B:Nat) (W:World) (v:Value):Prop:=∃ c:Cf,v=cfV c∧c.host.length≤B∧(Lit.int .i64 c.calls).wf=true∧(Lit.int .i64 c.pubs).wf=true∧(Lit.int .i64 c.subs).wf=true∧(Lit.int .i64 c.least).wf=true∧(Lit.int .i64 c.most).wf=true∧(Lit.int .i64 c.usual).wf=true
theorem pcfg_said {B:Nat} {r:Reach} {b0:Nat} {v:Value} {d:DataW H} {p:List MemPlace} (hv:Value.okWide Tryz.prog W r b0 23 v) (h:DataW.Trod enc Tryz.prog W 0 sp true 23 v d p)
  (hz:∀ n ∈ d.weights Tryz.prog 23,n≤B):CfIn B W v:=by
 obtain ⟨cs,rfl,hsz⟩:=okWide_struct Tryz.underlying23 hv;obtain ⟨fuel,hf0⟩:=h;obtain ⟨xs,n,_,hx,hl,hlen,hf⟩:=DataW.trod_struct Tryz.underlying23 hf0;obtain ⟨l⟩:=cs;simp only [Value.cells] at hl hf;rw [show Tryz.prog.cellsOf 23=7 from by kernel_rfl] at hl
 match l,hl,xs,hlen with
 | [c0,c1,c2,c3,c4,c5,c6],_,[y0,y1,y2,y3,y4,y5,y6],_ =>
  have f0:=hf 0 _ rfl;have f1:=hf 1 _ rfl;have f2:=hf 2 _ rfl;have f3:=hf 3 _ rfl;have f4:=hf 4 _ rfl;have f5:=hf 5 _ rfl;have f6:=hf 6 _ rfl
  simp [cellsStr,cellsInt] at f0 f1 f2 f3 f4 f5 f6
  obtain ⟨s0,e0,rfl,_⟩:=DataW.trod_string Tryz.underlying9 f0;obtain ⟨i1,e1,rfl,w1⟩:=DataW.trod_int Tryz.underlying3 f1;obtain ⟨i2,e2,rfl,w2⟩:=DataW.trod_int Tryz.underlying3 f2;obtain ⟨i3,e3,rfl,w3⟩:=DataW.trod_int Tryz.underlying3 f3;obtain ⟨i4,e4,rfl,w4⟩:=DataW.trod_int Tryz.underlying3 f4;obtain ⟨i5,e5,rfl,w5⟩:=DataW.trod_int Tryz.underlying3 f5;obtain ⟨i6,e6,rfl,w6⟩:=DataW.trod_int Tryz.underlying3 f6;simp only [List.cons.injEq,and_true] at e0 e1 e2 e3 e4 e5 e6;subst e0 e1 e2 e3 e4 e5 e6;have hd:d=_:=congrArg Prod.fst hx;subst hd;simp only [DataW.weights,Tryz.underlying23,List.map_cons,List.map_nil,DataW.weightsEach] at hz;exact ⟨⟨s0.data.toList,i1,i2,i3,i4,i5,i6⟩,by simp [cfV],hz _ (by simp),w1,w2,w3,w4,w5,w6⟩
end
end Go.Proofs.YteicmbhilambpaaGreatDoor
namespace Go.Proofs.YteicmbhilambpaaGreatDoor
open Go.RowKit Go.Maps Go.WideMaps Sc
section
variable {w wr w' : World} {bt br : Nat} {S S' : Sto} {v v' : Value} {cs cs' : List PbC} {l l' : List (Nat × TypeId × List Value)}
theorem Bag.sub (h:Bag w wr bt S v cs l) (hs:∀ x ∈ l',x ∈ l):Bag w wr bt S v cs l':=⟨h.tab,fun x hx=>h.rows x (hs x hx),h.bel,h.own⟩
theorem Bag.reown (h:Bag w wr bt S v cs l) (ho:OwnPb wr w.heap.size v' cs'):Bag w wr bt S v' cs' l:=⟨h.tab,h.rows,h.bel,ho⟩
theorem Bag.put9 {us:List Value} (h:Bag w wr bt S v cs ((br,31,us) :: l)) (hne:∀ x ∈ l,x.1 ≠ br) (hge:w.heap.size≤br) (hl:us.length=9) (v0 v1 v2 v3 v4 v5 v6 v7 v8:Value) :
  Bag w (((((((((wr.setCell ⟨br,0,none⟩ v0).setCell ⟨br,1,none⟩ v1).setCell ⟨br,2,none⟩ v2).setCell ⟨br,3,none⟩ v3).setCell ⟨br,4,none⟩ v4).setCell ⟨br,5,none⟩ v5).setCell ⟨br,6,none⟩ v6).setCell ⟨br,7,none⟩ v7).setCell ⟨br,8,none⟩ v8) bt S v cs ((br,31,[v0,v1,v2,v3,v4,v5,v6,v7,v8]) :: l):=by
 have hch:=chg9 wr br v0 v1 v2 v3 v4 v5 v6 v7 v8;have hr:RowIs wr br 31 us:=h.r0
 match us,hl with
 | [u0,u1,u2,u3,u4,u5,u6,u7,u8],_ =>
  refine ⟨h.tab.putS hr hch,fun x hx=>?_,h.bel.trans (hch.below h.bel.size fun k e=>by subst e; exact hge),own_chgP h.own hch hr (by decide)⟩
  rcases List.mem_cons.1 hx with rfl | hx
  ·exact ⟨rc_store9 hr _ _ _ _ _ _ _ _ _,tySto⟩
  ·obtain ⟨h1,h2⟩:=h.rows x (List.mem_cons_of_mem _ hx);exact ⟨h1.chg hch (hne x hx),h2⟩
theorem rexp_got (h:Bag w wr bt S v cs l) (hd:DocsAt wr cs) (hs:S'.l=pbsL cs) (hn:cs.length≤200) (now:Int) :
  Calls Tryz.prog 14 #[stoV S' v,.int .i64 now] wr fun e w'=>∃ v1 v2,e=.returned (.tuple #[stoV S' v1,v2])∧OwnPb w' w.heap.size v1 (leftP cs now)∧Own w' w.heap.size 9 v2 (strs (expS S' now).2)∧Below wr.heap.size wr w'∧(expS S' now).1.l=pbsL (leftP cs now):=by
 refine (rexpire16_any (s:=S') h.own.pbsAt hd now (by omega)).mono ?_
 rintro e w' ⟨v1,v2,rfl,ho,hg,hb⟩;refine ⟨v1,v2,rfl,ownPb_mono ho h.bel.size,?_,hb,?_⟩
 ·have:=own_lower hg h.bel.size
  rw [gone_is] at this;unfold expS;rw [hs];exact this
 ·rw [left_is,← hs]
  rfl
theorem exp_got (h:Bag w wr bt S v cs l) (now:Int) :
  Calls Tryz.prog 16 #[.pointer (some ⟨bt,0,none⟩),.int .i64 now] wr fun e w'=>∃ v2,e=.returned v2∧StrsAt w' v2 (expS S now).2∧Bag w w' bt (expS S now).1 v cs l∧FrP w.heap.size wr w':=by
 refine (pexp_any h.tab (now:=now)).mono ?_
 rintro e w' ⟨v2,rfl,ho,hT,hF⟩;exact ⟨v2,rfl,own_strsAtO ho,h.call hT hF,hF⟩
theorem rdo_got (h:Bag w wr bt S v cs l) (hd:DocsAt wr cs) (hs:S'.l=pbsL cs) (hn:cs.length≤200) (hr:rightC S'.c=true) (hl0:0≤S'.last) (hl9:S'.last≤1000000000) (now:Int) (a:Pa) (ts ns:Value) (htg:a.tag.length≤140737488355328) (ht:TusAt wr ts a.doc.tuples∧StrsAt wr ns a.doc.notes) (hsm:SmallD 140737488355328 a.doc) (hen:a.doc.entity.length+4≤1048576) :
  Calls Tryz.prog 17 #[stoV S' v,.int .i64 now,askV a ts ns] wr fun e w'=>∃ v' cs',e=.returned (.tuple #[stoV (doS S' now a).1 v',tdV (doS S' now a).2.1,.int .i64 (doS S' now a).2.2])∧OwnPb w' w.heap.size v' cs'∧(∀ W:World,DocsAt W cs → TusAt W ts a.doc.tuples∧StrsAt W ns a.doc.notes → DocsAt W cs')∧(doS S' now a).1.l=pbsL cs'∧Below wr.heap.size wr w':=by
 refine (rdo16_any (s:=S') h.own hd hs (by omega) hr hl0 hl9 now a ts ns htg (fun _=>ht) (fun _=>hsm) (fun _=>hen)).mono ?_
 rintro e w' ⟨v',cs',rfl,ho,hD,hS,hB⟩;refine ⟨v',cs',rfl,?_,fun W hW hT=>hD W hW fun _=>hT,hS,hB⟩
 rcases ho with ⟨rfl,rfl⟩ | ho
 ·exact h.own.below hB
 ·exact ownPb_mono ho h.bel.size
end
def acL (ex:Bool) (now:Int) (a:Pa) (ts ns:Value):List Value:=[.bool ex,.int .i64 now,.string ⟨a.who.toArray⟩,.string ⟨a.mt.toArray⟩,.int .i64 a.exp,.bool a.has,.string ⟨a.doc.entity.toArray⟩,ts,ns,.string ⟨a.tag.toArray⟩]
structure AcR (u:World) (b:Nat) (ex:Bool) (now:Int) (a:Pa) (ts ns:Value):Prop where
 c0:u.cell? ⟨b,0,none⟩=some (.bool ex)
 c1:u.cell? ⟨b,1,none⟩=some (.int .i64 now)
 c2:u.cell? ⟨b,2,none⟩=some (.string ⟨a.who.toArray⟩)
 c3:u.cell? ⟨b,3,none⟩=some (.string ⟨a.mt.toArray⟩)
 c4:u.cell? ⟨b,4,none⟩=some (.int .i64 a.exp)
 c5:u.cell? ⟨b,5,none⟩=some (.bool a.has)
 c6:u.cell? ⟨b,6,none⟩=some (.string ⟨a.doc.entity.toArray⟩)
 c7:u.cell? ⟨b,7,none⟩=some ts
 c8:u.cell? ⟨b,8,none⟩=some ns
 c9:u.cell? ⟨b,9,none⟩=some (.string ⟨a.tag.toArray⟩)
theorem acR_of {u:World} {b:Nat} {ex:Bool} {now:Int} {a:Pa} {ts ns:Value} (h:RowIs u b 39 (acL ex now a ts ns)):AcR u b ex now a ts ns :=
 ⟨h.cell 0 (by simp [acL]),h.cell 1 (by simp [acL]),h.cell 2 (by simp [acL]),h.cell 3 (by simp [acL]),h.cell 4 (by simp [acL]),h.cell 5 (by simp [acL]),h.cell 6 (by simp [acL]),h.cell 7 (by simp [acL]),h.cell 8 (by simp [acL]),h.cell 9 (by simp [acL])⟩
theorem tyAct:TyOk 39:=⟨by decide,by decide,by decide,by decide⟩
theorem tyCfg:TyOk 23:=⟨by decide,by decide,by decide,by decide⟩
section
variable {w wr w' : World} {bt br : Nat} {S S' : Sto} {v v' : Value} {cs cs' : List PbC} {l l' : List (Nat × TypeId × List Value)}
theorem Bag.up2 {x y z:Nat × TypeId × List Value} (h:Bag w wr bt S v cs (x :: y :: z :: l)):Bag w wr bt S v cs (z :: x :: y :: l):=h.sub fun q hq=>by
 rcases List.mem_cons.1 hq with rfl | hq
 ·exact .tail _ (.tail _ (.head _))
 ·rcases List.mem_cons.1 hq with rfl | hq
  ·exact .head _
  ·rcases List.mem_cons.1 hq with rfl | hq
   ·exact .tail _ (.head _)
   ·exact .tail _ (.tail _ (.tail _ hq))
theorem Bag.up3 {x y z t:Nat × TypeId × List Value} (h:Bag w wr bt S v cs (x :: y :: z :: t :: l)):Bag w wr bt S v cs (t :: x :: y :: z :: l):=h.sub fun q hq=>by
 rcases List.mem_cons.1 hq with rfl | hq
 ·exact .tail _ (.tail _ (.tail _ (.head _)))
 ·rcases List.mem_cons.1 hq with rfl | hq
  ·exact .head _
  ·rcases List.mem_cons.1 hq with rfl | hq
   ·exact .tail _ (.head _)
   ·rcases List.mem_cons.1 hq with rfl | hq
    ·exact .tail _ (.tail _ (.head _))
    ·exact .tail _ (.tail _ (.tail _ (.tail _ hq)))
end
end Go.Proofs.YteicmbhilambpaaGreatDoor
