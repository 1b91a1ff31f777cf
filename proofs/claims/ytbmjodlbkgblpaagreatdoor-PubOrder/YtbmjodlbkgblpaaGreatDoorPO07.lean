/-
  WQM, WQUp, WQDown, WQPush, WQPop, WQHeap, WQFix, WMap, WWhen, WStop.
-/
import Derived.Test.YtbmjodlbkgblpaaGreatDoorPO06
import Derived.Maps.OwnOps
import Derived.Maps.OwnSet
set_option linter.unusedVariables false
set_option linter.unusedSimpArgs false
set_option maxRecDepth 20000
namespace Go.Proofs.YtbmjodlbkgblpaaGreatDoor
open Go.RowKit
theorem par_int {k:Nat} (h:0 < k):((k:Int) - 1).tdiv 2=(par k:Nat):=by
 have:(k:Int) - 1=((k - 1:Nat):Int):=by omega
 rw [this];unfold par
 rfl
theorem HQ.at {bw m B:Nat} {v:Value} {w:World} {f:Nat → It} {n:Nat} (h:HQ bw m B v w f n):w.cell? ⟨bw,0,none⟩=some v:=h.wheel.cell 0 (by simp)
theorem Chg.no {S:Nat → Prop} {a b c:World} (h:Chg S a b) (k:Chg No b c):Chg S a c:=h.step k fun _ _ x=>x.elim
theorem Re.hs {n:Nat} {f g:Nat → It} {v:Value} (h:Re n f g) {k:Nat} (hk:HS v g n k):HS v f n k:=by
 rcases hk with hk | ⟨i,hi,he⟩
 ·exact .inl hk
 ·obtain ⟨a,ha,e⟩:=(h.mem (g i)).1 ⟨i,hi,rfl⟩;exact .inr ⟨a,ha,by rw [e]; exact he⟩
set_option maxHeartbeats 4000000 in
set_option maxRecDepth 100000 in
theorem up_any {bw m B:Nat} {v:Value} {w:World} {f:Nat → It} {N:Nat} (h:HQ bw m B v w f N) {j n:Nat} (hj:j < n) (hnN:n≤N) (hN:N≤1000000) :
  Calls Tryz.prog 154 #[hV bw,.int .i64 j] w fun e w'=>e=.returned (.tuple #[])∧∃ f',HQ bw m B v w' f' N∧Re n f f'∧(UpOK itLt f n j → Heap itLt f' n)∧Chg (HS v f N) w w':=by
 unfold hV;obtain ⟨ao,cap,rfl⟩:=h.form;have H0:=hid h;have HIN:=hid h.inj;clear h
 go_enter Tryz.func154,Tryz.ntmps154
 go_wp2
 go_loopw [1] (fun i wr=>∃ (k:Nat) (f':Nat → It),k < n∧i=.int .i64 k∧Hid (HQ bw m B (.slice ao N cap) wr f' N)∧Hid (Re n f f')∧Hid (UpOK itLt f n j → UpOK itLt f' n k)∧Hid (Chg (HS (.slice ao N cap) f N) w wr)) (fun i _=>(intOf i).toNat)
 case atStart=>exact ⟨j,f,hj,rfl,H0,Re.refl _ _,fun x=>x,Chg.refl _ _⟩
 case round =>
  obtain ⟨k,f',hk,rfl,hq,hre,hup,hch⟩:=hrel;by_cases hk0:k=0
  ·subst hk0;go_wp2
   go_end0
   exact ⟨rfl,f',hq.out,hre.out,fun x=>up_stop (hup.out x) (.inl rfl),hch.out⟩
  ·have hp:=par_int (k:=k) (by omega);have hpl:=par_lt (k:=k) (by omega);have hne:((par k:Int)==(k:Int))=false:=by rw [beq_eq_false_iff_ne]; omega
   have hM:=m_less hq.out.at;have KL:=hid (less_any hq.out (show k < N by omega) (show par k < N by omega));clear H0
   cases hl:itLt (f' k) (f' (par k)) with
   | false =>
    rw [hl] at KL;go_wp2_with (go_at_call 201; refine KL.out.mono ?_; rintro e w1 ⟨rfl,hq1,hc1⟩)
    go_end0
    exact ⟨rfl,f',hq1,hre.out,fun x=>up_stop (hup.out x) (.inr hl),hch.out.no hc1⟩
   | true =>
    rw [hl] at KL;have HL:=hid hl;clear hl
    go_wp2_with (first
     | (go_at_call 201; refine KL.out.mono ?_; rintro e w1 ⟨rfl,hq1,hc1⟩; have hM2:=m_swap hq1.at; have KS:=hid (swap_any hq1 (show par k < N by omega) (show k < N by omega)); replace hc1:=hid hc1; replace hq1:=hid hq1)
     | (go_at_call 202; refine KS.out.mono ?_; rintro e w2 ⟨rfl,hq2,hc2⟩))
    go_roundw
    case rel=>exact ⟨par k,swapF f' (par k) k,by omega,rfl,hq2,hre.out.trans (Re.swap f' (by omega) hk),fun x=>up_step it_ord (hup.out x) (by omega) hk HL.out,(hch.out.no hc1.out).step hc2 fun _ _ x=>(hre.out.more hnN HIN.out).hs x⟩
    case measure=>simp [intOf]; omega
def DownAt (f f':Nat → It) (n i0 k:Nat):Prop:=(k=i0∧f'=f)∨(i0 < k∧(FixOK itLt f n i0 → DownOK itLt f' n k))
def DownEnd (f f':Nat → It) (n i0:Nat) (b:Bool):Prop:=FixOK itLt f n i0 → (b=true → Heap itLt f' n)∧(b=false → f'=f∧UpOK itLt f n i0)
theorem DownAt.stop {f f':Nat → It} {n i0 k:Nat} (h:DownAt f f' n i0 k) (hs:∀ c,0 < c → c < n → par c=k → itLt (f' c) (f' k)=false):DownEnd f f' n i0 (decide (i0 < k)):=by
 intro hf
 rcases h with ⟨rfl,rfl⟩ | ⟨hk,hd⟩
 ·simp
  exact down_stop0 hf hs
 ·simp [hk]
  exact down_stop (hd hf) hs
theorem DownAt.next {f f':Nat → It} {n i0 k j:Nat} (h:DownAt f f' n i0 k) (hj:0 < j) (hn:j < n) (hp:par j=k) (hl:itLt (f' j) (f' k)=true) (hm:∀ c,0 < c → c < n → par c=k → itLt (f' c) (f' j)=false) :
  DownAt f (swapF f' k j) n i0 j:=by
 have hkj:k < j:=by have:=par_lt hj; omega
 rcases h with ⟨rfl,rfl⟩ | ⟨hk,hd⟩
 ·exact .inr ⟨hkj,fun hf=>down_step it_ord hf hj hn hp hl hm⟩
 ·exact .inr ⟨by omega,fun hf=>down_step it_ord (hd hf).fix hj hn hp hl hm⟩
theorem kid_r (k:Nat):par (2 * k+2)=k:=by unfold par; omega
theorem kid_l (k:Nat):par (2 * k+1)=k:=by unfold par; omega
set_option maxHeartbeats 8000000 in
set_option maxRecDepth 100000 in
theorem down_any {bw m B:Nat} {v:Value} {w:World} {f:Nat → It} {N:Nat} (h:HQ bw m B v w f N) {i0 n:Nat} (hi:i0≤n) (hnN:n≤N) (hN:N≤1000000) :
  Calls Tryz.prog 153 #[hV bw,.int .i64 i0,.int .i64 n] w fun e w'=>∃ b,e=.returned (.bool b)∧∃ f',HQ bw m B v w' f' N∧Re n f f'∧DownEnd f f' n i0 b∧Chg (HS v f N) w w':=by
 unfold hV;obtain ⟨ao,cap,rfl⟩:=h.form;have H0:=hid h;have HIN:=hid h.inj;clear h
 go_enter Tryz.func153,Tryz.ntmps153
 go_wp2
 go_loopw [7] (fun i wr=>∃ (k:Nat) (f':Nat → It),k≤n∧i0≤k∧i=.int .i64 k∧Hid (HQ bw m B (.slice ao N cap) wr f' N)∧Hid (Re n f f')∧Hid (DownAt f f' n i0 k)∧Hid (Chg (HS (.slice ao N cap) f N) w wr)) (fun i _=>n - (intOf i).toNat)
 case atStart=>exact ⟨i0,f,hi,by omega,rfl,H0,Re.refl _ _,.inl ⟨rfl,rfl⟩,Chg.refl _ _⟩
 case round =>
  obtain ⟨k,f',hk,hik,rfl,hq,hre,hda,hch⟩:=hrel;clear H0;by_cases hc:n≤2 * k+1
  ·have hci:(n:Int)≤2 * (k:Int)+1:=by omega
   go_wp2;go_ret;exact ⟨_,rfl,f',hq.out,hre.out,hda.out.stop (no_child hc),hch.out⟩
  ·have hci:¬ ((n:Int)≤2 * (k:Int)+1):=by omega
   have hneg:¬ (2 * (k:Int)+1 < 0):=by omega
   have hkN:k < N:=by omega
   have hlN:2 * k+1 < N:=by omega
   have hln:2 * k+1 < n:=by omega
   have hM:=m_less hq.out.at;have LE:=hid (fun (w':World) (hq':HQ bw m B (.slice ao N cap) w' f' N) (a b:Nat) (ha:a < N) (hb:b < N) (I J:Int) (hI:I=a) (hJ:J=b)=>by have k:=less_any hq' ha hb; rw [← hI,← hJ] at k; exact k);have SW:=hid (fun (w':World) (hq':HQ bw m B (.slice ao N cap) w' f' N) (a b:Nat) (ha:a < N) (hb:b < N) (I J:Int) (hI:I=a) (hJ:J=b)=>by have k:=swap_any hq' ha hb; rw [← hI,← hJ] at k; exact k);by_cases hr:2 * k+2 < n
   ·have hri:2 * (k:Int)+1+1 < n:=by omega
    cases hrl:itLt (f' (2 * k+2)) (f' (2 * k+1)) with
    | true =>
     have hmn:=hid (child_r (f:=f') (n:=n) it_ord hrl)
     cases hjk:itLt (f' (2 * k+2)) (f' k) with
     | false =>
      go_wp2_with (first
       | (go_at_call 201; refine (LE.out _ hq.out (2 * k+2) (2 * k+1) (by omega) (by omega) _ _ (by omega) (by omega)).mono ?_; rw [hrl]; rintro e w1 ⟨rfl,hq1,hc1⟩; have hM1:=m_less hq1.at; replace hq1:=hid hq1; replace hc1:=hid hc1)
       | (go_at_call 201; refine (LE.out _ hq1.out (2 * k+2) k (by omega) (by omega) _ _ (by omega) rfl).mono ?_; rw [hjk]; rintro e w2 ⟨rfl,hq2,hc2⟩; have hM2:=m_swap hq2.at; replace hq2:=hid hq2; replace hc2:=hid hc2))
      go_ret;exact ⟨_,rfl,f',hq2.out,hre.out,hda.out.stop (none_less it_ord hmn.out hjk),((hch.out.no hc1.out).no hc2.out)⟩
     | true =>
      go_wp2_with (first
       | (go_at_call 201; refine (LE.out _ hq.out (2 * k+2) (2 * k+1) (by omega) (by omega) _ _ (by omega) (by omega)).mono ?_; rw [hrl]; rintro e w1 ⟨rfl,hq1,hc1⟩; have hM1:=m_less hq1.at; replace hq1:=hid hq1; replace hc1:=hid hc1)
       | (go_at_call 201; refine (LE.out _ hq1.out (2 * k+2) k (by omega) (by omega) _ _ (by omega) rfl).mono ?_; rw [hjk]; rintro e w2 ⟨rfl,hq2,hc2⟩; have hM2:=m_swap hq2.at; replace hq2:=hid hq2; replace hc2:=hid hc2)
       | (go_at_call 202; refine (SW.out _ hq2.out k (2 * k+2) (by omega) (by omega) _ _ rfl (by omega)).mono ?_; rintro e w3 ⟨rfl,hq3,hc3⟩))
      go_roundw
      case rel=>exact ⟨2 * k+2,swapF f' k (2 * k+2),by omega,by omega,congrArg (Value.int .i64) (by omega),hq3,hre.out.trans (Re.swap f' (by omega) (by omega)),hda.out.next (by omega) (by omega) (kid_r k) hjk hmn.out,((hch.out.no hc1.out).no hc2.out).step hc3 fun _ _ x=>(hre.out.more hnN HIN.out).hs x⟩
      case measure=>simp [intOf]; omega
    | false =>
     have hmn:=hid (child_l (f:=f') (n:=n) it_ord hln (by rw [hrl]; simp))
     cases hjk:itLt (f' (2 * k+1)) (f' k) with
     | false =>
      go_wp2_with (first
       | (go_at_call 201; refine (LE.out _ hq.out (2 * k+2) (2 * k+1) (by omega) (by omega) _ _ (by omega) (by omega)).mono ?_; rw [hrl]; rintro e w1 ⟨rfl,hq1,hc1⟩; have hM1:=m_less hq1.at; replace hq1:=hid hq1; replace hc1:=hid hc1)
       | (go_at_call 201; refine (LE.out _ hq1.out (2 * k+1) k (by omega) (by omega) _ _ (by omega) rfl).mono ?_; rw [hjk]; rintro e w2 ⟨rfl,hq2,hc2⟩; have hM2:=m_swap hq2.at; replace hq2:=hid hq2; replace hc2:=hid hc2))
      go_ret;exact ⟨_,rfl,f',hq2.out,hre.out,hda.out.stop (none_less it_ord hmn.out hjk),((hch.out.no hc1.out).no hc2.out)⟩
     | true =>
      go_wp2_with (first
       | (go_at_call 201; refine (LE.out _ hq.out (2 * k+2) (2 * k+1) (by omega) (by omega) _ _ (by omega) (by omega)).mono ?_; rw [hrl]; rintro e w1 ⟨rfl,hq1,hc1⟩; have hM1:=m_less hq1.at; replace hq1:=hid hq1; replace hc1:=hid hc1)
       | (go_at_call 201; refine (LE.out _ hq1.out (2 * k+1) k (by omega) (by omega) _ _ (by omega) rfl).mono ?_; rw [hjk]; rintro e w2 ⟨rfl,hq2,hc2⟩; have hM2:=m_swap hq2.at; replace hq2:=hid hq2; replace hc2:=hid hc2)
       | (go_at_call 202; refine (SW.out _ hq2.out k (2 * k+1) (by omega) (by omega) _ _ rfl (by omega)).mono ?_; rintro e w3 ⟨rfl,hq3,hc3⟩))
      go_roundw
      case rel=>exact ⟨2 * k+1,swapF f' k (2 * k+1),by omega,by omega,congrArg (Value.int .i64) (by omega),hq3,hre.out.trans (Re.swap f' (by omega) (by omega)),hda.out.next (by omega) (by omega) (kid_l k) hjk hmn.out,((hch.out.no hc1.out).no hc2.out).step hc3 fun _ _ x=>(hre.out.more hnN HIN.out).hs x⟩
      case measure=>simp [intOf]; omega
   ·have hri:¬ (2 * (k:Int)+1+1 < n):=by omega
    have hmn:=hid (child_l (f:=f') (n:=n) it_ord hln (fun x=>hr x.1))
    cases hjk:itLt (f' (2 * k+1)) (f' k) with
    | false =>
     go_wp2_with (first
      | (go_at_call 201; refine (LE.out _ hq.out (2 * k+1) k (by omega) (by omega) _ _ (by omega) rfl).mono ?_; rw [hjk]; rintro e w2 ⟨rfl,hq2,hc2⟩; have hM2:=m_swap hq2.at; replace hq2:=hid hq2; replace hc2:=hid hc2))
     go_ret;exact ⟨_,rfl,f',hq2.out,hre.out,hda.out.stop (none_less it_ord hmn.out hjk),(hch.out.no hc2.out)⟩
    | true =>
     go_wp2_with (first
      | (go_at_call 201; refine (LE.out _ hq.out (2 * k+1) k (by omega) (by omega) _ _ (by omega) rfl).mono ?_; rw [hjk]; rintro e w2 ⟨rfl,hq2,hc2⟩; have hM2:=m_swap hq2.at; replace hq2:=hid hq2; replace hc2:=hid hc2)
      | (go_at_call 202; refine (SW.out _ hq2.out k (2 * k+1) (by omega) (by omega) _ _ rfl (by omega)).mono ?_; rintro e w3 ⟨rfl,hq3,hc3⟩))
     go_roundw
     case rel=>exact ⟨2 * k+1,swapF f' k (2 * k+1),by omega,by omega,congrArg (Value.int .i64) (by omega),hq3,hre.out.trans (Re.swap f' (by omega) (by omega)),hda.out.next (by omega) (by omega) (kid_l k) hjk hmn.out,(hch.out.no hc2.out).step hc3 fun _ _ x=>(hre.out.more hnN HIN.out).hs x⟩
     case measure=>simp [intOf]; omega
theorem infoPtr:(Tryz.prog.info? 162).map (fun i=>(i.zero,i.size,i.bytes))=some (some (.pointer none),1,8):=by kernel_rfl
theorem as_item (b:Nat) (w:World):(Instr.typeAssert (.iface 162 (.pointer (some ⟨b,0,none⟩))) 20 162 false).run Tryz.prog w=.ok (.pointer (some ⟨b,0,none⟩)) w:=by kernel_rfl
theorem RowIs.gr {w w':World} {b:Nat} {e:TypeId} {l:List Value} {row:Option Nat} (h:RowIs w b e l) (hg:w.grownBy w' row) (hne:row ≠ some b):RowIs w' b e l:=by
 unfold RowIs at *;rw [hg.block b (Array.getElem?_eq_some_iff.1 h).1 (fun e=>hne e.symm)]; exact h
theorem RowIs.new {w:World} {b:Nat} {e:TypeId} {l:List Value} (h:RowIs w b e l) (o:Obj):RowIs (w.alloc o) b e l:=by
 unfold RowIs at *;rw [Below.heap_alloc _ _ _ (Array.getElem?_eq_some_iff.1 h).1]; exact h
theorem wp_appQ {P:Program} (w:World) {ops:Array Oper} {rest:List Oper} {o:Oper} {a:Act} {Q:Exit → Act → World → Prop} (hgd:o.guard=none)
  (s x:Operand) (t:TypeId) (ho:o.op=Op.call { callee:=Callee.builtin Builtin.append,args:=#[s,x],argTypes:=#[t,t] }) (B:Nat) (e:TypeId) (i:TypeInfo)
  (z:Value) (ht:P.underlying t=some (TypeDesc.slice e)) (hi:P.info? e=some i) (hz:i.zero=some z) (hsize:i.size=1) (hby:i.bytes=8) (hzs:z.cells.size=1)
  (v:Value) (xs:List Value) (hs:a.eval s=v) (hown:Own w B e v xs) (ad:Addr) (p:Value) (hx:a.eval x=Value.slice (some ad) 1 1) (hp:w.cell? ad=some p) (h1:p.oneCell'=true)
  (hlen:xs.length+1≤4000000) (hB:B≤w.heap.size)
  (h:∀ (v':Value) (w':World),Own w' B e v' (xs++[p]) → w.grownBy w' v.ownBlock → wpList P ops Q rest (a.put o.dst v') w'):wpList P ops Q (o :: rest) a w:=by
 refine wpList_append_own w hgd s x t ho B e i z 1 8 ht hi hz hsize hby hzs (by decide) v xs.length xs hs hown ad 1 1 [p] hx (by simp) ?_ (by simpa using h1) (by unfold maxLen; omega) (by omega) hB ?_
 ·intro j u hj
  match j,hj with
  | 0,hj=>simp at hj; subst hj; simpa [Addr.add] using hp
 ·intro v' w' hown' hgr _;refine h v' w' ?_ hgr
  unfold Own;rw [List.length_append];exact hown'
theorem HQ.push {bw m B:Nat} {v:Value} {w:World} {f:Nat → It} {n:Nat} (h:HQ bw m B v w f n) {b:Nat} {t:Tm} {p0:Value} (hb:RowIs w b 170 [.int .i64 t.1,.int .i64 t.2,p0]) (hnb:∀ i,i < n → (f i).blk ≠ b) (hlo:B≤b)
  {v':Value} {w3:World} (o:Obj) (hg:((w.setCell ⟨b,2,none⟩ (.int .i64 n)).alloc o).grownBy w3 v.ownBlock) (ho:Own w3 B 162 v' (ptrs f n++[.pointer (some ⟨b,0,none⟩)])) :
  HQ bw m B v' (w3.setCell ⟨bw,0,none⟩ v') (putF f n ⟨b,t⟩) (n+1):=by
 have hwb:bw ≠ b:=row_block_ne h.wheel hb (by decide);have hwi:∀ k,k < n → bw ≠ (f k).blk:=fun k hk=>row_block_ne h.wheel (h.item k hk) (by decide);have w3w:=((h.wheel.other hwb (.int .i64 n) (j:=2)).new o).gr hg (own_block_ne h.own h.wheel (by decide));have w3b:=((hb.set 2 (.int .i64 n)).new o).gr hg (own_block_ne h.own hb (by decide));have w3i:∀ k,k < n → RowIs w3 (f k).blk 170 (itemL (f k) k):=fun k hk=>(((h.item k hk).other (hnb k hk) (.int .i64 n) (j:=2)).new o).gr hg (own_block_ne h.own (h.item k hk) (by decide));refine ⟨w3w.set 0 v',?_,?_,?_,?_⟩
 ·rw [ptrs_succ,put_at,ptrs_congr (fun i hi=>put_ne f _ (by omega))];exact own_other ho (own_block_ne ho w3w (by decide)) _
 ·intro k hk;by_cases e:k=n
  ·subst e; rw [put_at]; exact w3b.other (fun e=>hwb e.symm) _
  ·rw [put_ne f _ e]; exact (w3i k (by omega)).other (fun e'=>hwi k (by omega) e'.symm) _
 ·intro i j hi hj he;by_cases e1:i=n <;> by_cases e2:j=n
  ·omega
  ·subst e1; rw [put_at,put_ne _ _ e2] at he; exact absurd he.symm (hnb j (by omega))
  ·subst e2; rw [put_at,put_ne _ _ e1] at he; exact absurd he (hnb i (by omega))
  ·rw [put_ne _ _ e1,put_ne _ _ e2] at he; exact h.inj i j (by omega) (by omega) he
 ·intro k hk;by_cases e:k=n
  ·subst e; rw [put_at]; exact hlo
  ·rw [put_ne f _ e]; exact h.lo k (by omega)
def HS2 (bw b:Nat) (v:Value) (f:Nat → It) (n:Nat) (k:Nat):Prop:=k=bw∨k=b∨HS v f n k
set_option maxHeartbeats 4000000 in
set_option maxRecDepth 100000 in
theorem qpush_any {bw m B:Nat} {v:Value} {w:World} {f:Nat → It} {n:Nat} (h:HQ bw m B v w f n) {b:Nat} {t:Tm} {p0:Value} (hb:RowIs w b 170 [.int .i64 t.1,.int .i64 t.2,p0]) (hnb:∀ i,i < n → (f i).blk ≠ b) (hlo:B≤b) (hn:n≤1000000) (hB:B≤w.heap.size) :
  Calls Tryz.prog 204 #[.pointer (some ⟨bw,0,none⟩),.iface 162 (.pointer (some ⟨b,0,none⟩))] w fun e w'=>e=.returned (.tuple #[])∧∃ v',HQ bw m B v' w' (putF f n ⟨b,t⟩) (n+1)∧Chg (HS2 bw b v f n) w w':=by
 obtain ⟨i0,hi,hz0,hz1,hz2⟩:=info_parts infoPtr;obtain ⟨ao,cap,rfl⟩:=h.form;have hwb:bw ≠ b:=row_block_ne h.wheel hb (by decide);have cq:=h.at;have cb:=hb.cell 2 (by simp);have fb:=hb.frozen 2;have rw1:=h.wheel.other hwb (.int .i64 n) (j:=2);have cq1:=rw1.cell 0 (by simp);simp only [List.getElem_cons_zero,List.getElem_cons_succ] at cb cq1;have HP:=hid (fun (o:Obj) (v':Value) (w3:World) hg ho=>h.push hb hnb hlo (v':=v') (w3:=w3) o hg ho);have OW:=hid (own_other h.own (own_block_ne h.own hb (by decide)) (.int .i64 n) (j:=2));have CH:=hid (((Chg.refl (HS2 bw b (.slice ao n cap) f n) w).setCell (p:=⟨b,2,none⟩) (fun _=>.inr (.inl rfl)) (.int .i64 n)));have RW:=hid (fun (o:Obj) (w3:World) (hg:((w.setCell ⟨b,2,none⟩ (.int .i64 n)).alloc o).grownBy w3 (Value.slice ao n cap).ownBlock)=>(rw1.new o).gr hg (own_block_ne h.own h.wheel (by decide)));have PL:=ptrs_len f n;have hsz:(w.setCell ⟨b,2,none⟩ (.int .i64 n)).heap.size=w.heap.size:=by simp [World.setCell]
 have NW:Hid (((w.setCell ⟨b,2,none⟩ (.int .i64 n)).alloc (.cells #[.pointer (some ⟨b,0,none⟩)] 162)).cell? ⟨w.heap.size,0,none⟩=some (.pointer (some ⟨b,0,none⟩))):=by
  have:=one_new (w.setCell ⟨b,2,none⟩ (.int .i64 n)) 162 (.pointer (some ⟨b,0,none⟩)) 0 _ rfl
  rw [hsz] at this;exact this
 have HB2:=hid (fun (o:Obj)=>show B≤((w.setCell ⟨b,2,none⟩ (.int .i64 n)).alloc o).heap.size from Nat.le_trans hB (Nat.le_trans (Nat.le_of_eq hsz.symm) (by simp)));clear hsz;have hta:=as_item b;clear h hb rw1
 go_enter Tryz.func204,Tryz.ntmps204
 go_wp2_with (at_builtin; refine wp_appQ _ rfl (.tmp 17) (.tmp 19) 104 rfl B 162 i0 (.pointer none) Tryz.underlying104 hi hz0 hz1 hz2 rfl (.slice ao n cap) (ptrs f n) rfl (OW.out.alloc _) ⟨_,0,none⟩ (.pointer (some ⟨b,0,none⟩)) rfl NW.out rfl (by omega) (HB2.out _) ?_; intro v3 w3 hown3 hgr3; have q3:w3.cell? ⟨bw,0,none⟩=some (.slice ao n cap):=(RW.out _ _ hgr3).cell 0 (by simp); have f3:=(RW.out _ _ hgr3).frozen 0; (obtain ⟨oa,oc,hoe⟩:=hown3.form); simp only [List.length_append,PL,List.length_cons,List.length_nil,Nat.zero_add] at hoe; subst hoe; replace hown3:=hid hown3; replace hgr3:=hid hgr3)
 go_end0
 refine ⟨rfl,_,HP.out _ _ _ hgr3.out hown3.out,?_⟩
 exact ((CH.out.alloc _).grown hgr3.out (fun k hk _=>.inr (.inr (.inl hk)))).setCell (p:=⟨bw,0,none⟩) (fun _=>.inl rfl) _
theorem own_take {w:World} {B g cap n:Nat} {e:TypeId} {xs:List Value} {x:Value} (h:Own w B e (.slice (some ⟨g,0,none⟩) (n+1) cap) (xs++[x])) (hn:xs.length=n):Own w B e (.slice (some ⟨g,0,none⟩) n cap) xs:=by
 rcases h.2 with ⟨h2,_⟩ | ⟨g',cap',cur,hv,hb,hg,hnc,hcm,hcs,ht⟩
 ·cases h2
 ·simp only [Value.slice.injEq,Option.some.injEq,Addr.mk.injEq,and_true] at hv;obtain ⟨rfl,_,rfl⟩:=hv;refine ⟨by simp,Or.inr ⟨g,cap,cur,by rw [hn],hb,hg,by simp at hnc; omega,hcm,hcs,?_⟩⟩
  have:=congrArg (List.take (xs.length * 1)) ht
  rw [List.take_take] at this;simp only [Nat.mul_one,List.length_append,List.length_cons,List.length_nil,List.take_left'] at this ⊢;rw [Nat.min_eq_left (by omega)] at this;exact this
theorem HQ.pop {bw m B g cap:Nat} {w:World} {f:Nat → It} {n:Nat} (h:HQ bw m B (.slice (some ⟨g,0,none⟩) (n+1) cap) w f (n+1)) (u:Value) :
  HQ bw m B (.slice (some ⟨g,0,none⟩) n cap) ((w.setCell ⟨g,n,none⟩ u).setCell ⟨bw,0,none⟩ (.slice (some ⟨g,0,none⟩) n cap)) f n:=by
 have gi:∀ k,k < n+1 → (f k).blk ≠ g:=fun k hk e=>own_block_ne h.own (h.item k hk) (by decide) (by rw [e]; rfl);have wg:bw ≠ g:=fun e=>own_block_ne h.own h.wheel (by decide) (by rw [e]; rfl);have wi:∀ k,k < n+1 → bw ≠ (f k).blk:=fun k hk=>row_block_ne h.wheel (h.item k hk) (by decide);have o1:=ownq_set h.own n u;rw [ptrs_succ,List.set_append_right _ _ (by rw [ptrs_len]; omega),ptrs_len,Nat.sub_self,List.set_cons_zero] at o1;have o2:=own_take o1 (ptrs_len f n);refine ⟨(h.wheel.other wg _).set 0 _,own_other o2 (by simp [Value.ownBlock]; exact fun e=>wg e.symm) _,fun k hk=>((h.item k (by omega)).other (gi k (by omega)) _).other (fun e=>wi k (by omega) e.symm) _,fun i j hi hj=>h.inj i j (by omega) (by omega),fun i hi=>h.lo i (by omega)⟩
set_option maxHeartbeats 4000000 in
set_option maxRecDepth 100000 in
theorem qpop_any {bw m B:Nat} {v:Value} {w:World} {f:Nat → It} {n:Nat} (h:HQ bw m B v w f (n+1)) (hn:n≤1000000) :
  Calls Tryz.prog 203 #[.pointer (some ⟨bw,0,none⟩)] w fun e w'=>e=.returned (.iface 162 (.pointer (some ⟨(f n).blk,0,none⟩)))∧∃ v',HQ bw m B v' w' f n∧v'.ownBlock=v.ownBlock∧RowIs w' (f n).blk 170 (itemL (f n) n)∧Chg (HS2 bw bw v f (n+1)) w w':=by
 obtain ⟨g,cap,rfl⟩:=h.block (by omega);have wg:bw ≠ g:=fun e=>own_block_ne h.own h.wheel (by decide) (by rw [e]; rfl);have cq:=h.at;have cn:=h.cell n (by omega);unfold ptrV at cn;have fn:=ownq_frozen h.own n;have r1:=h.wheel.other wg (.pointer none) (j:=n);have cq1:(w.setCell ⟨g,n,none⟩ (.pointer none)).cell? ⟨bw,0,none⟩=some (.slice (some ⟨g,0,none⟩) (n+1) cap):=r1.cell 0 (by simp);have fq:=h.wheel.frozen 0;have H4:=hid (h.pop (.pointer none));have H5:=hid (((h.item n (by omega)).other (fun e=>own_block_ne h.own (h.item n (by omega)) (by decide) (by rw [e]; rfl)) (.pointer none) (g:=g) (j:=n)).other (row_block_ne h.wheel (h.item n (by omega)) (by decide)).symm (.slice (some ⟨g,0,none⟩) n cap) (g:=bw) (j:=0));have C:=hid (((Chg.refl (HS2 bw bw (.slice (some ⟨g,0,none⟩) (n+1) cap) f (n+1)) w).setCell (p:=⟨g,n,none⟩) (fun _=>.inr (.inr (.inl rfl))) (.pointer none)).setCell (p:=⟨bw,0,none⟩) (fun _=>.inl rfl) (.slice (some ⟨g,0,none⟩) n cap))
 have hnc:n+1≤cap:=by
  rcases h.own.2 with ⟨h2,_⟩ | ⟨g',cap',cur,hv,hb,hg,hnc,_⟩
  ·cases h2
  ·simp only [Value.slice.injEq,Option.some.injEq,Addr.mk.injEq,and_true] at hv;obtain ⟨_,h1,rfl⟩:=hv;omega
 have hlt:(n:Int) < (n:Int)+1:=by omega
 have hle:(n:Int)≤(cap:Int):=by omega
 have hle':n≤cap:=by omega
 clear h r1
 go_enter Tryz.func203,Tryz.ntmps203
 go_wp2;go_ret;exact ⟨rfl,_,H4.out,rfl,H5.out,C.out⟩
def HS3 (B bw b:Nat) (f:Nat → It) (n:Nat) (w:World) (k:Nat):Prop:=B≤k∧(k=bw∨k=b∨(∃ i,i < n∧(f i).blk=k)∨∃ cs,w.heap[k]? = some (.cells cs 162 (0,0)))
theorem HQ.hs3 {bw m B b:Nat} {v:Value} {w:World} {f:Nat → It} {n:Nat} (h:HQ bw m B v w f n) (hw:B≤bw) (hb:B≤b) {k:Nat} (hk:HS2 bw b v f n k):HS3 B bw b f n w k:=by
 rcases hk with rfl | rfl | hk | ⟨i,hi,rfl⟩
 ·exact ⟨hw,.inl rfl⟩
 ·exact ⟨hb,.inr (.inl rfl)⟩
 ·rcases h.own.2 with ⟨h2,_⟩ | ⟨g,cap,cur,hv,hg,hh,_⟩
  ·rw [h2] at hk; cases hk
  ·rw [hv] at hk
   simp [Value.ownBlock] at hk
   subst hk;exact ⟨hg,.inr (.inr (.inr ⟨cur,hh⟩))⟩
 ·exact ⟨h.lo i hi,.inr (.inr (.inl ⟨i,hi,rfl⟩))⟩
theorem HQ.hs4 {bw m B b:Nat} {v v1:Value} {w w1:World} {f:Nat → It} {n:Nat} {t:Tm} (h:HQ bw m B v w f n) (hw:B≤bw) (hb:B≤b) (h1:HQ bw m B v1 w1 (putF f n ⟨b,t⟩) (n+1)) (hc:Chg (HS2 bw b v f n) w w1) :
  ∀ i,i < w.heap.size → HS v1 (putF f n ⟨b,t⟩) (n+1) i → HS3 B bw b f n w i:=by
 intro k hk hs;by_cases h2:HS2 bw b v f n k
 ·exact h.hs3 hw hb h2
 ·rcases hs with hs | ⟨i,hi,he⟩
  ·rcases h1.own.2 with ⟨e2,_⟩ | ⟨g,cap,cur,hv,hg,hh,_⟩
   ·rw [e2] at hs; cases hs
   ·rw [hv] at hs
    simp [Value.ownBlock] at hs
    subst hs;rw [hc.block _ hk h2] at hh;exact ⟨hg,.inr (.inr (.inr ⟨cur,hh⟩))⟩
  ·by_cases e:i=n
   ·subst e; rw [put_at] at he; exact absurd (.inr (.inl he.symm)) h2
   ·rw [put_ne _ _ e] at he; exact absurd (.inr (.inr (.inr ⟨i,by omega,he⟩))) h2
set_option maxHeartbeats 4000000 in
set_option maxRecDepth 100000 in
theorem hpush_any {bw m B:Nat} {v:Value} {w:World} {f:Nat → It} {n:Nat} (h:HQ bw m B v w f n) {b:Nat} {t:Tm} {p0:Value} (hb:RowIs w b 170 [.int .i64 t.1,.int .i64 t.2,p0]) (hnb:∀ i,i < n → (f i).blk ≠ b) (hlo:B≤b) (hwlo:B≤bw) (hn:n+1≤1000000) (hB:B≤w.heap.size) :
  Calls Tryz.prog 132 #[hV bw,.iface 162 (.pointer (some ⟨b,0,none⟩))] w fun e w'=>e=.returned (.tuple #[])∧∃ v' f',HQ bw m B v' w' f' (n+1)∧Re (n+1) (putF f n ⟨b,t⟩) f'∧(Heap itLt f n → Heap itLt f' (n+1))∧Chg (HS3 B bw b f n w) w w':=by
 have K1:=hid (qpush_any h hb hnb hlo (by omega) hB);have H3:=hid (fun k=>h.hs3 hwlo hlo (k:=k));have H4:=hid (fun (v':Value) (w':World) h' hc'=>h.hs4 (b:=b) (t:=t) (v1:=v') (w1:=w') hwlo hlo h' hc');have hM:=m_push bw;have KU:=hid (fun (v':Value) (w':World) (h':HQ bw m B v' w' (putF f n ⟨b,t⟩) (n+1))=>up_any h' (j:=n) (n:=n+1) (by omega) (by omega) hn);have KL:=hid (fun (v':Value) (w':World) (h':HQ bw m B v' w' (putF f n ⟨b,t⟩) (n+1))=>qlen_any h' hn);have PU:=hid (fun (hh:Heap itLt f n)=>push_ok (lt:=itLt) (f:=f) (g:=putF f n ⟨b,t⟩) hh (fun k hk=>put_ne f _ (by omega)));have hsub:((n:Int)+1 - 1)=n:=by omega
 unfold hV at *;clear h hb
 go_enter Tryz.func132,Tryz.ntmps132
 go_wp2_with (first
  | (go_at_call 204; refine K1.out.mono ?_; rintro e w1 ⟨rfl,v1,hq1,hc1⟩; (obtain ⟨oa,oc,rfl⟩:=hq1.form); have hM1:=m_len hq1.at; replace hq1:=hid hq1; replace hc1:=hid hc1)
  | (go_at_call 200; refine (KL.out _ _ hq1.out).mono ?_; rintro e w2 ⟨rfl,hw2⟩; rw [hw2]; clear hw2)
  | (go_at_call 154; refine (KU.out _ _ hq1.out).mono ?_; rintro e w3 ⟨rfl,f3,hq3,hre3,hh3,hc3⟩))
 go_end0
 refine ⟨rfl,_,f3,hq3,hre3,fun x=>hh3 (PU.out x),?_⟩
 exact (hc1.out.mono fun i hi x=>H3.out i x).step hc3 (H4.out _ _ hq1.out hc1.out)
set_option maxHeartbeats 4000000 in
set_option maxRecDepth 100000 in
theorem hfix_any {bw m B:Nat} {v:Value} {w:World} {f:Nat → It} {n:Nat} (h:HQ bw m B v w f n) {i:Nat} (hi:i < n) (hn:n≤1000000) :
  Calls Tryz.prog 131 #[hV bw,.int .i64 i] w fun e w'=>e=.returned (.tuple #[])∧∃ f',HQ bw m B v w' f' n∧Re n f f'∧(FixOK itLt f n i → Heap itLt f' n)∧Chg (HS v f n) w w':=by
 obtain ⟨ao,cap,rfl⟩:=h.form;have KD:=hid (down_any h (i0:=i) (n:=n) (by omega) (by omega) hn);have KL:=hid (qlen_any h hn);have KU:=hid (fun (f':Nat → It) (w':World) (h':HQ bw m B (.slice ao n cap) w' f' n)=>up_any h' (j:=i) (n:=n) hi (by omega) hn);have hM:=m_len h.at;unfold hV at *;clear h
 go_enter Tryz.func131,Tryz.ntmps131
 go_wp2_with (go_at_call 200; refine KL.out.mono ?_; rintro e w0 ⟨rfl,hw0⟩; rw [hw0]; clear hw0)
 refine KD.out.mono ?_
 rintro e w1 ⟨b,rfl,f1,hq1,hre1,hd1,hc1⟩
 cases b with
 | true =>
  go_wp2
  go_end0
  exact ⟨rfl,f1,hq1,hre1,fun x=>(hd1 x).1 rfl,hc1⟩
 | false =>
  have KU1:=hid (KU.out f1 _ hq1);go_wp2_with (go_at_call 154; refine KU1.out.mono ?_; rintro e w2 ⟨rfl,f2,hq2,hre2,hh2,hc2⟩)
  go_end0
  exact ⟨rfl,f2,hq2,hre1.trans hre2,fun x=>by obtain ⟨e,u⟩:=(hd1 x).2 rfl; subst e; exact hh2 u,hc1.step hc2 fun _ _ x=>hre1.hs x⟩
theorem swap_self {α:Type} (f:Nat → α) (n:Nat):swapF f n n=f:=by
 funext k; unfold swapF; split
 ·simp_all
 ·rfl
theorem Re.hs2 {n bw:Nat} {f g:Nat → It} {v v':Value} (h:Re n f g) (hv:v'.ownBlock=v.ownBlock) {k:Nat} (hk:HS2 bw bw v' g n k):HS2 bw bw v f n k:=by
 rcases hk with hk | hk | hk
 ·exact .inl hk
 ·exact .inl hk
 ·rcases h.hs hk with hk | hk
  ·exact .inr (.inr (.inl (hv ▸ hk)))
  ·exact .inr (.inr (.inr hk))
set_option maxHeartbeats 4000000 in
set_option maxRecDepth 100000 in
theorem hremove_any {bw m B:Nat} {v:Value} {w:World} {f:Nat → It} {n:Nat} (h:HQ bw m B v w f (n+1)) {i:Nat} (hi:i < n+1) (hn:n+1≤1000000) :
  Calls Tryz.prog 133 #[hV bw,.int .i64 i] w fun e w'=>e=.returned (.iface 162 (.pointer (some ⟨(f i).blk,0,none⟩)))∧∃ v' f',HQ bw m B v' w' f' n∧v'.ownBlock=v.ownBlock∧RowIs w' (f i).blk 170 (itemL (f i) n)∧Re n (swapF f i n) f'∧(Heap itLt f (n+1) → Heap itLt f' n)∧Chg (HS2 bw bw v f (n+1)) w w':=by
 obtain ⟨ao,cap,rfl⟩:=h.form;have KL:=hid (qlen_any h hn);have hM:=m_len h.at;have hMp:=m_pop bw;have KP:=hid (fun (f':Nat → It) (w':World) (h':HQ bw m B (.slice ao (n+1) cap) w' f' (n+1))=>qpop_any h' (by omega));have hsub:((n:Int)+1 - 1)=n:=by omega
 by_cases hin:i=n
 ·have KP0:=hid (KP.out f _ h);subst hin;clear h KP;unfold hV at *
  go_enter Tryz.func133,Tryz.ntmps133
  go_wp2_with (first
   | (go_at_call 200; refine KL.out.mono ?_; rintro e w0 ⟨rfl,hw0⟩; rw [hw0]; clear hw0)
   | (go_at_call 203; refine KP0.out.mono ?_; rintro e w5 ⟨rfl,v5,hq5,hv5,hr5,hc5⟩))
  go_ret;exact ⟨rfl,v5,f,hq5,hv5,hr5,by rw [swap_self]; exact Re.refl _ _,fun x k h0 h1=>x k h0 (by omega),hc5⟩
 ·have hne:((n:Int) != (i:Int))=true:=by rw [bne_iff_ne]; omega
  have hil:i < n:=by omega
  have KS:=hid (swap_any h hi (show n < n+1 by omega));have hMs:=m_swap h.at;have INJ:=hid ((Re.swap f hi (show n < n+1 by omega)).inj h.inj);have RS:=hid (Re.swap f hi (show n < n+1 by omega));have KD:=hid (fun (w':World) (h':HQ bw m B (.slice ao (n+1) cap) w' (swapF f i n) (n+1))=>down_any h' (i0:=i) (n:=n) (by omega) (by omega) hn);have KU:=hid (fun (f':Nat → It) (w':World) (h':HQ bw m B (.slice ao (n+1) cap) w' f' (n+1))=>up_any h' (j:=i) (n:=n) hil (by omega) hn);have RO:=hid (fun (hh:Heap itLt f (n+1))=>remove_ok it_ord hh hil);clear h;unfold hV at *
  go_enter Tryz.func133,Tryz.ntmps133
  go_wp2_with (first
   | (go_at_call 200; refine KL.out.mono ?_; rintro e w0 ⟨rfl,hw0⟩; rw [hw0]; clear hw0)
   | (go_at_call 202; refine KS.out.mono ?_; rintro e w1 ⟨rfl,hq1,hc1⟩; have KD1:=hid (KD.out _ hq1); replace hc1:=hid hc1; clear hq1))
  refine KD1.out.mono ?_
  rintro e w2 ⟨b,rfl,f2,hq2,hre2,hd2,hc2⟩;have C2:Chg (HS2 bw bw (.slice ao (n+1) cap) f (n+1)) w w2:=(hc1.out.mono fun i hi x=>.inr (.inr x)).step hc2 fun _ _ x=>.inr (.inr (RS.out.hs x));have M2:=hre2.more (by omega) INJ.out;have E2:f2 n=f i:=by rw [hre2.rest n (Nat.le_refl _),swap_r]
  cases b with
  | true =>
   have KP2:=hid (KP.out f2 _ hq2);rw [E2] at KP2;clear hq2;replace hd2:=hid hd2;replace C2:=hid C2;replace M2:=hid M2;replace hre2:=hid hre2;clear hc2 E2;go_wp2_with (go_at_call 203; refine KP2.out.mono ?_; rintro e w5 ⟨rfl,v5,hq5,hv5,hr5,hc5⟩)
   go_ret;exact ⟨rfl,v5,f2,hq5,hv5,hr5,hre2.out,fun x=>(hd2.out (RO.out x)).1 rfl,C2.out.step hc5 fun _ _ x=>RS.out.hs2 rfl (M2.out.hs2 rfl x)⟩
  | false =>
   have KU2:=hid (KU.out f2 _ hq2);clear hq2;replace hd2:=hid hd2;replace C2:=hid C2;replace M2:=hid M2;replace hre2:=hid hre2;replace E2:=hid E2;clear hc2
   go_wp2_with (first
    | (go_at_call 154; refine KU2.out.mono ?_; rintro e w3 ⟨rfl,f3,hq3,hre3,hh3,hc3⟩; have KP3:=hid (KP.out f3 _ hq3); rw [hre3.rest n (Nat.le_refl _),E2.out] at KP3; replace hre3:=hid hre3; replace hh3:=hid hh3; replace hc3:=hid hc3; clear hq3)
    | (go_at_call 203; refine KP3.out.mono ?_; rintro e w5 ⟨rfl,v5,hq5,hv5,hr5,hc5⟩))
   go_ret;refine ⟨rfl,v5,f3,hq5,hv5,hr5,hre2.out.trans hre3.out,fun x=>?_,?_⟩
   ·obtain ⟨e,u⟩:=(hd2.out (RO.out x)).2 rfl;subst e;exact hh3.out u
   ·have M3:=hre3.out.more (Nat.le_succ n) (M2.out.inj INJ.out);refine (C2.out.step hc3.out fun _ _ x=>.inr (.inr (RS.out.hs (M2.out.hs x)))).step hc5 fun _ _ x=>RS.out.hs2 rfl (M2.out.hs2 rfl (M3.hs2 rfl x))
end Go.Proofs.YtbmjodlbkgblpaaGreatDoor
namespace Go.Proofs.YtbmjodlbkgblpaaGreatDoor
open Go.RowKit Go.Maps Go.WideMaps
def ptrE:Value → Option (DataW Unit × List MemPlace)
 | .pointer (some ⟨b,0,none⟩)=>some (.lit (.int .i64 b),[])
 | .pointer none=>some (.lit (.int .i64 (-1)),[])
 | _=>none
theorem ptrE_inv {v:Value} {b:Nat} {ps:List MemPlace} (h:ptrE v=some (.lit (.int .i64 b),ps)):v=.pointer (some ⟨b,0,none⟩):=by
 unfold ptrE at h
 split at h
 ·rename_i b'
  simp at h
  obtain ⟨h,_⟩:=h;have e:b'=b:=by omega
  subst e; rfl
 ·simp at h <;> omega
 ·cases h
theorem ptrE_nil {v:Value} {ps:List MemPlace} (h:ptrE v=some (.lit (.int .i64 (-1)),ps)):v=.pointer none:=by
 unfold ptrE at h
 split at h
 ·simp at h <;> omega
 ·rfl
 ·cases h
def idK (id:Int):Lit:=.int .i64 id
theorem idK_ne {a b:Int} (h:a ≠ b):idK a ≠ idK b:=fun e=>h (by injection e)
theorem keyI:Keyed Tryz.prog 3:=int_keyed Tryz.underlying3
theorem key_int {id:Int} (h:(Lit.int .i64 id).wf=true):keyOf Tryz.prog 3 (.int .i64 id)=some (idK id):=keyOf_int_mk Tryz.underlying3 h
theorem zeroPtr (w:World):(zeroValue 162).run Tryz.prog w=.ok (.pointer none) w:=by kernel_rfl
theorem own_tight {P:Program} {k:TypeId} {R:Value → Option (DataW Unit × List MemPlace)} {w:World} {b n:Nat} {D:DataW Unit} (h:w.ownsMap P k R b n D):w.ownsMap P k R b (Maps.size D) D:=by
 obtain ⟨es,clock,hb,F,hs,rfl⟩:=h;exact ⟨es,clock,hb,F,by simp [Maps.size,length_sorted],rfl⟩
theorem own_chg {S:Nat → Prop} {P:Program} {k:TypeId} {R:Value → Option (DataW Unit × List MemPlace)} {w w':World} {b n:Nat} {D:DataW Unit} (h:w.ownsMap P k R b n D) (hc:Chg S w w') (hn:¬ S b):w'.ownsMap P k R b n D:=by
 have hl:=h.lt;obtain ⟨es,clock,hb,F,hs,rfl⟩:=h;exact ⟨es,clock,by rw [hc.block b hl hn]; exact hb,F,hs,rfl⟩
theorem map_no_row {P:Program} {k:TypeId} {R:Value → Option (DataW Unit × List MemPlace)} {w:World} {b n:Nat} {D:DataW Unit} (h:w.ownsMap P k R b n D) (cs:Array Value) (e:TypeId) (x:Nat × Nat):w.heap[b]? ≠ some (.cells cs e x):=by
 obtain ⟨es,clock,hb,_⟩:=h;rw [hb]; simp
structure WH (bw m B:Nat) (v:Value) (f:Nat → It) (n:Nat) (D:DataW Unit) (w:World) (l:List Tm):Prop where
 q:HQ bw m B v w f n
 k:Keeps f n l
 mp:w.ownsMap Tryz.prog 3 ptrE m n D
 has:∀ id,Maps.has D (idK id)=true ↔ ∃ i,i < n∧(f i).tm.2=id
 at':∀ i,i < n → ∀ z,D.atKey (idK (f i).tm.2) z=.lit (.int .i64 (f i).blk)
 size:Maps.size D=n
 wlo:B≤bw
 mlo:B≤m
 wf:∀ i,i < n → (Lit.int .i64 (f i).tm.2).wf=true
theorem WH.no2 {bw m B:Nat} {v:Value} {f:Nat → It} {n:Nat} {D:DataW Unit} {w:World} {l:List Tm} (h:WH bw m B v f n D w l):¬ HS2 bw bw v f n m:=by
 rintro (e | e | hk | ⟨i,hi,e⟩)
 ·exact map_no_row h.mp _ _ _ (by rw [e]; exact h.q.wheel)
 ·exact map_no_row h.mp _ _ _ (by rw [e]; exact h.q.wheel)
 ·rcases h.q.own.2 with ⟨h2,_⟩ | ⟨g,cap,cur,hv,hg,hh,_⟩
  ·rw [h2] at hk; cases hk
  ·rw [hv] at hk; simp [Value.ownBlock] at hk; subst hk; exact map_no_row h.mp _ _ _ hh
 ·exact map_no_row h.mp _ _ _ (e ▸ h.q.item i hi)
theorem HQ.grown {bw m B:Nat} {v:Value} {w w':World} {f:Nat → It} {n:Nat} (h:HQ bw m B v w f n) (hg:w.grownBy w' (some m)) (hno:¬ HS2 bw bw v f n m):HQ bw m B v w' f n :=
 ⟨h.wheel.gr hg (fun e=>hno (.inl (by injection e))),World.ownsRow.kept h.own hg (by
   by_cases e:v.ownBlock=none
   ·exact .inl e
   ·exact .inr fun e'=>hno (.inr (.inr (.inl e')))),fun i hi=>(h.item i hi).gr hg (fun e=>hno (.inr (.inr (.inr ⟨i,hi,by injection e with e; exact e.symm⟩)))),h.inj,h.lo⟩
section
variable {bw m B : Nat} {v : Value} {f : Nat → It} {n : Nat} {D : DataW Unit} {w : World} {l : List Tm}
theorem HQ.new (h:HQ bw m B v w f n) (o:Obj):HQ bw m B v (w.alloc o) f n:=⟨h.wheel.new o,h.own.alloc o,fun i hi=>(h.item i hi).new o,h.inj,h.lo⟩
theorem WH.new (h:WH bw m B v f n D w l) (o:Obj):WH bw m B v f n D (w.alloc o) l:=⟨h.q.new o,h.k,h.mp.alloc o,h.has,h.at',h.size,h.wlo,h.mlo,h.wf⟩
theorem wp_look_has {ops:Array Oper} {rest:List Oper} {o:Oper} {a:Act} {Q:Exit → Act → World → Prop} (hg:o.guard=none) (x y:Operand) (hop:o.op=Op.lookup 102 x y true)
  (hown:w.ownsMap Tryz.prog 3 ptrE m n D) (hm:a.eval x=.map (some m)) {id:Int} (hx:a.eval y=.int .i64 id) (hwf:(Lit.int .i64 id).wf=true) {b:Nat} (hh:Maps.has D (idK id)=true) (hat:∀ z,D.atKey (idK id) z=.lit (.int .i64 b))
  (hK:wpList Tryz.prog ops Q rest (a.put o.dst (.tuple #[.pointer (some ⟨b,0,none⟩),.bool true])) w):wpList Tryz.prog ops Q (o :: rest) a w:=by
 refine wpList_lookup_own_ok w hg x y 102 hop 3 162 keyI Tryz.underlying102 ptrE (zeroPtr w) (.lit (.int .i64 (-1))) [] rfl m n D hm hown _ (idK id) hx (key_int hwf) ?_
 intro v ps hv;rw [hat] at hv;obtain rfl:=ptrE_inv hv;rw [hh]; exact hK
theorem wp_look_no {ops:Array Oper} {rest:List Oper} {o:Oper} {a:Act} {Q:Exit → Act → World → Prop} (hg:o.guard=none) (x y:Operand) (hop:o.op=Op.lookup 102 x y true)
  (hown:w.ownsMap Tryz.prog 3 ptrE m n D) (hm:a.eval x=.map (some m)) {id:Int} (hx:a.eval y=.int .i64 id) (hwf:(Lit.int .i64 id).wf=true) (hh:Maps.has D (idK id)=false)
  (hK:wpList Tryz.prog ops Q rest (a.put o.dst (.tuple #[.pointer none,.bool false])) w):wpList Tryz.prog ops Q (o :: rest) a w:=by
 refine wpList_lookup_own_ok w hg x y 102 hop 3 162 keyI Tryz.underlying102 ptrE (zeroPtr w) (.lit (.int .i64 (-1))) [] rfl m n D hm hown _ (idK id) hx (key_int hwf) ?_
 intro v ps hv;rw [Maps.atKey_of_not_has hh] at hv;obtain rfl:=ptrE_nil hv;rw [hh]; exact hK
theorem WH.hasNot (h:WH bw m B v f n D w l) {id:Int} (hno:¬ ∃ i,i < n∧(f i).tm.2=id):Maps.has D (idK id)=false∧whenT l id=none:=by
 constructor
 ·cases e:Maps.has D (idK id) with
  | false=>rfl
  | true=>exact absurd ((h.has id).1 e) hno
 ·rw [when_none];intro t ht e;obtain ⟨i,hi,he⟩:=(h.k.mem t).1 ht;exact hno ⟨i,hi,by rw [he]; exact e⟩
theorem WH.hasOne (h:WH bw m B v f n D w l) {i:Nat} (hi:i < n):Maps.has D (idK (f i).tm.2)=true∧whenT l (f i).tm.2=some (f i).tm.1 :=
 ⟨(h.has _).2 ⟨i,hi,rfl⟩,(when_iff h.k.row _ _).2 ((h.k.mem _).2 ⟨i,hi,rfl⟩)⟩
theorem WH.mapAt (h:WH bw m B v f n D w l):w.cell? ⟨bw,1,none⟩=some (.map (some m)):=h.q.wheel.cell 1 (by simp)
set_option maxHeartbeats 4000000 in
set_option maxRecDepth 100000 in
theorem made_any (h:WH bw m B v f n D w l) :
  Calls Tryz.prog 104 #[.pointer (some ⟨bw,0,none⟩)] w fun e w'=>e=.returned (.bool true)∧w'=w:=by
 have cm:=h.mapAt;have q61:∀ (w:World) (r:Option Nat),(binOp .neq 102 (.map r) (.map none)).run Tryz.prog w=.ok (.bool (!r.isNone)) w:=fun w r=>run_neq_map_nil w _ _ _ r Tryz.underlying102;clear h
 go_enter Tryz.func104,Tryz.ntmps104
 go_wp2;go_ret;exact ⟨rfl,rfl⟩
set_option maxHeartbeats 4000000 in
set_option maxRecDepth 100000 in
theorem wlen_n (h:WH bw m B v f n D w l) :
  Calls Tryz.prog 106 #[.pointer (some ⟨bw,0,none⟩)] w fun e w'=>e=.returned (.int .i64 n)∧w'=w:=by
 have KM:=hid (made_any h);have cq:=h.q.at;obtain ⟨ao,cap,hv⟩:=h.q.form;rw [hv] at cq;clear h hv
 go_enter Tryz.func106,Tryz.ntmps106
 go_wp2_with (go_at_call 104; refine KM.out.mono ?_; rintro e w0 ⟨rfl,hw0⟩; rw [hw0]; clear hw0)
 go_ret;exact ⟨rfl,rfl⟩
theorem two_new (w:World) (a b:Int):(w.alloc (.cells #[.int .i64 a,.int .i64 b] 167)).cell? ⟨w.heap.size,0,none⟩=some (.int .i64 a)∧(w.alloc (.cells #[.int .i64 a,.int .i64 b] 167)).cell? ⟨w.heap.size,1,none⟩=some (.int .i64 b):=by
 have h:RowIs (w.alloc (.cells #[.int .i64 a,.int .i64 b] 167)) w.heap.size 167 [.int .i64 a,.int .i64 b]:=by unfold RowIs; rw [heap_alloc_new]
 exact ⟨h.cell 0 (by simp),h.cell 1 (by simp)⟩
def WS (bw m:Nat) (v:Value) (f:Nat → It) (n:Nat) (k:Nat):Prop:=k=m∨HS2 bw bw v f n k
theorem WH.chg {S:Nat → Prop} {w':World} (h:WH bw m B v f n D w l) (hc:Chg S w w') (hn:∀ k,WS bw m v f n k → ¬ S k):WH bw m B v f n D w' l:=by
 refine ⟨⟨h.q.wheel.chg hc (hn _ (.inr (.inl rfl))),?_,fun i hi=>(h.q.item i hi).chg hc (hn _ (.inr (.inr (.inr (.inr ⟨i,hi,rfl⟩))))),h.q.inj,h.q.lo⟩,h.k,own_chg h.mp hc (hn _ (.inl rfl)),h.has,h.at',h.size,h.wlo,h.mlo,h.wf⟩
 obtain ⟨h1,h2⟩:=h.q.own;refine ⟨h1,?_⟩
 rcases h2 with h2 | ⟨g,cap,cur,hv,hg,hh,r⟩
 ·exact Or.inl h2
 ·exact Or.inr ⟨g,cap,cur,hv,hg,by rw [hc.block g (Array.getElem?_eq_some_iff.1 hh).1 (hn g (.inr (.inr (.inr (.inl (by rw [hv]; rfl))))))]; exact hh,r⟩
theorem step_del {ops:Array Oper} {o:Oper} {a:Act} {K:Act → World → Prop} {Q:Exit → Act → World → Prop} {E:Prop} (hgd:o.guard=none) (x y:Operand) (hop:o.op=Op.call { callee:=Callee.builtin Builtin.delete,args:=#[x,y],argTypes:=#[102,3] })
  (hown:w.ownsMap Tryz.prog 3 ptrE m n D) (hm:a.eval x=.map (some m)) {id:Int} (hx:a.eval y=.int .i64 id) (hwf:(Lit.int .i64 id).wf=true)
  (h:∀ w',w'.ownsMap Tryz.prog 3 ptrE m n (D.del (idK id)) → w.grownBy w' (some m) → K (a.put o.dst (.tuple #[])) w') :
  if Region.wanted o (yielded ops a.tmps)=true then Oper.wp Tryz.prog o a w K Q else E:=by
 have hw:Region.wanted o (yielded ops a.tmps)=true:=by simp [Region.wanted,hgd]
 rw [if_pos hw];obtain ⟨w',hrun,r1,r2⟩:=hown.drop keyI Tryz.underlying102 (key_int hwf) o.type;unfold Oper.wp
 simp [execOp,hop,resolve,invoke,builtin,hm,hx,hrun,Result.andThen]
 exact h w' r1 r2.grown
theorem WH.ws_w (h:WH bw m B v f n D w l) {k:Nat} (hk:WS bw m v f n k):k < w.heap.size:=by
 rcases hk with rfl | rfl | rfl | hk | ⟨i,hi,rfl⟩
 ·exact h.mp.lt
 ·exact (Array.getElem?_eq_some_iff.1 h.q.wheel).1
 ·exact (Array.getElem?_eq_some_iff.1 h.q.wheel).1
 ·rcases h.q.own.2 with ⟨h2,_⟩ | ⟨g,cap,cur,hv,hg,hh,_⟩
  ·rw [h2] at hk; cases hk
  ·rw [hv] at hk
   simp [Value.ownBlock] at hk
   subst hk;exact (Array.getElem?_eq_some_iff.1 hh).1
 ·exact (Array.getElem?_eq_some_iff.1 (h.q.item i hi)).1
end
end Go.Proofs.YtbmjodlbkgblpaaGreatDoor
