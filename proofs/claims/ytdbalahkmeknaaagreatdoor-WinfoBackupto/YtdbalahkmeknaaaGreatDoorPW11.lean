/-
  NdFr, XRd, XBytes, XPlain.
-/
import Derived.Test.YtdbalahkmeknaaaGreatDoorPW09
set_option linter.unusedVariables false
set_option linter.unusedSimpArgs false
set_option maxRecDepth 20000
namespace Go.Proofs.YtdbalahkmeknaaaGreatDoor
open Go.RowKit Sc
theorem FrN.to {v v':Value} {w w':World} (h:FrN v w v' w') {B:Nat} (hB:B≤w.heap.size) (hv:∀ g,v.ownBlock=some g → B≤g):Below B w w' :=
 ⟨h.os,h.tape,h.output,h.size,fun b hb=>h.block b (Nat.lt_of_lt_of_le hb hB) (fun e=>by have:=hv b e; omega)⟩
theorem FrN.row {v v':Value} {w w':World} (h:FrN v w v' w') {b:Nat} {e:TypeId} {l:List Value} (hr:RowIs w b e l) (hb:b < w.heap.size) (hn:v.ownBlock ≠ some b):RowIs w' b e l:=by
 unfold RowIs at hr ⊢;rw [h.block b hb hn]; exact hr
theorem grown_fr {v v':Value} {w w':World} (h:w.grownBy w' v.ownBlock) (ho:v'.ownBlock=v.ownBlock∨v'.ownBlock=some w.heap.size):FrN v w v' w' :=
 ⟨h.os,h.tape,h.output,h.size,fun b hb hn=>h.block b hb (fun e=>hn e.symm),fun g hg=>by
  rcases ho with ho | ho
  ·exact .inl (by rw [← ho]; exact hg)
  ·rw [ho] at hg; injection hg with hg; exact .inr (by omega)⟩
theorem wp_appN2 {P:Program} (w:World) {ops:Array Oper} {rest:List Oper} {o:Oper} {a:Act} {Q:Exit → Act → World → Prop} (hgd:o.guard=none)
  (s x:Operand) (t:TypeId) (ho:o.op=Op.call { callee:=Callee.builtin Builtin.append,args:=#[s,x],argTypes:=#[t,t] }) (B:Nat) (i:TypeInfo)
  (z:Value) (ht:P.underlying t=some (TypeDesc.slice 49)) (hi:P.info? 49=some i) (hz:i.zero=some z) (hsize:i.size=4) (hby:i.bytes=64) (hzs:z.cells.size=4)
  (v:Value) (cs:List NdC) (hs:a.eval s=v) (hown:OwnN w B v cs) (ad:Addr) (k:Nat) (c:NdC) (hc:OwnP w B c.a c.nd.attrs) (hx:a.eval x=Value.slice (some ad) 1 k)
  (hnews:∀ (j:Nat) (u:Value),(ndCells c)[j]? = some u → w.cell? (ad.add j)=some u)
  (hlen:cs.length≤2000000) (hB:B≤w.heap.size)
  (h:∀ (v':Value) (w':World),OwnN w' B v' (cs++[c]) → FrN v w v' w' → wpList P ops Q rest (a.put o.dst v') w'):wpList P ops Q (o :: rest) a w:=by
 have one:∀ (ps:List Par) (B:Nat) (v:Value),OwnP w B v ps → v.oneCell'=true:=fun ps B v h=>by
  rcases h.2 with ⟨rfl,_⟩ | ⟨g,cap,cur,rfl,_⟩ <;> rfl
 refine wpList_append_own_at w hgd s x t ho B 49 i z 4 64 ht hi hz hsize hby hzs (by decide) v cs.length (ndsCells cs) hs hown.1 ad 1 k (ndCells c) hx rfl hnews
  (by intro u hu; simp [ndCells] at hu; rcases hu with rfl | rfl | rfl | rfl <;> first | rfl | exact one _ _ _ hc) (by unfold maxLen; omega) (by omega) hB ?_
 intro v' w' hown' hgr _ hat;have keep:∀ (ps:List Par) (u:Value),OwnP w B u ps → OwnP w' B u ps:=fun ps u hu=>World.ownsRow.kept hu hgr (rows_neN hown.1 hu (by decide));refine h v' w' ⟨?_,?_⟩ (grown_fr hgr hat)
 ·have e:ndsCells (cs++[c])=ndsCells cs++ndCells c:=by simp [ndsCells]
  rw [e,List.length_append];exact hown'
 ·intro c' hc'
  rcases List.mem_append.1 hc' with hc' | hc'
  ·exact keep _ _ (hown.2 c' hc')
  ·simp at hc'; subst hc'
   exact keep _ _ hc
def preX (t l:List UInt8):Bool:=decide (l.take t.length=t)
theorem xtake_ext (l:List UInt8) (k:Nat):(⟨l.toArray⟩:ByteArray).extract 0 k=⟨(l.take k).toArray⟩:=by
 rw [ext_list]; simp
theorem xdrop_ext (l:List UInt8) (k:Nat):(⟨l.toArray⟩:ByteArray).extract k (⟨l.toArray⟩:ByteArray).size=⟨(l.drop k).toArray⟩:=by
 rw [ext_list,size_list]
 congr 2
 rw [List.take_of_length_le (by simp)]
theorem pre_len {t l:List UInt8} (h:preX t l=true):t.length≤l.length:=by
 have:=congrArg List.length (of_decide_eq_true h)
 rw [List.length_take] at this; omega
set_option maxHeartbeats 1000000 in
theorem xprefix_lite (l t:List UInt8) (w:World) (hl:l.length≤140737488355328) (ht:t.length≤140737488355328) :
  Calls Tryz.prog 127 #[.string ⟨l.toArray⟩,.string ⟨t.toArray⟩] w fun e w'=>e=.returned (.bool (preX t l))∧w'=w:=by
 have z1:=size_list l;have z2:=size_list t;by_cases h:t.length≤l.length
 ·have hge:(t.length:Int)≤(l.length:Int):=by omega
  have hx:=xtake_ext l t.length;have hq:Hid ((l.take t.length==t)=preX t l):=show _=_ by rw [preX,Bool.eq_iff_iff]; simp
  go_enter Tryz.func127,Tryz.ntmps127
  go_wp2;go_ret;exact ⟨ret_bool hq.out,rfl⟩
 ·have hR:Hid (preX t l=false):=show _=_ by
   cases hp:preX t l with
   | false=>rfl
   | true=>exact absurd (pre_len hp) h
  have hge:¬ (t.length:Int)≤(l.length:Int):=by omega
  go_enter Tryz.func127,Tryz.ntmps127
  go_wp2;go_ret;exact ⟨ret_bool hR.out.symm,rfl⟩
theorem xprefix_list (l t:List UInt8) (w:World) (hl:l.length≤140737488355328) (ht:t.length≤140737488355328) :
  Calls Tryz.prog 164 #[.string ⟨l.toArray⟩,.string ⟨t.toArray⟩] w fun e w'=>e=.returned (.bool (preX t l))∧w'=w:=by
 have K:=hid (fun w'=>xprefix_lite l t w' hl ht)
 go_enter Tryz.func164,Tryz.ntmps164
 go_wp2_with fail
 refine (K.out _).mono ?_
 rintro e w ⟨rfl,rfl⟩;go_wp2;go_ret;exact ⟨rfl,rfl⟩
def tookL (t l:List UInt8):List UInt8:=if preX t l then l.drop t.length else l
set_option maxHeartbeats 1000000 in
theorem xcutp_lite (l t:List UInt8) (w:World) (hl:l.length≤140737488355328) (ht:t.length≤140737488355328) :
  Calls Tryz.prog 129 #[.string ⟨l.toArray⟩,.string ⟨t.toArray⟩] w fun e w'=>e=.returned (.tuple #[.string ⟨(tookL t l).toArray⟩,.bool (preX t l)])∧w'=w:=by
 have K:=hid (fun w'=>xprefix_lite l t w' hl ht);have z1:=size_list l;have z2:=size_list t
 cases hp:preX t l with
 | true =>
  have hge:=pre_len hp;have hge2:(t.length:Int)≤(l.length:Int):=by omega
  rw [hp] at K;have hx:=xdrop_ext l t.length;rw [z1] at hx;have hR:Hid (tookL t l=l.drop t.length):=show _=_ by unfold tookL; rw [if_pos hp]
  clear hp
  go_enter Tryz.func129,Tryz.ntmps129
  go_wp2_with fail
  refine (K.out _).mono ?_
  rintro e w ⟨rfl,rfl⟩;go_wp2;go_ret2;exact ⟨by rw [hR.out]; rfl,rfl⟩
 | false =>
  rw [hp] at K;have hR:Hid (tookL t l=l):=show _=_ by unfold tookL; rw [if_neg (by rw [hp]; exact Bool.false_ne_true)]
  clear hp
  go_enter Tryz.func129,Tryz.ntmps129
  go_wp2_with fail
  refine (K.out _).mono ?_
  rintro e w ⟨rfl,rfl⟩;go_wp2;go_ret2;exact ⟨by rw [hR.out]; rfl,rfl⟩
theorem xcutp_list (l t:List UInt8) (w:World) (hl:l.length≤140737488355328) (ht:t.length≤140737488355328) :
  Calls Tryz.prog 104 #[.string ⟨l.toArray⟩,.string ⟨t.toArray⟩] w fun e w'=>e=.returned (.tuple #[.string ⟨(tookL t l).toArray⟩,.bool (preX t l)])∧w'=w:=by
 have K:=hid (fun w'=>xcutp_lite l t w' hl ht)
 go_enter Tryz.func104,Tryz.ntmps104
 go_wp2_with fail
 refine (K.out _).mono ?_
 rintro e w ⟨rfl,rfl⟩;go_wp2;go_ret2;exact ⟨rfl,rfl⟩
def gaveUp:Ending:=.panicked [{ v:=.iface 27 (.int .i64 130),recovered:=false }]
theorem giveUp_any (w:World):Calls Tryz.prog 72 #[] w fun e w'=>e=gaveUp∧w'=w:=by
 go_enter Tryz.func72,Tryz.ntmps72
 go_wp2;exact ⟨rfl,rfl,rfl⟩
structure FrR (b:Nat) (w w':World):Prop where
 os:w'.os=w.os
 tape:w'.tape=w.tape
 output:w'.output=w.output
 size:w.heap.size≤w'.heap.size
 block:∀ c,c < w.heap.size → c ≠ b → w'.heap[c]? = w.heap[c]?
theorem FrR.refl (b:Nat) (w:World):FrR b w w:=⟨rfl,rfl,rfl,Nat.le_refl _,fun _ _ _=>rfl⟩
theorem FrR.trans {b:Nat} {w w1 w2:World} (h:FrR b w w1) (k:FrR b w1 w2):FrR b w w2 :=
 ⟨k.os.trans h.os,k.tape.trans h.tape,k.output.trans h.output,Nat.le_trans h.size k.size,fun c hc hn=>by rw [k.block c (Nat.lt_of_lt_of_le hc h.size) hn,h.block c hc hn]⟩
theorem FrR.below {b:Nat} {w w':World} (h:Below w.heap.size w w'):FrR b w w':=⟨h.os,h.tape,h.output,h.size,fun c hc _=>h.block c hc⟩
theorem FrR.setCell {b:Nat} {w w':World} (h:FrR b w w') (j:Nat) (v:Value):FrR b w (w'.setCell ⟨b,j,none⟩ v) :=
 ⟨h.os,h.tape,h.output,by rw [World.size_setCell]; exact h.size,fun c hc hn=>by rw [heap_setCell_other _ _ _ _ hn]; exact h.block c hc hn⟩
theorem FrR.row {b c:Nat} {w w':World} {e:TypeId} {l:List Value} (h:FrR b w w') (hr:RowIs w c e l) (hn:c ≠ b):RowIs w' c e l:=by
 unfold RowIs at hr ⊢;rw [h.block c (Array.getElem?_eq_some_iff.1 hr).1 hn]; exact hr
theorem FrR.owns {b B n s:Nat} {w w':World} {e:TypeId} {v:Value} {xs:List Value} (h:FrR b w w') (ho:w.ownsRow B e s v n xs) (hn:v.ownBlock ≠ some b):w'.ownsRow B e s v n xs:=by
 obtain ⟨h1,h2⟩:=ho;refine ⟨h1,?_⟩
 rcases h2 with h2 | ⟨g,cap,cur,rfl,hg,hh,r⟩
 ·exact Or.inl h2
 ·refine Or.inr ⟨g,cap,cur,rfl,hg,?_,r⟩
  rw [h.block g (Array.getElem?_eq_some_iff.1 hh).1 (fun e=>hn (by rw [e]; rfl))]; exact hh
theorem row_apart {b B n s:Nat} {w:World} {e T:TypeId} {v:Value} {xs l:List Value} (hr:RowIs w b T l) (ho:w.ownsRow B e s v n xs) (hne:e ≠ T):v.ownBlock ≠ some b:=by
 intro hv
 rcases ho.2 with ⟨rfl,_⟩ | ⟨g,cap,cur,rfl,hg,hh,r⟩
 ·cases hv
 ·have:g=b:=by simpa [Value.ownBlock] using hv
  subst this;unfold RowIs at hr;rw [hr] at hh
  injection hh with hh
  injection hh with _ hh
  exact hne hh.symm
def XrAt (w:World) (b:Nat) (l:List UInt8) (v:Value):Prop:=RowIs w b 64 [.string ⟨l.toArray⟩,v]
theorem XrAt.put {w:World} {b:Nat} {l:List UInt8} {v:Value} (h:XrAt w b l v) (l':List UInt8):XrAt (w.setCell ⟨b,0,none⟩ (.string ⟨l'.toArray⟩)) b l' v:=by
 have:=RowIs.set h 0 (.string ⟨l'.toArray⟩)
 unfold XrAt; simpa using this
theorem XrAt.below {w w':World} {b:Nat} {l:List UInt8} {v:Value} (h:XrAt w b l v) (hb:Below w.heap.size w w'):XrAt w' b l v:=RowIs.below h hb (Array.getElem?_eq_some_iff.1 h).1
theorem XrAt.lt {w:World} {b:Nat} {l:List UInt8} {v:Value} (h:XrAt w b l v):b < w.heap.size:=(Array.getElem?_eq_some_iff.1 h).1
set_option maxHeartbeats 1000000 in
theorem sees_any (b:Nat) (l t:List UInt8) (v:Value) (w:World) (h:XrAt w b l v) (hl:l.length≤140737488355328) (ht:t.length≤140737488355328) :
  Calls Tryz.prog 137 #[.pointer (some ⟨b,0,none⟩),.string ⟨t.toArray⟩] w fun e w'=>e=.returned (.bool (preX t l))∧w'=w:=by
 obtain ⟨c0,c1,f0,f1⟩:=RowIs.rc2 h;have K:=hid (fun w'=>xprefix_list l t w' hl ht)
 go_enter Tryz.func137,Tryz.ntmps137
 go_wp2_with fail
 refine (K.out _).mono ?_
 rintro e w' ⟨rfl,rfl⟩;go_wp2;go_ret;exact ⟨rfl,rfl⟩
set_option maxHeartbeats 1000000 in
theorem took_any (b:Nat) (l t:List UInt8) (v:Value) (w:World) (h:XrAt w b l v) (hl:l.length≤140737488355328) (ht:t.length≤140737488355328) :
  Calls Tryz.prog 67 #[.pointer (some ⟨b,0,none⟩),.string ⟨t.toArray⟩] w fun e w'=>e=.returned (.bool (preX t l))∧XrAt w' b (tookL t l) v∧FrR b w w':=by
 obtain ⟨c0,c1,f0,f1⟩:=RowIs.rc2 h;have K:=hid (fun w'=>xcutp_list l t w' hl ht);have H:=hid (h.put (tookL t l));have HF:=hid ((FrR.refl b w).setCell 0 (.string ⟨(tookL t l).toArray⟩));generalize preX t l=r at K ⊢;generalize tookL t l=q at K H HF ⊢;clear h
 go_enter Tryz.func67,Tryz.ntmps67
 go_wp2_with fail
 refine (K.out _).mono ?_
 rintro e w' ⟨rfl,rfl⟩;go_wp2;go_ret;exact ⟨rfl,H.out,HF.out⟩
set_option maxHeartbeats 1000000 in
theorem must_ok (b:Nat) (l t:List UInt8) (v:Value) (w:World) (h:XrAt w b l v) (hl:l.length≤140737488355328) (ht:t.length≤140737488355328) (hp:preX t l=true) :
  Calls Tryz.prog 69 #[.pointer (some ⟨b,0,none⟩),.string ⟨t.toArray⟩] w fun e w'=>e=.returned (.tuple #[])∧XrAt w' b (l.drop t.length) v∧FrR b w w':=by
 have K:=hid (took_any b l t v w h hl ht);rw [show tookL t l=l.drop t.length by unfold tookL; rw [if_pos hp],hp] at K;clear h hp
 go_enter Tryz.func69,Tryz.ntmps69
 go_wp2_with fail
 refine K.out.mono ?_
 rintro e w' ⟨rfl,h1,h2⟩;go_wp2
 go_end0
 exact ⟨rfl,h1,h2⟩
set_option maxHeartbeats 1000000 in
theorem must_bad (b:Nat) (l t:List UInt8) (v:Value) (w:World) (h:XrAt w b l v) (hl:l.length≤140737488355328) (ht:t.length≤140737488355328) (hp:preX t l=false) :
  Calls Tryz.prog 69 #[.pointer (some ⟨b,0,none⟩),.string ⟨t.toArray⟩] w fun e w'=>e=gaveUp∧FrR b w w':=by
 have K:=hid (took_any b l t v w h hl ht);rw [hp] at K;clear h hp
 go_enter Tryz.func69,Tryz.ntmps69
 go_wp2_with fail
 refine K.out.mono ?_
 rintro e w' ⟨rfl,h1,h2⟩;go_wp2_with fail
 refine (giveUp_any _).mono ?_
 rintro e w' ⟨rfl,rfl⟩;exact ⟨rfl,rfl,h2⟩
set_option maxHeartbeats 1000000 in
theorem skip_any (b:Nat) (l:List UInt8) (v:Value) (w:World) (h:XrAt w b l v) (hl:l.length≤140737488355328) :
  Calls Tryz.prog 70 #[.pointer (some ⟨b,0,none⟩)] w fun e w'=>e=.returned (.bool (decide ((l.dropWhile xblk).length < l.length)))∧XrAt w' b (l.dropWhile xblk) v∧FrR b w w':=by
 obtain ⟨c0,c1,f0,f1⟩:=RowIs.rc2 h;have K:=hid (fun w'=>xtrimLeft_list l w' hl);generalize l.dropWhile xblk=q at K ⊢;have z1:=size_list l;have z2:=size_list q;have H:=hid h;clear h
 go_enter Tryz.func70,Tryz.ntmps70
 go_wp2_with fail
 refine (K.out _).mono ?_
 rintro e w1 ⟨rfl,hw1⟩;have h1:=XrAt.below H.out hw1;obtain ⟨d0,d1,g0,g1⟩:=RowIs.rc2 h1;have H1:=hid (h1.put q);have HF:=hid ((FrR.below (b:=b) hw1).setCell 0 (.string ⟨q.toArray⟩));clear h1 hw1 c0 c1 f0 f1;go_wp2;go_ret;exact ⟨rfl,H1.out,HF.out⟩
def upP (p:UInt8 → Bool) (l:List UInt8):Option (List UInt8 × List UInt8):=if l.all (fun b=>!p b) then none else some (l.takeWhile (fun b=>!p b),l.dropWhile (fun b=>!p b))
section
variable (p : UInt8 → Bool) (sg : ByteArray) (b : Nat) (l : List UInt8) (v : Value) (w : World)
set_option maxHeartbeats 1000000 in
theorem upTo_bad (h:XrAt w b l v) (hl:l.length≤140737488355328) (hix:∀ w,Calls Tryz.prog 105 #[.string ⟨l.toArray⟩,.string sg] w fun e w'=>e=.returned (.int .i64 (idxP p l))∧Below w.heap.size w w') (hp:upP p l=none) :
  Calls Tryz.prog 68 #[.pointer (some ⟨b,0,none⟩),.string sg] w fun e w'=>e=gaveUp∧FrR b w w':=by
 obtain ⟨c0,c1,f0,f1⟩:=RowIs.rc2 h;have K:=hid hix
 have hi:idxP p l=-1:=by
  unfold upP at hp; unfold idxP
  cases ha:l.all (fun b=>!p b) with
  | true=>rfl
  | false=>rw [ha] at hp; cases hp
 rw [hi] at K;clear hix hp hi h
 go_enter Tryz.func68,Tryz.ntmps68
 go_wp2_with fail
 refine (K.out _).mono ?_
 rintro e w1 ⟨rfl,hw1⟩;go_wp2_with fail
 refine (giveUp_any _).mono ?_
 rintro e w' ⟨rfl,rfl⟩;exact ⟨rfl,rfl,FrR.below hw1⟩
set_option maxHeartbeats 1000000 in
theorem upTo_ok (h:XrAt w b l v) (hl:l.length≤140737488355328) (hix:∀ w,Calls Tryz.prog 105 #[.string ⟨l.toArray⟩,.string sg] w fun e w'=>e=.returned (.int .i64 (idxP p l))∧Below w.heap.size w w') (x y:List UInt8) (hp:upP p l=some (x,y)) :
  Calls Tryz.prog 68 #[.pointer (some ⟨b,0,none⟩),.string sg] w fun e w'=>e=.returned (.string ⟨x.toArray⟩)∧XrAt w' b y v∧FrR b w w':=by
 obtain ⟨c0,c1,f0,f1⟩:=RowIs.rc2 h;have K:=hid hix;have z:=size_list l
 have hi:∃ n:Nat,idxP p l=(n:Int)∧n≤l.length∧l.take n=x∧l.drop n=y:=by
  unfold upP at hp; unfold idxP
  cases ha:l.all (fun b=>!p b) with
  | true=>rw [ha] at hp; cases hp
  | false =>
   rw [ha] at hp;simp only [Bool.false_eq_true,if_false,Option.some.injEq,Prod.mk.injEq] at hp ⊢;obtain ⟨rfl,rfl⟩:=hp;have e:=List.takeWhile_append_dropWhile (p:=fun b=>!p b) (l:=l);refine ⟨_,rfl,?_,?_,?_⟩
   ·have:=congrArg List.length e; rw [List.length_append] at this; omega
   ·generalize l.takeWhile (fun b=>!p b)=a at e ⊢;generalize l.dropWhile (fun b=>!p b)=c at e;rw [← e]; exact List.take_left
   ·generalize l.takeWhile (fun b=>!p b)=a at e ⊢;generalize l.dropWhile (fun b=>!p b)=c at e ⊢;rw [← e]; exact List.drop_left
 obtain ⟨n,hn,hnl,hx,hy⟩:=hi;rw [hn] at K;have e1:=xtake_ext l n;have e2:=xdrop_ext l n;rw [hx] at e1;rw [hy,z] at e2;have hn0:¬ (n:Int) < 0:=by omega
 have hn1:(n:Int)≤(l.length:Int):=by omega
 have HX:=hid hx;have H:=hid h;clear hix hp hn hx hy h
 go_enter Tryz.func68,Tryz.ntmps68
 go_wp2_with fail
 refine (K.out _).mono ?_
 rintro e w1 ⟨rfl,hw1⟩;have h1:=XrAt.below H.out hw1;obtain ⟨d0,d1,g0,g1⟩:=RowIs.rc2 h1;have H1:=hid (h1.put y);have HF:=hid ((FrR.below (b:=b) hw1).setCell 0 (.string ⟨y.toArray⟩));clear h1 hw1 c0 c1 f0 f1;go_wp2;go_ret;exact ⟨rfl,H1.out,HF.out⟩
end
end Go.Proofs.YtdbalahkmeknaaaGreatDoor
namespace Go.Proofs.YtdbalahkmeknaaaGreatDoor
open Go.RowKit Go.Lib
def OwnB (w:World) (B:Nat) (v:Value) (l:List UInt8):Prop :=
 ∃ g cap cur fz,v=.slice (some ⟨g,0,none⟩) l.length cap∧B≤g∧w.heap[g]? = some (.cells cur 5 fz)∧(fz.2≤l.length∨cur.size≤fz.1)∧l.length≤cap∧cap≤maxLen∧cur.size=cap∧cur.toList.take l.length=Lib.byteCells l
theorem OwnB.below {w w':World} {B:Nat} {v:Value} {l:List UInt8} (h:OwnB w B v l) (hb:Below w.heap.size w w'):OwnB w' B v l:=by
 obtain ⟨g,cap,cur,fz,rfl,hB,hg,r⟩:=h;exact ⟨g,cap,cur,fz,rfl,hB,by rw [hb.block g (Array.getElem?_eq_some_iff.1 hg).1]; exact hg,r⟩
theorem OwnB.alloc {w:World} {B:Nat} {v:Value} {l:List UInt8} (h:OwnB w B v l) (o:Obj):OwnB (w.alloc o) B v l:=h.below ((Below.refl _ w).alloc (Nat.le_refl _) o)
theorem OwnB.cells {w:World} {B g n cap:Nat} {l:List UInt8} (h:OwnB w B (.slice (some ⟨g,0,none⟩) n cap) l):∀ j u,(Lib.byteCells l)[j]? = some u → w.cell? ((⟨g,0,none⟩:Addr).add j)=some u:=by
 intro j u hu;obtain ⟨g',cap',cur,fz,hv,_,hg,_,_,_,_,ht⟩:=h
 simp at hv
 obtain ⟨rfl,_⟩:=hv;have e:(⟨g,0,none⟩:Addr).add j=⟨g,j,none⟩:=by unfold Addr.add; split <;> simp_all
 rw [e,cell_of_row w g j cur _ fz hg];rw [← ht,List.getElem?_take] at hu
 split at hu
 ·simpa using hu
 ·cases hu
theorem store_free (P:Program) (g o:Nat) (t:TypeId) (fz:Nat × Nat):∀ (vs:List Value) (i:Nat) (cur:Array Value) (w:World),w.heap[g]? = some (.cells cur t fz) → (fz.2≤o+i∨cur.size≤fz.1) → o+i+vs.length≤cur.size → (∀ v ∈ vs,v.oneCell'=true) →
  (storeCells ⟨g,o,none⟩ vs i).run P w=.ok () (w.setRow g (cur.toList.take (o+i)++vs++cur.toList.drop (o+i+vs.length)).toArray):=by
 intro vs
 induction vs with
 | nil =>
  intro i cur w hg _ _ _;simp only [storeCells,List.append_nil,List.length_nil,Nat.add_zero,List.take_append_drop,Array.toArray_toList];rw [setRow_self w g cur t fz hg]; rfl
 | cons x vs ih =>
  intro i cur w hg hz hl h1;simp only [List.length_cons] at hl;have hi:o+i < cur.size:=by omega
  have hst:(store ((⟨g,o,none⟩:Addr).add i) x).run P w=.ok () (w.setRow g (cur.setIfInBounds (o+i) x)):=by
   rw [show (⟨g,o,none⟩:Addr).add i=⟨g,o+i,none⟩ by unfold Addr.add; split <;> simp_all,run_store P w _ x _ (h1 x (by simp)),show w.cell? ⟨g,o+i,none⟩=some cur[o+i] by simp [World.cell?,hg,hi]]
   have hf:w.frozen? ⟨g,o+i,none⟩=false:=by
    obtain ⟨lo,up⟩:=fz;simp only [World.frozen?,hg,Bool.and_eq_false_iff,decide_eq_false_iff_not]
    rcases hz with hz | hz
    ·right; simp only at hz; omega
    ·left; simp only at hz; omega
   simp [hf,setCell_eq_setRow w g (o+i) cur t fz x hg]
  have:=ih (i+1) (cur.setIfInBounds (o+i) x) (w.setRow g (cur.setIfInBounds (o+i) x)) (setRow_heap w g cur _ t _ hg) (by rcases hz with hz | hz; exact .inl (by omega); exact .inr (by simpa using hz)) (by simp; omega) (fun y hy=>h1 y (by simp [hy]))
  simp only [storeCells,Sem.run_bind,hst,Result.andThen_ok,this,setRow_setRow]
  congr 3
  have e:=list_seg_step cur.toList (o+i) x vs (by simp; omega)
  simpa [Array.toList_setIfInBounds,Nat.add_assoc] using e
section
variable {P : Program} {w : World} {B g cap : Nat} {cur : Array Value} {fz : Nat × Nat} {l r : List UInt8}
theorem ownB_room (hB:B≤g) (hg:w.heap[g]? = some (.cells cur 5 fz)) (hz:fz.2≤l.length∨cur.size≤fz.1) (hcm:cap≤maxLen) (hcs:cur.size=cap) (ht:cur.toList.take l.length=Lib.byteCells l) (hroom:l.length+r.length≤cap) :
  OwnB (w.setRow g (cur.toList.take l.length++Lib.byteCells r++cur.toList.drop (l.length+r.length)).toArray) B (.slice (some ⟨g,0,none⟩) (l.length+r.length) cap) (l++r):=by
 have hs:(cur.toList.take l.length++Lib.byteCells r++cur.toList.drop (l.length+r.length)).toArray.size=cur.size:=by
  simp [Lib.byteCells_length]; omega
 refine ⟨g,cap,_,fz,by rw [List.length_append],hB,setRow_heap w g cur _ _ _ hg,?_,by rw [List.length_append]; exact hroom,hcm,by rw [hs]; exact hcs,?_⟩
 ·rw [hs,List.length_append]
  rcases hz with hz | hz
  ·exact .inl (by omega)
  ·exact .inr hz
 ·rw [ht,Lib.byteCells_append]
  have:(Lib.byteCells l++Lib.byteCells r).length=(l++r).length:=by simp [Lib.byteCells_length]
  rw [← this]; exact List.take_left
theorem ownB_new (hB:B≤w.heap.size) (c:Nat) (z:Array Value) (hz:z.size=c - (l.length+r.length)) (hc:l.length+r.length≤c) (hcm:c≤maxLen) :
  OwnB (w.drew.alloc (.cells ((Lib.byteCells l).toArray++(Lib.byteCells r).toArray++z) 5)) B (.slice (some ⟨w.heap.size,0,none⟩) (l.length+r.length) c) (l++r):=by
 refine ⟨w.heap.size,c,_,(0,0),by rw [List.length_append],hB,heap_alloc_new w.drew _,.inl (Nat.zero_le _),by rw [List.length_append]; exact hc,hcm,?_,?_⟩
 ·simp [Lib.byteCells_length,hz]; omega
 ·simp only [Array.toList_append,List.append_assoc];rw [Lib.byteCells_append,← List.append_assoc]
  have:(Lib.byteCells l++Lib.byteCells r).length=(l++r).length:=by simp [Lib.byteCells_length]
  rw [← this]; exact List.take_left
end
theorem strC_list (r:List UInt8):Lib.strCells ⟨r.toArray⟩=Lib.byteCells r:=by simp [Lib.strCells,Lib.byteCells]
theorem byteC_one (l:List UInt8):∀ u ∈ Lib.byteCells l,u.oneCell'=true:=by
 intro u hu;simp only [Lib.byteCells,List.mem_map] at hu;obtain ⟨b,_,rfl⟩:=hu; rfl
section
variable {P : Program} {ops : Array Oper} {rest : List Oper} {o : Oper} {a : Act} {Q : Exit → Act → World → Prop}
theorem wp_appBS (w:World) (hgd:o.guard=none) (sl x:Operand) (t u:TypeId) (ho:o.op=.call { callee:=.builtin .append,args:=#[sl,x],argTypes:=#[t,u] }) (B:Nat) (i:TypeInfo)
  (ht:P.underlying t=some (.slice 5)) (hu:P.underlying u=some .string) (hi:P.info? 5=some i) (hz:i.zero=some (.int .u8 0)) (hsize:i.size=1) (hby:i.bytes=1)
  (v:Value) (l r:List UInt8) (hs:a.eval sl=v) (hown:OwnB w B v l) (hx:a.eval x=.string ⟨r.toArray⟩) (hlen:l.length+r.length≤140737488355328) (w0:World) (hb:Below B w0 w) (hB:B≤w.heap.size)
  (h:∀ v' w',OwnB w' B v' (l++r) → Below B w0 w' → B≤w'.heap.size → wpList P ops Q rest (a.put o.dst v') w'):wpList P ops Q (o :: rest) a w:=by
 have hcl:=hown;obtain ⟨g,cap,cur,fz,rfl,hbg,hg,hfz,hnc,hcm,hcs,htk⟩:=hown;have hrs:(⟨r.toArray⟩:ByteArray).size=r.length:=size_list r;refine wpList_plain hgd fun K hK=>?_
 have key:∃ v' w',(Builtin.append_ #[t,u] o.type #[.slice (some ⟨g,0,none⟩) l.length cap,.string ⟨r.toArray⟩]).run P w=.ok v' w'∧OwnB w' B v' (l++r)∧Below B w0 w'∧B≤w'.heap.size:=by
  by_cases hroom:l.length+r.length≤cap
  ·have hf:=run_firstCells_string (P:=P) w 1 ⟨r.toArray⟩;have hst:=store_free P g l.length 5 fz (Lib.byteCells r) 0 cur w hg (by simpa using hfz) (by simp [Lib.byteCells_length]; omega) (byteC_one r);simp only [Nat.add_zero,Lib.byteCells_length] at hst;rw [hrs,strC_list] at hf;refine ⟨_,w.setRow g _,?_,ownB_room hbg hg hfz hcm hcs htk hroom,?_,?_⟩
   ·simp [Builtin.append_,run_underlying ht,run_underlying hu,sizeOf,typeInfo,hi,hsize,Builtin.lenOf,hrs,hroom,hf,Addr.add_lit,hst]
   ·exact hb.grown (row:=some g) ⟨rfl,rfl,rfl,by simp,fun k _ hk=>setRow_other w g k _ (fun e=>hk (by rw [e]))⟩ hB (fun k hk=>by injection hk with hk; omega)
   ·simpa using hB
  ·have hr:=run_append_grow_string (P:=P) w t u o.type 5 i (.int .u8 0) ht hu hi hz ⟨g,0,none⟩ l.length cap (Lib.byteCells l) (by rw [hsize]; simp [Lib.byteCells_length]) hcl.cells ⟨r.toArray⟩ (by rw [hrs]; omega) (by rw [hrs]; omega) (by rw [hby,hrs]; exact growslice_fits (by omega) (by omega));rw [hrs,strC_list] at hr;refine ⟨_,_,hr,ownB_new hB _ _ (by rw [size_zeroCells,show (Value.int IntKind.u8 0).cells.size=1 from rfl,Nat.mul_one]) (grownCap_ge _ _ _ _) (grownCap_le_maxLen _ _ _ _ (by unfold maxLen; omega)),?_,?_⟩
   ·exact hb.grown (row:=none) ⟨rfl,rfl,rfl,by simp,fun k hk _=>heap_alloc_old w.drew _ hk⟩ hB (fun k hk=>by cases hk)
   ·simp; omega
 obtain ⟨v',w',hr,h2,h3,h4⟩:=key;unfold Oper.wp execOp;simp only [ho,resolve,invoke,builtin,Sem.run_bind,Sem.run_pure,Result.andThen_ok,List.map_toArray,List.map_cons,List.map_nil,hs,hx,hr];exact hK _ _ (h v' w' h2 h3 h4)
theorem wp_appB1 (w:World) (hgd:o.guard=none) (sl x:Operand) (t:TypeId) (ho:o.op=.call { callee:=.builtin .append,args:=#[sl,x],argTypes:=#[t,t] }) (B:Nat) (i:TypeInfo)
  (ht:P.underlying t=some (.slice 5)) (hi:P.info? 5=some i) (hz:i.zero=some (.int .u8 0)) (hsize:i.size=1) (hby:i.bytes=1)
  (v:Value) (l:List UInt8) (c:UInt8) (hs:a.eval sl=v) (hown:OwnB w B v l) (ad:Addr) (k:Nat) (hx:a.eval x=.slice (some ad) 1 k) (hnew:∀ (j:Nat) (u:Value),(Lib.byteCells [c])[j]? = some u → w.cell? (ad.add j)=some u) (hlen:l.length+1≤140737488355328) (w0:World) (hb:Below B w0 w) (hB:B≤w.heap.size)
  (h:∀ v' w',OwnB w' B v' (l++[c]) → Below B w0 w' → B≤w'.heap.size → wpList P ops Q rest (a.put o.dst v') w'):wpList P ops Q (o :: rest) a w:=by
 have hcl:=hown;obtain ⟨g,cap,cur,fz,rfl,hbg,hg,hfz,hnc,hcm,hcs,htk⟩:=hown;refine wpList_plain hgd fun K hK=>?_
 have hone:(Lib.byteCells [c]).length=1 * i.size:=by rw [hsize]; rfl
 have key:∃ v' w',(Builtin.append_ #[t,t] o.type #[.slice (some ⟨g,0,none⟩) l.length cap,.slice (some ad) 1 k]).run P w=.ok v' w'∧OwnB w' B v' (l++[c])∧Below B w0 w'∧B≤w'.heap.size:=by
  by_cases hroom:l.length+1≤cap
  ·have hf:=run_firstCells_some (P:=P) w i.size 1 ad 1 k (Lib.byteCells [c]) hone hnew;have hst:=store_free P g l.length 5 fz (Lib.byteCells [c]) 0 cur w hg (by simpa using hfz) (by simp [Lib.byteCells_length]; omega) (byteC_one [c]);simp only [Nat.add_zero,Lib.byteCells_length] at hst;rw [hsize] at hf;refine ⟨_,w.setRow g _,?_,ownB_room (r:=[c]) hbg hg hfz hcm hcs htk hroom,?_,?_⟩
   ·simp [Builtin.append_,run_underlying ht,sizeOf,typeInfo,hi,hsize,Builtin.lenOf,hroom,hf,Addr.add_lit] at hst ⊢
    simp [hst]
   ·exact hb.grown (row:=some g) ⟨rfl,rfl,rfl,by simp,fun k _ hk=>setRow_other w g k _ (fun e=>hk (by rw [e]))⟩ hB (fun k hk=>by injection hk with hk; omega)
   ·simpa using hB
  ·have hr:=run_append_grow (P:=P) w t o.type 5 i (.int .u8 0) ht hi hz ⟨g,0,none⟩ l.length cap (Lib.byteCells l) (by rw [hsize]; simp [Lib.byteCells_length]) hcl.cells ad 1 k (Lib.byteCells [c]) hone hnew (by omega) (by omega) (growslice_fits (by omega) (by rw [hby]; omega));refine ⟨_,_,hr,ownB_new (r:=[c]) hB _ _ (by rw [size_zeroCells,show (Value.int IntKind.u8 0).cells.size=1 from rfl,Nat.mul_one]; rfl) (grownCap_ge _ _ _ _) (grownCap_le_maxLen _ _ _ _ (by unfold maxLen; omega)),?_,?_⟩
   ·exact hb.grown (row:=none) ⟨rfl,rfl,rfl,by simp,fun k hk _=>heap_alloc_old w.drew _ hk⟩ hB (fun k hk=>by cases hk)
   ·simp; omega
 obtain ⟨v',w',hr,h2,h3,h4⟩:=key;unfold Oper.wp execOp;simp only [ho,resolve,invoke,builtin,Sem.run_bind,Sem.run_pure,Result.andThen_ok,List.map_toArray,List.map_cons,List.map_nil,hs,hx,hr];exact hK _ _ (h v' w' h2 h3 h4)
end
theorem ownB_of (w:World) (l:List UInt8) (h:l.length≤140737488355328):∃ v w',(∀ {P:Program} {src dst:TypeId},P.underlying src=some .string → P.underlying dst=some (.slice 5) → P.underlying 5=some (.int .u8) → (convert src dst (.string ⟨l.toArray⟩)).run P w=.ok v w')∧OwnB w' w.heap.size v l∧Below w.heap.size w w':=by
 have hs:(⟨l.toArray⟩:ByteArray).size=l.length:=size_list l;refine ⟨_,_,fun h1 h2 h3=>run_bytes_of_string w _ _ 5 ⟨l.toArray⟩ h1 h2 h3,?_,?_⟩
 ·have hge:=grownCap_ge w l.length 0 5
  have hz:(bytesRow ⟨l.toArray⟩ (grownCap w (⟨l.toArray⟩:ByteArray).size 0 5)).size=grownCap w l.length 0 5:=by
   rw [hs]; simp [bytesRow,hs]; omega
  refine ⟨w.heap.size,_,_,_,by rw [hs],Nat.le_refl _,heap_alloc_new w.drew _,.inr (Nat.le_refl _),by first | exact hge | (rw [hs]; exact hge),by first | exact grownCap_le_maxLen _ _ _ _ (by unfold maxLen; omega) | (rw [hs]; exact grownCap_le_maxLen _ _ _ _ (by unfold maxLen; omega)),by first | exact hz | (rw [hs] at hz ⊢; exact hz),?_⟩
  simp [bytesRow,Lib.byteCells]
 ·exact (Below.refl _ w).grown (row:=none) ⟨rfl,rfl,rfl,by simp,fun k hk _=>heap_alloc_old w.drew _ hk⟩ (Nat.le_refl _) (fun k hk=>by cases hk)
theorem convB {P:Program} {w:World} {B src dst:Nat} {v:Value} (l:List UInt8) (hs:P.underlying src=some (.slice 5)) (he:P.underlying 5=some (.int .u8)) (hd:P.underlying dst=some .string) (hown:OwnB w B v l) :
  (convert src dst v).run P w=.ok (.string ⟨l.toArray⟩) w:=by
 have hcl:=hown;obtain ⟨g,cap,cur,fz,rfl,r⟩:=hown;exact run_convert_bytes_back w src dst 5 ⟨g,0,none⟩ cap l hs he hd (fun j hj=>hcl.cells j _ (by simp [Lib.byteCells,hj]))
end Go.Proofs.YtdbalahkmeknaaaGreatDoor
namespace Go.Proofs.YtdbalahkmeknaaaGreatDoor
open Go.RowKit Sc
def sgnV (n:List UInt8):Option UInt8 :=
 if n=[97,109,112] then some 38 else if n=[108,116] then some 60 else if n=[103,116] then some 62 else if n=[113,117,111,116] then some 34 else if n=[97,112,111,115] then some 39 else none
theorem take_cut (m n b:List UInt8) (hm:(59:UInt8) ∉ m) (hn:(59:UInt8) ∉ n):(n++59 :: b).take (m.length+1)=m++[59] ↔ n=m:=by
 constructor
 ·intro h;have h1:=List.take_append_drop (m.length+1) (n++59 :: b);rw [h,List.append_assoc] at h1;have h2:=congrArg (cutL 59) h1;rw [show m++([59]++(n++59 :: b).drop (m.length+1))=m++59 :: (n++59 :: b).drop (m.length+1) from rfl,cutL_hit hm,cutL_hit hn] at h2;exact (congrArg (·.1) h2).symm
 ·rintro rfl;rw [List.take_append,List.take_of_length_le (by omega)]
  simp
theorem ent_hit {n b:List UInt8} (hn:(59:UInt8) ∉ n):entX (n++59 :: b)=(sgnV n).map (fun c=>(c,n.length+1)):=by
 have t1:=take_cut [97,109,112] n b (by decide) hn;have t2:=take_cut [108,116] n b (by decide) hn;have t3:=take_cut [103,116] n b (by decide) hn;have t4:=take_cut [113,117,111,116] n b (by decide) hn;have t5:=take_cut [97,112,111,115] n b (by decide) hn;simp only [List.length_cons,List.length_nil,List.cons_append,List.nil_append,Nat.zero_add,Nat.reduceAdd] at t1 t2 t3 t4 t5;unfold entX sgnV;simp only [t1,t2,t3,t4,t5]
 split
 ·next h=>rw [h]; rfl
 ·split
  ·next h=>rw [h]; rfl
  ·split
   ·next h=>rw [h]; rfl
   ·split
    ·next h=>rw [h]; rfl
    ·split
     ·next h=>rw [h]; rfl
     ·rfl
theorem ent_miss {r:List UInt8} (h:(59:UInt8) ∉ r):entX r=none:=by
 have no:∀ (k:Nat) (m:List UInt8),(59:UInt8) ∈ m → ¬ r.take k=m:=fun k m hm e=>h (List.mem_of_mem_take (by rw [e]; exact hm));unfold entX;rw [if_neg (no _ _ (by decide)),if_neg (no _ _ (by decide)),if_neg (no _ _ (by decide)),if_neg (no _ _ (by decide)),if_neg (no _ _ (by decide))]
theorem read_amp {r n b:List UInt8} {f:Bool} (h:cutL 59 r=(n,b,f)):readX (38 :: r)=(if f then (sgnV n) else none).bind (fun c=>(readX b).map (c :: ·)):=by
 cases f with
 | false =>
  have hn:(59:UInt8) ∉ r:=by
   intro hm
   have:=cutL_has 59 r
   rw [h] at this
   simp [hasL,hm] at this
  have:=readX_none (l:=38 :: r) (k:=0) (by simp) rfl (by simpa using ent_miss hn)
  simpa using this
 | true =>
  have hj:=cutL_join 59 r (by rw [h]);rw [h] at hj;simp only at hj
  have hn:(59:UInt8) ∉ n:=by
   intro hm;have h2:=cutL_has 59 n
   obtain ⟨p,q,hp,hpq⟩:∃ p q,n=p++59 :: q∧(59:UInt8) ∉ p:=by
    have hc:=cutL_join 59 n (by rw [h2]; simp [hasL,hm])
    rcases idx_cases n 59 with ⟨h1,_⟩ | ⟨a,c,h1,h3,_⟩
    ·exact absurd hm h1
    ·exact ⟨a,c,h1,h3⟩
   rw [hj,hp,List.append_assoc,List.cons_append,cutL_hit hpq] at h
   have:=congrArg (fun x=>x.1.length) h
   simp at this
  rw [hj];have he:=ent_hit (b:=b) hn
  cases hs:sgnV n with
  | none =>
   rw [hs] at he
   have:=readX_none (l:=38 :: (n++59 :: b)) (k:=0) (by simp) rfl (by simpa using he)
   simpa [hs] using this
  | some c =>
   rw [hs] at he
   have:=read_ent (q:=b) he (by rw [← List.drop_drop,List.drop_left]; rfl)
   rw [this]; rfl
theorem read_plain:∀ {a:List UInt8} (r:List UInt8),(38:UInt8) ∉ a → readX (a++r)=(readX r).map (a++·)
 | [],r,_=>by cases h:readX r <;> simp [h]
 | b :: a,r,h=>by
  have hb:b ≠ 38:=fun e=>h (by rw [e]; exact List.mem_cons_self ..);have ha:(38:UInt8) ∉ a:=fun e=>h (List.mem_cons_of_mem _ e);rw [List.cons_append,read_cons hb,read_plain r ha]
  cases readX r <;> rfl
theorem read_cut {s a r:List UInt8} {f:Bool} (h:cutL 38 s=(a,r,f)):readX s=(if f then readX (38 :: r) else some []).map (a++·):=by
 cases f with
 | false =>
  have:=cutL_not 38 s (by rw [h])
  rw [h] at this;have e:a=s:=congrArg (·.1) this;subst e
  have hn:(38:UInt8) ∉ a:=by
   intro hm
   have:=cutL_has 38 a
   rw [h] at this
   simp [hasL,hm] at this
  have:=read_plain (a:=a) [] hn
  rw [List.append_nil] at this;rw [this]; rfl
 | true =>
  have hj:=cutL_join 38 s (by rw [h]);rw [h] at hj;simp only at hj
  have hn:(38:UInt8) ∉ a:=by
   intro hm
   rcases idx_cases a 38 with ⟨h1,_⟩ | ⟨p,c,h1,h3,_⟩
   ·exact h1 hm
   ·rw [hj,h1,List.append_assoc,List.cons_append,cutL_hit h3] at h
    have:=congrArg (fun x=>x.1.length) h
    simp at this
  rw [hj];exact read_plain _ hn
theorem xcut_of {r a b:List UInt8} {f:Bool} {c:UInt8} (h:cutL c r=(a,b,f)) (w:World) (hs:r.length≤140737488355328) :
  Calls Tryz.prog 115 #[.string ⟨r.toArray⟩,.string ⟨#[c]⟩] w fun e w'=>e=.returned (.tuple #[.string ⟨a.toArray⟩,.string ⟨b.toArray⟩,.bool f])∧Below w.heap.size w w':=by
 have k:=strCut_any ⟨r.toArray⟩ c w (by rw [size_list]; omega);have e:cutL c (⟨r.toArray⟩:ByteArray).data.toList=(a,b,f):=h;rw [e] at k;refine k.mono ?_
 rintro e w' ⟨rfl,q,rfl⟩;exact ⟨rfl,below_drewN w q⟩
theorem cutL_sum (c:UInt8) (l:List UInt8):(cutL c l).1.length+(cutL c l).2.1.length≤l.length:=by
 cases h:(cutL c l).2.2 with
 | true =>
  have:=congrArg List.length (cutL_join c l h)
  simp only [List.length_append,List.length_cons] at this;omega
 | false=>rw [cutL_not c l h]; simp
theorem OwnB.mono {w:World} {B C:Nat} {v:Value} {l:List UInt8} (h:OwnB w B v l) (hc:C≤B):OwnB w C v l:=by
 obtain ⟨g,cap,cur,fz,hv,hB,r⟩:=h;exact ⟨g,cap,cur,fz,hv,Nat.le_trans hc hB,r⟩
def sgnR (o:Option UInt8):Value:=match o with | some c=>.tuple #[.int .u8 c.toNat,.bool true] | none=>.tuple #[.int .u8 0,.bool false]
set_option maxHeartbeats 1000000 in
theorem signOf_any (n:List UInt8) (w:World):Calls Tryz.prog 167 #[.string ⟨n.toArray⟩] w fun e w'=>e=.returned (sgnR (sgnV n))∧w'=w:=by
 by_cases h1:n=[97,109,112]
 ·subst h1
  go_enter Tryz.func167,Tryz.ntmps167
  go_wp2;go_ret2;exact ⟨rfl,rfl⟩
 by_cases h2:n=[108,116]
 ·subst h2
  go_enter Tryz.func167,Tryz.ntmps167
  go_wp2;go_ret2;exact ⟨rfl,rfl⟩
 by_cases h3:n=[103,116]
 ·subst h3
  go_enter Tryz.func167,Tryz.ntmps167
  go_wp2;go_ret2;exact ⟨rfl,rfl⟩
 by_cases h4:n=[113,117,111,116]
 ·subst h4
  go_enter Tryz.func167,Tryz.ntmps167
  go_wp2;go_ret2;exact ⟨rfl,rfl⟩
 by_cases h5:n=[97,112,111,115]
 ·subst h5
  go_enter Tryz.func167,Tryz.ntmps167
  go_wp2;go_ret2;exact ⟨rfl,rfl⟩
 have hR:Hid (sgnV n=none):=show _=_ by unfold sgnV; rw [if_neg h1,if_neg h2,if_neg h3,if_neg h4,if_neg h5]
 have e1:(n==[97,109,112])=false:=by rw [beq_eq_false_iff_ne]; exact h1
 have e2:(n==[108,116])=false:=by rw [beq_eq_false_iff_ne]; exact h2
 have e3:(n==[103,116])=false:=by rw [beq_eq_false_iff_ne]; exact h3
 have e4:(n==[113,117,111,116])=false:=by rw [beq_eq_false_iff_ne]; exact h4
 have e5:(n==[97,112,111,115])=false:=by rw [beq_eq_false_iff_ne]; exact h5
 clear h1 h2 h3 h4 h5
 go_enter Tryz.func167,Tryz.ntmps167
 go_wp2;go_ret2;exact ⟨by rw [hR.out]; rfl,rfl⟩
def ReadsTo (o:Option (List UInt8)) (w:World) (e:Ending) (w':World):Prop:=(match o with | some r=>e=.returned (.string ⟨r.toArray⟩) | none=>e=gaveUp)∧Below w.heap.size w w'
def readW (more:Bool) (rest:List UInt8):Option (List UInt8):=if more then readX (38 :: rest) else some []
def xlenOf:Value → Nat | .string t=>t.size | _=>0
end Go.Proofs.YtdbalahkmeknaaaGreatDoor
