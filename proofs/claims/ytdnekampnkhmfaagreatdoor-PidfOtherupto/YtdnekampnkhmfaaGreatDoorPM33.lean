/-
  PrL, XPrint, XAwake, PC1, Re5, PC2, PC3, PC4, PP3.
-/
import Derived.Test.YtdnekampnkhmfaaGreatDoorPM29
import Derived.Laws.RangeString
import Derived.Lib.QuietBelow
set_option linter.unusedVariables false
set_option linter.unusedSimpArgs false
set_option maxRecDepth 20000
namespace Go.Proofs.YtdnekampnkhmfaaGreatDoor
open Go.RowKit Sc
theorem ent_len {d:Dc} (h:checkD d=0):d.entity.length≤257:=by
 obtain ⟨h1,_⟩:=checkD_ok h;obtain ⟨u,k1,k2,k3⟩:=host_is h1;rw [k3]; exact whoT_len k1
theorem ident_len {s:List UInt8} (h:identP s=true):s.length≤64:=by
 simp only [identP,Bool.and_eq_true,decide_eq_true_eq] at h; exact h.2.2
theorem small_checked {d:Dc} (h:checkD d=0):SmallD 1048576 d:=by
 obtain ⟨h1,h2,h3,h4,h5,h6⟩:=checkD_ok h;refine ⟨by have:=ent_len h; omega,by omega,by omega,fun t ht=>?_,fun s hs=>?_⟩
 ·obtain ⟨k1,k2,k3,k4,k5,_⟩:=tupP_facts (h4 t ht)
  have:=ident_len k1
  have:=(textP_facts k2).1
  have:=(textP_facts k3).1
  refine ⟨by omega,by omega,by omega,?_⟩
  simp only [Lit.wf,IntKind.min,IntKind.max,IntKind.signed,IntKind.bits,Bool.and_eq_true,decide_eq_true_eq,if_true];omega
 ·have:=h6 s hs
  simp only [noteP,Bool.and_eq_true] at this
  have:=(textP_facts this.2).1
  omega
theorem sm_node {d:Nat} {n tx:List UInt8} {a:List Par} (hd:d≤8) (hn:n.length≤4096) (ht:tx.length≤4096) (hl:a.length≤16) (ha:∀ p ∈ a,p.name.length≤4096∧p.value.length≤4096):SmNd 4096 ⟨d,n,a,tx⟩ :=
 ⟨hn,ht,by simp only; omega,ha,by simp,by simp only; omega⟩
theorem flatXs_mem {d:Nat} {x:Nd}:∀ {ks:List XT},x ∈ flatXs d ks → ∃ k ∈ ks,x ∈ flatX d k
 | [],h=>by simp [flatXs] at h
 | k :: ks,h=>by
  rw [flatXs,List.mem_append] at h
  rcases h with h | h
  ·exact ⟨k,by simp,h⟩
  ·obtain ⟨q,hq,hx⟩:=flatXs_mem h;exact ⟨q,by simp [hq],hx⟩
theorem note_sm {d:Nat} {s:List UInt8} (hd:d≤8) (h:s.length≤4096):∀ x ∈ flatX d (noteT s),SmNd 4096 x:=by
 intro x hx;simp only [noteT,flatX,flatXs,List.mem_singleton] at hx;subst hx;exact sm_node hd (by decide) h (by simp) (by simp)
theorem tup_sm {t:Tu} (h:tupP t=true):∀ x ∈ flatX 1 (tupT t),SmNd 4096 x:=by
 obtain ⟨k1,k2,k3,k4,k5,k6⟩:=tupP_facts h;have l1:=ident_len k1;have l2:=(textP_facts k2).1;have l3:=(textP_facts k3).1;intro x hx;rw [flat_tup] at hx;simp only [List.mem_append,List.mem_cons,List.not_mem_nil,or_false] at hx
 rcases hx with (rfl | rfl | rfl) | (hx | hx)
 ·exact sm_node (d:=1) (by decide) (by decide) (by decide) (by simp) (by
   intro p hp; simp only [List.mem_singleton] at hp; subst hp
   exact ⟨by simp [atr,pidK],by simp only [atr]; omega⟩)
 ·exact sm_node (d:=2) (by decide) (by decide) (by decide) (by decide) (by simp)
 ·exact sm_node (d:=3) (by decide) (by decide) (by cases t.opn <;> decide) (by decide) (by simp)
 ·by_cases hc:t.contact=[]
  ·simp [contT,hc,flatXs] at hx
  ·rw [flat_cont t hc,List.mem_singleton] at hx;subst hx;refine sm_node (d:=2) (by decide) (by decide) (by omega) (by unfold contA; split <;> simp) ?_
   intro p hp;unfold contA at hp
   split at hp
   ·simp at hp
   ·next hne =>
    simp only [List.mem_singleton] at hp; subst hp
    have:=(dec_signs (n:=t.prio) (by omega) k5).2
    exact ⟨by simp [atr,priorityK],by simp only [atr]; omega⟩
 ·by_cases hc:t.note=[]
  ·simp [tnoteT,hc,flatXs] at hx
  ·rw [flat_tnote t hc,List.mem_singleton] at hx;subst hx;exact sm_node (d:=2) (by decide) (by decide) (by omega) (by simp) (by simp)
theorem tree_sm {d:Dc} (h:checkD d=0):∀ x ∈ flatX 0 (treeD d),SmNd 4096 x:=by
 have he:=ent_len h;obtain ⟨h1,h2,h3,h4,h5,h6⟩:=checkD_ok h;intro x hx;rw [treeD,flatX,flatXs_app] at hx;simp only [List.mem_cons,List.mem_append] at hx
 rcases hx with rfl | hx | hx
 ·refine sm_node (d:=0) (by decide) (by decide) (by decide) (by simp) ?_
  intro p hp;simp only [List.mem_cons,List.not_mem_nil,or_false] at hp
  rcases hp with rfl | rfl
  ·exact ⟨by decide,by decide⟩
  ·exact ⟨by simp [atr,entityK],by simp [atr,presK]; omega⟩
 ·obtain ⟨k,hk,hx⟩:=flatXs_mem hx;obtain ⟨t,ht,rfl⟩:=List.mem_map.1 hk;exact tup_sm (h4 t ht) x hx
 ·obtain ⟨k,hk,hx⟩:=flatXs_mem hx;obtain ⟨s,hs,rfl⟩:=List.mem_map.1 hk
  have:=h6 s hs
  simp only [noteP,Bool.and_eq_true] at this
  have:=(textP_facts this.2).1
  exact note_sm (d:=0+1) (by decide) (by omega) x hx
theorem print_sm {d:Dc} (h:checkD d=0):(printX (treeD d)).length≤1000000000:=by
 have h1:=printX_W 0 (treeD d);have h2:=ok_W (K:=4096) (tree_check h) fun x hx=>by obtain ⟨a,b,_,c,_⟩:=tree_sm h x hx; exact ⟨a,b,c⟩
 omega
mutual
theorem szX_flat (d:Nat):∀ t:XT,szX t+1≤4 * (flatX d t).length
 | .mk n a tx k=>by
  have:=szXs_flat (d+1) k
  rw [szX,flatX,List.length_cons]; omega
theorem szXs_flat (d:Nat):∀ ks:List XT,szXs ks≤4 * (flatXs d ks).length+1
 | []=>by rw [szXs]; omega
 | k :: ks=>by
  have h1:=szX_flat d k;have h2:=szXs_flat d ks;rw [szXs,flatXs,List.length_append]; omega
end
theorem write_any (wP:World) (v:Value) (cs:List NdC) (b:Nat) (hv:NdsAt wP v cs) (hz:cs.length≤1000000) (hsm:∀ c ∈ cs,SmallN 140737488355328 c.nd) (hbB:wP.heap.size≤b):∀ N,WrS wP v cs b N
 | 0=>by
  intro t ht;obtain ⟨n,a,tx,k⟩:=t;rw [szX] at ht; omega
 | N+1=>write_step wP v cs b hv hz hsm hbB N (write_any wP v cs b hv hz hsm hbB N)
set_option maxHeartbeats 2000000 in
set_option maxRecDepth 100000 in
theorem xprint_ok (v:Value) (cs:List NdC) (t:XT) (w:World) (hsm:∀ c ∈ cs,SmallN 140737488355328 c.nd) (hv:NdsAt w v cs) (hc:checkX (ndsL cs)=0) (hf:flatX 0 t=ndsL cs) (hpl:39+(printX t).length≤140737488355328) :
  Calls Tryz.prog 24 #[v] w fun e w'=>e=.returned (.tuple #[.string ⟨(prologK++printX t).toArray⟩,.int .i64 0])∧Below w.heap.size w w':=by
 have h200:cs.length≤200:=by have:=(checkX_ok hc).2.1; rw [ndsL_len] at this; exact this
 have hfl:(flatX 0 t).length=cs.length:=by rw [hf,ndsL_len]
 have hszt:=szX_flat 0 t;rw [hfl] at hszt;have KC:=hid (xcheck_any v cs w (by omega) hsm hv);rw [hc] at KC;have HZ:Hid (∀ w1:World,Below w.heap.size w w1 → IsBld (w1.alloc (.cells #[.pointer none,.slice none 0 0] 102)) w.heap.size w1.heap.size []):=fun w1 hw1=>.inl ⟨hw1.size,.slice none 0 0,heap_alloc_new _ _,World.ownsRowF_nil _ _ _ _,by simp [Value.ownBlock]⟩;have KW:=hid (fun b (hb:w.heap.size≤b)=>write_any w v cs b hv (by omega) hsm hb (szX t) t (Nat.le_refl _) 0 0 [] prologK);have HN:Hid (prologK++printX t ≠ []):=fun e=>by simp [prologK] at e
 have HP0:Hid (prologK.length=39):=rfl;have HD:Hid ((ndsL cs).drop 0=flatX 0 t++[]):=show _=_ by rw [List.drop_zero,hf,List.append_nil]
 have HB:Hid (∀ w1:World,Below w.heap.size w w1 → Below w.heap.size w (w1.alloc (.cells #[.pointer none,.slice none 0 0] 102))):=fun w1 hw1=>hw1.alloc hw1.size _;have HPK:Hid ((⟨#[60,63,120,109,108,32,118,101,114,115,105,111,110,61,34,49,46,48,34,32,101,110,99,111,100,105,110,103,61,34,85,84,70,45,56,34,63,62,10]⟩:ByteArray)=⟨prologK.toArray⟩):=rfl;have hPl:prologK.length+(printX t).length≤140737488355328:=by rw [HP0.out]; exact hpl
 unfold WrE at KW;generalize prologK++printX t=Z at KW HN ⊢;generalize printX t=PT at KW hPl;obtain ⟨ao,cap,rfl,_⟩:=hv;generalize hnn:cs.length=n at KC KW ⊢;clear hc hf hsm hfl
 go_enter Tryz.func24,Tryz.ntmps24
 go_wp2_with fail
 refine (KC.out).mono ?_
 rintro e w1 ⟨rfl,hw1⟩;have hbl:=HZ.out w1 hw1;have hbw:=HB.out w1 hw1;have hsz:w.heap.size≤(w1.alloc (.cells #[.pointer none,.slice none 0 0] 102)).heap.size:=hbw.size;go_wp2_with fail
 generalize World.alloc _ _=W2 at hbl hbw hsz ⊢;rw [HPK.out];refine (xbldWrite w.heap.size w1.heap.size [] prologK W2 hbl (by have:=HP0.out; simp; omega) hsz).mono ?_
 rintro e w3 ⟨rfl,hw3⟩;rw [List.nil_append] at hw3;go_wp2_with fail
 refine (KW.out w1.heap.size hw1.size w3 HD.out (fun x hx=>by simp at hx) (hbw.trans hw3.bel) hw3.bld hPl (by omega)).mono ?_
 rintro e w4 ⟨rfl,hw4⟩;go_wp2_with fail
 refine (bldString w.heap.size w1.heap.size Z w4 hw4.bld HN.out).mono ?_
 rintro e w5 ⟨rfl,h5,hb5,_⟩;go_wp2;go_ret2;exact ⟨rfl,((hbw.trans hw3.bel).trans hw4.bel).trans hb5⟩
theorem row_at {w:World} {g:Nat} {e:TypeId} {l:List Value} (h:RowIs w g e l) {j:Nat} {u:Value} (hu:l[j]? = some u):w.cell? ⟨g,j,none⟩=some u:=by
 obtain ⟨hj,rfl⟩:=List.getElem?_eq_some_iff.1 hu;exact h.cell j hj
theorem add_zero_lit (g j:Nat):(⟨g,0,none⟩:Addr).add j=⟨g,j,none⟩:=by unfold Addr.add; split <;> simp_all
theorem row_nds {w:World} {g cap:Nat} {cs:List NdC} (h:RowIs w g 52 (ndsCells cs)) (hp:∀ k (hk:k < cs.length),ParsAt w cs[k].a cs[k].nd.attrs):NdsAt w (.slice (some ⟨g,0,none⟩) cs.length cap) cs:=by
 refine ⟨_,cap,rfl,fun k hk=>⟨_,rfl,(Array.getElem?_eq_some_iff.1 h).1,?_,hp k hk⟩⟩
 have c:∀ j u,(ndCells cs[k])[j]? = some u → w.cell? ⟨g,k * 4+j,none⟩=some u:=fun j u hj=>row_at h (ndsCells_get cs k hk j u hj);refine ⟨?_,?_,?_,?_⟩
 ·rw [add_zero_lit]; exact c 0 _ rfl
 ·rw [add_zero_lit]; exact c 1 _ rfl
 ·rw [add_zero_lit]; exact c 2 _ rfl
 ·rw [add_zero_lit]; exact c 3 _ rfl
theorem below_iter (w:World) (s:ByteArray) (pos:Nat):Below w.heap.size w (w.iter s pos):=(Below.refl _ w).alloc (Nat.le_refl _) _
set_option maxHeartbeats 1000000 in
set_option maxRecDepth 100000 in
theorem pident_any (s:ByteArray) (w:World) (hs:s.size≤140737488355328) :
  Calls Tryz.prog 126 #[.string s] w fun e w'=>e=.returned (.bool (identP s.data.toList))∧Below w.heap.size w w':=by
 have HS:=hid (all_snocX idc s);have HB:=hid (all_badX idc s);have HT:Hid (∀ k,s.size≤k → (s.data.toList.take k).all idc=true → s.data.toList.all idc=true):=fun k hk ha=>by rw [take_all s k hk] at ha; exact ha
 have hl:=len_data s;have hv:identP s.data.toList=(s.data.toList.all idc && (decide (1≤s.size) && decide (s.size≤64))):=by unfold identP; rw [hl]
 by_cases h0:s.size=0
 ·have e:s=⟨#[]⟩:=by
   have:s.data.toList=[]:=List.eq_nil_of_length_eq_zero (by rw [hl]; exact h0)
   apply ByteArray.ext
   apply Array.ext'
   exact this
  have hR:Hid (identP s.data.toList=false):=show _=_ by rw [hv,decide_eq_false (p:=1≤s.size) (by omega)]; simp
  clear hv HS HB HT hl h0;subst e;generalize identP _=R at hR ⊢
  go_enter Tryz.func126,Tryz.ntmps126
  go_wp2;go_ret;exact ⟨ret_bool hR.out.symm,Below.refl _ _⟩
 have he1:(s.data.toList==[])=false:=by rw [beq_eq_false_iff_ne]; intro e; rw [e] at hl; simp at hl; omega
 have he2:s.data.toList.isEmpty=false:=by cases hh:s.data.toList with | nil=>rw [hh] at hl; simp at hl; omega | cons a r=>rfl
 have he3:s.toList.isEmpty=false:=by rw [ByteArray.toList_eq]; exact he2
 by_cases h64:64 < s.size
 ·have q64:(64:Int) < (s.size:Int):=by omega
  have hR:Hid (identP s.data.toList=false):=show _=_ by rw [hv,decide_eq_false (p:=s.size≤64) (by omega)]; simp
  clear hv HS HB HT hl;generalize identP s.data.toList=R at hR ⊢
  go_enter Tryz.func126,Tryz.ntmps126
  go_wp2;go_ret;exact ⟨ret_bool hR.out.symm,Below.refl _ _⟩
 have q64:¬ (64:Int) < (s.size:Int):=by omega
 have hv:identP s.data.toList=s.data.toList.all idc:=by rw [hv,decide_eq_true (p:=1≤s.size) (by omega),decide_eq_true (p:=s.size≤64) (by omega)]; simp
 rw [hv];generalize s.data.toList.all idc=R at HB HT ⊢;clear hv hl
 go_enter Tryz.func126,Tryz.ntmps126
 go_wp2
 go_loopw [4] (fun v wr=>∃ k:Nat,k≤s.size∧wr=w.iter s k∧Hid ((s.data.toList.take k).all idc=true)) (fun _ wr=>s.size - wr.iterPos w.heap.size)
 case atStart=>exact ⟨0,Nat.zero_le _,rfl,show _=_ by simp⟩
 case round =>
  obtain ⟨k,hk,rfl,ha⟩:=hrel;by_cases hlt:k < s.size
  ·have hbd:=u8_bd s[k];by_cases h128:s[k].toNat < 128
   ·have hnx:∀ ty,(Instr.next (.pointer (some ⟨w.heap.size,0,none⟩)) true ty).run Tryz.prog (w.iter s k)=_:=fun ty=>run_next_ascii w s k ty hlt h128;by_cases h33:(s[k].toNat:Int) < 33
    ·have hR:Hid (R=false):=HB.out k hlt (by unfold idc; rw [decide_eq_false (by omega)]; rfl);clear ha HS HB HT;go_wp2;go_ret;exact ⟨ret_bool hR.out.symm,below_iter _ _ _⟩
    ·by_cases h126:126 < (s[k].toNat:Int)
     ·have hR:Hid (R=false):=HB.out k hlt (by unfold idc; rw [decide_eq_false (p:=s[k].toNat≤126) (by omega)]; simp);clear ha HS HB HT;go_wp2;go_ret;exact ⟨ret_bool hR.out.symm,below_iter _ _ _⟩
     ·have ha2:Hid ((s.data.toList.take (k+1)).all idc=true):=HS.out k hlt ha.out (by unfold idc; rw [decide_eq_true (by omega),decide_eq_true (by omega)]; rfl);clear ha HS HB HT;go_wp2;go_roundw
      case rel=>exact ⟨k+1,by omega,rfl,ha2⟩
      case measure=>simp; omega
   ·have hnx:∀ ty,(Instr.next (.pointer (some ⟨w.heap.size,0,none⟩)) true ty).run Tryz.prog (w.iter s k)=_:=fun ty=>run_next_any w s k ty hlt;have hd:=(decode_high s k hlt (by omega)).1;have hR:Hid (R=false):=HB.out k hlt (by unfold idc; rw [decide_eq_false (p:=s[k].toNat≤126) (by omega)]; simp);generalize Utf8.decode s k=D at hnx hd;have r1:¬ (D.1:Int) < 33:=by omega
    have r2:(126:Int) < (D.1:Int):=by omega
    clear ha HS HB HT;go_wp2;go_ret;exact ⟨ret_bool hR.out.symm,below_iter _ _ _⟩
  ·have hnx:∀ ty,(Instr.next (.pointer (some ⟨w.heap.size,0,none⟩)) true ty).run Tryz.prog (w.iter s k)=_:=fun ty=>run_next_end w s k ty hlt;have hR:Hid (R=true):=HT.out k (by omega) ha.out;clear ha HS HB HT;go_wp2;go_ret;exact ⟨ret_bool hR.out.symm,below_iter _ _ _⟩
theorem pident_list (l:List UInt8) (w:World) (h:l.length≤140737488355328) :
  Calls Tryz.prog 126 #[.string ⟨l.toArray⟩] w fun e w'=>e=.returned (.bool (identP l))∧Below w.heap.size w w':=pident_any ⟨l.toArray⟩ w (by rw [size_list]; exact h)
theorem name_note:nameX noteK=true:=by decide +kernel
theorem check_note (l:List UInt8):checkX [⟨0,noteK,[],l⟩]=if (signsX l && xtrim l==l)=true then 0 else 130:=by
 have e:stepsX [⟨0,noteK,[],l⟩]=(signsX l && xtrim l==l):=by
  unfold stepsX;unfold nodeOk
  simp [name_note,attrs_none]
 unfold checkX;rw [e]
 cases (signsX l && xtrim l==l) <;> simp
def noteC (l:List UInt8):List NdC:=[⟨⟨0,noteK,[],l⟩,.slice none 0 0⟩]
theorem note_nds (w:World) (l:List UInt8):NdsAt (w.alloc (.cells #[.int .i64 0,.string ⟨#[110,111,116,101]⟩,.slice none 0 0,.string ⟨l.toArray⟩] 52)) (.slice (some ⟨w.heap.size,0,none⟩) 1 1) (noteC l):=by
 refine row_nds (cs:=noteC l) (rc_row4 w _ _ _ _ _) (fun k hk=>?_)
 simp [noteC] at hk
 subst hk;exact Or.inl ⟨rfl,rfl⟩
set_option maxHeartbeats 1000000 in
set_option maxRecDepth 100000 in
theorem ptext_any (l:List UInt8) (w:World) (h:l.length≤140737488355328) :
  Calls Tryz.prog 68 #[.string ⟨l.toArray⟩] w fun e w'=>e=.returned (.bool (textP l))∧Below w.heap.size w w':=by
 have zl:=size_list l;have hv:textP l=(decide (l.length≤128) && (signsX l && xtrim l==l)):=rfl;generalize textP l=R at hv ⊢;by_cases h1:l.length≤128
 ·rw [decide_eq_true h1,Bool.true_and] at hv;have r1:(l.length:Int)≤128:=by omega
  have K:=hid (xcheck_any _ (noteC l) _ (by simp [noteC]) (by
   intro c hc
   simp [noteC] at hc
   subst hc;exact ⟨by simp [noteK],by simp only; omega,⟨by simp,fun p hp=>by simp at hp⟩,by rfl⟩) (note_nds w l))
  rw [show ndsL (noteC l)=[⟨0,noteK,[],l⟩] from rfl,check_note] at K;generalize (signsX l && xtrim l==l)=T at K hv;have hbn:Below w.heap.size w (w.alloc (.cells #[.int .i64 0,.string ⟨#[110,111,116,101]⟩,.slice none 0 0,.string ⟨l.toArray⟩] 52)):=(Below.refl _ w).alloc (Nat.le_refl _) _;have HV:=hid hv;clear hv
  cases T with
  | false =>
   rw [if_neg (by simp)] at K
   go_enter Tryz.func68,Tryz.ntmps68
   go_wp2_with fail
   refine K.out.mono ?_
   rintro e w' ⟨rfl,hw'⟩;go_wp2;go_ret;exact ⟨ret_bool HV.out.symm,hbn.trans (hw'.mono hbn.size)⟩
  | true =>
   rw [if_pos rfl] at K
   go_enter Tryz.func68,Tryz.ntmps68
   go_wp2_with fail
   refine K.out.mono ?_
   rintro e w' ⟨rfl,hw'⟩;go_wp2;go_ret;exact ⟨ret_bool HV.out.symm,hbn.trans (hw'.mono hbn.size)⟩
 ·rw [decide_eq_false h1,Bool.false_and] at hv;have HV:=hid hv;have r1:¬ (l.length:Int)≤128:=by omega
  clear hv
  go_enter Tryz.func68,Tryz.ntmps68
  go_wp2;go_ret;exact ⟨ret_bool HV.out.symm,Below.refl _ _⟩
set_option maxHeartbeats 1000000 in
theorem xlocal_any (l:List UInt8) (w:World) (h:l.length≤140737488355328) :
  Calls Tryz.prog 71 #[.string ⟨l.toArray⟩] w fun e w'=>e=.returned (.string ⟨(localX l).toArray⟩)∧Below w.heap.size w w':=by
 have K:=hid (fun w'=>strCut_any ⟨l.toArray⟩ 58 w' (by rw [size_list]; omega));rw [show (⟨l.toArray⟩:ByteArray).data.toList=l from by simp] at K;have hv:localX l=if (cutL 58 l).2.2=true then (cutL 58 l).2.1 else l:=by
  unfold localX
  split
  ·rfl
  ·next ho=>rw [cutL_not 58 l (by simpa using ho)]
 have hlen:=cutL_len 58 l;generalize localX l=R at hv ⊢;generalize cutL 58 l=C at K hv hlen;obtain ⟨a,b,o⟩:=C;simp only at K hv hlen
 cases o with
 | true =>
  rw [if_pos rfl] at hv;have KC:=hid (fun w'=>xclone_list b w' (by omega))
  go_enter Tryz.func71,Tryz.ntmps71
  go_wp2_with fail
  refine (K.out _).mono ?_
  rintro e w1 ⟨rfl,q,rfl⟩;have hbq:=below_drewN w q;generalize w.drewN q=wq at hbq ⊢;go_wp2_with fail
  refine (KC.out _).mono ?_
  rintro e w2 ⟨rfl,hw2⟩;go_wp2;go_ret;exact ⟨by rw [hv]; rfl,hbq.trans (hw2.mono hbq.size)⟩
 | false =>
  rw [if_neg (by simp)] at hv;have KC:=hid (fun w'=>xclone_list l w' (by omega))
  go_enter Tryz.func71,Tryz.ntmps71
  go_wp2_with fail
  refine (K.out _).mono ?_
  rintro e w1 ⟨rfl,q,rfl⟩;have hbq:=below_drewN w q;generalize w.drewN q=wq at hbq ⊢;go_wp2_with fail
  refine (KC.out _).mono ?_
  rintro e w2 ⟨rfl,hw2⟩;go_wp2;go_ret;exact ⟨by rw [hv]; rfl,hbq.trans (hw2.mono hbq.size)⟩
end Go.Proofs.YtdnekampnkhmfaaGreatDoor
namespace Go.Proofs.YtdnekampnkhmfaaGreatDoor
open Go.RowKit Go.Sort Go.Lib
theorem below_re5 {w W:World} (h:Below w.heap.size w W) (d:Nat) (os:Array Obj):Below w.heap.size w (grow (redrawn W d) os):=h.trans ((below_regrown W d os).mono h.size)
theorem followsMixed5:Tryz.prog.follows .mixedOrders=true:=by kernel_rfl
end Go.Proofs.YtdnekampnkhmfaaGreatDoor
namespace Go.Proofs.YtdnekampnkhmfaaGreatDoor
open Go.RowKit Sc
set_option maxHeartbeats 1000000 in
set_option maxRecDepth 100000 in
theorem pmay_any (t:Tu) (w:World) (hsm:SmallT 140737488355328 t) :
  Calls Tryz.prog 66 #[tuV t] w fun e w'=>e=.returned (.bool (tupP t))∧Below w.heap.size w w':=by
 obtain ⟨hi,hc,hn,hp⟩:=hsm;have hp:=i64_of hp;have KI:=hid (fun w'=>pident_list t.id w' hi);have KC:=hid (fun w'=>ptext_any t.contact w' hc);have KN:=hid (fun w'=>ptext_any t.note w' hn);have hv:tupP t=(identP t.id && (textP t.contact && (textP t.note && (decide (-1≤t.prio) && (decide (t.prio≤1000) && (!t.contact.isEmpty || t.prio==-1)))))):=rfl;generalize tupP t=R at hv ⊢;obtain ⟨ti,tb,tk,tp,tn⟩:=t;unfold tuV;simp only at KI KC KN hv hp ⊢;have hr:=rc_row5 w (.string ⟨ti.toArray⟩) (.bool tb) (.string ⟨tk.toArray⟩) (.int .i64 tp) (.string ⟨tn.toArray⟩) 56;have hbn:Below w.heap.size w (w.alloc (.cells #[.string ⟨ti.toArray⟩,.bool tb,.string ⟨tk.toArray⟩,.int .i64 tp,.string ⟨tn.toArray⟩] 56)):=(Below.refl _ w).alloc (Nat.le_refl _) _;have hlt:=alloc_lt w (.cells #[.string ⟨ti.toArray⟩,.bool tb,.string ⟨tk.toArray⟩,.int .i64 tp,.string ⟨tn.toArray⟩] 56);have HV:=hid hv;clear hv
 go_enter Tryz.func66,Tryz.ntmps66
 go_wp2_with fail
 generalize World.alloc w _=W1 at hr hbn hlt ⊢;refine (KI.out _).mono ?_
 rintro e w1 ⟨rfl,hw1⟩;have hb1:=hbn.trans (hw1.mono hbn.size);have hr1:=hr.below hw1 hlt;have hlt1:=Nat.lt_of_lt_of_le hlt hw1.size;clear KI hr hbn hlt hw1;obtain ⟨a0,a1,a2,a3,a4,_,_,_,_,_⟩:=hr1.rc5
 cases hI:identP ti with
 | false =>
  have hR:Hid (R=false):=show _=_ by rw [HV.out,hI]; rfl
  clear HV;go_wp2;go_ret;exact ⟨ret_bool hR.out.symm,hb1⟩
 | true =>
  go_wp2_with fail
  refine (KC.out _).mono ?_
  rintro e w2 ⟨rfl,hw2⟩;have hb2:=hb1.trans (hw2.mono hb1.size);have hr2:=hr1.below hw2 hlt1;have hlt2:=Nat.lt_of_lt_of_le hlt1 hw2.size;clear KC hr1 hb1 hlt1 hw2 a0 a1 a2 a3 a4;obtain ⟨a0,a1,a2,a3,a4,_,_,_,_,_⟩:=hr2.rc5
  cases hC:textP tk with
  | false =>
   have hR:Hid (R=false):=show _=_ by rw [HV.out,hI,hC]; rfl
   clear HV;go_wp2;go_ret;exact ⟨ret_bool hR.out.symm,hb2⟩
  | true =>
   go_wp2_with fail
   refine (KN.out _).mono ?_
   rintro e w3 ⟨rfl,hw3⟩;have hb3:=hb2.trans (hw3.mono hb2.size);have hr3:=hr2.below hw3 hlt2;clear KN hr2 hb2 hlt2 hw3 a0 a1 a2 a3 a4;obtain ⟨a0,a1,a2,a3,a4,_,_,_,_,_⟩:=hr3.rc5
   cases hN:textP tn with
   | false =>
    have hR:Hid (R=false):=show _=_ by rw [HV.out,hI,hC,hN]; rfl
    clear HV;go_wp2;go_ret;exact ⟨ret_bool hR.out.symm,hb3⟩
   | true =>
    have hR:R=(decide (-1≤tp) && (decide (tp≤1000) && (!tk.isEmpty || tp==-1))):=by rw [HV.out,hI,hC,hN]; rfl
    clear HV
    cases hE:tk.isEmpty with
    | true =>
     have e:tk=[]:=by cases tk <;> simp_all
     subst e;have hR2:Hid (R=(tp==-1)):=show _=_ by
      rw [hR];by_cases h:tp=-1
      ·subst h; rfl
      ·have:(tp==-1)=false:=by rw [beq_eq_false_iff_ne]; exact h
       rw [this]; simp
     clear hR;go_wp2;go_ret;exact ⟨ret_bool hR2.out.symm,hb3⟩
    | false =>
     have hne:(tk==[])=false:=by cases tk <;> simp_all
     rw [hE] at hR;by_cases h1:-1≤tp
     ·have hR2:Hid (R=decide (tp≤1000)):=show _=_ by rw [hR,decide_eq_true h1]; simp
      clear hR;go_wp2;go_ret;exact ⟨ret_bool hR2.out.symm,hb3⟩
     ·have hR2:Hid (R=false):=show _=_ by rw [hR,decide_eq_false h1]; rfl
      have q1:decide (-1≤tp)=false:=decide_eq_false h1;clear hR;go_wp2;go_ret;exact ⟨ret_bool hR2.out.symm,hb3⟩
def hasT (x:List UInt8) (l:List Tu):Bool:=l.any (fun q=>q.id==x)
theorem hasT_not (x:List UInt8) (l:List Tu):l.all (fun q=>!(q.id==x))=!hasT x l:=by
 unfold hasT
 induction l with
 | nil=>rfl
 | cons a l ih=>rw [List.all_cons,List.any_cons,ih]; cases (a.id==x) <;> rfl
set_option maxHeartbeats 1000000 in
set_option maxRecDepth 100000 in
theorem phas_any (v:Value) (ts:List Tu) (x:List UInt8) (w:World) (hz:ts.length≤1000) (hv:TusAt w v ts) :
  Calls Tryz.prog 67 #[v,.string ⟨x.toArray⟩] w fun e w'=>e=.returned (.bool (hasT x ts))∧Below w.heap.size w w':=by
 obtain ⟨ao,cap,rfl,hc⟩:=hv;have HC:=hid hc;have HS:Hid (∀ j (hj:j < ts.length),hasT x (ts.take j)=false → (ts[j].id==x)=false → hasT x (ts.take (j+1))=false):=fun j hj h1 h2=>by
  unfold hasT at *;rw [List.take_succ_eq_append_getElem hj,List.any_append,h1]
  simp [h2]
 have HB:Hid (∀ j (hj:j < ts.length),(ts[j].id==x)=true → hasT x ts=true):=fun j hj h=>by
  unfold hasT;exact List.any_eq_true.2 ⟨_,List.getElem_mem hj,h⟩
 have HT:Hid (∀ j,ts.length≤j → hasT x (ts.take j)=false → hasT x ts=false):=fun j hj h=>by rw [List.take_of_length_le hj] at h; exact h
 generalize hasT x ts=R at HB HT ⊢;obtain ⟨tn,htn⟩:∃ tn,tn=ts.length:=⟨_,rfl⟩
 rw [← htn] at hz HT ⊢;have HTN:=hid htn;clear hc htn
 go_enter Tryz.func67,Tryz.ntmps67
 go_wp2
 go_loopw [9] (fun i wr=>∃ j:Nat,j≤tn∧i=.int .i64 j∧Hid (hasT x (ts.take j)=false)∧Below w.heap.size w wr) (fun i _=>tn - (intOf i).toNat)
 case atStart=>exact ⟨0,Nat.zero_le _,rfl,show _=_ from rfl,Below.refl _ _⟩
 case round =>
  obtain ⟨j,hjn,rfl,ha,hb⟩:=hrel;by_cases hlt:j < tn
  ·have hjl:j < ts.length:=by have:=HTN.out; omega
   obtain ⟨ad,hao,hab,c⟩:=HC.out j hjl;subst hao;have c:=c.below hb hab;have h1:=hid (HS.out j hjl ha.out);have h2:=hid (HB.out j hjl);have hbn:=fun o=>hb.alloc (o:=o) hb.size;clear HS HB HT HC ha;generalize ts[j]=T at c h1 h2;obtain ⟨ti,tb,tk,tp,tnn⟩:=T;obtain ⟨c0,c1,c2,c3,c4⟩:=c;simp only at c0 c1 c2 c3 c4 h1 h2;have q6:(j:Int) < (tn:Int):=by omega
   cases hx:(ti==x) with
   | true =>
    have hR:Hid (R=true):=h2.out hx;clear h1 h2;go_wp2;go_ret;exact ⟨ret_bool hR.out.symm,hb.alloc hb.size _⟩
   | false =>
    have hA:Hid (hasT x (ts.take (j+1))=false):=h1.out hx;clear h1 h2;go_wp2;go_roundw
    case rel=>exact ⟨j+1,by omega,by go_num,hA,hb.alloc hb.size _⟩
    case measure=>simp [intOf]; omega
  ·have hR:Hid (R=false):=HT.out j (by omega) ha.out;have q6:¬ (j:Int) < (tn:Int):=by omega
   clear HS HB HT HC ha;go_wp2;go_ret;exact ⟨ret_bool hR.out.symm,hb⟩
theorem tusAt_take {w:World} {ao:Option Addr} {n cap:Nat} {ts:List Tu} (hn:n=ts.length) (h:TusAt w (.slice ao n cap) ts) (k cap':Nat) (hk:k≤n):TusAt w (.slice ao k cap') (ts.take k):=by
 obtain ⟨a,c,e,hc⟩:=h;have ea:ao=a:=by injection e
 subst ea;refine ⟨ao,cap',by rw [List.length_take,Nat.min_eq_left (by omega)],fun j hj=>?_⟩
 rw [List.length_take] at hj;obtain ⟨ad,h1,h2,h3⟩:=hc j (by omega);exact ⟨ad,h1,h2,by rw [List.getElem_take]; exact h3⟩
end Go.Proofs.YtdnekampnkhmfaaGreatDoor
namespace Go.Proofs.YtdnekampnkhmfaaGreatDoor
open Go.RowKit Go.Sort Go.Lib Sc
def CapTu (v:Value):Prop:=∀ a n c,v=.slice a n c → n≤c
set_option maxHeartbeats 2000000 in
set_option maxRecDepth 100000 in
theorem ptups_any (v:Value) (ts:List Tu) (w:World) (hz:ts.length≤140737488355328) (hst:∀ t ∈ ts,SmallT 140737488355328 t) (hcp:CapTu v) (hv:TusAt w v ts) :
  Calls Tryz.prog 29 #[v] w fun e w'=>e=.returned (.bool (decide (ts.length≤16) && tupsOk ts))∧Below w.heap.size w w':=by
 have HV:=hid (fun w' (hb:Below w.heap.size w w')=>hv.below hb);obtain ⟨ao,cap,hvf,hc⟩:=hv;have HC:=hid hc;have HST:=hid hst;obtain ⟨tn,htn⟩:∃ tn,tn=ts.length:=⟨_,rfl⟩
 rw [← htn] at hz hvf ⊢;subst hvf;have hcap:tn≤cap:=hcp _ _ _ rfl;have HTN:=hid htn;by_cases h16:16 < tn
 ·have q2:(16:Int) < (tn:Int):=by omega
  rw [decide_eq_false (p:=tn≤16) (by omega),Bool.false_and];clear HC HST HV hc hst hcp htn
  go_enter Tryz.func29,Tryz.ntmps29
  go_wp2;go_ret;exact ⟨rfl,Below.refl _ _⟩
 have q2:¬ (16:Int) < (tn:Int):=by omega
 rw [decide_eq_true (p:=tn≤16) (by omega),Bool.true_and];have HBT:Hid (∀ j (hj:j < ts.length),tupP ts[j]=false → tupsOk ts=false):=fun j hj h=>tups_bad hj h;have HTW:Hid (∀ j (hj:j < ts.length),hasT ts[j].id (ts.take j)=true → tupsOk ts=false):=fun j hj h=>by
  unfold hasT at h;obtain ⟨q,hq,he⟩:=List.any_eq_true.1 h;obtain ⟨m,hm,rfl⟩:=List.mem_iff_getElem.1 hq;rw [List.length_take] at hm;rw [List.getElem_take] at he;exact tups_twice hj (m:=m) (by omega) he
 have HSN:Hid (∀ j (hj:j < ts.length),tupsOk (ts.take j)=true → tupP ts[j]=true → hasT ts[j].id (ts.take j)=false → tupsOk (ts.take (j+1))=true):=fun j hj h1 h2 h3=>tups_snoc hj h1 h2 (by rw [hasT_not,h3]; rfl);have HT:Hid (∀ j,tn≤j → tupsOk (ts.take j)=true → tupsOk ts=true):=fun j hj h=>by rw [List.take_of_length_le (by omega)] at h; exact h
 generalize tupsOk ts=R at HBT HTW HT ⊢;clear hc hst hcp htn
 go_enter Tryz.func29,Tryz.ntmps29
 go_wp2
 go_loopw [10] (fun i wr=>∃ j:Nat,j≤tn∧i=.int .i64 j∧Hid (tupsOk (ts.take j)=true)∧Below w.heap.size w wr) (fun i _=>tn - (intOf i).toNat)
 case atStart=>exact ⟨0,Nat.zero_le _,rfl,show _=_ from rfl,Below.refl _ _⟩
 case round =>
  obtain ⟨j,hjn,rfl,ha,hb⟩:=hrel;by_cases hlt:j < tn
  ·have hjl:j < ts.length:=by have:=HTN.out; omega
   obtain ⟨ad,hao,hab,c⟩:=HC.out j hjl;subst hao;have c:=c.below hb hab;have hsm:=HST.out ts[j] (List.getElem_mem hjl);have HVj:=hid (fun w' (hb':Below w.heap.size w w')=>tusAt_take HTN.out (HV.out w' hb') j cap (by omega));have h1:=hid (HBT.out j hjl);have h2:=hid (HTW.out j hjl);have h3:=hid (HSN.out j hjl ha.out);have hpr:=i64_of hsm.2.2.2;have hpl:(ts.take j).length≤1000:=by rw [List.length_take]; omega
   clear HBT HTW HSN HT HC HST ha HV;generalize ts.take j=P at HVj h2 h3 hpl;have KM0:=hid (fun w'=>pmay_any ts[j] w' hsm);have KH0:=hid (fun w' (hb':Below w.heap.size w w')=>phas_any _ P ts[j].id w' hpl (HVj.out w' hb'));generalize ts[j]=T at c h1 h2 h3 hpr KM0 KH0;clear hsm HVj;obtain ⟨ti,tb,tk,tp,tnn⟩:=T;obtain ⟨c0,c1,c2,c3,c4⟩:=c;unfold tuV at KM0;simp only at c0 c1 c2 c3 c4 h1 h2 h3 hpr KM0 KH0;have q6:(j:Int) < (tn:Int):=by omega
   have q7:(j:Int)≤(cap:Int):=by omega
   have q8:¬ (j:Int) < 0:=by omega
   obtain ⟨W2,hW2⟩:∃ W2,W2=wr.alloc (.cells #[.string ⟨ti.toArray⟩,.bool tb,.string ⟨tk.toArray⟩,.int .i64 tp,.string ⟨tnn.toArray⟩] 56):=⟨_,rfl⟩
   have hbW:Below w.heap.size w W2:=by rw [hW2]; exact hb.alloc hb.size _
   have hrT:RowIs W2 wr.heap.size 56 [.string ⟨ti.toArray⟩,.bool tb,.string ⟨tk.toArray⟩,.int .i64 tp,.string ⟨tnn.toArray⟩]:=by rw [hW2]; exact rc_row5 _ _ _ _ _ _ _
   go_wp2;clear c0 c1 c2 c3 c4;rw [← hW2];clear hW2;obtain ⟨b0,b1,b2,b3,b4,_,_,_,_,_⟩:=hrT.rc5;replace b0:=cell_regrown b0;replace b1:=cell_regrown b1;replace b2:=cell_regrown b2;replace b3:=cell_regrown b3;replace b4:=cell_regrown b4;have cM:=hid (fun (d:Nat) (os:Array Obj)=>Calls.regrown_of (KM0.out (grow (redrawn W2 d) os)));have cH:=hid (fun (d:Nat) (os:Array Obj)=>Calls.regrown_of (KH0.out (grow (redrawn W2 d) os) (below_re5 hbW d os)));clear KM0 KH0
   cases hM:tupP ⟨ti,tb,tk,tp,tnn⟩ with
   | false =>
    rw [hM] at cM;have hR:Hid (R=false):=h1.out hM;clear h1 h2 h3 cH;refine wp_region_quiet_below followsMixed5 (by kernel_rfl) ?_
    repeat (go_big_quiet_step (with_reducible exact cM.out _ _))
    refine wpQuiet_nil ?_
    intro _ hw';obtain ⟨⟨dq,osq⟩,hw''⟩:=hw';subst hw'';have hb1:=below_re5 hbW dq osq;clear cM b0 b1 b2 b3 b4;go_wp2;go_ret;exact ⟨ret_bool hR.out.symm,hb1⟩
   | true =>
    rw [hM] at cM
    cases hH:hasT ti P with
    | true =>
     rw [hH] at cH;have hR:Hid (R=false):=h2.out hH;clear h1 h2 h3;refine wp_region_quiet_below followsMixed5 (by kernel_rfl) ?_
     repeat (go_big_quiet_step (first | with_reducible exact cM.out _ _ | with_reducible exact cH.out _ _))
     refine wpQuiet_nil ?_
     intro _ hw';obtain ⟨⟨dq,osq⟩,hw''⟩:=hw';subst hw'';have hb1:=below_re5 hbW dq osq;clear cM cH b0 b1 b2 b3 b4;go_wp2;go_ret;exact ⟨ret_bool hR.out.symm,hb1⟩
    | false =>
     rw [hH] at cH;have hA:Hid (tupsOk (ts.take (j+1))=true):=h3.out hM hH;clear h1 h2 h3;refine wp_region_quiet_below followsMixed5 (by kernel_rfl) ?_
     repeat (go_big_quiet_step (first | with_reducible exact cM.out _ _ | with_reducible exact cH.out _ _))
     refine wpQuiet_nil ?_
     intro _ hw';obtain ⟨⟨dq,osq⟩,hw''⟩:=hw';subst hw'';have hb1:=below_re5 hbW dq osq;clear cM cH b0 b1 b2 b3 b4;go_wp2;go_roundw
     case rel=>exact ⟨j+1,by omega,by go_num,hA,hb1⟩
     case measure=>simp [intOf]; omega
  ·have hR:Hid (R=true):=HT.out j (by omega) ha.out;have q6:¬ (j:Int) < (tn:Int):=by omega
   clear HBT HTW HSN HT HC HST ha HV;go_wp2;go_ret;exact ⟨ret_bool hR.out.symm,hb⟩
set_option maxHeartbeats 2000000 in
set_option maxRecDepth 100000 in
theorem pnotes_any (v:Value) (ns:List (List UInt8)) (w:World) (hz:ns.length≤140737488355328) (hsn:∀ s ∈ ns,s.length≤140737488355328) (hv:StrsAt w v ns) :
  Calls Tryz.prog 30 #[v] w fun e w'=>e=.returned (.bool (decide (ns.length≤16) && ns.all noteP))∧Below w.heap.size w w':=by
 obtain ⟨ao,cap,hvf,hc⟩:=hv;have HC:=hid hc;have HSN:=hid hsn;obtain ⟨nn,hnn⟩:∃ nn,nn=ns.length:=⟨_,rfl⟩
 rw [← hnn] at hz hvf ⊢;subst hvf;have HNN:=hid hnn;by_cases h16:16 < nn
 ·have q2:(16:Int) < (nn:Int):=by omega
  rw [decide_eq_false (p:=nn≤16) (by omega),Bool.false_and];clear HC HSN hc hsn hnn
  go_enter Tryz.func30,Tryz.ntmps30
  go_wp2;go_ret;exact ⟨rfl,Below.refl _ _⟩
 have q2:¬ (16:Int) < (nn:Int):=by omega
 rw [decide_eq_true (p:=nn≤16) (by omega),Bool.true_and];have HB:Hid (∀ j (hj:j < ns.length),noteP ns[j]=false → ns.all noteP=false):=fun j hj h=>by
  rw [List.all_eq_false];exact ⟨_,List.getElem_mem hj,by rw [h]; simp⟩
 have HS:Hid (∀ j (hj:j < ns.length),(ns.take j).all noteP=true → noteP ns[j]=true → (ns.take (j+1)).all noteP=true):=fun j hj h1 h2=>by
  rw [List.take_succ_eq_append_getElem hj,List.all_append,h1]
  simp [h2]
 have HT:Hid (∀ j,nn≤j → (ns.take j).all noteP=true → ns.all noteP=true):=fun j hj h=>by rw [List.take_of_length_le (by omega)] at h; exact h
 generalize ns.all noteP=R at HB HT ⊢;clear hc hsn hnn
 go_enter Tryz.func30,Tryz.ntmps30
 go_wp2
 go_loopw [10] (fun i wr=>∃ j:Nat,j≤nn∧i=.int .i64 j∧Hid ((ns.take j).all noteP=true)∧Below w.heap.size w wr) (fun i _=>nn - (intOf i).toNat)
 case atStart=>exact ⟨0,Nat.zero_le _,rfl,show _=_ from rfl,Below.refl _ _⟩
 case round =>
  obtain ⟨j,hjn,rfl,ha,hb⟩:=hrel;by_cases hlt:j < nn
  ·have hjl:j < ns.length:=by have:=HNN.out; omega
   obtain ⟨ad,hao,hab,c⟩:=HC.out j hjl;subst hao;have c:=cell_below hb (by rw [add_block]; exact hab) c;have KT:=hid (fun w'=>ptext_any ns[j] w' (HSN.out _ (List.getElem_mem hjl)));have hnv:noteP ns[j]=(!ns[j].isEmpty && textP ns[j]):=rfl;have h1:=hid (HB.out j hjl);have h2:=hid (HS.out j hjl ha.out);clear HB HS HT HC HSN ha;generalize ns[j]=s at c KT hnv h1 h2;generalize noteP s=NP at hnv h1 h2;have q6:(j:Int) < (nn:Int):=by omega
   cases hE:s.isEmpty with
   | true =>
    have e:s=[]:=by cases s <;> simp_all
    have hR:Hid (R=false):=h1.out (by rw [hnv,hE]; rfl);subst e;clear h1 h2 KT hnv;go_wp2;go_ret;exact ⟨ret_bool hR.out.symm,hb⟩
   | false =>
    have hne:(s==[])=false:=by cases s <;> simp_all
    rw [hE] at hnv;go_wp2_with fail
    refine (KT.out _).mono ?_
    rintro e w1 ⟨rfl,hw1⟩;have hb1:=hb.trans (hw1.mono hb.size);clear c KT hb hw1
    cases hT:textP s with
    | false =>
     have hR:Hid (R=false):=h1.out (by rw [hnv,hT]; rfl);clear h1 h2 hnv;go_wp2;go_ret;exact ⟨ret_bool hR.out.symm,hb1⟩
    | true =>
     have hA:Hid ((ns.take (j+1)).all noteP=true):=h2.out (by rw [hnv,hT]; rfl);clear h1 h2 hnv;go_wp2;go_roundw
     case rel=>exact ⟨j+1,by omega,by go_num,hA,hb1⟩
     case measure=>simp [intOf]; omega
  ·have hR:Hid (R=true):=HT.out j (by omega) ha.out;have q6:¬ (j:Int) < (nn:Int):=by omega
   clear HB HS HT HC HSN ha;go_wp2;go_ret;exact ⟨ret_bool hR.out.symm,hb⟩
theorem checkD_is (d:Dc):checkD d=if (hostV d.entity).2 ≠ 0 then 140 else if (decide (d.tuples.length≤16) && tupsOk d.tuples)=false then 140 else if (decide (d.notes.length≤16) && d.notes.all noteP)=false then 140 else 0:=by
 by_cases h1:(hostV d.entity).2=0
 case neg =>
  rw [if_pos h1];unfold checkD;rw [if_pos (.inl h1)]
 rw [if_neg (by simp [h1])];by_cases h2:d.tuples.length≤16
 case neg =>
  rw [decide_eq_false h2,Bool.false_and,if_pos rfl];unfold checkD;rw [if_pos (.inr (.inl (by omega)))]
 rw [decide_eq_true h2,Bool.true_and];by_cases h3:d.notes.length≤16
 case neg =>
  rw [decide_eq_false h3,Bool.false_and];unfold checkD;rw [if_pos (.inr (.inr (by omega)))]
  simp
 rw [decide_eq_true h3,Bool.true_and,chkD_is h1 h2 h3]
 cases tupsOk d.tuples <;> cases d.notes.all noteP <;> simp
set_option maxHeartbeats 2000000 in
set_option maxRecDepth 100000 in
theorem pcheck_any (d:Dc) (ts ns:Value) (w:World) (hsm:SmallD 140737488355328 d) (hen:d.entity.length+4≤1048576) (hcp:CapTu ts) (hts:TusAt w ts d.tuples) (hns:StrsAt w ns d.notes) :
  Calls Tryz.prog 13 #[docV d ts ns] w fun e w'=>e=.returned (.int .i64 (checkD d))∧Below w.heap.size w w':=by
 have hv:=checkD_is d;generalize checkD d=R at hv ⊢;obtain ⟨en,tl,nl⟩:=d;obtain ⟨_,hz1,hz2,hst,hsn⟩:=hsm;simp only at hz1 hz2 hst hsn hen hts hns hv;have KH:=hid (fun w'=>samehost_any en w' hen);have KT:=hid (fun w' (hb:Below w.heap.size w w')=>ptups_any ts tl w' hz1 hst hcp (hts.below hb));have KN:=hid (fun w' (hb:Below w.heap.size w w')=>pnotes_any ns nl w' hz2 hsn (hns.below hb));unfold docV
 simp only
 obtain ⟨ta,tc,hf1,htc⟩:=hts;obtain ⟨na,nc,hf2,hnc⟩:=hns;obtain ⟨tn,htn⟩:∃ tn,tn=tl.length:=⟨_,rfl⟩
 obtain ⟨nn,hnn⟩:∃ nn,nn=nl.length:=⟨_,rfl⟩
 rw [← htn] at hf1;rw [← hnn] at hf2;subst hf1 hf2;clear htc hnc hst hsn htn hnn hz1 hz2 hcp;generalize (decide (tl.length≤16) && tupsOk tl)=T at KT hv;generalize (decide (nl.length≤16) && nl.all noteP)=N at KN hv;generalize hostV en=HV at KH hv;obtain ⟨hs,he⟩:=HV;simp only at KH hv;have HR:=hid hv;clear hv;have hbn:Below w.heap.size w (w.alloc (.cells #[.string ⟨en.toArray⟩,.slice ta tn tc,.slice na nn nc] 25)):=(Below.refl _ w).alloc (Nat.le_refl _) _;have hbr:=rc_row3 w (.string ⟨en.toArray⟩) (.slice ta tn tc) (.slice na nn nc) 25;have hlt0:=alloc_lt w (.cells #[.string ⟨en.toArray⟩,.slice ta tn tc,.slice na nn nc] 25)
 go_enter Tryz.func13,Tryz.ntmps13
 go_wp2_with fail
 generalize World.alloc w _=W0 at hbn hbr hlt0 ⊢;refine (KH.out _).mono ?_
 rintro e w1 ⟨rfl,hw1⟩;have hb1:=hbn.trans (hw1.mono hbn.size);have hr1:=hbr.below hw1 hlt0;have hlt1:=Nat.lt_of_lt_of_le hlt0 hw1.size;clear KH hbn hbr hlt0 hw1;obtain ⟨y0,y1,y2,_,_,_⟩:=hr1.rc3;by_cases h1:he=0
 case neg =>
  have q1:(he != 0)=true:=by simpa using h1
  have hR:Hid (R=140):=show _=_ by rw [HR.out,if_pos h1]
  clear HR h1;go_wp2;go_ret;exact ⟨ret_int hR.out.symm,hb1⟩
 subst h1;go_wp2_with fail
 refine (KT.out _ hb1).mono ?_
 rintro e w2 ⟨rfl,hw2⟩;have hb2:=hb1.trans (hw2.mono hb1.size);have hr2:=hr1.below hw2 hlt1;clear KT hb1 hr1 hlt1 hw2 y0 y1 y2;obtain ⟨y0,y1,y2,_,_,_⟩:=hr2.rc3
 cases T with
 | false =>
  have hR:Hid (R=140):=show _=_ by rw [HR.out,if_neg (by simp),if_pos rfl]
  clear HR;go_wp2;go_ret;exact ⟨ret_int hR.out.symm,hb2⟩
 | true =>
  go_wp2_with fail
  refine (KN.out _ hb2).mono ?_
  rintro e w3 ⟨rfl,hw3⟩;have hb3:=hb2.trans (hw3.mono hb2.size)
  cases N with
  | false =>
   have hR:Hid (R=140):=show _=_ by rw [HR.out,if_neg (by simp),if_neg (by simp),if_pos rfl]
   clear HR;go_wp2;go_ret;exact ⟨ret_int hR.out.symm,hb3⟩
  | true =>
   have hR:Hid (R=0):=show _=_ by rw [HR.out,if_neg (by simp),if_neg (by simp),if_neg (by simp)]
   clear HR;go_wp2;go_ret;exact ⟨ret_int hR.out.symm,hb3⟩
end Go.Proofs.YtdnekampnkhmfaaGreatDoor
namespace Go.Proofs.YtdnekampnkhmfaaGreatDoor
open Go.RowKit Sc
theorem own_neT {w:World} {B b:Nat} {v:Value} {cs:List NdC} {l:List Value} (h:OwnN w B v cs) (hr:RowIs w b 25 l):v.ownBlock ≠ some b:=by
 intro e
 rcases h.1.2 with ⟨rfl,_⟩ | ⟨g,cap,cur,rfl,_,hg,_⟩
 ·cases e
 ·injection e with e
  simp only at e;subst e;unfold RowIs at hr;rw [hg] at hr
  injection hr with hr
  injection hr with _ h2
  exact absurd h2 (by decide)
structure PSd (w:World) (dl:List Value) (W:World) (v:Value) (cs:List NdC):Prop where
 own:OwnN W w.heap.size v cs
 row:RowIs W w.heap.size 25 dl
 bel:Below w.heap.size w W
theorem PSd.lt {w:World} {dl:List Value} {W:World} {v:Value} {cs:List NdC} (h:PSd w dl W v cs):w.heap.size < W.heap.size:=(Array.getElem?_eq_some_iff.1 (show W.heap[w.heap.size]? = some _ from h.row)).1
theorem PSd.below {w:World} {dl:List Value} {W W':World} {v:Value} {cs:List NdC} (h:PSd w dl W v cs) (hb:Below W.heap.size W W'):PSd w dl W' v cs :=
 ⟨h.own.below hb,h.row.below hb h.lt,h.bel.trans (hb.mono h.bel.size)⟩
theorem PSd.alloc {w:World} {dl:List Value} {W:World} {v:Value} {cs:List NdC} (h:PSd w dl W v cs) (o:Obj):PSd w dl (W.alloc o) v cs:=h.below ((Below.refl _ W).alloc (Nat.le_refl _) o)
theorem PSd.app {w:World} {dl:List Value} {W w5:World} {v v5:Value} {cs cs5:List NdC} (h:PSd w dl W v cs) (hf:FrN v W v5 w5) (ho:OwnN w5 w.heap.size v5 cs5):PSd w dl w5 v5 cs5 :=
 ⟨ho,hf.row h.row h.lt (own_neT h.own h.row),h.bel.trans (hf.to h.bel.size fun g hg=>(World.ownsRow.lt h.own.1 g hg).1)⟩
def rootN (en:List UInt8):Nd:=⟨0,presenceK,[atr xmlnsK spaceK,atr entityK (presK++[58]++en)],[]⟩
theorem flat_tree (en:List UInt8) (tl:List Tu) (nl:List (List UInt8)):flatX 0 (treeD ⟨en,tl,nl⟩)=rootN en :: (flatXs 1 (tl.map tupT)++flatXs 1 (nl.map noteT)):=by
 rw [treeD,flatX,flatXs_app]; rfl
theorem flat_nnext {nl:List (List UInt8)} {j:Nat} (h:j < nl.length):flatXs 1 ((nl.take (j+1)).map noteT)=flatXs 1 ((nl.take j).map noteT)++[⟨1,noteK,[],nl[j]⟩]:=by
 rw [List.take_succ_eq_append_getElem h,List.map_append,flatXs_app]; simp [flatXs,noteT,flatX]
theorem nds_app (a b:List NdC):ndsL (a++b)=ndsL a++ndsL b:=by simp [ndsL]
theorem tup_count3 (x:Tu):3≤(flatX 1 (tupT x)).length:=by rw [flat_tup]; simp
theorem nds_len2 {cs:List NdC} {l:List Nd} (h:ndsL cs=l):cs.length=l.length:=by rw [← ndsL_len,h]
end Go.Proofs.YtdnekampnkhmfaaGreatDoor
