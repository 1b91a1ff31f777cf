/-
  XmlDocL, PQ4, P14All.
-/
import Derived.Test.YtdnekampnkhmfaaGreatDoorPK37
set_option linter.unusedVariables false
set_option linter.unusedSimpArgs false
set_option maxRecDepth 20000
namespace Go.Proofs.YtdnekampnkhmfaaGreatDoor
open Go.RowKit Sc
theorem steps_take:∀ (a b:List Nd),stepsX (a++b)=true → stepsX a=true
 | [],b,_=>rfl
 | [x],b,h=>by rw [stepsX]; exact (steps_tail h).1
 | x :: y :: a,b,h=>by
  obtain ⟨h1,h2,h3⟩:=steps_tail h;rw [stepsX,h1,h3 y rfl];exact steps_take (y :: a) b h2
theorem forest_of:∀ (n:Nat) (l:List Nd) (d:Nat),l.length≤n → stepsX l=true → (∀ x ∈ l,(d:Int)≤x.deep) → (∀ x,l.head? = some x → x.deep=d) → ∃ ks,flatXs d ks=l∧okXs d ks=true
 | 0,l,d,hl,_,_,_=>by
  obtain rfl:=List.eq_nil_of_length_eq_zero (Nat.le_zero.1 hl);exact ⟨[],rfl,rfl⟩
 | n+1,[],d,_,_,_,_=>⟨[],rfl,rfl⟩
 | n+1,x :: r,d,hl,hs,hd,hh=>by
  obtain ⟨s1,s2,s3⟩:=steps_tail hs;have hx:x.deep=d:=hh x rfl
  -- what lies in x, and what behind
  obtain ⟨a,b,rfl,ha,hb⟩:∃ a b,r=a++b∧(∀ y ∈ a,(d:Int) < y.deep)∧(∀ y,b.head? = some y → y.deep≤d):=by
   refine ⟨r.takeWhile (fun y=>decide ((d:Int) < y.deep)),r.dropWhile (fun y=>decide ((d:Int) < y.deep)),(List.takeWhile_append_dropWhile).symm,?_,?_⟩
   ·intro y hy
    have:=List.all_eq_true.1 (List.all_takeWhile (p:=fun y:Nd=>decide ((d:Int) < y.deep)) (l:=r)) y hy
    simpa using this
   ·intro y hy
    have:=List.head?_dropWhile_not (fun y:Nd=>decide ((d:Int) < y.deep)) r
    rw [hy] at this; simpa using this
  simp only [List.length_cons,List.length_append] at hl;obtain ⟨ks,k1,k2⟩:=forest_of n a (d+1) (by omega) (steps_take a b s2) (fun y hy=>by have:=ha y hy; omega) (fun y hy=>by
   have h1:=ha y (List.mem_of_mem_head? hy);have h2:=s3 y (by rw [List.head?_append,hy]; rfl);simp only [nextOk,Bool.and_eq_true,decide_eq_true_eq] at h2;omega)
  obtain ⟨ms,m1,m2⟩:=forest_of n b d (by omega) (steps_drop a b s2) (fun y hy=>hd y (by simp [hy])) (fun y hy=>by
   have h1:=hb y hy;have h2:=hd y (by simp [List.mem_of_mem_head? hy]);omega)
  obtain ⟨f1,f2,f3,f4⟩:=node_facts s1;refine ⟨.mk x.name x.attrs x.text ks :: ms,?_,?_⟩
  ·rw [flatXs,flatX,k1,m1];obtain ⟨dp,nm,at',tx⟩:=x;simp only at hx; subst hx; simp
  ·rw [okXs,okX,m2,k2,f2,f3];simp only [Bool.and_true,Bool.true_and,Bool.and_eq_true,decide_eq_true_eq,beq_iff_eq,Bool.or_eq_true,List.isEmpty_iff];refine ⟨by omega,f4,?_⟩
   cases ks with
   | nil=>exact Or.inl rfl
   | cons t ts =>
    refine Or.inr ?_
    -- a is not empty: its first is deeper
    have hne:a ≠ []:=by
     rw [← k1];obtain ⟨n',a',t',k'⟩:=t;rw [flatXs,flatX]; simp
    cases ha':a with
    | nil=>exact absurd ha' hne
    | cons y q =>
     have h1:=ha y (by rw [ha']; simp);have h2:=s3 y (by rw [ha']; rfl);simp only [nextOk,Bool.and_eq_true,Bool.or_eq_true,Bool.not_eq_true',decide_eq_true_eq,decide_eq_false_iff_not,List.isEmpty_iff] at h2
     rcases h2.2 with h3 | h3
     ·omega
     ·exact h3
theorem steps_deep:∀ (r:List Nd) (x:Nd),stepsX (x :: r)=true → ∀ y ∈ r,(1:Int)≤y.deep
 | [],x,_,y,hy=>by simp at hy
 | z :: r,x,h,y,hy=>by
  obtain ⟨_,h2,h3⟩:=steps_tail h;have hz:=h3 z rfl;simp only [nextOk,Bool.and_eq_true,decide_eq_true_eq] at hz
  rcases List.mem_cons.1 hy with rfl | hy
  ·exact hz.1.1
  ·exact steps_deep r z h2 y hy
theorem tree_of {l:List Nd} (h:checkX l=0):∃ t,flatX 0 t=l∧okX 0 t=true:=by
 obtain ⟨h1,h2,h3,h4⟩:=checkX_ok h
 cases l with
 | nil=>simp at h1
 | cons x r =>
  obtain ⟨s1,s2,s3⟩:=steps_tail h4;have hx:x.deep=0:=by simpa using h3
  have hdeep:∀ y ∈ r,(1:Int)≤y.deep:=steps_deep r x h4;obtain ⟨ks,k1,k2⟩:=forest_of r.length r 1 (Nat.le_refl _) s2 (fun y hy=>by have:=hdeep y hy; omega) (fun y hy=>by
   have a1:=hdeep y (List.mem_of_mem_head? hy);have a2:=s3 y hy;simp only [nextOk,Bool.and_eq_true,decide_eq_true_eq] at a2;omega)
  obtain ⟨f1,f2,f3,f4⟩:=node_facts s1;refine ⟨.mk x.name x.attrs x.text ks,?_,?_⟩
  ·rw [flatX,k1];obtain ⟨dp,nm,at',tx⟩:=x;simp only at hx; subst hx; rfl
  ·rw [okX,k2,f2,f3];simp only [Bool.and_true,Bool.true_and,Bool.and_eq_true,decide_eq_true_eq,beq_iff_eq,Bool.or_eq_true,List.isEmpty_iff];refine ⟨by omega,f4,?_⟩
   cases r with
   | nil =>
    refine Or.inl ?_
    cases ks with
    | nil=>rfl
    | cons t ts=>obtain ⟨n',a',t',k'⟩:=t; rw [flatXs,flatX] at k1; simp at k1
   | cons y q =>
    refine Or.inr ?_
    have a1:=hdeep y (by simp);have a2:=s3 y rfl;simp only [nextOk,Bool.and_eq_true,Bool.or_eq_true,Bool.not_eq_true',decide_eq_true_eq,decide_eq_false_iff_not,List.isEmpty_iff] at a2
    rcases a2.2 with h3 | h3
    ·omega
    ·exact h3
set_option maxHeartbeats 1000000 in
set_option maxRecDepth 100000 in
theorem pparse_bad (l:List UInt8) (w:World) (hl:l.length≤140737488355328) (he:(parseX l).2 ≠ 0) :
  Calls Tryz.prog 15 #[.string ⟨l.toArray⟩] w fun e w'=>DcP (noD,(parseX l).2) w e w':=by
 have K:=hid (fun w'=>xparse_any l w' hl);have HPB:=hid (pe_new w);generalize parseX l=X at K he ⊢;obtain ⟨nl,er⟩:=X;simp only [ParP] at K he ⊢;have q1:(er != 0)=true:=by simpa using he
 go_enter Tryz.func15,Tryz.ntmps15
 go_wp2_with fail
 generalize World.alloc w _=W1 at HPB ⊢;refine (K.out _).mono ?_
 rintro e w2 ⟨v2,cs2,rfl,hk2,hown2,hw2⟩;obtain ⟨va,vc,hvf⟩:=hown2.form;obtain ⟨n2,hn2⟩:∃ n2,n2=cs2.length:=⟨_,rfl⟩
 rw [← hn2] at hvf;subst hvf;have HPB:=hid (HPB.out.below hw2);clear hown2 hk2 hn2 he;obtain ⟨d0,d1,d2,g0,g1,g2⟩:=HPB.out.d3;go_wp2;have hr5:=rc_store3 (show RowIs _ w.heap.size 25 [.string ⟨#[]⟩,.slice none 0 0,.slice none 0 0] from HPB.out.r2) (.string ⟨#[]⟩) (.slice none 0 0) (.slice none 0 0);have hb5:=rc_below3 HPB.out.bel w.heap.size (Nat.le_refl _) (.string ⟨#[]⟩) (.slice none 0 0) (.slice none 0 0);generalize World.setCell _ _ _=w99 at hr5 hb5 ⊢;obtain ⟨e0,e1,e2,_,_,_⟩:=hr5.rc3
 try simp only [Exit.inBlock,Exit.then]
 refine bodyPost_ret (v:=.tuple #[docV noD (.slice none 0 0) (.slice none 0 0),.int .i64 er]) (by simp [results,Tryz.results15,go_sem,e0,e1,e2,docV,noD]; try rfl) rfl ?_
 exact ⟨_,_,rfl,OwnT.nil _ _,Own.nil _ _ _,hb5⟩
theorem small_none (B:Nat):SmallD B noD:=⟨Nat.zero_le _,Nat.zero_le _,Nat.zero_le _,fun t ht=>by simp [noD] at ht,fun t ht=>by simp [noD] at ht⟩
theorem docT_two (t:XT):((docT t).2=0 → checkD (docT t).1=0)∧((docT t).2 ≠ 0 → (docT t).1=noD):=by
 unfold docT
 split
 ·exact ⟨fun h=>by simp at h,fun _=>rfl⟩
 ·split
  ·exact ⟨fun h=>by simp at h,fun _=>rfl⟩
  ·split
   ·next hc=>exact ⟨fun h=>absurd h hc,fun _=>rfl⟩
   ·next hc=>exact ⟨fun _=>Classical.not_not.1 hc,fun h=>absurd rfl h⟩
end Go.Proofs.YtdnekampnkhmfaaGreatDoor
