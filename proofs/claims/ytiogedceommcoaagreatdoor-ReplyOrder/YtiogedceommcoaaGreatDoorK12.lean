/-
  OpenAddr, OpenEv, ReplyL, OpenReq.
-/
import Derived.Test.YtiogedceommcoaaGreatDoorK13
set_option linter.unusedVariables false
set_option linter.unusedSimpArgs false
set_option maxRecDepth 20000
namespace Go.Proofs.YtiogedceommcoaaGreatDoor
open Go.RowKit Go.ChangeShapes Go.WideShapes Go.Deep
theorem AdrC.At.below {w w':World} {c:AdrC} (h:c.At w) (hb:Below w.heap.size w w'):c.At w':=⟨h.1.below hb,h.2.1.below hb,h.2.2.1.below hb,h.2.2.2⟩
theorem AdrsAt.below {w w':World} {v:Value} {cs:List AdrC} (h:AdrsAt w v cs) (hb:Below w.heap.size w w'):AdrsAt w' v cs:=by
 obtain ⟨⟨ao,cap,hv,hc⟩,h2⟩:=h;refine ⟨⟨ao,cap,hv,fun k hk=>?_⟩,fun c hc=>(h2 c hc).below hb⟩
 obtain ⟨ad,e,hlt,hcell⟩:=hc k hk;refine ⟨ad,e,Nat.lt_of_lt_of_le hlt hb.size,fun j u hj=>cell_below hb ?_ (hcell j u hj)⟩
 split <;> simp only [add_block] <;> exact hlt
theorem EvC.At.below {w w':World} {c:EvC} (h:c.At w) (hb:Below w.heap.size w w'):c.At w':=⟨h.1.below hb,h.2⟩
end Go.Proofs.YtiogedceommcoaaGreatDoor
namespace Go.Proofs.YtiogedceommcoaaGreatDoor
open Go.RowKit Sc
theorem base_ok {m:Ms} (h:(baseV m).2=0):(baseV m).1=baseR m∧m.method ≠ []∧(seqV (oneV m cseqK).1).2.2=0:=by
 unfold baseV at h ⊢
 split at h
 ·simp at h
 ·split at h
  ·rename_i h2 h3; exact absurd h h3
  ·split at h
   ·simp at h
   ·split at h
    ·rename_i h5; exact absurd h h5
    ·split at h
     ·rename_i h6; exact absurd h h6
     ·split at h
      ·simp at h
      ·split at h
       ·simp at h
       ·rename_i a1 a2 a3 a4 a5 a6 a7
        rw [if_neg a1,if_neg a2,if_neg a3,if_neg a4,if_neg a5,if_neg a6,if_neg a7];refine ⟨rfl,a1,?_⟩
        apply Classical.byContradiction
        intro hc;exact a7 (Or.inl hc)
theorem RqC.At.below {w w':World} {c:RqC} (h:c.At w) (hb:Below w.heap.size w w'):c.At w':=by
 obtain ⟨cs,h1,h2⟩:=h.co;obtain ⟨B1,h3⟩:=h.ro;obtain ⟨B2,h4⟩:=h.ac;exact ⟨h.tp.below hb,h.th.below hb,h.frm.below hb,h.too.below hb,h.ev.below hb,⟨cs,h1.below hb,h2⟩,⟨B1,h3.below hb⟩,⟨B2,h4.below hb⟩⟩
end Go.Proofs.YtiogedceommcoaaGreatDoor
