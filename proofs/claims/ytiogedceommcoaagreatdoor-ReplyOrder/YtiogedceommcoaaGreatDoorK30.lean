/-
  RBase2, Awake10.
-/
import Derived.Test.YtiogedceommcoaaGreatDoorK39
set_option linter.unusedVariables false
set_option linter.unusedSimpArgs false
set_option maxRecDepth 20000
namespace Go.Proofs.YtiogedceommcoaaGreatDoor
open Go.RowKit Sc
theorem RqB.at {B:Nat} {c:RqC} {w':World} (h:RqB B c w'):c.At w':=by
 refine ⟨by rw [h.tp,h.t]; exact pars_nil w',by rw [h.th,h.t]; exact pars_nil w',h.frm.at,h.too.at,by rw [h.eq,h.e]; exact (noC_at w').ev,?_,by rw [h.ro,h.l.2.1]; exact (noC_at w').ro,by rw [h.ac,h.l.2.2]; exact (noC_at w').ac⟩
 rw [h.co,h.l.1]; exact (noC_at w').co
theorem code_base (m:Ms) (h:Value) (w:World) (hsm:SmallM 1048576 m) (hhl:m.headers.length≤1048576) (hat:HdrsAt w h m.headers):Calls Tryz.prog 10 #[msgV m h] w fun e w'=>ReadRes (baseV m) w' e∧Below w.heap.size w w' :=
 (cbase_any m h w hsm hhl hat).mono fun e w' x=>⟨by obtain ⟨c,h1,h2,h3⟩:=x.1; exact ⟨c,h1,h2,h3.at,h3.sl⟩,x.2⟩
end Go.Proofs.YtiogedceommcoaaGreatDoor
