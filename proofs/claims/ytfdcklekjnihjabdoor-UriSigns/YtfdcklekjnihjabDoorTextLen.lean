/-
  A printed URI is short. A plain fact.
-/
import Derived.Test.YtfdcklekjnihjabDoorUPrint
namespace Go.Proofs.YtfdcklekjnihjabDoor
open Go.RowKit Sc
set_option linter.unusedVariables false
set_option maxRecDepth 20000

theorem textT_bound {u : Uri} (h : checkV u = 0) : (textT u).length ≤ 1048576 := by
  obtain ⟨k1, k2, k3, k4, k5, k6, k7, k8⟩ := check_ok h
  have hl1 := schemeB_ok k1
  have hl3 := hostB_ok k3
  have hpl := listB_ok k6
  have hhl := listB_ok k7
  have el := escLn usersK u.user
  have dl := digL_len19 (n := u.port.toNat) (by omega)
  have pl := wrT_len [59] [59] paramsK u.params (by simp) (by simp) hpl.2
  have hl := wrT_len [63] [38] headersK u.headers (by simp) (by simp) hhl.2
  rw [wrT_pars] at pl
  rw [wrT_hdr] at hl
  have h1 := hpl.1
  have h2 := hhl.1
  have hf : (frontT u).length ≤ 400 := by
    unfold frontT
    simp only [List.length_append]
    have e1 : (if u.user = [] then ([] : List UInt8) else escL usersK u.user ++ [64]).length ≤ 200 := by
      split
      · simp
      · simp; omega
    have e2 : (if u.port = 0 then ([] : List UInt8) else [58] ++ digL u.port.toNat).length ≤ 20 := by
      split
      · simp
      · simp; omega
    simp only [List.length_singleton]
    omega
  unfold textT
  rw [List.length_append, List.length_append]
  omega

end Go.Proofs.YtfdcklekjnihjabDoor
