/- Layer 27's statements: the document's engine goes on; the same rows; awake. -/
import Derived.Test.YtmdapcmdlblnnaaDoorQAxMs
import Derived.Test.YtmdapcmdlblnnaaDoorQAxDg
import Derived.Test.YtmdapcmdlblnnaaDoorQAxSx
import Derived.Test.YtmdapcmdlblnnaaDoorQAxGc
/- The document's answers: the same numbers, the same cells. -/
namespace Go.Proofs.YtmdapcmdlblnnaaDoor.Ax
open Go.RowKit Go By
set_option linter.unusedSimpArgs false
set_option linter.unusedVariables false
set_option maxRecDepth 10000

end Go.Proofs.YtmdapcmdlblnnaaDoor.Ax
namespace Go.Proofs.YtmdapcmdlblnnaaDoor.Ax
open Go.RowKit Go By Dg
set_option linter.unusedSimpArgs false
set_option linter.unusedVariables false
set_option maxRecDepth 10000

section
variable {h : List (List AV)} {i : Nat} {L : List (List UInt8)} {n : Nat}
end
theorem eawake_c (h : List (List AV)) : Contract Tryd.prog 20 [] h (.v (.bool true)) h [] := by
  refine contract_of k20 mixed (by simp [c20]) fun hh hargs => ?_
  have t0 : EgAt (h ++ [mapC 0 [], egC h.length 0]) (h.length + 1) (newE h.length) := ⟨by rw [List.getElem?_append_right (by omega)]; simp [newE], by rw [List.getElem?_append_right (by simp [newE])]; simp [newE, Eg.cells], by simp [newE]⟩
  have hv1 := everdict_c t0 [110, 111, 110, 115, 101, 110, 115, 101] (by simp) 73
  have hv2 := everdict_c t0 [98, 101, 103, 105, 110] (by simp) 69
  have e1 : verdict ((newE h.length).no [110, 111, 110, 115, 101, 110, 115, 101]) (sayQ (trimL [110, 111, 110, 115, 101, 110, 115, 101])) 73 = ⟨synC, synT, true⟩ := by
    have : (sayQ (trimL [110, 111, 110, 115, 101, 110, 115, 101])).kind = 0 := by decide +kernel
    unfold verdict; rw [if_pos this]
  have e2 : verdict ((newE h.length).no [98, 101, 103, 105, 110]) (sayQ (trimL [98, 101, 103, 105, 110])) 69 = ⟨abC, abT, true⟩ := by
    have : (sayQ (trimL [98, 101, 103, 105, 110])).kind = 2 := by decide +kernel
    unfold verdict; rw [this]; rfl
  rw [e1] at hv1
  rw [e2] at hv2
  have hn := enext_c t0 (by simp [newE])
  have e3 : (h ++ [mapC 0 [], egC h.length 0]).set (h.length + 1) (egC (newE h.length).a ((newE h.length).n + 1)) = h ++ [mapC 0 [], egC h.length 1] := by
    rw [List.set_append_right _ _ (by omega)]; simp [newE]
  rw [e3] at hn
  have t1 : EgAt (h ++ [mapC 0 [], egC h.length 1]) (h.length + 1) { newE h.length with n := 1 } := ⟨by rw [List.getElem?_append_right (by omega)]; simp [newE], by rw [List.getElem?_append_right (by simp [newE])]; simp [newE, Eg.cells], by simp [newE]⟩
  have hc := ecount_c t1
  simp [c20]
  refine xcall_self (by simp) (enew_c _) ?_
  simp
  refine xcall_self (by simp) hv1 ?_
  simp [vdV]
  refine xcall_self (by simp) hv2 ?_
  simp [vdV, synC]
  refine xcall_self (by simp) (eaborted_c _) ?_
  simp
  refine xcall_self (by simp) hn ?_
  simp [newE]
  refine xcall_self (by simp) hc ?_
  simp [hh, leqH_take]
end Go.Proofs.YtmdapcmdlblnnaaDoor.Ax
