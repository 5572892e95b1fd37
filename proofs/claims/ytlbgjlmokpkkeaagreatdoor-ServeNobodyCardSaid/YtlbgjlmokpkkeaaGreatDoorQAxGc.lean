/- The engine over values without memory: Verdict, Rows; the document's engine. -/
import Derived.Test.YtlbgjlmokpkkeaaGreatDoorQAxX
import Derived.Test.YtlbgjlmokpkkeaaGreatDoorRows
import Derived.Test.YtlbgjlmokpkkeaaGreatDoorQAxGb
/- The texts of functions over values without memory, as the kernel reckons them out of the program. -/
namespace Go.Proofs.YtlbgjlmokpkkeaaGreatDoor.Ax
open Go.RowKit Go By

end Go.Proofs.YtlbgjlmokpkkeaaGreatDoor.Ax
namespace Go.Proofs.YtlbgjlmokpkkeaaGreatDoor.Ax
open Go.RowKit Go By Dg
set_option linter.unusedSimpArgs false
set_option linter.unusedVariables false
set_option maxRecDepth 10000

section
variable {h : List (List AV)} {i : Nat} {T : Eg}
theorem enew_c (h : List (List AV)) : Contract Tryz.prog 19 [] h (.box (h.length + 1) 0) (h ++ [mapC 0 [], egC h.length 0]) [] := by
  refine contract_of k19 mixed (by simp [c19]) fun hh hargs => ?_
  have hl := ltLL_mono (Nat.le_add_right h.length 2) hh
  simp [c19, hl, egC, mapC]
/-! ### The document's -/
variable {L : List (List UInt8)} {n : Nat}
def newE (a : Nat) : Eg := ⟨a, 0, 0, []⟩
end
end Go.Proofs.YtlbgjlmokpkkeaaGreatDoor.Ax
