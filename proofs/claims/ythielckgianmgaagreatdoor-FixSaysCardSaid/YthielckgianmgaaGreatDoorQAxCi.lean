/- A copy of numbers: slices.Clone, over values without memory. -/
import Derived.Test.YthielckgianmgaaGreatDoorQAxHs
import Derived.Test.YthielckgianmgaaGreatDoorQAxSc
import Derived.Test.YthielckgianmgaaGreatDoorQAxDg
import Derived.Test.YthielckgianmgaaGreatDoorQCodeA
namespace Go.Proofs.YthielckgianmgaaGreatDoor.Ax
open Go.RowKit Go By
set_option linter.unusedSimpArgs false
set_option linter.unusedVariables false
set_option maxRecDepth 10000

theorem jclone_c (l : List Int) (hl : l.length ≤ 1000000) (h : List (List AV)) : Contract Tryz.prog 53 [.sl 1 (enc intC l) none .no] h (.sl 1 (enc intC l) none .no) h [] := by
  refine contract_nul (pre := []) (post := []) (fun he => ?_) ?_
  · have : l = [] := by cases l with | nil => rfl | cons _ _ => simp [enc] at he
    subst this
    refine contract_of k53 mixed (by simp [c53]) fun hh hargs => ?_
    simp [c53, hh, enc]
  · refine contract_of k53 mixed (by simp [c53]) fun hh hargs => ?_
    simp [c53, hh]
    refine xappendA_own ?_
    simp [hh]
    omega
end Go.Proofs.YthielckgianmgaaGreatDoor.Ax
