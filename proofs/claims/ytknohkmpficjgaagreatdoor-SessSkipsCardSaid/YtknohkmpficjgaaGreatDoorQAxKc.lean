import Derived.Test.YtknohkmpficjgaaGreatDoorQAxGb
import Derived.Test.YtknohkmpficjgaaGreatDoorQAxKc0
import Derived.Test.YtknohkmpficjgaaGreatDoorQAxIb
import Derived.Test.YtknohkmpficjgaaGreatDoorQAxCy
set_option linter.unusedSimpArgs false
set_option linter.unusedVariables false
namespace Go.Proofs.YtknohkmpficjgaaGreatDoor.Ax
open Go.RowKit Go By YtknohkmpficjgaaGreatDoor.Nm Sc Dg
set_option maxRecDepth 10000
def zBk : List AV := [.v (.int .u8 0), .v (.int .u8 0), .v (.string (strB [])), .v (.string (strB [])), .v (.string (strB [])), .v (.int .i64 0), .v (.int .i64 0), .sl 0 [] (some true) .exact, .sl 0 [] (some true) .exact, .sl 0 [] (some true) .exact, .sl 0 [] (some true) .exact]
theorem krowm_c (l : List Cl) (hl : l.length <= 1000000) (hb : ∀ c ∈ l, c.2.length <= 140737488351232) (h : List (List AV)) : Contract Tryz.prog 137 [.sl 2 (enc cellC l) none .no] h (.agg (bkC ⟨68, 0, [], [], [], 0, 0, [], [], l, []⟩)) h [] := by
 refine contract_of k137 mixed (by simp [c137]) fun hh hargs => ?_
 simp [c137]
 refine xcall_self (by simp) (copyCells_c l (by omega) hb _) ?_
 simp [hh, bkC_mk]
end Go.Proofs.YtknohkmpficjgaaGreatDoor.Ax
