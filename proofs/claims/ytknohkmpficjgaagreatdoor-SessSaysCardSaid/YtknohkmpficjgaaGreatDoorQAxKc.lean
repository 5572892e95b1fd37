import Derived.Test.YtknohkmpficjgaaGreatDoorQAxGb
set_option linter.unusedSimpArgs false
set_option linter.unusedVariables false
namespace Go.Proofs.YtknohkmpficjgaaGreatDoor.Ax
open Go.RowKit Go By YtknohkmpficjgaaGreatDoor.Nm Sc Dg
set_option maxRecDepth 10000
def Kp : List AV := [.v (.int .u8 0), .v (.int .u8 0), .v (.string (ah [])), .v (.string (ah [])), .v (.string (ah [])), .v (.int .i64 0), .v (.int .i64 0), .sl 0 [] (some true) .exact, .sl 0 [] (some true) .exact, .sl 0 [] (some true) .exact, .sl 0 [] (some true) .exact]
theorem Dt (l : List Cl) (hl : l.length <= 1000000) (hb : ∀ c ∈ l, c.2.length <= 140737488351232) (h : List (List AV)) : ae Tryz.prog 137 [.sl 2 (al aq l) none .no] h (.agg (aU ⟨68, 0, [], [], [], 0, 0, [], [], l, []⟩)) h [] := by
 refine ac OO mixed (by simp [F6]) fun hh hargs => ?_
 simp [F6]
 refine aa (by simp) (cR l (by omega) hb _) ?_
 simp [hh, aB]
end Go.Proofs.YtknohkmpficjgaaGreatDoor.Ax
