import Derived.Test.YtlbgjlmokpkkeaaGreatDoorQAxGb
set_option linter.all false
namespace Go.Proofs.YtlbgjlmokpkkeaaGreatDoor.Ax
open Go.RowKit Go By YtlbgjlmokpkkeaaGreatDoor.Nm Sc Dg
set_option maxRecDepth 10000
def RV:List AV:=[.v (.int .u8 0),.v (.int .u8 0),.v (.string (af [])),.v (.string (af [])),.v (.string (af [])),.v (.int .i64 0),.v (.int .i64 0),.sl 0 [] (some true) .exact,.sl 0 [] (some true) .exact,.sl 0 [] (some true) .exact,.sl 0 [] (some true) .exact]
theorem Ko(l:List Cl)(hl:l.length <= 1000000)(hb:∀ c∈l,c.2.length <= 140737488351232)(h:d4):ae Tryz.prog 187 [.sl 2 (am aq l) none .no] h (.agg (bh ⟨68,0,[],[],[],0,0,[],[],l,[]⟩)) h []:=by
 refine ac XW mixed (by simp[NI]) fun hh hargs=>?_
 simp[NI]
 refine aa (by simp) (dW l (by omega) hb _) ?_
 simp[hh,aV]
end Go.Proofs.YtlbgjlmokpkkeaaGreatDoor.Ax
