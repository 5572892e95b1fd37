/- errors.As over values without memory: of nothing; of what is of the very type that is looked for. -/
import Derived.Test.YtlbgjlmokpkkeaaGreatDoorQAxCl
import Derived.Test.YtlbgjlmokpkkeaaGreatDoorQAxIb
import Derived.WalkKit
import Derived.LaidEql
import Derived.Stop.Asserts
import Derived.RowKitTokens
import Derived.Deep.MidRow
import Derived.Test.YtlbgjlmokpkkeaaGreatDoorQAxIp
import Derived.Test.YtlbgjlmokpkkeaaGreatDoorQAxSb
/- A function that writes all cells of one variable, and makes blocks besides. No program is named here. -/
namespace Go.Proofs.YtlbgjlmokpkkeaaGreatDoor.Ax
open Go.RowKit Go By
set_option linter.unusedSimpArgs false
set_option linter.unusedVariables false
set_option maxRecDepth 10000

section
variable {P : Program} {f : FuncId} {args : List AV} {h : List (List AV)}
end

end Go.Proofs.YtlbgjlmokpkkeaaGreatDoor.Ax
namespace Go.Proofs.YtlbgjlmokpkkeaaGreatDoor.Ax
set_option maxRecDepth 100000
open Go.RowKit Go.Extern.Stop Go.Stop Go.Extern Go By
set_option linter.unusedSimpArgs false
set_option linter.unusedVariables false
set_option maxRecDepth 10000

/-! ### errors.As -/
section
variable {h : List (List AV)}
end
end Go.Proofs.YtlbgjlmokpkkeaaGreatDoor.Ax
