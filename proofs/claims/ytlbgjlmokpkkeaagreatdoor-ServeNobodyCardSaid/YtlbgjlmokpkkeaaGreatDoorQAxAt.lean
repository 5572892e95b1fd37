/- Numbers that are counted by sync/atomic, over values without memory: one cell of a variable is written. -/
import Derived.Test.YtlbgjlmokpkkeaaGreatDoorQAxX
import Derived.Test.YtlbgjlmokpkkeaaGreatDoorRows
import Derived.Laws.LoneSync
import Derived.Test.YtlbgjlmokpkkeaaGreatDoorQAxIp
/- The texts of functions over values without memory, as the kernel reckons them out of the program. -/
namespace Go.Proofs.YtlbgjlmokpkkeaaGreatDoor.Ax
open Go.RowKit Go By

def c19 : XFun := ⟨4, (.seq (.ops [⟨(some 0), (.assign (.const (.pointer none))), none⟩]) (.seq (.ops [⟨(some 1), (.makeMap 0 false), none⟩, ⟨(some 2), (.build [(.v (.map none)), (.v (.int .i64 0))] [(0, (1, (.tmp 1)))]), none⟩, ⟨(some 3), (.box (.tmp 2)), none⟩, ⟨(some 0), (.assign (.tmp 3)), none⟩]) .ret)), [(.move (.tmp 0))]⟩
theorem k19 : cfun Tryz.prog 19 = some c19 := by kernel_rfl
end Go.Proofs.YtlbgjlmokpkkeaaGreatDoor.Ax
namespace Go.Proofs.YtlbgjlmokpkkeaaGreatDoor.Ax
set_option maxRecDepth 100000
open Go.RowKit Go By
set_option linter.unusedSimpArgs false
set_option linter.unusedVariables false
set_option maxRecDepth 10000

section
variable {P : Program} {f : FuncId} {args : List AV} {h : List (List AV)}
end

/-! ### Add, Load -/
end Go.Proofs.YtlbgjlmokpkkeaaGreatDoor.Ax
