/- Printing what texts say, over values without memory: sql, the document's answer, the statements of layer 26. -/
import Derived.Test.YtlbgjlmokpkkeaaGreatDoorQAxRo
import Derived.Test.YtlbgjlmokpkkeaaGreatDoorQAxX
import Derived.Test.YtlbgjlmokpkkeaaGreatDoorRows
import Derived.Test.YtlbgjlmokpkkeaaGreatDoorQAxSz
/- What reads as data of the types of package api is laid out as their structures are. Written by gen/ax_types.py. -/
namespace Go.Proofs.YtlbgjlmokpkkeaaGreatDoor.Ax
open Go.RowKit Go By
set_option linter.unusedSimpArgs false
set_option linter.unusedVariables false

theorem sh_bytes : Shape Tryz.prog 23 (fun l : List UInt8 => [.sl 1 (bytesE l) none .no]) (fun l => l.length ≤ maxLen) := shape_bytes Tryz.underlying23 (by kernel_rfl) Tryz.underlying5
def OkPa (x : Pa) : Prop := x.name.length ≤ maxLen ∧ x.value.length ≤ maxLen
end Go.Proofs.YtlbgjlmokpkkeaaGreatDoor.Ax
namespace Go.Proofs.YtlbgjlmokpkkeaaGreatDoor.Ax
open Go.RowKit Go By Dg
set_option linter.unusedSimpArgs false
set_option linter.unusedVariables false
set_option maxRecDepth 10000

/-! ### The laws -/
end Go.Proofs.YtlbgjlmokpkkeaaGreatDoor.Ax
