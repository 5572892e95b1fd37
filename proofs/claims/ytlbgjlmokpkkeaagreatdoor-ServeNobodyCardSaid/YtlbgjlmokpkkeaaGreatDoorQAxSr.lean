/- Sessions over values without memory: a portal of a name, what is described, what is told; close, parse. -/
import Derived.Test.YtlbgjlmokpkkeaaGreatDoorQAxX
import Derived.Test.YtlbgjlmokpkkeaaGreatDoorRows
import Derived.Test.YtlbgjlmokpkkeaaGreatDoorQAxSw
import Derived.Test.YtlbgjlmokpkkeaaGreatDoorQAxTe
import Derived.Test.YtlbgjlmokpkkeaaGreatDoorQAxKc
/- The texts of functions over values without memory, as the kernel reckons them out of the program. -/
namespace Go.Proofs.YtlbgjlmokpkkeaaGreatDoor.Ax
open Go.RowKit Go By

def c34 : XFun := ⟨8, (.seq (.ops [⟨(some 2), (.assign (.const (.pointer none))), none⟩]) (.seq (.ops [⟨(some 3), (.move (.tmp 0)), none⟩, ⟨(some 4), (.makeMap 2 false), none⟩, ⟨(some 5), (.call 52 []), none⟩, ⟨(some 6), (.build [(.v (.pointer none)), (.v (.map none)), (.v (.pointer none)), (.v (.int .u8 0)), (.v (.bool false)), (.v (.bool false))] [(0, (1, (.tmp 3))), (1, (1, (.tmp 4))), (2, (1, (.tmp 5))), (3, (1, (.const (.int .u8 73))))]), none⟩, ⟨(some 7), (.box (.tmp 6)), none⟩, ⟨(some 2), (.assign (.tmp 7)), none⟩]) .ret)), [(.move (.tmp 2))]⟩
theorem k34 : cfun Tryz.prog 34 = some c34 := by kernel_rfl
end Go.Proofs.YtlbgjlmokpkkeaaGreatDoor.Ax
/- Sessions over values without memory: the calls that turn nothing. -/
namespace Go.Proofs.YtlbgjlmokpkkeaaGreatDoor.Ax
open Go.RowKit Go By
set_option linter.unusedSimpArgs false
set_option linter.unusedVariables false
set_option maxRecDepth 10000

/-- Why something was not done: a code, a text. -/
abbrev Er := Option (List UInt8 × List UInt8)
def erV : Er → AV
  | none => .v .nilIface
  | some x => .ifc 175 (.agg [.v (.string (strB x.1)), .v (.string (strB x.2))])
@[simp] theorem erV_none : erV none = .v .nilIface := of_eq_true (eq_self _)
@[simp] theorem erV_some (c t : List UInt8) : erV (some (c, t)) = .ifc 175 (.agg [.v (.string (strB c)), .v (.string (strB t))]) := of_eq_true (eq_self _)
@[simp] theorem ifc_unown (t : TypeId) (a : AV) : (AV.ifc t a).unown = AV.ifc t a := of_eq_true (eq_self _)
@[simp] theorem ifc_id (t : TypeId) (a : AV) : (AV.ifc t a).idOf = none := of_eq_true (eq_self _)
section
variable {L : List (Nat × List AV)} {h : List (List AV)} {i : Nat} {Z : Zs}
end
end Go.Proofs.YtlbgjlmokpkkeaaGreatDoor.Ax
namespace Go.Proofs.YtlbgjlmokpkkeaaGreatDoor.Ax
open Go.RowKit Go By
set_option linter.unusedSimpArgs false
set_option linter.unusedVariables false
set_option maxRecDepth 10000

section
variable {L : List (Nat × List AV)} {h : List (List AV)} {i : Nat} {Z : Zs}
/-! ### Close -/
/-! ### Parse -/
end
end Go.Proofs.YtlbgjlmokpkkeaaGreatDoor.Ax
