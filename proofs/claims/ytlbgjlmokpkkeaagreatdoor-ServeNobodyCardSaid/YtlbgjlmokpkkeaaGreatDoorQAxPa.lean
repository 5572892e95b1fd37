/- Rows of cells, over values without memory: slices.Clone of rows, wherever they lie; copies of their own. -/
import Derived.Test.YtlbgjlmokpkkeaaGreatDoorQAxX
import Derived.Test.YtlbgjlmokpkkeaaGreatDoorRows
import Derived.Test.YtlbgjlmokpkkeaaGreatDoorQAxCy
import Derived.Test.YtlbgjlmokpkkeaaGreatDoorQAxRo
import Derived.Test.YtlbgjlmokpkkeaaGreatDoorQAxIp
/- The texts of functions over values without memory, as the kernel reckons them out of the program. -/
namespace Go.Proofs.YtlbgjlmokpkkeaaGreatDoor.Ax
open Go.RowKit Go By

def c52 : XFun := ⟨4, (.seq (.ops [⟨(some 0), (.assign (.const (.pointer none))), none⟩]) (.seq (.ops [⟨(some 1), (.makeMap 1 true), none⟩, ⟨(some 2), (.build [(.v (.map none))] [(0, (1, (.tmp 1)))]), none⟩, ⟨(some 3), (.box (.tmp 2)), none⟩, ⟨(some 0), (.assign (.tmp 3)), none⟩]) .ret)), [(.move (.tmp 0))]⟩
theorem k52 : cfun Tryz.prog 52 = some c52 := by kernel_rfl
end Go.Proofs.YtlbgjlmokpkkeaaGreatDoor.Ax
namespace Go.Proofs.YtlbgjlmokpkkeaaGreatDoor.Ax
set_option maxRecDepth 100000
open Go.RowKit Go By YtlbgjlmokpkkeaaGreatDoor.Nm Sc Dg
set_option linter.unusedSimpArgs false
set_option linter.unusedVariables false
set_option maxRecDepth 10000

def rowA (r : List Cl) : AV := .sl 2 (enc cellC r) none .no
/-- These rows, wherever they lie. -/
def RowsX (h : List (List AV)) (x : AV) (L : List (List Cl)) : Prop :=
  x = .sl 1 (enc rowKC L) none .no ∨ ∃ b o cs, x = .bsl b o 1 L.length ∧ h[b]? = some cs ∧ (cs.drop o).take L.length = L.map rowA ∧ o + L.length ≤ cs.length
theorem RowsX.id {h : List (List AV)} {x : AV} {L : List (List Cl)} (hx : RowsX h x L) : x.idOf = none := by
  rcases hx with rfl | ⟨b, o, cs, rfl, _⟩ <;> rfl
theorem RowsX.cells {h : List (List AV)} {x : AV} {L : List (List Cl)} (hx : RowsX h x L) : x.cells = some [x] := by
  rcases hx with rfl | ⟨b, o, cs, rfl, _⟩ <;> rfl
/-! ### Rows with cells of their own -/
end Go.Proofs.YtlbgjlmokpkkeaaGreatDoor.Ax
