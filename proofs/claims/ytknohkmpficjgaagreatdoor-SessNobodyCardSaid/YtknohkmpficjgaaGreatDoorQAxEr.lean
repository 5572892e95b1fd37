/- errors.As over values without memory: of nothing; of what is of the very type that is looked for. -/
import Derived.Test.YtknohkmpficjgaaGreatDoorQAxCl
import Derived.Test.YtknohkmpficjgaaGreatDoorQAxIb
import Derived.WalkKit
import Derived.LaidEql
import Derived.Stop.Asserts
import Derived.RowKitTokens
import Derived.Deep.MidRow
import Derived.Test.YtknohkmpficjgaaGreatDoorQAxIp
import Derived.Test.YtknohkmpficjgaaGreatDoorQAxSb
/- A function that writes all cells of one variable, and makes blocks besides. No program is named here. -/
namespace Go.Proofs.YtknohkmpficjgaaGreatDoor.Ax
open Go.RowKit Go By
set_option linter.unusedSimpArgs false
set_option linter.unusedVariables false
set_option maxRecDepth 10000

section
variable {P : Program} {f : FuncId} {args : List AV} {h : List (List AV)}
end

end Go.Proofs.YtknohkmpficjgaaGreatDoor.Ax
namespace Go.Proofs.YtknohkmpficjgaaGreatDoor.Ax
set_option maxRecDepth 100000
open Go.RowKit Go.Extern.Stop Go.Stop Go.Extern Go By
set_option linter.unusedSimpArgs false
set_option linter.unusedVariables false
set_option maxRecDepth 10000

/-! ### errors.As -/
theorem as_nil (t : Value) (w : World) :
    Calls Tryz.prog 48 #[.nilIface, t] w fun e w' => e = .returned (.bool false) ∧ w' = w := by
  go_enter Tryz.func48, Tryz.ntmps48
  go_wp2
  go_ret
  exact ⟨rfl, rfl⟩
section
variable {h : List (List AV)}
theorem asnil_c (y : AV) (hy : y.idOf = none) : Contract Tryz.prog 48 [.v .nilIface, y] h (.v (.bool false)) h [] := by
  refine contract_blank (by kernel_rfl) rfl fun G w vs hW hvs => ?_
  obtain ⟨x, y, rfl, hx, hy⟩ := seesL2 hvs
  rw [hx.inv_v]
  refine (as_nil _ w).mono fun e w' he => ?_
  obtain ⟨rfl, rfl⟩ := he
  exact ⟨_, rfl, .v _, Below.refl _ _⟩
end
end Go.Proofs.YtknohkmpficjgaaGreatDoor.Ax
