/- Rows by number, over values without memory; what a row is described by, and its tag. -/
import Derived.Test.YtmdapcmdlblnnaaDoorQAxSx
import Derived.Test.YtmdapcmdlblnnaaDoorQAxKa
/- Rows of cells as elements. No program is named here. -/
namespace Go.Proofs.YtmdapcmdlblnnaaDoor.Ax
open Go.RowKit Go By

/-- A row, as an element. -/
def rowKC (r : List Cl) : List AV := [.sl 2 (enc cellC r) none .no]
@[simp] theorem rowKC_len (r : List Cl) : (rowKC r).length = 1 := of_eq_true (eq_self _)
end Go.Proofs.YtmdapcmdlblnnaaDoor.Ax
namespace Go.Proofs.YtmdapcmdlblnnaaDoor.Ax
open Go.RowKit Go By YtmdapcmdlblnnaaDoor.Nm Sc Dg
set_option linter.unusedSimpArgs false
set_option linter.unusedVariables false
set_option maxRecDepth 10000

end Go.Proofs.YtmdapcmdlblnnaaDoor.Ax
