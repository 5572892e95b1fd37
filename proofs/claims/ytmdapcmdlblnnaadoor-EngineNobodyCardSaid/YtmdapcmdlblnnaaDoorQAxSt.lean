/- Texts over values without memory: strings.Clone; the order of texts; slices.Sort of texts, in place, by the kit's contracts. -/
import Derived.Test.YtmdapcmdlblnnaaDoorQAxXr
import Derived.Test.YtmdapcmdlblnnaaDoorRows
import Derived.Test.YtmdapcmdlblnnaaDoorQAxSo
import Derived.Test.YtmdapcmdlblnnaaDoorQAxDg
import Derived.Test.YtmdapcmdlblnnaaDoorQAxMs
import Derived.Shelf.Strconv.Clone
/- The texts of functions over values without memory, as the kernel reckons them out of the program. -/
namespace Go.Proofs.YtmdapcmdlblnnaaDoor.Ax
open Go.RowKit Go By

end Go.Proofs.YtmdapcmdlblnnaaDoor.Ax
namespace Go.Proofs.YtmdapcmdlblnnaaDoor.Ax
open Go.RowKit Go By Go.Sort Go.Shelf
set_option linter.unusedSimpArgs false
set_option linter.unusedVariables false

/-! ### The order of texts -/
end Go.Proofs.YtmdapcmdlblnnaaDoor.Ax
