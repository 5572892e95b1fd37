/- slices.Clone of elements of k cells, as a call; and as a contract: a copy is a variable of its own. Written by gen/clone.py. -/
import Derived.Test.YtmdapcmdlblnnaaDoorQAxSo
import Derived.Test.YtmdapcmdlblnnaaDoorQAxSx
import Derived.Test.YtmdapcmdlblnnaaDoorQAxDg
namespace Go.Proofs.YtmdapcmdlblnnaaDoor.Ax
set_option maxRecDepth 100000
open Go.RowKit Go By YtmdapcmdlblnnaaDoor.Nm
set_option linter.unusedSimpArgs false
set_option linter.unusedVariables false
set_option maxRecDepth 10000

end Go.Proofs.YtmdapcmdlblnnaaDoor.Ax
