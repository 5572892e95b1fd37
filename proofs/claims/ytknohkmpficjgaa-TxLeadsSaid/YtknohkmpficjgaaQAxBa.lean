/- The contracts of what other packages and the document's answers build on, over values without memory: numbers, texts, bytes. -/
import Derived.Test.YtknohkmpficjgaaRows
import Derived.Test.YtknohkmpficjgaaQElems
import Derived.WalkKit
import Derived.Lib.Walk
import Derived.Lib.AppendZeros
import Derived.Test.YtknohkmpficjgaaQAxU
import Derived.Test.YtknohkmpficjgaaQCodeA
import Derived.Test.YtknohkmpficjgaaQNumD
import Derived.Test.YtknohkmpficjgaaQDigC
import Derived.Test.YtknohkmpficjgaaQScanB
/- The contract of slices.Grow at no slice of bytes: a slice of the call's own, without bytes. -/
namespace Go.Proofs.Ytknohkmpficjgaa.Nm
open Go.RowKit Go By

end Go.Proofs.Ytknohkmpficjgaa.Nm
namespace Go.Proofs.Ytknohkmpficjgaa.Ax
open Go.RowKit Go By Ytknohkmpficjgaa.Nm Sc Dg
set_option linter.unusedSimpArgs false
set_option maxRecDepth 10000

theorem mixed : Try.prog.follows .mixedOrders = true := by kernel_rfl
/-! ### Numbers -/
/-! ### Bytes with a number behind; a number in bytes -/
end Go.Proofs.Ytknohkmpficjgaa.Ax
