/- The contracts of what other packages and the document's answers build on, over values without memory: numbers, texts, bytes. -/
import Derived.Test.YtpogpofmakcodaaRows
import Derived.Test.YtpogpofmakcodaaQElems
import Derived.WalkKit
import Derived.Lib.Walk
import Derived.Lib.AppendZeros
import Derived.Test.YtpogpofmakcodaaQAxIb
import Derived.Test.YtpogpofmakcodaaQCodeA
import Derived.Test.YtpogpofmakcodaaQNumD
import Derived.Test.YtpogpofmakcodaaQDigC
import Derived.Test.YtpogpofmakcodaaQScanB
/- The contract of slices.Grow at no slice of bytes: a slice of the call's own, without bytes. -/
namespace Go.Proofs.Ytpogpofmakcodaa.Nm
open Go.RowKit Go By

end Go.Proofs.Ytpogpofmakcodaa.Nm
namespace Go.Proofs.Ytpogpofmakcodaa.Ax
open Go.RowKit Go By Nm Sc Dg
set_option linter.unusedSimpArgs false
set_option maxRecDepth 10000

theorem mixed : Try.prog.follows .mixedOrders = true := by kernel_rfl
/-! ### Numbers -/
/-! ### Bytes with a number behind; a number in bytes -/
end Go.Proofs.Ytpogpofmakcodaa.Ax
