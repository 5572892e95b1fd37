/- The contracts of what other packages and the document's answers build on, over values without memory: numbers, texts, bytes. -/
import Derived.Test.YtdfocmmajngelaaRows
import Derived.Test.YtdfocmmajngelaaQElems
import Derived.WalkKit
import Derived.Lib.Walk
import Derived.Lib.AppendZeros
import Derived.Test.YtdfocmmajngelaaQAxMi
import Derived.Test.YtdfocmmajngelaaQCodeA
import Derived.Test.YtdfocmmajngelaaQNumD
import Derived.Test.YtdfocmmajngelaaQDigC
import Derived.Test.YtdfocmmajngelaaQScanB
/- The contract of slices.Grow at no slice of bytes: a slice of the call's own, without bytes. -/
namespace Go.Proofs.Ytdfocmmajngelaa.Nm
open Go.RowKit Go By

end Go.Proofs.Ytdfocmmajngelaa.Nm
namespace Go.Proofs.Ytdfocmmajngelaa.Ax
open Go.RowKit Go By Ytdfocmmajngelaa.Nm Sc Dg
set_option linter.unusedSimpArgs false
set_option maxRecDepth 10000

theorem mixed : Try.prog.follows .mixedOrders = true := by kernel_rfl
/-! ### Numbers -/
/-! ### Bytes with a number behind; a number in bytes -/
end Go.Proofs.Ytdfocmmajngelaa.Ax
