/- The contracts of what package wire writes, over values without memory. -/
import Derived.Test.YtdfocmmajngelaaQAxX
import Derived.Test.YtdfocmmajngelaaRows
import Derived.Test.YtdfocmmajngelaaQAxSc
import Derived.Test.YtdfocmmajngelaaQAxTz
import Derived.Test.YtdfocmmajngelaaQHelA
/- The texts of functions over values without memory, as the kernel reckons them out of the program. -/
namespace Go.Proofs.Ytdfocmmajngelaa.Ax
open Go.RowKit Go By

end Go.Proofs.Ytdfocmmajngelaa.Ax
/- The contracts of package wire's checks and of what it writes, over values without memory. -/
namespace Go.Proofs.Ytdfocmmajngelaa.Ax
open Go.RowKit Go By Ytdfocmmajngelaa.Nm Sc Dg
set_option linter.unusedSimpArgs false
set_option maxRecDepth 10000

/-! ### bytes.Equal -/
/-! ### Checks -/
end Go.Proofs.Ytdfocmmajngelaa.Ax
namespace Go.Proofs.Ytdfocmmajngelaa.Ax
open Go.RowKit Go By Ytdfocmmajngelaa.Nm Sc Dg
set_option linter.unusedSimpArgs false
set_option linter.unusedVariables false
set_option maxRecDepth 10000

/-! ### Texts -/
/-! ### Lists -/
end Go.Proofs.Ytdfocmmajngelaa.Ax
