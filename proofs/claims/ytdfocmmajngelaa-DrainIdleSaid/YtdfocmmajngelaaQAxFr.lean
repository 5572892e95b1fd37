/- Front's messages over values without memory: which kinds are served, checks, what is the same. -/
import Derived.Test.YtdfocmmajngelaaQAxX
import Derived.Test.YtdfocmmajngelaaRows
import Derived.Test.YtdfocmmajngelaaQAxWo
import Derived.Test.YtdfocmmajngelaaQCodeF
/- The texts of functions over values without memory, as the kernel reckons them out of the program. -/
namespace Go.Proofs.Ytdfocmmajngelaa.Ax
open Go.RowKit Go By

end Go.Proofs.Ytdfocmmajngelaa.Ax
namespace Go.Proofs.Ytdfocmmajngelaa.Ax
open Go.RowKit Go By Ytdfocmmajngelaa.Nm Sc Dg
set_option linter.unusedSimpArgs false
set_option linter.unusedVariables false
set_option maxRecDepth 10000

/-! ### Which kinds are served -/
/-! ### A message -/
/-! ### Checks -/
end Go.Proofs.Ytdfocmmajngelaa.Ax
