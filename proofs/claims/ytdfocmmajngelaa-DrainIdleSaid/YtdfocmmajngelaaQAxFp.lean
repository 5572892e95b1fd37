/- The document's answers for front, over values without memory: checks, what is the same. -/
import Derived.Test.YtdfocmmajngelaaQAxU
import Derived.Test.YtdfocmmajngelaaQAxSc
import Derived.Test.YtdfocmmajngelaaQAxTz
import Derived.Test.YtdfocmmajngelaaQAxFr
/- The document's answers: the same numbers, the same cells. -/
namespace Go.Proofs.Ytdfocmmajngelaa.Ax
open Go.RowKit Go By
set_option linter.unusedSimpArgs false
set_option linter.unusedVariables false
set_option maxRecDepth 10000

end Go.Proofs.Ytdfocmmajngelaa.Ax
namespace Go.Proofs.Ytdfocmmajngelaa.Ax
open Go.RowKit Go By Ytdfocmmajngelaa.Nm Sc Dg
set_option linter.unusedSimpArgs false
set_option linter.unusedVariables false
set_option maxRecDepth 10000

end Go.Proofs.Ytdfocmmajngelaa.Ax
