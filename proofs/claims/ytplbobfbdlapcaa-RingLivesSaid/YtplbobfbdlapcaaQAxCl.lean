/- slices.Clone, over values without memory: a copy is a variable of its own. -/
import Derived.Test.YtplbobfbdlapcaaQAxX
namespace Go.Proofs.Ytplbobfbdlapcaa.Ax
open Go.RowKit Go By
set_option linter.unusedSimpArgs false
set_option linter.unusedVariables false
set_option maxRecDepth 10000

/-! ### Contracts out of calls: a new variable -/
section
variable {P : Program} {f : FuncId} {args : List AV} {h : List (List AV)}
end
end Go.Proofs.Ytplbobfbdlapcaa.Ax
