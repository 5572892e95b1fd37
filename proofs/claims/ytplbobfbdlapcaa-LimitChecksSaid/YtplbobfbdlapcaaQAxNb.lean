/- What a function answers that holds a new variable's slice. No program is named here. -/
import Derived.Test.YtplbobfbdlapcaaQAxX
namespace Go.Proofs.Ytplbobfbdlapcaa.Ax
open Go.RowKit Go By
set_option linter.unusedSimpArgs false
set_option linter.unusedVariables false
set_option maxRecDepth 10000

section
variable {P : Program} {f : FuncId} {args : List AV} {h : List (List AV)}
end
end Go.Proofs.Ytplbobfbdlapcaa.Ax
