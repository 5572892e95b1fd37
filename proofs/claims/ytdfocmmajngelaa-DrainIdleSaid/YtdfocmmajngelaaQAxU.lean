/- The functions of package slices that find by a function, that compare lists, over values without memory. No program is named here. Written by gen/slices.py. -/
import Derived.Test.YtdfocmmajngelaaQAxX
namespace Go.Proofs.Ytdfocmmajngelaa.Ax
open Go.RowKit Go By
set_option linter.unusedSimpArgs false
set_option maxRecDepth 10000

end Go.Proofs.Ytdfocmmajngelaa.Ax
