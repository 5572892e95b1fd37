import Derived.Test.YtdfgljojemmlcaaGreatQAxKc0
import Derived.Sort.Walk0
set_option linter.unusedSimpArgs false
set_option linter.unusedVariables false
namespace Go.Proofs.YtdfgljojemmlcaaGreat.Ax
open Go.RowKit Go By
end Go.Proofs.YtdfgljojemmlcaaGreat.Ax
