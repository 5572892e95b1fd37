/- What reads as data of the types of package api is laid out as their structures are. Written by gen/ax_types.py. -/
import Derived.Test.YtofkddajlgebjaaGreatQAxWo
import Derived.Test.YtofkddajlgebjaaGreatQAxXr
import Derived.Test.YtofkddajlgebjaaGreatRows
namespace Go.Proofs.YtofkddajlgebjaaGreat.Ax
open Go.RowKit Go By
set_option linter.unusedSimpArgs false
set_option linter.unusedVariables false

end Go.Proofs.YtofkddajlgebjaaGreat.Ax
