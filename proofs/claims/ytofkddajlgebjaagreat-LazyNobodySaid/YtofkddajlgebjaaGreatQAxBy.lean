/- The document's messages of back: their bytes, one behind the other. -/
import Derived.Test.YtofkddajlgebjaaGreatQAxFm
import Derived.Test.YtofkddajlgebjaaGreatQAxWo
import Derived.Test.YtofkddajlgebjaaGreatQAxPl
import Derived.Test.YtofkddajlgebjaaGreatQCodeA
import Derived.Test.YtofkddajlgebjaaGreatQAxTz
import Derived.Test.YtofkddajlgebjaaGreatQAxBs
import Derived.Test.YtofkddajlgebjaaGreatQAxBw
/- remudaplain.Front, .Fronts: messages that are short enough to be tried, over values without memory. -/
namespace Go.Proofs.YtofkddajlgebjaaGreat.Ax
open Go.RowKit Go By YtofkddajlgebjaaGreat.Nm Sc Dg
set_option linter.unusedSimpArgs false
set_option linter.unusedVariables false
set_option maxRecDepth 10000

end Go.Proofs.YtofkddajlgebjaaGreat.Ax
/- The statements of layer 6 (front) as contracts. -/
namespace Go.Proofs.YtofkddajlgebjaaGreat.Ax
open Go.RowKit Go By YtofkddajlgebjaaGreat.Nm Sc Dg
open He (textL)
set_option linter.unusedSimpArgs false
set_option linter.unusedVariables false
set_option maxRecDepth 10000

/-! ### Sizes -/
/-! ### What Decode answers on both sides is one -/
/-! ### The statements -/
end Go.Proofs.YtofkddajlgebjaaGreat.Ax
/- The statements of layer 7 (back) as contracts. -/
namespace Go.Proofs.YtofkddajlgebjaaGreat.Ax
open Go.RowKit Go By YtofkddajlgebjaaGreat.Nm Sc Dg
open He (textL)
set_option linter.unusedSimpArgs false
set_option linter.unusedVariables false
set_option maxRecDepth 10000

/-! ### Messages that are short enough -/
end Go.Proofs.YtofkddajlgebjaaGreat.Ax
/- The document's messages of back as bytes, over values without memory. -/
namespace Go.Proofs.YtofkddajlgebjaaGreat.Ax
open Go.RowKit Go By YtofkddajlgebjaaGreat.Nm Sc Dg
open He (textL)
set_option linter.unusedSimpArgs false
set_option linter.unusedVariables false
set_option maxRecDepth 10000

end Go.Proofs.YtofkddajlgebjaaGreat.Ax
namespace Go.Proofs.YtofkddajlgebjaaGreat.Ax
open Go.RowKit Go By YtofkddajlgebjaaGreat.Nm Sc Dg
open He (textL)
set_option linter.unusedSimpArgs false
set_option linter.unusedVariables false
set_option maxRecDepth 10000

/-! ### Messages' bytes -/
end Go.Proofs.YtofkddajlgebjaaGreat.Ax
