/- Back: what both sides check is one; what the document reads. -/
import Derived.Test.YtofkddajlgebjaaGreatQAxXr
import Derived.Test.YtofkddajlgebjaaGreatRows
import Derived.Test.YtofkddajlgebjaaGreatQAxBs
import Derived.Test.YtofkddajlgebjaaGreatQAxFm
/- The texts of functions over values without memory, as the kernel reckons them out of the program. -/
namespace Go.Proofs.YtofkddajlgebjaaGreat.Ax
open Go.RowKit Go By

end Go.Proofs.YtofkddajlgebjaaGreat.Ax
/- The document's answers for back, over values without memory: kinds, checks, what is the same. -/
namespace Go.Proofs.YtofkddajlgebjaaGreat.Ax
open Go.RowKit Go By YtofkddajlgebjaaGreat.Nm Sc Dg
set_option linter.unusedSimpArgs false
set_option linter.unusedVariables false
set_option maxRecDepth 10000

/-! ### Columns, fields -/
/-! ### Checks -/
/-- Its texts are no longer than these. -/
def BkShort (m : Bk) : Prop := (m.tag.length ≤ 1000000 ∧ m.name.length ≤ 1000000 ∧ m.value.length ≤ 1000000) ∧ (∀ c ∈ m.cols, c.name.length ≤ 1000000) ∧ ∀ c ∈ m.fields, c.text.length ≤ 1000000
end Go.Proofs.YtofkddajlgebjaaGreat.Ax
namespace Go.Proofs.YtofkddajlgebjaaGreat.Ax
open Go.RowKit Go By YtofkddajlgebjaaGreat.Nm Sc Dg
open He (textL)
set_option linter.unusedSimpArgs false
set_option linter.unusedVariables false
set_option maxRecDepth 10000

/-! ### What the document reads -/
end Go.Proofs.YtofkddajlgebjaaGreat.Ax
