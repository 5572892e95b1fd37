/- Front's messages over values without memory: which kinds are served, checks, what is the same. -/
import Derived.Test.YtofkddajlgebjaaGreatQAxXr
import Derived.Test.YtofkddajlgebjaaGreatRows
import Derived.Test.YtofkddajlgebjaaGreatQAxWo
import Derived.Test.YtofkddajlgebjaaGreatQAxPl
/- The texts of functions over values without memory, as the kernel reckons them out of the program. -/
namespace Go.Proofs.YtofkddajlgebjaaGreat.Ax
open Go.RowKit Go By

end Go.Proofs.YtofkddajlgebjaaGreat.Ax
namespace Go.Proofs.YtofkddajlgebjaaGreat.Ax
open Go.RowKit Go By YtofkddajlgebjaaGreat.Nm Sc Dg
set_option linter.unusedSimpArgs false
set_option linter.unusedVariables false
set_option maxRecDepth 10000

/-! ### Which kinds are served -/
/-! ### A message -/
theorem sliceseq_c (l m : List Int) (hl : l.length ≤ 140737488355328) (h : List (List AV)) : Contract Tryz.prog 105 [.sl 1 (enc intC l) none .no, .sl 1 (enc intC m) none .no] h (.v (.bool (l == m))) h [] := by
  have := equal1_any mixed k105 l m h hl
  rwa [eqL_beq] at this
/-! ### Checks -/
end Go.Proofs.YtofkddajlgebjaaGreat.Ax
