/- Printing what texts say, over values without memory: sql, the document's answer, the statements of layer 26. -/
import Derived.Test.YtmdapcmdlblnnaaDoorQAxSx
import Derived.Test.YtmdapcmdlblnnaaDoorQAxXr
import Derived.Test.YtmdapcmdlblnnaaDoorRows
import Derived.Test.YtmdapcmdlblnnaaDoorQAxSz
/- What reads as data of the types of package api is laid out as their structures are. Written by gen/ax_types.py. -/
namespace Go.Proofs.YtmdapcmdlblnnaaDoor.Ax
open Go.RowKit Go By
set_option linter.unusedSimpArgs false
set_option linter.unusedVariables false

theorem sh_str : Shape Tryd.prog 9 strC (fun s => s.length ≤ maxLen) := shape_str Tryd.underlying9
end Go.Proofs.YtmdapcmdlblnnaaDoor.Ax
namespace Go.Proofs.YtmdapcmdlblnnaaDoor.Ax
open Go.RowKit Go By Dg
set_option linter.unusedSimpArgs false
set_option linter.unusedVariables false
set_option maxRecDepth 10000

theorem qexit_c (v : Vb) (h : List (List AV)) : Contract Tryd.prog 33 [.agg (vbC v)] h (.v (.bool ([3, 4].contains v.kind))) h [] := by
  refine contract_of k33 mixed (by simp [c33]) fun hh hargs => ?_
  simp [c33]
  refine xcall_of (qis_c v [3, 4] (by simp) _) (by simp [intC]) (by simp) ?_
  simp [hh]
/-! ### The laws -/
end Go.Proofs.YtmdapcmdlblnnaaDoor.Ax
