/- Layer 27's statements. -/
import Derived.Test.YtmdapcmdlblnnaaDoorQAxXr
import Derived.Test.YtmdapcmdlblnnaaDoorQAxSv
import Derived.Test.YtmdapcmdlblnnaaDoorQAxGd
/- Arguments within the form's reach: slices by their bytes; cells. -/
namespace Go.Proofs.YtmdapcmdlblnnaaDoor.Ax
open Go.RowKit Go.Deep Go.ChangeShapes Go.WideShapes Go.ChangeAt Go.Joins Go By
set_option linter.unusedSimpArgs false
set_option linter.unusedVariables false

section
variable {P : Program} {t : TypeId}
end
end Go.Proofs.YtmdapcmdlblnnaaDoor.Ax
namespace Go.Proofs.YtmdapcmdlblnnaaDoor.Ax
open Go.RowKit Go By Dg
set_option linter.unusedSimpArgs false
set_option linter.unusedVariables false
set_option maxRecDepth 10000

/-- A call. -/
structure De where
  op : Int
  text : List UInt8
  st : Int
  v : Vb
  ps : List Cl
def deC (d : De) : List AV := [.v (.int .i64 d.op), .v (.string (strB d.text)), .v (.int .u8 d.st), .v (.int .i64 d.v.kind), .v (.int .i64 d.v.n), .v (.string (strB d.v.code)), .sl 2 (enc cellC d.ps) none .no]
@[simp] theorem deC_len (d : De) : (deC d).length = 7 := of_eq_true (eq_self _)
@[simp] theorem deC_unown (d : De) : (deC d).map AV.unown = deC d := of_eq_true (eq_self _)
@[simp] theorem deC_take (d : De) : List.take 7 (deC d) = deC d := of_eq_true (eq_self _)
@[simp] theorem deC_0 (d : De) : (deC d)[0]? = some (.v (.int .i64 d.op)) := of_eq_true (eq_self _)
@[simp] theorem deC_1 (d : De) : (deC d)[1]? = some (.v (.string (strB d.text))) := of_eq_true (eq_self _)
@[simp] theorem deC_2 (d : De) : (deC d)[2]? = some (.v (.int .u8 d.st)) := of_eq_true (eq_self _)
@[simp] theorem deC_6 (d : De) : (deC d)[6]? = some (.sl 2 (enc cellC d.ps) none .no) := of_eq_true (eq_self _)
@[simp] theorem deC_g0 (d : De) (h : 0 < (deC d).length) : (deC d)[0] = .v (.int .i64 d.op) := of_eq_true (eq_self _)
@[simp] theorem deC_g1 (d : De) (h : 1 < (deC d).length) : (deC d)[1] = .v (.string (strB d.text)) := of_eq_true (eq_self _)
@[simp] theorem deC_g2 (d : De) (h : 2 < (deC d).length) : (deC d)[2] = .v (.int .u8 d.st) := of_eq_true (eq_self _)
@[simp] theorem deC_g6 (d : De) (h : 6 < (deC d).length) : (deC d)[6] = .sl 2 (enc cellC d.ps) none .no := of_eq_true (eq_self _)
@[simp] theorem deC_verb (d : De) : List.take 3 (List.drop 3 (deC d)) = vbC d.v := of_eq_true (eq_self _)
/-! ### Nobody's -/
section
variable {h : List (List AV)} {p : AV}
end
end Go.Proofs.YtmdapcmdlblnnaaDoor.Ax
