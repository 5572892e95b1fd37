/- The document's faults, over values without memory; the statement of faults as the document has them. -/
import Derived.Test.YthielckgianmgaaGreatDoorQAxHs
import Derived.Test.YthielckgianmgaaGreatDoorRows
import Derived.Test.YthielckgianmgaaGreatDoorQAxBs
import Derived.Test.YthielckgianmgaaGreatDoorQAxFm
import Derived.Test.YthielckgianmgaaGreatDoorQAxFa
/- The texts of functions over values without memory, as the kernel reckons them out of the program. -/
namespace Go.Proofs.YthielckgianmgaaGreatDoor.Ax
open Go.RowKit Go By

def c17 : XFun := ⟨8, (.seq (.ops [⟨(some 4), (.alloc [(.v (.int .u8 0)), (.v (.int .u8 0)), (.v (.string (strB []))), (.v (.string (strB []))), (.v (.string (strB []))), (.v (.int .i64 0)), (.v (.int .i64 0)), (.sl 0 [] (some true) .exact), (.sl 0 [] (some true) .exact), (.sl 0 [] (some true) .exact), (.sl 0 [] (some true) .exact)]), none⟩]) (.seq (.ops [⟨(some 5), (.move (.tmp 0)), none⟩, ⟨(some 6), (.move (.tmp 1)), none⟩, ⟨(some 7), (.call 43 [(.const (.string (strB [69, 82, 82, 79, 82]))), (.tmp 5), (.tmp 6)]), none⟩, ⟨none, (.store 11 (.tmp 4) (.tmp 7)), none⟩]) .ret)), [(.loadN 11 (.tmp 4))]⟩
theorem k17 : cfun Tryz.prog 17 = some c17 := by kernel_rfl
end Go.Proofs.YthielckgianmgaaGreatDoor.Ax
/- The document's answers for back, over values without memory: kinds, checks, what is the same. -/
namespace Go.Proofs.YthielckgianmgaaGreatDoor.Ax
open Go.RowKit Go By Nm Sc Dg
set_option linter.unusedSimpArgs false
set_option linter.unusedVariables false
set_option maxRecDepth 10000

/-! ### Columns, fields -/
/-! ### Checks -/
/-- Its texts are no longer than these. -/
def BkShort (m : Bk) : Prop := (m.tag.length ≤ 1000000 ∧ m.name.length ≤ 1000000 ∧ m.value.length ≤ 1000000) ∧ (∀ c ∈ m.cols, c.name.length ≤ 1000000) ∧ ∀ c ∈ m.fields, c.text.length ≤ 1000000
end Go.Proofs.YthielckgianmgaaGreatDoor.Ax
/- Back: what both sides check is one; what the document reads. -/
namespace Go.Proofs.YthielckgianmgaaGreatDoor.Ax
open Go.RowKit Go By Nm Sc Dg
open He (textL)
set_option linter.unusedSimpArgs false
set_option linter.unusedVariables false
set_option maxRecDepth 10000

/-! ### What the document reads -/
end Go.Proofs.YthielckgianmgaaGreatDoor.Ax
/- The document's messages of back as bytes, over values without memory. -/
namespace Go.Proofs.YthielckgianmgaaGreatDoor.Ax
open Go.RowKit Go By Nm Sc Dg
open He (textL)
set_option linter.unusedSimpArgs false
set_option linter.unusedVariables false
set_option maxRecDepth 10000

end Go.Proofs.YthielckgianmgaaGreatDoor.Ax
/- The document's messages of back: their bytes, one behind the other. -/
namespace Go.Proofs.YthielckgianmgaaGreatDoor.Ax
open Go.RowKit Go By Nm Sc Dg
open He (textL)
set_option linter.unusedSimpArgs false
set_option linter.unusedVariables false
set_option maxRecDepth 10000

/-! ### Messages' bytes -/
end Go.Proofs.YthielckgianmgaaGreatDoor.Ax
namespace Go.Proofs.YthielckgianmgaaGreatDoor.Ax
open Go.RowKit Go By Nm Sc Dg
set_option linter.unusedSimpArgs false
set_option linter.unusedVariables false
set_option maxRecDepth 10000

/-- A cut, where one variable may be put fast. -/
abbrev LeqZ (m : Nat) (s s2 : St) : Prop := LeqF m s s2
/-! ### A fault -/
theorem ferror_c (code text : List UInt8) (h : List (List AV)) : Contract Tryz.prog 17 [.v (.string (strB code)), .v (.string (strB text))] h (.agg (bkC (toldF [69, 82, 82, 79, 82] code text))) h [] := by
  refine contract_of k17 mixed (by simp [c17]) fun hh hargs => ?_
  simp [c17]
  refine xcall_self (by simp) (ftold_c [69, 82, 82, 79, 82] code text _) ?_
  simp [hh]
/-! ### The statement -/
end Go.Proofs.YthielckgianmgaaGreatDoor.Ax
