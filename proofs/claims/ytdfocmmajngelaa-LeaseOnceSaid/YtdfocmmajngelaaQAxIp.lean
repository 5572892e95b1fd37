/- Lists of numbers in variables, over values without memory; contracts out of calls that turn cells in place. No program is named here. -/
import Derived.Test.YtdfocmmajngelaaQAxX
import Derived.Test.YtdfocmmajngelaaQAxMi
/- slices.Clone, over values without memory: a copy is a variable of its own. -/
namespace Go.Proofs.Ytdfocmmajngelaa.Ax
open Go.RowKit Go By
set_option linter.unusedSimpArgs false
set_option linter.unusedVariables false
set_option maxRecDepth 10000

/-! ### Contracts out of calls: a new variable -/
section
variable {P : Program} {f : FuncId} {args : List AV} {h : List (List AV)}
end
end Go.Proofs.Ytdfocmmajngelaa.Ax
namespace Go.Proofs.Ytdfocmmajngelaa.Ax
open Go.RowKit Go By
set_option linter.unusedSimpArgs false
set_option linter.unusedVariables false
set_option maxRecDepth 10000

def intsA (l : List Int) : List AV := l.map fun n => .v (.int .i64 n)
@[simp] theorem intsA_length (l : List Int) : (intsA l).length = l.length := by unfold intsA; simp
@[simp] theorem intsA_nil : intsA [] = [] := rfl
theorem intsA_get {l : List Int} {j : Nat} (hj : j < l.length) : (intsA l)[j]? = some (.v (.int .i64 l[j])) := by unfold intsA; rw [List.getElem?_map, List.getElem?_eq_getElem hj]; rfl
theorem intsA_mem {l : List Int} {c : AV} (h : c ∈ intsA l) : ∃ n, c = .v (.int .i64 n) := by obtain ⟨n, _, rfl⟩ := List.mem_map.1 h; exact ⟨n, rfl⟩
@[simp] theorem intsA_lt (n : Nat) (l : List Int) : ltL n (intsA l) = True := eq_true (ltL_of fun j c hj => by obtain ⟨n, rfl⟩ := intsA_mem (List.mem_of_getElem? hj); trivial)
section
variable {P : Program} {f : FuncId} {args : List AV} {h : List (List AV)}
end
end Go.Proofs.Ytdfocmmajngelaa.Ax
