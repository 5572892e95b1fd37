/- Lists of numbers in variables, over values without memory; contracts out of calls that turn cells in place. No program is named here. -/
import Derived.Test.YtofkddajlgebjaaQAxX
import Derived.Test.YtofkddajlgebjaaQAxIb
/- slices.Clone, over values without memory: a copy is a variable of its own. -/
namespace Go.Proofs.Ytofkddajlgebjaa.Ax
open Go.RowKit Go By
set_option linter.unusedSimpArgs false
set_option linter.unusedVariables false
set_option maxRecDepth 10000

/-! ### Contracts out of calls: a new variable -/
section
variable {P : Program} {f : FuncId} {args : List AV} {h : List (List AV)}
end
end Go.Proofs.Ytofkddajlgebjaa.Ax
namespace Go.Proofs.Ytofkddajlgebjaa.Ax
open Go.RowKit Go By
set_option linter.unusedSimpArgs false
set_option linter.unusedVariables false
set_option maxRecDepth 10000

def intsA (l : List Int) : List AV := l.map fun n => .v (.int .i64 n)
@[simp] theorem intsA_length (l : List Int) : (intsA l).length = l.length := by unfold intsA; simp
@[simp] theorem intsA_nil : intsA [] = [] := rfl
theorem intsA_get {l : List Int} {j : Nat} (hj : j < l.length) : (intsA l)[j]? = some (.v (.int .i64 l[j])) := by unfold intsA; rw [List.getElem?_map, List.getElem?_eq_getElem hj]; rfl
theorem intsA_mem {l : List Int} {c : AV} (h : c ∈ intsA l) : ∃ n, c = .v (.int .i64 n) := by obtain ⟨n, _, rfl⟩ := List.mem_map.1 h; exact ⟨n, rfl⟩
@[simp] theorem intsA_lt (n : Nat) (l : List Int) : ltL n (intsA l) = True := eq_true (ltL_of fun j c hj => by obtain ⟨n, rfl⟩ := intsA_mem (List.mem_of_getElem? hj); trivial)
theorem seesL1 {G : Ghost} {a : AV} {vs : List Value} (h : SeesL G [a] vs) : ∃ x, vs = [x] ∧ Sees G a x := by
  obtain ⟨h1, h2⟩ := h
  match vs, h1 with
  | [x], _ => exact ⟨x, rfl, h2 0 a rfl⟩
theorem seesL2 {G : Ghost} {a b : AV} {vs : List Value} (h : SeesL G [a, b] vs) : ∃ x y, vs = [x, y] ∧ Sees G a x ∧ Sees G b y := by
  obtain ⟨h1, h2⟩ := h
  match vs, h1 with
  | [x, y], _ => exact ⟨x, y, rfl, h2 0 a rfl, h2 1 b rfl⟩
section
variable {P : Program} {f : FuncId} {args : List AV} {h : List (List AV)}
theorem contract_quietH (hE : entersB P f = true) {r : AV} (hr : r.idOf = none) (hc : ∀ (G : Ghost) (w : World) (vs : List Value), WorldOk G w → SeesH G h → SeesL G args vs → ∃ v, Sees G r v ∧ Calls P f vs.toArray w fun e w' => e = .returned v ∧ w' = w) : Contract P f args h r h [] := by
  refine ⟨enters_ofB hE, fun G w vs cls hW hS hvs hown hoh => ?_⟩
  obtain ⟨v, hv, hcl⟩ := hc G w vs hW hS hvs
  refine hcl.mono fun e w' he => ?_
  obtain ⟨rfl, rfl⟩ := he
  refine ⟨v, G, cls, rfl, Ext.refl G, hW, hS, fun i cs us h1 h2 j c hj => ?_, hv, .none _ hr, fun c hc => (by rw [hr] at hc; cases hc), fun _ _ _ => rfl, fun _ _ hb _ => hb⟩
  obtain ⟨h3, h4⟩ := hoh i cs us h1 h2 j c hj
  exact ⟨h3.imp2 fun b y B hB _ _ hcl => ⟨hcl, .inr (.inr ⟨i, cs, us, j, c, h1, h2, hj, hB⟩)⟩, h4⟩
end
end Go.Proofs.Ytofkddajlgebjaa.Ax
