/- The contracts of what other packages and the document's answers build on, over values without memory: numbers, texts, bytes. -/
import Derived.Test.YthielckgianmgaaDoorRows
import Derived.Test.YthielckgianmgaaDoorQElems
import Derived.WalkKit
import Derived.Lib.Walk
import Derived.Lib.AppendZeros
import Derived.Test.YthielckgianmgaaDoorQAxU
import Derived.Test.YthielckgianmgaaDoorQCodeA
import Derived.Test.YthielckgianmgaaDoorQNumD
import Derived.Test.YthielckgianmgaaDoorQDigC
import Derived.Test.YthielckgianmgaaDoorQScanB
/- The contract of slices.Grow at no slice of bytes: a slice of the call's own, without bytes. -/
namespace Go.Proofs.YthielckgianmgaaDoor.Nm
open Go.RowKit Go By

end Go.Proofs.YthielckgianmgaaDoor.Nm
namespace Go.Proofs.YthielckgianmgaaDoor.Ax
open Go.RowKit Go By Nm Sc Dg
set_option linter.unusedSimpArgs false
set_option maxRecDepth 10000

theorem mixed : Tryd.prog.follows .mixedOrders = true := by kernel_rfl
theorem plain_vals {G : Ghost} : ∀ {l : List Value} {vs : List Value}, SeesL G (l.map AV.v) vs → vs = l
  | [], vs, h => h.none
  | x :: l, vs, h => by
    obtain ⟨y, r, rfl, h1, h2⟩ := h.split
    rw [h1.inv_v, plain_vals h2]
theorem plain_quiet {P : Program} {f : FuncId} (hE : entersB P f = true) {l : List Value} {v : Value} (h : List (List AV)) (hc : ∀ w, Calls P f l.toArray w fun e w' => e = .returned v ∧ w = w') : Contract P f (l.map AV.v) h (.v v) h [] :=
  contract_quiet hE rfl fun G w vs _ hs => ⟨v, .v v, by rw [plain_vals hs]; exact hc w⟩
/-- The same, of several results. -/
theorem plain_quiet_t {P : Program} {f : FuncId} (hE : entersB P f = true) {l r : List Value} (h : List (List AV)) (hc : ∀ w, Calls P f l.toArray w fun e w' => e = .returned (.tuple r.toArray) ∧ w = w') : Contract P f (l.map AV.v) h (.tup (r.map AV.v)) h [] :=
  contract_quiet hE rfl fun G w vs _ hs => ⟨.tuple r.toArray, .tup _ r (by simp) (fun j c hj => by
    rw [List.getElem?_map] at hj
    cases hr : r[j]? with
    | none => rw [hr] at hj; cases hj
    | some x => rw [hr] at hj; injection hj with hj; subst hj; rw [List.getD_eq_getElem?_getD, hr]; exact .v x), by rw [plain_vals hs]; exact hc w⟩

/-! ### Numbers -/
/-! ### Bytes with a number behind; a number in bytes -/
end Go.Proofs.YthielckgianmgaaDoor.Ax
