/- Digits and quotes, over values without memory. -/
import Derived.Test.YtmdapcmdlblnnaaDoorRows
import Derived.Test.YtmdapcmdlblnnaaDoorQElems
import Derived.WalkKit
import Derived.Lib.Walk
import Derived.Lib.AppendZeros
import Derived.Test.YtmdapcmdlblnnaaDoorQAxMs
import Derived.Test.YtmdapcmdlblnnaaDoorQCodeA
import Derived.Test.YtmdapcmdlblnnaaDoorQNumD
import Derived.Test.YtmdapcmdlblnnaaDoorQDigC
import Derived.Test.YtmdapcmdlblnnaaDoorQScanB
import Derived.Test.YtmdapcmdlblnnaaDoorQAxSo
/- The contract of slices.Grow at no slice of bytes: a slice of the call's own, without bytes. -/
namespace Go.Proofs.YtmdapcmdlblnnaaDoor.Nm
open Go.RowKit Go By

end Go.Proofs.YtmdapcmdlblnnaaDoor.Nm
/- The contracts of what other packages and the document's answers build on, over values without memory: numbers, texts, bytes. -/
namespace Go.Proofs.YtmdapcmdlblnnaaDoor.Ax
open Go.RowKit Go By YtmdapcmdlblnnaaDoor.Nm Sc Dg
set_option linter.unusedSimpArgs false
set_option maxRecDepth 10000

theorem mixed : Tryd.prog.follows .mixedOrders = true := by kernel_rfl
theorem plain_vals {G : Ghost} : ∀ {l : List Value} {vs : List Value}, SeesL G (l.map AV.v) vs → vs = l
  | [], vs, h => h.none
  | x :: l, vs, h => by
    obtain ⟨y, r, rfl, h1, h2⟩ := h.split
    rw [h1.inv_v, plain_vals h2]
/-- The same, of several results. -/
theorem plain_quiet_t {P : Program} {f : FuncId} (hE : entersB P f = true) {l r : List Value} (h : List (List AV)) (hc : ∀ w, Calls P f l.toArray w fun e w' => e = .returned (.tuple r.toArray) ∧ w = w') : Contract P f (l.map AV.v) h (.tup (r.map AV.v)) h [] :=
  contract_quiet hE rfl fun G w vs _ hs => ⟨.tuple r.toArray, .tup _ r (by simp) (fun j c hj => by
    rw [List.getElem?_map] at hj
    cases hr : r[j]? with
    | none => rw [hr] at hj; cases hj
    | some x => rw [hr] at hj; injection hj with hj; subst hj; rw [List.getD_eq_getElem?_getD, hr]; exact .v x), by rw [plain_vals hs]; exact hc w⟩

/-! ### Numbers -/
/-! ### Bytes with a number behind; a number in bytes -/
end Go.Proofs.YtmdapcmdlblnnaaDoor.Ax
namespace Go.Proofs.YtmdapcmdlblnnaaDoor.Ax
open Go.RowKit Go By YtmdapcmdlblnnaaDoor.Nm Sc Dg
set_option linter.unusedSimpArgs false
set_option maxRecDepth 10000

end Go.Proofs.YtmdapcmdlblnnaaDoor.Ax
