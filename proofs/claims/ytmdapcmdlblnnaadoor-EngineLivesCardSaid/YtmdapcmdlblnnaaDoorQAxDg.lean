/- Digits and quotes, over values without memory. -/
import Derived.Test.YtmdapcmdlblnnaaDoorRows
import Derived.Test.YtmdapcmdlblnnaaDoorQElems
import Derived.WalkKit
import Derived.Lib.Walk
import Derived.Lib.AppendZeros
import Derived.Test.YtmdapcmdlblnnaaDoorQAxMs
import Derived.Test.YtmdapcmdlblnnaaDoorQCodeA
import Derived.Test.YtmdapcmdlblnnaaDoorQNumD
import Derived.Test.YtmdapcmdlblnnaaDoorQDigC
import Derived.Test.YtmdapcmdlblnnaaDoorQScanB
import Derived.Test.YtmdapcmdlblnnaaDoorQAxSo
/- The contract of slices.Grow at no slice of bytes: a slice of the call's own, without bytes. -/
namespace Go.Proofs.YtmdapcmdlblnnaaDoor.Nm
open Go.RowKit Go By

end Go.Proofs.YtmdapcmdlblnnaaDoor.Nm
/- The contracts of what other packages and the document's answers build on, over values without memory: numbers, texts, bytes. -/
namespace Go.Proofs.YtmdapcmdlblnnaaDoor.Ax
open Go.RowKit Go By YtmdapcmdlblnnaaDoor.Nm Sc Dg
set_option linter.unusedSimpArgs false
set_option maxRecDepth 10000

theorem mixed : Tryd.prog.follows .mixedOrders = true := by kernel_rfl
theorem plain_vals {G : Ghost} : ∀ {l : List Value} {vs : List Value}, SeesL G (l.map AV.v) vs → vs = l
  | [], vs, h => h.none
  | x :: l, vs, h => by
    obtain ⟨y, r, rfl, h1, h2⟩ := h.split
    rw [h1.inv_v, plain_vals h2]
theorem plain_quiet {P : Program} {f : FuncId} (hE : entersB P f = true) {l : List Value} {v : Value} (h : List (List AV)) (hc : ∀ w, Calls P f l.toArray w fun e w' => e = .returned v ∧ w = w') : Contract P f (l.map AV.v) h (.v v) h [] :=
  contract_quiet hE rfl fun G w vs _ hs => ⟨v, .v v, by rw [plain_vals hs]; exact hc w⟩
/-- The same, of several results. -/
theorem plain_quiet_t {P : Program} {f : FuncId} (hE : entersB P f = true) {l r : List Value} (h : List (List AV)) (hc : ∀ w, Calls P f l.toArray w fun e w' => e = .returned (.tuple r.toArray) ∧ w = w') : Contract P f (l.map AV.v) h (.tup (r.map AV.v)) h [] :=
  contract_quiet hE rfl fun G w vs _ hs => ⟨.tuple r.toArray, .tup _ r (by simp) (fun j c hj => by
    rw [List.getElem?_map] at hj
    cases hr : r[j]? with
    | none => rw [hr] at hj; cases hj
    | some x => rw [hr] at hj; injection hj with hj; subst hj; rw [List.getD_eq_getElem?_getD, hr]; exact .v x), by rw [plain_vals hs]; exact hc w⟩

/-! ### Numbers -/
/-! ### Bytes with a number behind; a number in bytes -/
end Go.Proofs.YtmdapcmdlblnnaaDoor.Ax
namespace Go.Proofs.YtmdapcmdlblnnaaDoor.Ax
open Go.RowKit Go By YtmdapcmdlblnnaaDoor.Nm Sc Dg
set_option linter.unusedSimpArgs false
set_option maxRecDepth 10000

theorem dtext_c (n : Int) (h1 : -9223372036854775808 ≤ n) (h2 : n ≤ 9223372036854775807) (h : List (List AV)) : Contract Tryd.prog 29 [.v (.int .i64 n)] h (.v (.string (strB (Dg.textL n)))) h [] :=
  contract_blank (by kernel_rfl) rfl fun G w vs _ hs => by
    rw [plain_vals (l := [.int .i64 n]) hs]
    exact (text_any n w h1 h2).mono fun e w' he => ⟨_, he.1, .v _, he.2⟩
theorem drtext_c (n : Int) (h1 : -9223372036854775808 ≤ n) (h2 : n ≤ 9223372036854775807) (h : List (List AV)) : Contract Tryd.prog 31 [.v (.int .i64 n)] h (.v (.string (strB (Dg.textL n)))) h [] :=
  plain_quiet (l := [.int .i64 n]) (by kernel_rfl) h fun w => rtext_any n w h1 h2
theorem dtext_len (n : Int) (h1 : -9223372036854775808 ≤ n) (h2 : n ≤ 9223372036854775807) : (Dg.textL n).length ≤ 21 := by
  unfold Dg.textL
  split
  · have := digsN_le20 n.natAbs (by omega)
    simp; omega
  · have := digsN_le20 n.toNat (by omega)
    omega
end Go.Proofs.YtmdapcmdlblnnaaDoor.Ax
