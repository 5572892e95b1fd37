/- The contracts of what other packages and the document's answers build on, over values without memory: numbers, texts, bytes. -/
import Derived.Test.YtplbobfbdlapcaaRows
import Derived.Test.YtplbobfbdlapcaaQElems
import Derived.WalkKit
import Derived.Lib.Walk
import Derived.Lib.AppendZeros
import Derived.Test.YtplbobfbdlapcaaQAxU
import Derived.Test.YtplbobfbdlapcaaQCodeA
import Derived.Test.YtplbobfbdlapcaaQNumD
import Derived.Test.YtplbobfbdlapcaaQDigC
import Derived.Test.YtplbobfbdlapcaaQScanB
/- The contract of slices.Grow at no slice of bytes: a slice of the call's own, without bytes. -/
namespace Go.Proofs.Ytplbobfbdlapcaa.Nm
open Go.RowKit Go By

end Go.Proofs.Ytplbobfbdlapcaa.Nm
namespace Go.Proofs.Ytplbobfbdlapcaa.Ax
open Go.RowKit Go By Ytplbobfbdlapcaa.Nm Sc Dg
set_option linter.unusedSimpArgs false
set_option maxRecDepth 10000

theorem mixed : Try.prog.follows .mixedOrders = true := by kernel_rfl
theorem plain_vals {G : Ghost} : ∀ {l : List Value} {vs : List Value}, SeesL G (l.map AV.v) vs → vs = l
  | [], vs, h => h.none
  | x :: l, vs, h => by
    obtain ⟨y, r, rfl, h1, h2⟩ := h.split
    rw [h1.inv_v, plain_vals h2]
theorem plain_quiet {P : Program} {f : FuncId} (hE : entersB P f = true) {l : List Value} {v : Value} (h : List (List AV)) (hc : ∀ w, Calls P f l.toArray w fun e w' => e = .returned v ∧ w = w') : Contract P f (l.map AV.v) h (.v v) h [] :=
  contract_quiet hE rfl fun G w vs _ hs => ⟨v, .v v, by rw [plain_vals hs]; exact hc w⟩
/-! ### Numbers -/
theorem clean_c (s : List UInt8) (h : List (List AV)) : Contract Try.prog 34 [.v (.string (strB s))] h (.v (.bool (cleanB s))) h [] :=
  plain_quiet (l := [.string (strB s)]) (by kernel_rfl) h fun w => by have := clean_any (strB s) w; rwa [strB_data] at this
/-! ### Bytes with a number behind; a number in bytes -/
end Go.Proofs.Ytplbobfbdlapcaa.Ax
