/- Printing what texts say, over values without memory: sql, the document's answer, the statements of layer 26. -/
import Derived.Test.YtmdapcmdlblnnaaDoorQAxSx
import Derived.Test.YtmdapcmdlblnnaaDoorQAxXr
import Derived.Test.YtmdapcmdlblnnaaDoorRows
import Derived.Test.YtmdapcmdlblnnaaDoorQAxSz
/- What reads as data of the types of package api is laid out as their structures are. Written by gen/ax_types.py. -/
namespace Go.Proofs.YtmdapcmdlblnnaaDoor.Ax
open Go.RowKit Go By
set_option linter.unusedSimpArgs false
set_option linter.unusedVariables false

theorem i64_wf {n : Int} (h : (Lit.int .i64 n).wf = true) : -9223372036854775808 ≤ n ∧ n ≤ 9223372036854775807 := by
  simp [Lit.wf, IntKind.min, IntKind.max, IntKind.signed, IntKind.bits] at h
  omega
theorem sh_int : Shape Tryd.prog 3 (fun n : Int => [.v (.int .i64 n)]) (fun n => -9223372036854775808 ≤ n ∧ n ≤ 9223372036854775807) := Shape.map (shape_int Tryd.underlying3) id (fun _ => rfl) (fun _ => i64_wf)
theorem sh_str : Shape Tryd.prog 9 strC (fun s => s.length ≤ maxLen) := shape_str Tryd.underlying9
def OkVb (x : Vb) : Prop := (-9223372036854775808 ≤ x.kind ∧ x.kind ≤ 9223372036854775807) ∧ (-9223372036854775808 ≤ x.n ∧ x.n ≤ 9223372036854775807) ∧ x.code.length ≤ maxLen
theorem sh_vbC : Shape Tryd.prog 30 vbC OkVb :=
  Shape.map (shape_struct Tryd.underlying30 (by kernel_rfl) (shape_cons (k := 1) rfl (by kernel_rfl) sh_int (by kernel_rfl) (shape_cons (k := 1) rfl (by kernel_rfl) sh_int (by kernel_rfl) (shape_one (k := 1) rfl (by kernel_rfl) sh_str)))) (fun p => ⟨p.1, p.2.1, p.2.2⟩) (fun _ => rfl) (fun _ h => h)
end Go.Proofs.YtmdapcmdlblnnaaDoor.Ax
namespace Go.Proofs.YtmdapcmdlblnnaaDoor.Ax
open Go.RowKit Go By Dg
set_option linter.unusedSimpArgs false
set_option linter.unusedVariables false
set_option maxRecDepth 10000

theorem qexit_c (v : Vb) (h : List (List AV)) : Contract Tryd.prog 33 [.agg (vbC v)] h (.v (.bool ([3, 4].contains v.kind))) h [] := by
  refine contract_of k33 mixed (by simp [c33]) fun hh hargs => ?_
  simp [c33]
  refine xcall_of (qis_c v [3, 4] (by simp) _) (by simp [intC]) (by simp) ?_
  simp [hh]
/-! ### The laws -/
end Go.Proofs.YtmdapcmdlblnnaaDoor.Ax
