import Derived.Test.YtknohkmpficjgaaGreatDoorQAxRo
import Derived.Test.YtknohkmpficjgaaGreatDoorQAxXr
import Derived.Test.YtknohkmpficjgaaGreatDoorRows
import Derived.Test.YtknohkmpficjgaaGreatDoorQAxSz
set_option linter.unusedSimpArgs false
set_option linter.unusedVariables false
namespace Go.Proofs.YtknohkmpficjgaaGreatDoor.Ax
open Go.RowKit Go By
theorem i64_wf {n : Int} (h : (Lit.int .i64 n).wf = true) : -9223372036854775808 <= n /\ n <= 9223372036854775807 := by
 simp [Lit.wf, IntKind.min, IntKind.max, IntKind.signed, IntKind.bits] at h
 omega
theorem sh_int : Shape Tryz.prog 3 (fun n : Int => [.v (.int .i64 n)]) (fun n => -9223372036854775808 <= n /\ n <= 9223372036854775807) := Shape.map (shape_int Tryz.underlying3) id (fun _ => rfl) (fun _ => i64_wf)
theorem sh_u8 : Shape Tryz.prog 5 (fun n : Int => [.v (.int .u8 n)]) (fun n => 0 <= n /\ n < 256) := Shape.map (shape_int Tryz.underlying5) id (fun _ => rfl) (fun _ => u8_of_wf)
theorem sh_bool : Shape Tryz.prog 4 (fun b : Bool => [.v (.bool b)]) (fun _ => True) := shape_bool Tryz.underlying4
theorem sh_str : Shape Tryz.prog 9 strC (fun s => s.length <= maxLen) := shape_str Tryz.underlying9
theorem sh_bytes : Shape Tryz.prog 77 (fun l : List UInt8 => [.sl 1 (bytesE l) none .no]) (fun l => l.length <= maxLen) := shape_bytes Tryz.underlying77 (by kernel_rfl) Tryz.underlying5
theorem sh_ints : Shape Tryz.prog 29 (fun l : List Int => [.sl 1 (enc intC l) none .no]) (fun l => l.length <= maxLen) := Shape.map (shape_slice Tryz.underlying29 (by kernel_rfl) (by decide) sh_int (fun _ => rfl)) id (fun _ => rfl) (fun _ h => h.1)
def OkCl (x : Cl) : Prop := True /\ x.2.length <= maxLen
theorem sh_cellC : Shape Tryz.prog 79 cellC OkCl :=
 Shape.map (shape_struct Tryz.underlying79 (by kernel_rfl) (shape_cons (k := 1) rfl (by kernel_rfl) sh_bool (by kernel_rfl) (shape_one (k := 1) rfl (by kernel_rfl) sh_bytes))) (fun p => (p.1, p.2)) (fun _ => rfl) (fun _ h => h)
theorem sh_cellCL : Shape Tryz.prog 30 (fun l : List Cl => [.sl 2 (enc cellC l) none .no]) (fun l => l.length <= maxLen /\ ∀ x ∈ l, OkCl x) := shape_slice Tryz.underlying30 (by kernel_rfl) (by decide) sh_cellC (fun _ => rfl)
def OkFm (x : Fm) : Prop := (0 <= x.kind /\ x.kind < 256) /\ (0 <= x.what /\ x.what < 256) /\ x.name.length <= maxLen /\ x.portal.length <= maxLen /\ x.text.length <= maxLen /\ x.oids.length <= maxLen /\ x.formats.length <= maxLen /\ x.results.length <= maxLen /\ (x.params.length <= maxLen /\ ∀ c ∈ x.params, OkCl c) /\ (-9223372036854775808 <= x.max /\ x.max <= 9223372036854775807)
theorem sh_fmC : Shape Tryz.prog 32 fmC OkFm :=
 Shape.map (shape_struct Tryz.underlying32 (by kernel_rfl) (shape_cons (k := 1) rfl (by kernel_rfl) sh_u8 (by kernel_rfl) (shape_cons (k := 1) rfl (by kernel_rfl) sh_u8 (by kernel_rfl) (shape_cons (k := 1) rfl (by kernel_rfl) sh_str (by kernel_rfl) (shape_cons (k := 1) rfl (by kernel_rfl) sh_str (by kernel_rfl) (shape_cons (k := 1) rfl (by kernel_rfl) sh_str (by kernel_rfl) (shape_cons (k := 1) rfl (by kernel_rfl) sh_ints (by kernel_rfl) (shape_cons (k := 1) rfl (by kernel_rfl) sh_ints (by kernel_rfl) (shape_cons (k := 1) rfl (by kernel_rfl) sh_ints (by kernel_rfl) (shape_cons (k := 1) rfl (by kernel_rfl) sh_cellCL (by kernel_rfl) (shape_one (k := 1) rfl (by kernel_rfl) sh_int))))))))))) (fun p => ⟨p.1, p.2.1, p.2.2.1, p.2.2.2.1, p.2.2.2.2.1, p.2.2.2.2.2.1, p.2.2.2.2.2.2.1, p.2.2.2.2.2.2.2.1, p.2.2.2.2.2.2.2.2.1, p.2.2.2.2.2.2.2.2.2⟩) (fun _ => rfl) (fun _ h => h)
theorem sh_fmCL : Shape Tryz.prog 22 (fun l : List Fm => [.sl 10 (enc fmC l) none .no]) (fun l => l.length <= maxLen /\ ∀ x ∈ l, OkFm x) := shape_slice Tryz.underlying22 (by kernel_rfl) (by decide) sh_fmC (fun _ => rfl)
end Go.Proofs.YtknohkmpficjgaaGreatDoor.Ax
namespace Go.Proofs.YtknohkmpficjgaaGreatDoor.Ax
open Go.RowKit Go By Dg
set_option maxRecDepth 10000
theorem qexit_c (v : Vb) (h : List (List AV)) : Contract Tryz.prog 134 [.agg (vbC v)] h (.v (.bool ([3, 4].contains v.kind))) h [] := by
 refine contract_of k134 mixed (by simp [c134]) fun hh hargs => ?_
 simp [c134]
 refine xcall_of (qis_c v [3, 4] (by simp) _) (by simp [intC]) (by simp) ?_
 simp [hh]
theorem qrows_c (v : Vb) (h : List (List AV)) : Contract Tryz.prog 77 [.agg (vbC v)] h (.v (.bool ([5, 6, 7].contains v.kind))) h [] := by
 refine contract_of k77 mixed (by simp [c77]) fun hh hargs => ?_
 simp [c77]
 refine xcall_of (qis_c v [5, 6, 7] (by simp) _) (by simp [intC]) (by simp) ?_
 simp [hh]
def colsQ (v : Vb) (n : Int) : Int := if v.kind = 6 then minZ (maxZ n [0]) [1000] else if [5, 6, 7].contains v.kind = true then 1 else 0
theorem qcols_c (v : Vb) (n : Int) (h : List (List AV)) : Contract Tryz.prog 136 [.agg (vbC v), .v (.int .i64 n)] h (.v (.int .i64 (colsQ v n))) h [] := by
 refine contract_of k136 mixed (by simp [c136]) fun hh hargs => ?_
 simp [c136]
 unfold colsQ
 by_cases e : v.kind = 6
 ·simp [e, hh]
  done
 ·simp [e]
  refine xcall_self (by simp) (qrows_c v _) ?_
  by_cases e5 : v.kind = 5
  ·simp [e5, hh]
  by_cases e7 : v.kind = 7
  ·simp [e7, hh]
  simp [e, e5, e7, hh]
end Go.Proofs.YtknohkmpficjgaaGreatDoor.Ax
