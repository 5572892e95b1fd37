import Derived.Test.YtknohkmpficjgaaGreatDoorQAxSz
set_option linter.unusedSimpArgs false
set_option linter.unusedVariables false
namespace Go.Proofs.YtknohkmpficjgaaGreatDoor.Ax
open Go.RowKit Go By
theorem GN {n : Int} (h : (Lit.int .i64 n).wf = true) : -9223372036854775808 <= n /\ n <= 9223372036854775807 := by
 simp [Lit.wf, IntKind.min, IntKind.max, IntKind.signed, IntKind.bits] at h
 omega
theorem BX : Shape Tryz.prog 3 (fun n : Int => [.v (.int .i64 n)]) (fun n => -9223372036854775808 <= n /\ n <= 9223372036854775807) := Shape.map (lU Tryz.underlying3) id (fun _ => rfl) (fun _ => GN)
theorem Ff : Shape Tryz.prog 5 (fun n : Int => [.v (.int .u8 n)]) (fun n => 0 <= n /\ n < 256) := Shape.map (lU Tryz.underlying5) id (fun _ => rfl) (fun _ => uL)
theorem D9 : Shape Tryz.prog 4 (fun b : Bool => [.v (.bool b)]) (fun _ => True) := wv Tryz.underlying4
theorem wu : Shape Tryz.prog 9 gh (fun s => s.length <= maxLen) := zD Tryz.underlying9
theorem BV : Shape Tryz.prog 77 (fun l : List UInt8 => [.sl 1 (ak l) none .no]) (fun l => l.length <= maxLen) := uz Tryz.underlying77 (by kernel_rfl) Tryz.underlying5
theorem sC : Shape Tryz.prog 29 (fun l : List Int => [.sl 1 (al aN l) none .no]) (fun l => l.length <= maxLen) := Shape.map (fR Tryz.underlying29 (by kernel_rfl) (by decide) BX (fun _ => rfl)) id (fun _ => rfl) (fun _ h => h.1)
def FK (x : Cl) : Prop := True /\ x.2.length <= maxLen
theorem BW : Shape Tryz.prog 79 aq FK :=
 Shape.map (lm Tryz.underlying79 (by kernel_rfl) (bC (k := 1) rfl (by kernel_rfl) D9 (by kernel_rfl) (ri (k := 1) rfl (by kernel_rfl) BV))) (fun p => (p.1, p.2)) (fun _ => rfl) (fun _ h => h)
theorem zC : Shape Tryz.prog 30 (fun l : List Cl => [.sl 2 (al aq l) none .no]) (fun l => l.length <= maxLen /\ ∀ x ∈ l, FK x) := fR Tryz.underlying30 (by kernel_rfl) (by decide) BW (fun _ => rfl)
def FL (x : Fm) : Prop := (0 <= x.kind /\ x.kind < 256) /\ (0 <= x.what /\ x.what < 256) /\ x.name.length <= maxLen /\ x.portal.length <= maxLen /\ x.text.length <= maxLen /\ x.oids.length <= maxLen /\ x.formats.length <= maxLen /\ x.results.length <= maxLen /\ (x.params.length <= maxLen /\ ∀ c ∈ x.params, FK c) /\ (-9223372036854775808 <= x.max /\ x.max <= 9223372036854775807)
theorem H6 : Shape Tryz.prog 32 aG FL :=
 Shape.map (lm Tryz.underlying32 (by kernel_rfl) (bC (k := 1) rfl (by kernel_rfl) Ff (by kernel_rfl) (bC (k := 1) rfl (by kernel_rfl) Ff (by kernel_rfl) (bC (k := 1) rfl (by kernel_rfl) wu (by kernel_rfl) (bC (k := 1) rfl (by kernel_rfl) wu (by kernel_rfl) (bC (k := 1) rfl (by kernel_rfl) wu (by kernel_rfl) (bC (k := 1) rfl (by kernel_rfl) sC (by kernel_rfl) (bC (k := 1) rfl (by kernel_rfl) sC (by kernel_rfl) (bC (k := 1) rfl (by kernel_rfl) sC (by kernel_rfl) (bC (k := 1) rfl (by kernel_rfl) zC (by kernel_rfl) (ri (k := 1) rfl (by kernel_rfl) BX))))))))))) (fun p => ⟨p.1, p.2.1, p.2.2.1, p.2.2.2.1, p.2.2.2.2.1, p.2.2.2.2.2.1, p.2.2.2.2.2.2.1, p.2.2.2.2.2.2.2.1, p.2.2.2.2.2.2.2.2.1, p.2.2.2.2.2.2.2.2.2⟩) (fun _ => rfl) (fun _ h => h)
theorem sh_fmCL : Shape Tryz.prog 22 (fun l : List Fm => [.sl 10 (al aG l) none .no]) (fun l => l.length <= maxLen /\ ∀ x ∈ l, FL x) := fR Tryz.underlying22 (by kernel_rfl) (by decide) H6 (fun _ => rfl)
end Go.Proofs.YtknohkmpficjgaaGreatDoor.Ax
namespace Go.Proofs.YtknohkmpficjgaaGreatDoor.Ax
open Go.RowKit Go By Dg
set_option maxRecDepth 10000
theorem xD (v : Vb) (h : List (List AV)) : ae Tryz.prog 134 [.agg (ea v)] h (.v (.bool ([3, 4].contains v.kind))) h [] := by
 refine ac KT mixed (by simp [Ap]) fun hh hargs => ?_
 simp [Ap]
 refine ao (EX v [3, 4] (by simp) _) (by simp [aN]) (by simp) ?_
 simp [hh]
theorem xE (v : Vb) (h : List (List AV)) : ae Tryz.prog 77 [.agg (ea v)] h (.v (.bool ([5, 6, 7].contains v.kind))) h [] := by
 refine ac QZ mixed (by simp [NN]) fun hh hargs => ?_
 simp [NN]
 refine ao (EX v [5, 6, 7] (by simp) _) (by simp [aN]) (by simp) ?_
 simp [hh]
def th (v : Vb) (n : Int) : Int := if v.kind = 6 then zc (tV n [0]) [1000] else if [5, 6, 7].contains v.kind = true then 1 else 0
theorem DL (v : Vb) (n : Int) (h : List (List AV)) : ae Tryz.prog 136 [.agg (ea v), .v (.int .i64 n)] h (.v (.int .i64 (th v n))) h [] := by
 refine ac ON mixed (by simp [F5]) fun hh hargs => ?_
 simp [F5]
 unfold th
 by_cases e : v.kind = 6
 ·simp [e, hh]
  done
 ·simp [e]
  refine aa (by simp) (xE v _) ?_
  by_cases e5 : v.kind = 5
  ·simp [e5, hh]
  by_cases e7 : v.kind = 7
  ·simp [e7, hh]
  simp [e, e5, e7, hh]
end Go.Proofs.YtknohkmpficjgaaGreatDoor.Ax
