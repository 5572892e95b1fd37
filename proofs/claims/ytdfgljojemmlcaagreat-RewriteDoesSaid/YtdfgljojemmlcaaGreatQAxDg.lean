import Derived.Test.YtdfgljojemmlcaaGreatQAxKc0
set_option linter.unusedSimpArgs false
set_option linter.unusedVariables false
namespace Go.Proofs.YtdfgljojemmlcaaGreat.Ax
open Go.RowKit Go By Go.Proofs.YtdfgljojemmlcaaGreat.Nm Sc Dg
set_option maxRecDepth 10000
theorem CJ (n : Int) (h1 : -9223372036854775808 <= n) (h2 : n <= 9223372036854775807) (h : List (List AV)) : Contract Tryz.prog 98 [.v (.int .i64 n)] h (.v (.string (ah (Dg.textL n)))) h [] :=
 gh (by kernel_rfl) rfl fun G w vs _ hs => by
  rw [eQ (l := [.int .i64 n]) hs]
  exact (zP n w h1 h2).mono fun e w' he => ⟨_, he.1, .v _, he.2⟩
theorem Ae (n : Int) (h1 : -9223372036854775808 <= n) (h2 : n <= 9223372036854775807) (h : List (List AV)) : Contract Tryz.prog 104 [.v (.int .i64 n)] h (.v (.string (ah (Dg.textL n)))) h [] :=
 fh (l := [.int .i64 n]) (by kernel_rfl) h fun w => yN n w h1 h2
theorem qW {x : Int} (h : (Lit.int .i64 x).wf = true) : -9223372036854775808 <= x /\ x <= 9223372036854775807 := by
 have lo : IntKind.i64.min = -9223372036854775808 := rfl
 have hi : IntKind.i64.max = 9223372036854775807 := rfl
 simp [Lit.wf] at h
 omega
theorem ng (n : Int) (h1 : -9223372036854775808 <= n) (h2 : n <= 9223372036854775807) : (Dg.textL n).length <= 21 := by
 unfold Dg.textL
 split
 ·have := cU n.natAbs (by omega)
  simp; omega
 ·have := cU n.toNat (by omega)
  omega
end Go.Proofs.YtdfgljojemmlcaaGreat.Ax
