import Derived.Test.YtdfgljojemmlcaaGreatQAxSc
import Derived.Test.YtdfgljojemmlcaaGreatQAxKc0
set_option linter.unusedSimpArgs false
set_option linter.ambiguousOpen false
namespace Go.Proofs.YtdfgljojemmlcaaGreat.Ax
open Go.RowKit Go By Nm Sc Dg
set_option maxRecDepth 10000
theorem dtext_c (n : Int) (h1 : -9223372036854775808 <= n) (h2 : n <= 9223372036854775807) (h : List (List AV)) : Contract Tryz.prog 98 [.v (.int .i64 n)] h (.v (.string (strB (Dg.textL n)))) h [] :=
 contract_blank (by kernel_rfl) rfl fun G w vs _ hs => by
  rw [plain_vals (l := [.int .i64 n]) hs]
  exact (text_any n w h1 h2).mono fun e w' he => ⟨_, he.1, .v _, he.2⟩
theorem int_of_wf {x : Int} (h : (Lit.int .i64 x).wf = true) : -9223372036854775808 <= x /\ x <= 9223372036854775807 := by
 have lo : IntKind.i64.min = -9223372036854775808 := rfl
 have hi : IntKind.i64.max = 9223372036854775807 := rfl
 simp [Lit.wf] at h
 omega
theorem dtext_len (n : Int) (h1 : -9223372036854775808 <= n) (h2 : n <= 9223372036854775807) : (Dg.textL n).length <= 21 := by
 unfold Dg.textL
 split
 ·have := digsN_le20 n.natAbs (by omega)
  simp; omega
 ·have := digsN_le20 n.toNat (by omega)
  omega
end Go.Proofs.YtdfgljojemmlcaaGreat.Ax
