import Derived.Test.YtknohkmpficjgaaGreatDoorQAxKc0
import Derived.Test.YtknohkmpficjgaaGreatDoorQAxCl
set_option linter.unusedSimpArgs false
set_option linter.unusedVariables false
namespace Go.Proofs.YtknohkmpficjgaaGreatDoor.Ax
open Go.RowKit Go By YtknohkmpficjgaaGreatDoor.Nm Sc Dg
set_option maxRecDepth 10000
theorem dtext_c (n : Int) (h1 : -9223372036854775808 <= n) (h2 : n <= 9223372036854775807) (h : List (List AV)) : Contract Tryz.prog 142 [.v (.int .i64 n)] h (.v (.string (strB (Dg.textL n)))) h [] :=
 contract_blank (by kernel_rfl) rfl fun G w vs _ hs => by
  rw [plain_vals (l := [.int .i64 n]) hs]
  exact (text_any n w h1 h2).mono fun e w' he => ⟨_, he.1, .v _, he.2⟩
def quoteL (s : List UInt8) : List UInt8 := 34 :: (s ++ [34])
theorem quote_eq (s : List UInt8) : ((⟨#[34]⟩ : ByteArray) ++ strB s) ++ ⟨#[34]⟩ = strB (quoteL s) := by
 apply ByteArray.ext
 simp [strB, quoteL]
theorem dquote_c (s : List UInt8) (hs : s.length <= 1000000) (h : List (List AV)) : Contract Tryz.prog 150 [.v (.string (strB s))] h (.v (.string (strB (quoteL s)))) h [] :=
 plain_quiet (l := [.string (strB s)]) (by kernel_rfl) h fun w => by have := quote_any (strB s) w (by rw [strB_size]; omega); rwa [quote_eq] at this
theorem quote_len (s : List UInt8) : (quoteL s).length = s.length + 2 := by simp [quoteL]
theorem dtext_len (n : Int) (h1 : -9223372036854775808 <= n) (h2 : n <= 9223372036854775807) : (Dg.textL n).length <= 21 := by
 unfold Dg.textL
 split
 ·have := digsN_le20 n.natAbs (by omega)
  simp; omega
 ·have := digsN_le20 n.toNat (by omega)
  omega
end Go.Proofs.YtknohkmpficjgaaGreatDoor.Ax
