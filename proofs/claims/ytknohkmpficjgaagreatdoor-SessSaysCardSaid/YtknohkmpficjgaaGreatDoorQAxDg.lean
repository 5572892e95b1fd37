import Derived.Test.YtknohkmpficjgaaGreatDoorQAxKc0
set_option linter.unusedSimpArgs false
set_option linter.unusedVariables false
namespace Go.Proofs.YtknohkmpficjgaaGreatDoor.Ax
open Go.RowKit Go By YtknohkmpficjgaaGreatDoor.Nm Sc Dg
set_option maxRecDepth 10000
theorem jf (n : Int) (h1 : -9223372036854775808 <= n) (h2 : n <= 9223372036854775807) (h : List (List AV)) : ae Tryz.prog 142 [.v (.int .i64 n)] h (.v (.string (ah (Dg.textL n)))) h [] :=
 bw (by kernel_rfl) rfl fun G w vs _ hs => by
  rw [dC (l := [.int .i64 n]) hs]
  exact (B7 n w h1 h2).mono fun e w' he => ⟨_, he.1, .v _, he.2⟩
def iW (s : List UInt8) : List UInt8 := 34 :: (s ++ [34])
theorem Bz (s : List UInt8) : ((⟨#[34]⟩ : ByteArray) ++ ah s) ++ ⟨#[34]⟩ = ah (iW s) := by
 apply ByteArray.ext
 simp [ah, iW]
theorem nE (s : List UInt8) (hs : s.length <= 1000000) (h : List (List AV)) : ae Tryz.prog 150 [.v (.string (ah s))] h (.v (.string (ah (iW s)))) h [] :=
 dX (l := [.string (ah s)]) (by kernel_rfl) h fun w => by have := zl (ah s) w (by rw [cY]; omega); rwa [Bz] at this
theorem dD (s : List UInt8) : (iW s).length = s.length + 2 := by simp [iW]
theorem dy (n : Int) (h1 : -9223372036854775808 <= n) (h2 : n <= 9223372036854775807) : (Dg.textL n).length <= 21 := by
 unfold Dg.textL
 split
 ·have := eT n.natAbs (by omega)
  simp; omega
 ·have := eT n.toNat (by omega)
  omega
end Go.Proofs.YtknohkmpficjgaaGreatDoor.Ax
