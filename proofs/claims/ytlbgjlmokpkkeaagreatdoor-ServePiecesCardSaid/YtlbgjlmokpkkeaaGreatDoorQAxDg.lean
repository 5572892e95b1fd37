import Derived.Test.YtlbgjlmokpkkeaaGreatDoorQAxKc0
set_option linter.all false
namespace Go.Proofs.YtlbgjlmokpkkeaaGreatDoor.Ax
open Go.RowKit Go By YtlbgjlmokpkkeaaGreatDoor.Nm Sc Dg
set_option maxRecDepth 10000
theorem lE(n:Int)(h1 : -9223372036854775808 <= n)(h2:n <= 9223372036854775807)(h:d4):ae Tryz.prog 192 [.v (.int .i64 n)] h (.v (.string (af (Dg.textL n)))) h [] :=
 bW (by kernel_rfl) rfl fun G w vs _ hs=>by
  rw[dT (l:=[.int .i64 n]) hs]
  exact(Iu n w h1 h2).mono fun e w' he=>⟨_,he.1,.v _,he.2⟩
def fF(s:d5):d5:=34::(s++[34])
theorem Hi(s:d5):((⟨#[34]⟩:ByteArray)++af s)++⟨#[34]⟩=af (fF s):=by
 apply ByteArray.ext
 simp[af,fF]
theorem rM(s:d5)(hs:s.length <= 1000000)(h:d4):ae Tryz.prog 199 [.v (.string (af s))] h (.v (.string (af (fF s)))) h [] :=
 ed (l:=[.string (af s)]) (by kernel_rfl) h fun w=>by have:=Ew (af s) w (by rw[ej];omega);rwa [Hi] at this
theorem eY(s:d5):(fF s).length=s.length+2:=by simp[fF]
theorem ce(n:Int)(h1 : -9223372036854775808 <= n)(h2:n <= 9223372036854775807):(Dg.textL n).length <= 21:=by
 unfold Dg.textL
 split
 ·have:=gp n.natAbs (by omega)
  simp;omega
 ·have:=gp n.toNat (by omega)
  omega
end Go.Proofs.YtlbgjlmokpkkeaaGreatDoor.Ax
