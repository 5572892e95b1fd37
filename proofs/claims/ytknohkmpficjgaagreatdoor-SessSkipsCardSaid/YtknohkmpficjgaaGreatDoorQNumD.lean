import Derived.Test.YtknohkmpficjgaaGreatDoorRows
import Derived.Test.YtknohkmpficjgaaGreatDoorQElems
import Derived.Test.YtknohkmpficjgaaGreatDoorQNumB
set_option linter.unusedSimpArgs false
set_option linter.unusedVariables false
namespace Go.Proofs.YtknohkmpficjgaaGreatDoor.Nm
set_option maxRecDepth 100000
open Go.RowKit Go By
theorem byte_info : (Tryz.prog.info? 5).map (fun i => (i.zero, i.size, i.bytes)) = some (some (.int .u8 0), 1, 1) := by kernel_rfl
def putByte (n : Int) (k : Nat) : UInt8 := UInt8.ofNat (n / 256 ^ k % 256).toNat
def putTo (n : Int) (size : Nat) : Nat -> List UInt8
 | 0 => []
 | j + 1 => putTo n size j ++ [putByte n (size - 1 - j)]
theorem putTo_length (n : Int) (size : Nat) : ∀ j, (putTo n size j).length = j
 | 0 => rfl
 | j + 1 => by rw [putTo, List.length_append, putTo_length n size j]; rfl
def putL (xs : List UInt8) (n size : Int) : List UInt8 := if rightB n size = true then xs ++ putTo n size.toNat size.toNat else xs
end Go.Proofs.YtknohkmpficjgaaGreatDoor.Nm
