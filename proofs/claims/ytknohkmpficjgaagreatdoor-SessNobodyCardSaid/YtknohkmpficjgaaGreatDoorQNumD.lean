/- The contracts of the two functions that put a number behind bytes (num.Put and the document's answer). -/
import Derived.Test.YtknohkmpficjgaaGreatDoorRows
import Derived.Test.YtknohkmpficjgaaGreatDoorQElems
import Derived.Test.YtknohkmpficjgaaGreatDoorQNumB
/- The contract of bytes.Equal at slices that hold bytes, and what it means that a call made new bytes. -/
namespace Go.Proofs.YtknohkmpficjgaaGreatDoor.Nm
set_option maxRecDepth 100000
open Go.RowKit Go By

theorem byte_info : (Tryz.prog.info? 5).map (fun i => (i.zero, i.size, i.bytes)) = some (some (.int .u8 0), 1, 1) := by kernel_rfl

end Go.Proofs.YtknohkmpficjgaaGreatDoor.Nm
namespace Go.Proofs.YtknohkmpficjgaaGreatDoor.Nm
set_option maxRecDepth 100000
open Go.RowKit Go By

/-- Byte number k of n, the lowest is number 0. -/
def putByte (n : Int) (k : Nat) : UInt8 := UInt8.ofNat (n / 256 ^ k % 256).toNat
/-- The first j of the size bytes of n. -/
def putTo (n : Int) (size : Nat) : Nat → List UInt8
  | 0 => []
  | j + 1 => putTo n size j ++ [putByte n (size - 1 - j)]
theorem putTo_length (n : Int) (size : Nat) : ∀ j, (putTo n size j).length = j
  | 0 => rfl
  | j + 1 => by rw [putTo, List.length_append, putTo_length n size j]; rfl
/-- What Put answers. -/
def putL (xs : List UInt8) (n size : Int) : List UInt8 := if rightB n size = true then xs ++ putTo n size.toNat size.toNat else xs

end Go.Proofs.YtknohkmpficjgaaGreatDoor.Nm
