/- The contracts of the two functions that put a number behind bytes (num.Put and the document's answer). -/
import Derived.Test.YtabfaambilbpeaaRows
import Derived.Test.YtabfaambilbpeaaQElems
import Derived.Test.YtabfaambilbpeaaQNumB
/- The contract of bytes.Equal at slices that hold bytes, and what it means that a call made new bytes. -/
namespace Go.Proofs.Ytabfaambilbpeaa.Nm
open Go.RowKit Go By

theorem byte_info : (Try.prog.info? 5).map (fun i => (i.zero, i.size, i.bytes)) = some (some (.int .u8 0), 1, 1) := by kernel_rfl

/-- A call made this: the value holds the bytes, in memory of the call's own; what was there is as it was. -/
def Made (xs : List UInt8) (w : World) (e : Ending) (w' : World) : Prop :=
  ∃ a cap, e = .returned (.slice a xs.length cap) ∧ (a = none → cap = 0) ∧ OwnB 5 w' w.heap.size (.slice a xs.length cap) xs ∧ BytesAt w' w'.heap.size a xs ∧ Below w.heap.size w w'
theorem Made.of {xs : List UInt8} {w w' : World} {e : Ending} (h : ∃ v, e = .returned v ∧ OwnB 5 w' w.heap.size v xs ∧ Below w.heap.size w w') : Made xs w e w' := by
  obtain ⟨v, he, ho, hb⟩ := h
  obtain ⟨a, cap, rfl, _, _, hc⟩ := ho.at_
  refine ⟨a, cap, he, fun hn => ?_, ho, hc, hb⟩
  subst hn
  rcases ho.2 with ⟨h1, _⟩ | ⟨g, _, _, h1, _⟩
  · injection h1
  · injection h1 with h1; cases h1

end Go.Proofs.Ytabfaambilbpeaa.Nm
namespace Go.Proofs.Ytabfaambilbpeaa.Nm
open Go.RowKit Go By

/-- Byte number k of n, the lowest is number 0. -/
def putByte (n : Int) (k : Nat) : UInt8 := UInt8.ofNat (n / 256 ^ k % 256).toNat
theorem putByte_val (n : Int) (k : Nat) : ((putByte n k).toNat : Int) = n / 256 ^ k % 256 := by
  unfold putByte
  have h : 0 ≤ n / 256 ^ k % 256 ∧ n / 256 ^ k % 256 < 256 := by omega
  rw [UInt8.toNat_ofNat']
  omega
/-- The first j of the size bytes of n. -/
def putTo (n : Int) (size : Nat) : Nat → List UInt8
  | 0 => []
  | j + 1 => putTo n size j ++ [putByte n (size - 1 - j)]
theorem putTo_length (n : Int) (size : Nat) : ∀ j, (putTo n size j).length = j
  | 0 => rfl
  | j + 1 => by rw [putTo, List.length_append, putTo_length n size j]; rfl
/-- What Put answers. -/
def putL (xs : List UInt8) (n size : Int) : List UInt8 := if rightB n size = true then xs ++ putTo n size.toNat size.toNat else xs

theorem right_bounds {n size : Int} (h : rightB n size = true) : -(powI size / 2) ≤ n ∧ n < powI size := by
  simp [rightB] at h; exact h.2

end Go.Proofs.Ytabfaambilbpeaa.Nm
