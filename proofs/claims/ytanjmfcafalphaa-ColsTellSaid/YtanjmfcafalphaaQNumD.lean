/- The contracts of the two functions that put a number behind bytes (num.Put and the document's answer). -/
import Derived.Test.YtanjmfcafalphaaRows
import Derived.Test.YtanjmfcafalphaaQElems
import Derived.Test.YtanjmfcafalphaaQNumB
/- The contract of bytes.Equal at slices that hold bytes, and what it means that a call made new bytes. -/
namespace Go.Proofs.Ytanjmfcafalphaa.Nm
set_option maxRecDepth 100000
open Go.RowKit Go By

theorem equal_any (B1 B2 : Nat) (a1 a2 : Option Addr) (c1 c2 : Nat) (xs ys : List UInt8) (w : World) (h1 : BytesAt w B1 a1 xs) (h2 : BytesAt w B2 a2 ys) :
    Calls Try.prog 67 #[.slice a1 xs.length c1, .slice a2 ys.length c2] w fun e w' => e = .returned (.bool (xs == ys)) ∧ w = w' := by
  have r1 := run_convert_bytesAt (P := Try.prog) 41 5 9 Try.underlying41 Try.underlying5 Try.underlying9 w B1 a1 c1 xs h1
  have r2 := run_convert_bytesAt (P := Try.prog) 41 5 9 Try.underlying41 Try.underlying5 Try.underlying9 w B2 a2 c2 ys h2
  go_enter Try.func67, Try.ntmps67
  go_wp2
  go_ret
  exact ⟨by rw [strB_toList, strB_toList]; rfl, rfl⟩

theorem byte_info : (Try.prog.info? 5).map (fun i => (i.zero, i.size, i.bytes)) = some (some (.int .u8 0), 1, 1) := by kernel_rfl

/-- A call made this: the value holds the bytes, in memory of the call's own; what was there is as it was. -/
def Made (xs : List UInt8) (w : World) (e : Ending) (w' : World) : Prop :=
  ∃ a cap, e = .returned (.slice a xs.length cap) ∧ (a = none → cap = 0) ∧ OwnB 5 w' w.heap.size (.slice a xs.length cap) xs ∧ BytesAt w' w'.heap.size a xs ∧ Below w.heap.size w w'
theorem Made.of {xs : List UInt8} {w w' : World} {e : Ending} (h : ∃ v, e = .returned v ∧ OwnB 5 w' w.heap.size v xs ∧ Below w.heap.size w w') : Made xs w e w' := by
  obtain ⟨v, he, ho, hb⟩ := h
  obtain ⟨a, cap, rfl, _, _, hc⟩ := ho.at_
  refine ⟨a, cap, he, fun hn => ?_, ho, hc, hb⟩
  subst hn
  rcases ho.2 with ⟨h1, _⟩ | ⟨g, _, _, h1, _⟩
  · injection h1
  · injection h1 with h1; cases h1

end Go.Proofs.Ytanjmfcafalphaa.Nm
namespace Go.Proofs.Ytanjmfcafalphaa.Nm
open Go.RowKit Go By

/-- Byte number k of n, the lowest is number 0. -/
def putByte (n : Int) (k : Nat) : UInt8 := UInt8.ofNat (n / 256 ^ k % 256).toNat
theorem putByte_val (n : Int) (k : Nat) : ((putByte n k).toNat : Int) = n / 256 ^ k % 256 := by
  unfold putByte
  have h : 0 ≤ n / 256 ^ k % 256 ∧ n / 256 ^ k % 256 < 256 := by omega
  rw [UInt8.toNat_ofNat']
  omega
/-- The first j of the size bytes of n. -/
def putTo (n : Int) (size : Nat) : Nat → List UInt8
  | 0 => []
  | j + 1 => putTo n size j ++ [putByte n (size - 1 - j)]
theorem putTo_length (n : Int) (size : Nat) : ∀ j, (putTo n size j).length = j
  | 0 => rfl
  | j + 1 => by rw [putTo, List.length_append, putTo_length n size j]; rfl
/-- What Put answers. -/
def putL (xs : List UInt8) (n size : Int) : List UInt8 := if rightB n size = true then xs ++ putTo n size.toNat size.toNat else xs

theorem right_bounds {n size : Int} (h : rightB n size = true) : -(powI size / 2) ≤ n ∧ n < powI size := by
  simp [rightB] at h; exact h.2

end Go.Proofs.Ytanjmfcafalphaa.Nm
