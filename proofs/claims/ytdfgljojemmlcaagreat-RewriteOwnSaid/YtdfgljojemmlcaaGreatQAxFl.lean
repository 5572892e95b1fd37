import Derived.Test.YtdfgljojemmlcaaGreatQAxWo
import Derived.Test.YtdfgljojemmlcaaGreatQAxFq
import Derived.Test.YtdfgljojemmlcaaGreatQAxTc
import Derived.Test.YtdfgljojemmlcaaGreatQAxPf
set_option linter.unusedSimpArgs false
set_option linter.unusedVariables false
set_option linter.ambiguousOpen false
namespace Go.Proofs.YtdfgljojemmlcaaGreat.Ax
open Go.RowKit Go By Nm Sc Dg
open He (textL)
theorem getI_pre (xs ys : List UInt8) (i : Nat) : ∀ j, i + j <= xs.length -> getI (xs ++ ys) i j = getI xs i j
 | 0, _ => rfl
 | j + 1, h => by rw [getI, getI, getI_pre xs ys i j (by omega), byteAt_append_left xs ys _ (by omega)]
def Sz (size : Nat) : Prop := size = 1 \/ size = 2 \/ size = 4
theorem Sz.szB {size : Nat} (h : Sz size) : szB (size : Int) = true := by rcases h with rfl | rfl | rfl <;> rfl
theorem Sz.pow {size : Nat} (h : Sz size) : powI (size : Int) = 256 ^ size := by rcases h with rfl | rfl | rfl <;> rfl
theorem right_iff {n : Int} {size : Nat} (h : Sz size) : rightB n size = true ↔ -(256 ^ size / 2) <= n /\ n < 256 ^ size := by
 unfold rightB; rw [h.szB, h.pow]; simp
theorem right_of_range {n : Int} {size : Nat} (h : Sz size) (h0 : 0 <= n) (h1 : n < 256 ^ size) : rightB n size = true := (right_iff h).2 ⟨by rcases h with rfl | rfl | rfl <;> omega, h1⟩
theorem getI_putTo (n : Int) {size : Nat} (h : Sz size) : getI (putTo n size size) 0 size = n % 256 ^ size := by
 rcases h with rfl | rfl | rfl
 ·simp [getI, putTo, byteAt, putByte_val]
 ·simp [getI, putTo, byteAt, putByte_val]; omega
 ·simp [getI, putTo, byteAt, putByte_val]; omega
theorem putL_right {n : Int} {size : Nat} (hr : rightB n size = true) : putL [] n size = putTo n size size := by
 unfold putL; rw [if_pos hr]; simp
theorem two : ((2 : Nat) : Int) = 2 := rfl
theorem four : ((4 : Nat) : Int) = 4 := rfl
section
variable {α : Type} (e : α -> List UInt8) (v : Sta -> α) (s : Sta -> Sta) (ok : α -> Prop)
variable {e v s ok}
end
section
variable (st : Sta)
end
end Go.Proofs.YtdfgljojemmlcaaGreat.Ax
namespace Go.Proofs.YtdfgljojemmlcaaGreat.Ax
open Go.RowKit Go By Nm Sc Dg
open He (textL)
set_option maxRecDepth 10000
end Go.Proofs.YtdfgljojemmlcaaGreat.Ax
