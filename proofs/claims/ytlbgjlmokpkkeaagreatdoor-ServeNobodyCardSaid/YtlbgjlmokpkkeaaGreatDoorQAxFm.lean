/- Front's messages there and back, on lists of bytes: what both sides check is one; what is read has just these bytes. -/
import Derived.Test.YtlbgjlmokpkkeaaGreatDoorQAxWo
import Derived.Test.YtlbgjlmokpkkeaaGreatDoorQAxFq
/- Numbers, texts and lists there and back, on lists of bytes. -/
namespace Go.Proofs.YtlbgjlmokpkkeaaGreatDoor.Ax
open Go.RowKit Go By YtlbgjlmokpkkeaaGreatDoor.Nm Sc Dg
open He (textL)
set_option linter.unusedSimpArgs false
set_option linter.unusedVariables false

/-! ### Numbers -/
theorem getI_pre (xs ys : List UInt8) (i : Nat) : ∀ j, i + j ≤ xs.length → getI (xs ++ ys) i j = getI xs i j
  | 0, _ => rfl
  | j + 1, h => by rw [getI, getI, getI_pre xs ys i j (by omega), byteAt_append_left xs ys _ (by omega)]
def Sz (size : Nat) : Prop := size = 1 ∨ size = 2 ∨ size = 4
theorem Sz.szB {size : Nat} (h : Sz size) : szB (size : Int) = true := by rcases h with rfl | rfl | rfl <;> rfl
theorem Sz.pow {size : Nat} (h : Sz size) : powI (size : Int) = 256 ^ size := by rcases h with rfl | rfl | rfl <;> rfl
theorem right_iff {n : Int} {size : Nat} (h : Sz size) : rightB n size = true ↔ -(256 ^ size / 2) ≤ n ∧ n < 256 ^ size := by
  unfold rightB; rw [h.szB, h.pow]; simp
theorem right_of_range {n : Int} {size : Nat} (h : Sz size) (h0 : 0 ≤ n) (h1 : n < 256 ^ size) : rightB n size = true := (right_iff h).2 ⟨by rcases h with rfl | rfl | rfl <;> omega, h1⟩
theorem getI_putTo (n : Int) {size : Nat} (h : Sz size) : getI (putTo n size size) 0 size = n % 256 ^ size := by
  rcases h with rfl | rfl | rfl
  · simp [getI, putTo, byteAt, putByte_val]
  · simp [getI, putTo, byteAt, putByte_val]; omega
  · simp [getI, putTo, byteAt, putByte_val]; omega
theorem putL_right {n : Int} {size : Nat} (hr : rightB n size = true) : putL [] n size = putTo n size size := by
  unfold putL; rw [if_pos hr]; simp
theorem num_put {n : Int} {size : Nat} (h : Sz size) (r : List UInt8) (hr : rightB n size = true) : numV (some (putL [] n size ++ r)) size = n % 256 ^ size ∧ numS (some (putL [] n size ++ r)) size = some r := by
  rw [putL_right hr]
  have h4 : (putTo n size size).length = size := putTo_length _ _ _
  have he : getErr (putTo n size size ++ r).length 0 size = 0 := getErr_ok (size := size) (i := 0) h.szB (by rw [List.length_append, h4]; omega)
  simp only [numV, numS]
  rw [if_pos he, if_pos he]
  constructor
  · show getI (putTo n size size ++ r) 0 size = _
    rw [getI_pre _ _ _ _ (by rw [h4]; omega), getI_putTo n h]
  · show some ((putTo n size size ++ r).drop size) = some r
    rw [List.drop_append_of_le_length (by rw [h4]; omega), List.drop_of_length_le (by rw [h4]; omega)]; rfl
theorem listL_eq {α : Type} (e : α → List UInt8) (l : List α) : listL e l = putL [] l.length 2 ++ l.flatMap e := rfl
theorem two : ((2 : Nat) : Int) = 2 := rfl
theorem four : ((4 : Nat) : Int) = 4 := rfl

/-! ### Again and again -/
section
variable {α : Type} (e : α → List UInt8) (v : Sta → α) (s : Sta → Sta) (ok : α → Prop)
def There : Prop := ∀ x r, ok x → v (some (e x ++ r)) = x ∧ s (some (e x ++ r)) = some r
variable {e v s ok}
end
theorem nums_there {size : Nat} (h : Sz size) : There (numE size) (numV · size) (numS · size) (fun n => 0 ≤ n ∧ n < 256 ^ size) := fun n r hn => by
  obtain ⟨h1, h2⟩ := num_put h r (right_of_range h hn.1 hn.2)
  rw [Int.emod_eq_of_lt hn.1 hn.2] at h1
  exact ⟨h1, h2⟩
end Go.Proofs.YtlbgjlmokpkkeaaGreatDoor.Ax
namespace Go.Proofs.YtlbgjlmokpkkeaaGreatDoor.Ax
open Go.RowKit Go By YtlbgjlmokpkkeaaGreatDoor.Nm Sc Dg
open He (textL)
set_option linter.unusedSimpArgs false
set_option linter.unusedVariables false

/-! ### What both sides check is one -/
theorem p256_4 : (256 : Int) ^ 4 = 4294967296 := by decide
theorem right4 (n : Int) : rightB n 4 = true ↔ -2147483648 ≤ n ∧ n < 4294967296 := by
  have h := @right_iff n 4 (.inr (.inr rfl))
  rw [four, p256_4] at h
  rw [h]; omega
/-! ### What is read, kind by kind -/
section
variable (st : Sta)
end
/-! ### A message is read from its bytes -/
/-! ### What is read has just these bytes -/
end Go.Proofs.YtlbgjlmokpkkeaaGreatDoor.Ax
