import Derived.Test.YtdfgljojemmlcaaGreatQAxFq
import Derived.Test.YtdfgljojemmlcaaGreatQAxTc
set_option linter.unusedSimpArgs false
set_option linter.unusedVariables false
open Bool renaming eq_iff_iff -> Q0, and_eq_true -> Q1
namespace Go.Proofs.YtdfgljojemmlcaaGreat.Ax
open Go.RowKit Go By Go.Proofs.YtdfgljojemmlcaaGreat.Nm Sc Dg
open He (textL)
theorem pq (xs ys : List UInt8) (i : Nat) : ∀ j, i + j <= xs.length -> cJ (xs ++ ys) i j = cJ xs i j
 | 0, _ => rfl
 | j + 1, h => by rw [cJ, cJ, pq xs ys i j (by omega), la xs ys _ (by omega)]
def Sz (size : Nat) : Prop := size = 1 \/ size = 2 \/ size = 4
theorem Sz.szB {size : Nat} (h : Sz size) : szB (size : Int) = true := by rcases h with rfl | rfl | rfl <;> rfl
theorem Sz.pow {size : Nat} (h : Sz size) : iv (size : Int) = 256 ^ size := by rcases h with rfl | rfl | rfl <;> rfl
theorem j5 {n : Int} {size : Nat} (h : Sz size) : aV n size = true ↔ -(256 ^ size / 2) <= n /\ n < 256 ^ size := by
 unfold aV; rw [h.szB, h.pow]; simp
theorem qb {n : Int} {size : Nat} (h : Sz size) (h0 : 0 <= n) (h1 : n < 256 ^ size) : aV n size = true := (j5 h).2 ⟨by rcases h with rfl | rfl | rfl <;> omega, h1⟩
theorem wu (n : Int) {size : Nat} (h : Sz size) : cJ (aL n size size) 0 size = n % 256 ^ size := by
 rcases h with rfl | rfl | rfl
 ·simp [cJ, aL, bB, aO]
 ·simp [cJ, aL, bB, aO]; omega
 ·simp [cJ, aL, bB, aO]; omega
theorem vx {n : Int} {size : Nat} (hr : aV n size = true) : bo [] n size = aL n size size := by
 unfold bo; rw [if_pos hr]; simp
theorem two : ((2 : Nat) : Int) = 2 := rfl
theorem four : ((4 : Nat) : Int) = 4 := rfl
section
variable {α : Type} (e : α -> List UInt8) (v : Sta -> α) (s : Sta -> Sta) (ok : α -> Prop)
variable {e v s ok}
end
theorem GX : (256 : Int) ^ 4 = 4294967296 := by decide
theorem EW : (256 : Int) ^ 2 = 65536 := by decide
theorem zH (n : Int) : aV n 4 = true ↔ -2147483648 <= n /\ n < 4294967296 := by
 have h := @j5 n 4 (.inr (.inr rfl))
 rw [four, GX] at h
 rw [h]; omega
theorem Aq (n : Int) : aV n 2 = true ↔ -32768 <= n /\ n < 65536 := by
 have h := @j5 n 2 (.inr (.inl rfl))
 rw [two, EW] at h
 rw [h]; omega
theorem JP : fT 4 = cD 0 4294967295 := by
 funext n
 rw [Q0]
 simp [fT, cD, zH]; omega
theorem NV : fT 2 = cD 0 65535 := by
 funext n
 rw [Q0]
 simp [fT, cD, Aq]; omega
theorem Cb (n : Int) : cn n 4 = if 2147483648 <= n /\ n < 4294967296 then n - 4294967296 else n := by
 have e : szB 4 = true := rfl
 have e2 : iv 4 = 4294967296 := rfl
 unfold cn
 rw [e, e2]
 simp only [true_and]
 split <;> split <;> omega
theorem Pe (n : Int) : lZ 4 n = cD (-2147483648) 2147483647 n := by
 have e : lZ 4 n = true ↔ (-2147483648 <= n /\ n < 4294967296) /\ cn n 4 = n := by
  simp only [lZ, Q1, zH, beq_iff_eq]
 have e2 : cD (-2147483648) 2147483647 n = true ↔ ¬ n < -2147483648 /\ ¬ 2147483647 < n := by
  simp only [cD, Q1, Bool.not_eq_true', decide_eq_false_iff_not]
 rw [Q0, e, e2, Cb]
 by_cases h : 2147483648 <= n /\ n < 4294967296
 ·rw [if_pos h]; omega
 ·rw [if_neg h]; omega
section
variable (st : Sta)
end
end Go.Proofs.YtdfgljojemmlcaaGreat.Ax
namespace Go.Proofs.YtdfgljojemmlcaaGreat.Ax
open Go.RowKit Go By Go.Proofs.YtdfgljojemmlcaaGreat.Nm Sc Dg
open He (textL)
set_option maxRecDepth 10000
end Go.Proofs.YtdfgljojemmlcaaGreat.Ax
