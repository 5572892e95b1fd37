/- The functions of package slices that find by a function, that compare lists, over values without memory. No program is named here. Written by gen/slices.py. -/
import Derived.Test.YtdfocmmajngelaaQAxX
namespace Go.Proofs.Ytdfocmmajngelaa.Ax
open Go.RowKit Go By
set_option linter.unusedSimpArgs false
set_option maxRecDepth 10000

/-- Two lists whose elements are the same by e, one by one. -/
def eqL {α : Type} (e : α → α → Bool) : List α → List α → Bool
  | [], [] => true
  | x :: r, y :: q => e x y && eqL e r q
  | _, _ => false
theorem eqL_iff {α : Type} (e : α → α → Bool) : ∀ (xs ys : List α), eqL e xs ys = true ↔ xs.length = ys.length ∧ ∀ i (h1 : i < xs.length) (h2 : i < ys.length), e xs[i] ys[i] = true
  | [], [] => by simp [eqL]
  | [], _ :: _ => by simp [eqL]
  | _ :: _, [] => by simp [eqL]
  | x :: r, y :: q => by
    simp only [eqL, Bool.and_eq_true, eqL_iff e r q, List.length_cons]
    constructor
    · rintro ⟨h1, h2, h3⟩
      refine ⟨by omega, fun i hi hj => ?_⟩
      cases i with
      | zero => exact h1
      | succ i => exact h3 i (by simpa using hi) (by simpa using hj)
    · rintro ⟨h1, h2⟩
      exact ⟨h2 0 (by simp) (by simp), by omega, fun i hi hj => h2 (i + 1) (by simpa using hi) (by simpa using hj)⟩
theorem eqL_no {α : Type} {e : α → α → Bool} {xs ys : List α} {i : Nat} (h1 : i < xs.length) (h2 : i < ys.length) (h : e xs[i] ys[i] = false) : eqL e xs ys = false := by
  cases hh : eqL e xs ys with
  | false => rfl
  | true => have := ((eqL_iff e xs ys).1 hh).2 i h1 h2; rw [h] at this; cases this
theorem eqL_len {α : Type} {e : α → α → Bool} {xs ys : List α} (h : xs.length ≠ ys.length) : eqL e xs ys = false := by
  cases hh : eqL e xs ys with
  | false => rfl
  | true => exact absurd ((eqL_iff e xs ys).1 hh).1 h
theorem eqL_beq {α : Type} [BEq α] [LawfulBEq α] : ∀ (xs ys : List α), eqL (· == ·) xs ys = (xs == ys)
  | [], [] => rfl
  | [], _ :: _ => rfl
  | _ :: _, [] => rfl
  | x :: r, y :: q => by simp [eqL, eqL_beq r q]

end Go.Proofs.Ytdfocmmajngelaa.Ax
