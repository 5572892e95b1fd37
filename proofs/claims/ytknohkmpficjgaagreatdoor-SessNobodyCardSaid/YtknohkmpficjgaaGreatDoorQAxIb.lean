/- Finding by a function in a variable's elements, over values without memory. No program is named here. -/
import Derived.Test.YtknohkmpficjgaaGreatDoorQAxXr
/- The functions of package slices that find by a function, that compare lists, over values without memory. No program is named here. Written by gen/slices.py. -/
namespace Go.Proofs.YtknohkmpficjgaaGreatDoor.Ax
open Go.RowKit Go By
set_option linter.unusedSimpArgs false
set_option maxRecDepth 10000

end Go.Proofs.YtknohkmpficjgaaGreatDoor.Ax
namespace Go.Proofs.YtknohkmpficjgaaGreatDoor.Ax
open Go.RowKit Go By
set_option linter.unusedSimpArgs false
set_option maxRecDepth 10000

theorem flat_len2 {α : Type} {c : α → List AV} {k : Nat} (hc : ∀ x, (c x).length = k) : ∀ xs : List α, (enc c xs).flatten.length = xs.length * k
  | [] => by simp
  | x :: xs => by rw [enc_cons, List.flatten_cons, List.length_append, hc, flat_len2 hc xs, List.length_cons, Nat.succ_mul]; omega
/-! ### A variable that is not written any more -/
theorem chunk_flat {α : Type} {c : α → List AV} {k : Nat} (hc : ∀ x, (c x).length = k) : ∀ xs : List α, chunk k xs.length (enc c xs).flatten = enc c xs
  | [] => rfl
  | x :: xs => by
    rw [List.length_cons, r_chunk_succ, enc_cons, List.flatten_cons, List.take_left' (hc x), List.drop_left' (hc x), chunk_flat hc xs]
theorem frz_all {α : Type} {c : α → List AV} {k : Nat} (hc : ∀ x, (c x).length = k) (xs : List α) (i n : Nat) (hn : n = xs.length) : (AV.bsl i 0 k n).frz i (enc c xs).flatten = .sl k (enc c xs) (some false) .no := by
  subst hn
  have hl := flat_len2 hc xs
  show (if i = i ∧ 0 + xs.length * k ≤ (enc c xs).flatten.length then AV.sl k (chunk k xs.length (((enc c xs).flatten.drop 0).take (xs.length * k))) (some false) .no else AV.bsl i 0 k xs.length) = _
  rw [if_pos ⟨rfl, by rw [hl]; omega⟩, List.drop_zero, List.take_of_length_le (by rw [hl]; omega), chunk_flat hc]
@[simp] theorem frz_v (i : Nat) (cs : List AV) (x : Value) : (AV.v x).frz i cs = .v x := of_eq_true (eq_self _)
@[simp] theorem frz_any (i : Nat) (cs : List AV) : AV.any.frz i cs = .any := of_eq_true (eq_self _)
@[simp] theorem frz_box (i : Nat) (cs : List AV) (j o : Nat) : (AV.box j o).frz i cs = .box j o := of_eq_true (eq_self _)
@[simp] theorem frz_ro (i : Nat) (cs l : List AV) : (AV.ro l).frz i cs = .ro l := of_eq_true (eq_self _)
@[simp] theorem frz_sl (i : Nat) (cs : List AV) (k : Nat) (es : List (List AV)) (nul : Option Bool) (room : Room) : (AV.sl k es nul room).frz i cs = .sl k es nul room := of_eq_true (eq_self _)
@[simp] theorem frz_fn (i : Nat) (cs : List AV) (f : Fn) (a b : List AV) : (AV.fn f a b).frz i cs = .fn f a b := of_eq_true (eq_self _)
@[simp] theorem frz_agg (i : Nat) (cs l : List AV) : (AV.agg l).frz i cs = .agg l := of_eq_true (eq_self _)
@[simp] theorem frz_tup (i : Nat) (cs l : List AV) : (AV.tup l).frz i cs = .tup l := of_eq_true (eq_self _)
@[simp] theorem r_frzE_nil (i : Nat) (cs : List AV) : frzE i cs [] = [] := of_eq_true (eq_self _)
@[simp] theorem r_frzE_cons (i : Nat) (cs : List AV) (t : Nat) (a : AV) (r : List (Nat × AV)) : frzE i cs ((t, a) :: r) = (t, a.frz i cs) :: frzE i cs r := of_eq_true (eq_self _)
@[simp] theorem r_frz (i : Nat) (cs : List AV) (e o : List (Nat × AV)) (h : List (List AV)) (wr : List Nat) : (St.mk e o h wr).frz i cs = ⟨frzE i cs e, o, h.set i [], wr⟩ := of_eq_true (eq_self _)
end Go.Proofs.YtknohkmpficjgaaGreatDoor.Ax
