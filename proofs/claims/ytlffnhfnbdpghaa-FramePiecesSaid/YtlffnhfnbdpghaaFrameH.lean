/- What whole messages stand at the beginning of bytes, in whatever pieces they come. Plain facts on lists. -/
import Derived.Test.YtlffnhfnbdpghaaFrameG
namespace Go.Proofs.Ytlffnhfnbdpghaa.Fr
open Go.RowKit Go By Nm

/-- How many bytes the first message has; is it whole? -/
def mlen (xs : List UInt8) : Nat := hSize true 2000 xs
def Whole (xs : List UInt8) : Prop := 0 < mlen xs ∧ mlen xs ≤ xs.length
theorem whole_5 {xs : List UInt8} (h : Whole xs) : 5 ≤ mlen xs ∧ hErr true 2000 xs = 0 ∧ (mlen xs : Int) = len4 true xs + 1 ∧ len4 true xs ≤ 2000 := by
  have hr := len4_range true xs
  obtain ⟨h1, h2⟩ := h
  unfold mlen at *
  have ht : tsz true = 1 := rfl
  rcases head_ways true 2000 xs with h | h | h | h <;> omega
theorem len4_append (xs ys : List UInt8) (h : 5 ≤ xs.length) : len4 true (xs ++ ys) = len4 true xs := getI_front xs ys 1 4 h
theorem whole_append {xs : List UInt8} (ys : List UInt8) (h : Whole xs) : mlen (xs ++ ys) = mlen xs ∧ Whole (xs ++ ys) := by
  have h5 := whole_5 h
  have hx : 5 ≤ xs.length := Nat.le_trans h5.1 h.2
  have hl := len4_append xs ys hx
  have hr := len4_range true xs
  have hll : (xs ++ ys).length = xs.length + ys.length := List.length_append
  have ht : tsz true = 1 := rfl
  have h2 := h.2
  have e : mlen (xs ++ ys) = mlen xs := by
    unfold mlen at *
    rcases head_ways true 2000 (xs ++ ys) with h | h | h | h <;> omega
  exact ⟨e, by rw [e]; exact h.1, by rw [e, hll]; omega⟩
theorem hErr_append {xs : List UInt8} (ys : List UInt8) (h : hErr true 2000 xs ≠ 0) : hErr true 2000 (xs ++ ys) = hErr true 2000 xs := by
  have ht : tsz true = 1 := rfl
  have hll : (xs ++ ys).length = xs.length + ys.length := List.length_append
  have hx : 5 ≤ xs.length := by rcases head_ways true 2000 xs with h1 | h1 | h1 | h1 <;> omega
  have hl := len4_append xs ys hx
  unfold hErr
  rw [hl, if_neg (show ¬ (xs ++ ys).length < tsz true + 4 by omega), if_neg (show ¬ xs.length < tsz true + 4 by omega)]

/-- So many bytes are whole messages; what stands behind begins with none. -/
inductive Run : List UInt8 → Nat → Prop
  | stop (xs : List UInt8) : ¬ Whole xs → Run xs 0
  | step (xs : List UInt8) (n : Nat) : Whole xs → Run (xs.drop (mlen xs)) n → Run xs (mlen xs + n)
theorem Run.unique {xs : List UInt8} {n m : Nat} (h : Run xs n) (k : Run xs m) : n = m := by
  induction h generalizing m with
  | stop xs hw => cases k with
    | stop _ _ => rfl
    | step _ _ hw' _ => exact absurd hw' hw
  | step xs n hw _ ih => cases k with
    | stop _ hw' => exact absurd hw hw'
    | step _ m' _ hr => rw [ih hr]
theorem Run.le {xs : List UInt8} {n : Nat} (h : Run xs n) : n ≤ xs.length := by
  induction h with
  | stop xs _ => exact Nat.zero_le _
  | step xs n hw _ ih => have := hw.2; rw [List.length_drop] at ih; omega
theorem Run.append {xs ys : List UInt8} {n m : Nat} (h : Run xs n) (k : Run (xs.drop n ++ ys) m) : Run (xs ++ ys) (n + m) := by
  induction h with
  | stop xs _ => rw [List.drop_zero] at k; rw [Nat.zero_add]; exact k
  | step xs n hw _ ih =>
    obtain ⟨e, hw2⟩ := whole_append ys hw
    rw [← List.drop_drop] at k
    have h1 := ih k
    rw [Nat.add_assoc, ← e]
    refine .step _ _ hw2 ?_
    rw [e, List.drop_append_of_le_length hw.2]
    exact h1
theorem Run.nil : Run [] 0 := .stop [] (fun h => by have := h.1; have := h.2; simp at this; omega)

theorem byte_put (n : Int) (k : Nat) (b : UInt8) (h : n / 256 ^ k % 256 = (b.toNat : Int)) : putByte n k = b := by
  unfold putByte
  rw [h, Int.toNat_natCast]
  exact UInt8.ofNat_toNat
/-- A message's type, length and body, one behind the other, are the message. -/
theorem whole_bytes {xs : List UInt8} (h : Whole xs) : [UInt8.ofNat (ty true (xs.take (mlen xs))).toNat] ++ msgB 0 ((xs.take (mlen xs)).drop 5) = xs.take (mlen xs) := by
  have h5 := whole_5 h
  have h2 := h.2
  have hl : (xs.take (mlen xs)).length = mlen xs := by rw [List.length_take]; omega
  obtain ⟨n, hn⟩ : ∃ n, mlen xs = n := ⟨_, rfl⟩
  rw [hn] at h5 h2 hl ⊢
  match xs, h2, h5, hl with
  | b0 :: b1 :: b2 :: b3 :: b4 :: r, h2, h5, hl =>
    have hg : len4 true (b0 :: b1 :: b2 :: b3 :: b4 :: r) = (((b1.toNat : Int) * 256 + b2.toNat) * 256 + b3.toNat) * 256 + b4.toNat := by
      simp [len4, tsz, getI, byteAt]
    rw [hg] at h5
    obtain ⟨q, rfl⟩ : ∃ q, n = q + 5 := ⟨n - 5, by omega⟩
    have r1 := b1.toNat_lt
    have r2 := b2.toNat_lt
    have r3 := b3.toNat_lt
    have r4 := b4.toNat_lt
    have hq : q ≤ r.length := by simp at h2; omega
    have hrl : (r.take q).length = q := by rw [List.length_take]; omega
    have e1 : (b0 :: b1 :: b2 :: b3 :: b4 :: r).take (q + 5) = b0 :: b1 :: b2 :: b3 :: b4 :: r.take q := rfl
    rw [e1]
    have e2 : (b0 :: b1 :: b2 :: b3 :: b4 :: r.take q).drop 5 = r.take q := rfl
    rw [e2]
    have e3 : UInt8.ofNat (ty true (b0 :: b1 :: b2 :: b3 :: b4 :: r.take q)).toNat = b0 := by
      show UInt8.ofNat (byteAt _ 0).toNat = b0
      simp [byteAt]
    rw [e3, msgB_eq 0 _ (by omega), hrl]
    have e4 : putTo ((q : Int) + 4) 4 4 = [b1, b2, b3, b4] := by
      unfold putTo putTo putTo putTo putTo
      rw [byte_put _ _ b1 (by simp; omega), byte_put _ _ b2 (by simp; omega), byte_put _ _ b3 (by simp; omega), byte_put _ _ b4 (by simp; omega)]
      rfl
    rw [e4]
    rfl
  | [], h2, h5, _ => simp at h2; omega
  | [_], h2, h5, _ => simp at h2; omega
  | [_, _], h2, h5, _ => simp at h2; omega
  | [_, _, _], h2, h5, _ => simp at h2; omega
  | [_, _, _, _], h2, h5, _ => simp at h2; omega
end Go.Proofs.Ytlffnhfnbdpghaa.Fr
