/- The contracts of package scan's Take, Num and Text, at a scan that a call made. -/
import Derived.Test.YtkcampfbpmjacaaQNumB
import Derived.Test.YtkcampfbpmjacaaQNumD
import Derived.Test.YtkcampfbpmjacaaQAxSb
import Derived.Lib.BytesEntry
/- The contracts of package scan's calls that ask (Bad, Left, Done) and of its fail, at a scan that a call made. -/
namespace Go.Proofs.Ytkcampfbpmjacaa.Sc
open Go.RowKit Go By Nm

end Go.Proofs.Ytkcampfbpmjacaa.Sc
namespace Go.Proofs.Ytkcampfbpmjacaa.Sc
open Go.RowKit Go By Nm

theorem elem_bytes : Try.prog.elem 40 = 5 := by kernel_rfl
theorem size_byte (w : World) : (sizeOf 5).run Try.prog w = .ok 1 w := by
  simp [sizeOf, go_sem]
  rfl

/-- A cut from the beginning, without room behind it. -/
theorem cut_to (w : World) (B : Nat) (a : Option Addr) (c : Nat) (xs : List UInt8) (n : Nat) (h : BytesAt w B a xs) (hc0 : a = none → c = 0) (hl : xs.length ≤ c) (hm : c ≤ maxLen) (hn : n ≤ xs.length) :
    ∃ A C, (Instr.slice 40 (.slice a xs.length c) none (some (.int .i64 n)) (some (.int .i64 n))).run Try.prog w = .ok (.slice A n C) w ∧ BytesAt w B A (xs.take n) ∧ (A = none → C = 0) ∧ n ≤ C ∧ C ≤ maxLen := by
  obtain ⟨A, C, e, hb, hA, hC, hM⟩ := sliced_bytes (l := 0) (h := n) (m := n) h (Nat.zero_le _) hn (Nat.le_refl _) (fun hh => by have := hc0 hh; omega) (by omega)
  refine ⟨A, C, ?_, by simpa using hb, hA, by omega, hM⟩
  rw [run_slice_hm w 40 a xs.length c (by kernel_rfl) .i64 .i64 n n (by omega) (by omega) (by omega), elem_bytes, size_byte]
  simp only [Result.andThen, Int.toNat_natCast]
  rw [e]; rfl
/-- A cut up to the end. -/
theorem cut_from (w : World) (B : Nat) (a : Option Addr) (c : Nat) (xs : List UInt8) (n : Nat) (h : BytesAt w B a xs) (hc0 : a = none → c = 0) (hl : xs.length ≤ c) (hm : c ≤ maxLen) (hn : n ≤ xs.length) :
    ∃ A C, (Instr.slice 40 (.slice a xs.length c) (some (.int .i64 n)) none none).run Try.prog w = .ok (.slice A (xs.length - n) C) w ∧ BytesAt w B A (xs.drop n) ∧ (A = none → C = 0) ∧ xs.length - n ≤ C ∧ C ≤ maxLen := by
  obtain ⟨A, C, e, hb, hA, hC, hM⟩ := sliced_bytes (l := n) (h := xs.length) (m := c) h hn (Nat.le_refl _) hl hc0 hm
  refine ⟨A, C, ?_, by simpa using hb, hA, by omega, hM⟩
  rw [run_slice_l w 40 a xs.length c (by kernel_rfl) .i64 n (by omega) (by omega), elem_bytes, size_byte]
  simp only [Result.andThen, Int.toNat_natCast]
  rw [e]
/-- A cut from the beginning, with the room behind it. -/
theorem cut_head (w : World) (B : Nat) (a : Option Addr) (c : Nat) (xs : List UInt8) (n : Nat) (h : BytesAt w B a xs) (hc0 : a = none → c = 0) (hl : xs.length ≤ c) (hm : c ≤ maxLen) (hn : n ≤ xs.length) :
    ∃ A C, (Instr.slice 40 (.slice a xs.length c) none (some (.int .i64 n)) none).run Try.prog w = .ok (.slice A n C) w ∧ BytesAt w B A (xs.take n) ∧ (A = none → C = 0) ∧ n ≤ C ∧ C ≤ maxLen := by
  obtain ⟨A, C, e, hb, hA, hC, hM⟩ := sliced_bytes (l := 0) (h := n) (m := c) h (Nat.zero_le _) hn (by omega) hc0 hm
  refine ⟨A, C, ?_, by simpa using hb, hA, by omega, hM⟩
  rw [run_slice_h w 40 a xs.length c (by kernel_rfl) .i64 n (by omega) (by omega), elem_bytes, size_byte]
  simp only [Result.andThen, Int.toNat_natCast]
  rw [e]; rfl

theorem getErr_two {len : Nat} {i size : Int} : getErr len i size = 0 ∨ getErr len i size = 1 ∨ getErr len i size = 3 := by
  unfold getErr; split
  · exact .inr (.inl rfl)
  · split
    · exact .inr (.inr rfl)
    · exact .inl rfl
theorem getErr_zero {len : Nat} {size : Int} (h : getErr len 0 size = 0) : 1 ≤ size ∧ size ≤ 4 ∧ size ≤ len := by
  unfold getErr at h
  split at h
  · omega
  · rename_i h1
    have hs : szB size = true := by cases hh : szB size <;> simp_all
    have := szB_four hs
    split at h
    · omega
    · omega

/-- Where the first byte 0 stands. -/
def zeroAt : List UInt8 → Option Nat
  | [] => none
  | b :: l => if b == 0 then some 0 else (zeroAt l).map (· + 1)
theorem zeroAt_some : ∀ {xs : List UInt8} {k : Nat}, zeroAt xs = some k → k < xs.length ∧ xs.getD k 0 = 0 ∧ ∀ j, j < k → xs.getD j 0 ≠ 0
  | [], k, h => by simp [zeroAt] at h
  | b :: l, k, h => by
    unfold zeroAt at h
    by_cases hb : b = 0
    · subst hb
      simp at h
      subst h
      exact ⟨by simp, rfl, fun j hj => by omega⟩
    · have hb1 : (b == 0) = false := by simpa using hb
      rw [hb1] at h
      simp at h
      obtain ⟨m, hm, rfl⟩ := h
      obtain ⟨h1, h2, h3⟩ := zeroAt_some hm
      refine ⟨by simp; omega, by simpa using h2, fun j hj => ?_⟩
      cases j with
      | zero => simpa using hb
      | succ j => simpa using h3 j (by omega)
theorem zeroAt_none : ∀ {xs : List UInt8}, zeroAt xs = none → ∀ j, j < xs.length → xs.getD j 0 ≠ 0
  | [], _, j, hj => by simp at hj
  | b :: l, h, j, hj => by
    unfold zeroAt at h
    by_cases hb : b = 0
    · subst hb; simp at h
    · have hb1 : (b == 0) = false := by simpa using hb
      rw [hb1] at h
      simp at h
      cases j with
      | zero => simpa using hb
      | succ j => simpa using zeroAt_none h j (by simpa using hj)
theorem zeroAt_of {xs : List UInt8} {k : Nat} (h1 : k < xs.length) (h2 : xs.getD k 0 = 0) (h3 : ∀ j, j < k → xs.getD j 0 ≠ 0) : zeroAt xs = some k := by
  cases h : zeroAt xs with
  | none => exact absurd h2 (zeroAt_none h k h1)
  | some m =>
    obtain ⟨a1, a2, a3⟩ := zeroAt_some h
    rcases Nat.lt_trichotomy m k with hk | hk | hk
    · exact absurd a2 (h3 m hk)
    · rw [hk]
    · exact absurd h2 (a3 k hk)
theorem zeroAt_of_none {xs : List UInt8} (h3 : ∀ j, j < xs.length → xs.getD j 0 ≠ 0) : zeroAt xs = none := by
  cases h : zeroAt xs with
  | none => rfl
  | some m => obtain ⟨a1, a2, _⟩ := zeroAt_some h; exact absurd a2 (h3 m a1)
theorem indexByte_zero : ∀ xs : List UInt8, Lib.indexByte xs 0 = match zeroAt xs with | none => -1 | some k => (k : Int)
  | [] => rfl
  | b :: l => by
    have ih := indexByte_zero l
    unfold Lib.indexByte zeroAt
    by_cases hb : (b == 0) = true
    · rw [if_pos hb, if_pos hb]; rfl
    · rw [if_neg hb, if_neg hb, ih]
      cases zeroAt l with
      | none => rfl
      | some k => simp

end Go.Proofs.Ytkcampfbpmjacaa.Sc
