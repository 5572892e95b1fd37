/- Plain words on decimal digits: the digits of a number, the number of digits, and that the two belong together. No program is named here. -/
import Derived.Test.YtngmfgdoopkkdaaBytes
namespace Go.Proofs.Ytngmfgdoopkkdaa.Dg
open Go.RowKit Go By

theorem snoc_rec {α : Type} {P : List α → Prop} (nil : P []) (snoc : ∀ xs c, P xs → P (xs ++ [c])) (xs : List α) : P xs := by
  have h : ∀ ys : List α, P ys.reverse := by
    intro ys
    induction ys with
    | nil => exact nil
    | cons c t ih => rw [List.reverse_cons]; exact snoc _ _ ih
  have := h xs.reverse
  rwa [List.reverse_reverse] at this

/-- The digits of a number. -/
def digsN (m : Nat) : List UInt8 := if m < 10 then [UInt8.ofNat (48 + m)] else digsN (m / 10) ++ [UInt8.ofNat (48 + m % 10)]
termination_by m
decreasing_by omega
theorem digsN_small {m : Nat} (h : m < 10) : digsN m = [UInt8.ofNat (48 + m)] := by rw [digsN, if_pos h]
theorem digsN_big {m : Nat} (h : ¬ m < 10) : digsN m = digsN (m / 10) ++ [UInt8.ofNat (48 + m % 10)] := by rw [digsN, if_neg h]
theorem digsN_pos (m : Nat) : 1 ≤ (digsN m).length := by
  by_cases h : m < 10
  · rw [digsN_small h]; simp
  · rw [digsN_big h]; simp
theorem digsN_len : ∀ (k m : Nat), m < 10 ^ (k + 1) → (digsN m).length ≤ k + 1
  | 0, m, h => by rw [digsN_small (by omega)]; simp
  | k + 1, m, h => by
    by_cases h1 : m < 10
    · rw [digsN_small h1]; simp
    · rw [digsN_big h1, List.length_append]
      have := digsN_len k (m / 10) (by rw [Nat.pow_succ] at h; omega)
      simp; omega
/-- A number in digits, with its sign. -/
def textL (n : Int) : List UInt8 := if n < 0 then 45 :: digsN n.natAbs else digsN n.toNat

/-- The number that digits are. -/
def numL (xs : List UInt8) : Nat := xs.foldl (fun n c => n * 10 + (c.toNat - 48)) 0
theorem numL_nil : numL [] = 0 := rfl
theorem numL_snoc (xs : List UInt8) (c : UInt8) : numL (xs ++ [c]) = numL xs * 10 + (c.toNat - 48) := by simp [numL]
def digB (c : UInt8) : Bool := decide (48 ≤ c.toNat) && decide (c.toNat ≤ 57)
theorem digB_iff (c : UInt8) : digB c = true ↔ 48 ≤ c.toNat ∧ c.toNat ≤ 57 := by simp [digB]
theorem numL_lt (xs : List UInt8) : xs.all digB = true → numL xs < 10 ^ xs.length := by
  refine snoc_rec (P := fun xs => xs.all digB = true → numL xs < 10 ^ xs.length) ?_ ?_ xs
  · intro _; simp [numL]
  · intro xs c ih h
    rw [List.all_append, Bool.and_eq_true] at h
    have h1 := ih h.1
    have h2 : digB c = true := by simpa using h.2
    rw [digB_iff] at h2
    rw [numL_snoc, List.length_append, List.length_singleton, Nat.pow_succ]
    omega
/-- Are these the digits of a number: one to ten, no nought ahead? -/
def formB (xs : List UInt8) : Bool := decide (1 ≤ xs.length) && (decide (xs.length ≤ 10) && (!(xs.getD 0 0 == 48 && decide (1 < xs.length)) && xs.all digB))
def parseB (xs : List UInt8) (most : Int) : Bool := formB xs && decide ((numL xs : Int) ≤ most)
def parseV (xs : List UInt8) (most : Int) : Int := if parseB xs most = true then (numL xs : Int) else 0

theorem form_not {xs : List UInt8} {most : Int} (h : formB xs = false) : parseB xs most = false ∧ parseV xs most = 0 := by
  have h1 : parseB xs most = false := by simp [parseB, h]
  exact ⟨h1, by simp [parseV, h1]⟩
theorem form_short {xs : List UInt8} (h : xs.length < 1) : formB xs = false := by
  unfold formB; rw [decide_eq_false (by omega)]; rfl
theorem form_long {xs : List UInt8} (h : 10 < xs.length) : formB xs = false := by
  unfold formB; rw [decide_eq_false (p := xs.length ≤ 10) (by omega)]; simp
theorem form_nought {xs : List UInt8} (h : xs.getD 0 0 = 48) (h1 : 1 < xs.length) : formB xs = false := by
  unfold formB; rw [h, decide_eq_true h1]; simp
theorem form_strange {xs : List UInt8} {k : Nat} (hk : k < xs.length) (h : digB (xs.getD k 0) = false) : formB xs = false := by
  have h1 : xs.all digB = false := by
    rw [List.all_eq_false]
    refine ⟨xs[k], List.getElem_mem hk, ?_⟩
    rw [List.getD_eq_getElem?_getD, List.getElem?_eq_getElem hk] at h
    simpa using h
  unfold formB; rw [h1]; simp
theorem form_yes {xs : List UInt8} (h1 : 1 ≤ xs.length) (h2 : xs.length ≤ 10) (h3 : ¬ (xs.getD 0 0 = 48 ∧ 1 < xs.length)) (h4 : xs.all digB = true) : formB xs = true := by
  unfold formB
  rw [decide_eq_true h1, decide_eq_true h2, h4]
  have h5 : (xs.getD 0 0 == 48 && decide (1 < xs.length)) = false := by
    rw [Bool.and_eq_false_iff]
    by_cases e : xs.getD 0 0 = 48
    · right; exact decide_eq_false (fun e1 => h3 ⟨e, e1⟩)
    · left; exact beq_eq_false_iff_ne.2 e
  rw [h5]; rfl
theorem parse_yes {xs : List UInt8} {most : Int} (h : formB xs = true) (hm : (numL xs : Int) ≤ most) : parseB xs most = true ∧ parseV xs most = numL xs := by
  have h1 : parseB xs most = true := by simp [parseB, h, hm]
  exact ⟨h1, by simp [parseV, h1]⟩
theorem parse_most {xs : List UInt8} {most : Int} (hm : most < (numL xs : Int)) : parseB xs most = false ∧ parseV xs most = 0 := by
  have h1 : parseB xs most = false := by simp [parseB]; omega
  exact ⟨h1, by simp [parseV, h1]⟩

/-- A list of digits without a nought ahead is the digits of its number. -/
theorem num_pos (xs : List UInt8) : xs.all digB = true → xs ≠ [] → xs.getD 0 0 ≠ 48 → 1 ≤ numL xs := by
  refine snoc_rec (P := fun xs => xs.all digB = true → xs ≠ [] → xs.getD 0 0 ≠ 48 → 1 ≤ numL xs) ?_ ?_ xs
  · intro _ h; exact absurd rfl h
  · intro xs c ih h _ h0
    rw [List.all_append, Bool.and_eq_true] at h
    have h2 : digB c = true := by simpa using h.2
    rw [digB_iff] at h2
    rw [numL_snoc]
    cases xs with
    | nil =>
      have : c.toNat ≠ 48 := fun e => h0 (by simpa using UInt8.toNat_inj.1 e)
      omega
    | cons x t =>
      have := ih h.1 (by simp) (by simpa using h0)
      omega
theorem digs_num (xs : List UInt8) : xs.all digB = true → xs ≠ [] → ¬ (xs.getD 0 0 = 48 ∧ 1 < xs.length) → digsN (numL xs) = xs := by
  refine snoc_rec (P := fun xs => xs.all digB = true → xs ≠ [] → ¬ (xs.getD 0 0 = 48 ∧ 1 < xs.length) → digsN (numL xs) = xs) ?_ ?_ xs
  · intro _ h; exact absurd rfl h
  · intro xs c ih h _ h0
    rw [List.all_append, Bool.and_eq_true] at h
    have h2 : digB c = true := by simpa using h.2
    rw [digB_iff] at h2
    rw [numL_snoc]
    have hc : UInt8.ofNat (48 + (c.toNat - 48)) = c := by
      rw [show 48 + (c.toNat - 48) = c.toNat from by omega]; simp
    cases xs with
    | nil =>
      rw [numL_nil, Nat.zero_mul, Nat.zero_add, digsN_small (by omega), hc]; rfl
    | cons x t =>
      have h48 : (x :: t).getD 0 0 ≠ 48 := fun e => h0 ⟨by simpa using e, by simp⟩
      have h1 := num_pos (x :: t) h.1 (by simp) h48
      have h3 := ih h.1 (by simp) (fun e => h48 e.1)
      rw [digsN_big (by omega), show (numL (x :: t) * 10 + (c.toNat - 48)) / 10 = numL (x :: t) from by omega, h3, show (numL (x :: t) * 10 + (c.toNat - 48)) % 10 = c.toNat - 48 from by omega, hc]
theorem digsN_all (m : Nat) : (digsN m).all digB = true := by
  induction m using digsN.induct with
  | case1 m h =>
    rw [digsN_small h]
    simp [digB, UInt8.toNat_ofNat']
    omega
  | case2 m h ih =>
    rw [digsN_big h, List.all_append, ih]
    simp [digB, UInt8.toNat_ofNat']
    omega
theorem num_digs (m : Nat) : numL (digsN m) = m := by
  induction m using digsN.induct with
  | case1 m h =>
    rw [digsN_small h]
    simp [numL, UInt8.toNat_ofNat']
    omega
  | case2 m h ih =>
    rw [digsN_big h, numL_snoc, ih, UInt8.toNat_ofNat']
    omega
theorem digsN_head (m : Nat) (h : 10 ≤ m) : (digsN m).getD 0 0 ≠ 48 := by
  induction m using digsN.induct with
  | case1 m h1 => omega
  | case2 m h1 ih =>
    rw [digsN_big h1]
    have hp := digsN_pos (m / 10)
    rw [List.getD_eq_getElem?_getD, List.getElem?_append_left (by omega), ← List.getD_eq_getElem?_getD]
    by_cases h2 : m / 10 < 10
    · rw [digsN_small h2]
      intro e
      have e1 := congrArg UInt8.toNat e
      simp [UInt8.toNat_ofNat'] at e1
      omega
    · exact ih (by omega)
/-- What is parsed of a number's digits. -/
theorem parse_digs (m : Nat) (h : m < 10000000000) : parseB (digsN m) m = true ∧ parseV (digsN m) m = m := by
  have h1 : formB (digsN m) = true := by
    refine form_yes (digsN_pos m) (digsN_len 9 m (by omega)) (fun e => ?_) (digsN_all m)
    rcases Nat.lt_or_ge m 10 with h2 | h2
    · rw [digsN_small h2] at e; simp at e
    · exact digsN_head m h2 e.1
  have := parse_yes (most := m) h1 (by rw [num_digs]; omega)
  rw [num_digs] at this
  exact this
/-- The digits of what was parsed. -/
theorem digs_parse (xs : List UInt8) (most : Int) (h : parseB xs most = true) : textL (parseV xs most) = xs := by
  have hf : formB xs = true := by simp [parseB] at h; exact h.1
  have hv : parseV xs most = numL xs := by simp [parseV, h]
  simp only [formB, Bool.and_eq_true, decide_eq_true_eq] at hf
  have h3 : ¬ (xs.getD 0 0 = 48 ∧ 1 < xs.length) := by
    intro e
    have := hf.2.2.1
    rw [e.1, decide_eq_true e.2] at this
    simp at this
  rw [hv, textL, if_neg (by omega), Int.toNat_natCast]
  refine digs_num xs hf.2.2.2 (fun e => ?_) h3
  rw [e] at hf
  simp at hf
theorem parse_no (xs : List UInt8) (most : Int) (h : parseB xs most = false) : parseV xs most = 0 := by simp [parseV, h]
end Go.Proofs.Ytngmfgdoopkkdaa.Dg
