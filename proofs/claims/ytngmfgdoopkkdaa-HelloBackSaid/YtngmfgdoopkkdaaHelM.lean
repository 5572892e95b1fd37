/- A first message is read from its bytes, and what is read has just these bytes. Plain facts on lists. -/
import Derived.Test.YtngmfgdoopkkdaaHelK
import Derived.Test.YtngmfgdoopkkdaaHelE
namespace Go.Proofs.Ytngmfgdoopkkdaa.He
open Go.RowKit Go By Nm Sc

theorem getI_at (xs ys : List UInt8) (i : Nat) : ∀ j, i + j ≤ xs.length → getI (xs ++ ys) i j = getI xs i j
  | 0, _ => rfl
  | j + 1, h => by rw [getI, getI, getI_at xs ys i j (by omega), byteAt_append_left xs ys _ (by omega)]
theorem getI_of4 (n : Int) : getI (putTo n 4 4) 0 4 = n % 4294967296 := by
  simp [getI, putTo, byteAt, putByte_val]; omega
theorem num4_of {n : Int} (r : List UInt8) (h0 : 0 ≤ n) (h1 : n < 4294967296) : numV (some (putTo n 4 4 ++ r)) 4 = n ∧ numS (some (putTo n 4 4 ++ r)) 4 = some r := by
  have h4 : (putTo n 4 4).length = 4 := putTo_length _ _ _
  have he : getErr (putTo n 4 4 ++ r).length 0 4 = 0 := getErr_ok (size := 4) (i := 0) rfl (by rw [List.length_append, h4]; omega)
  simp only [numV, numS]
  rw [if_pos he, if_pos he]
  constructor
  · show getI (putTo n 4 4 ++ r) 0 4 = n
    rw [getI_at _ _ _ _ (by rw [h4]; omega), getI_of4]; omega
  · show some ((putTo n 4 4 ++ r).drop 4) = some r
    rw [List.drop_append_of_le_length (by rw [h4]; omega), List.drop_of_length_le (by rw [h4]; omega)]; rfl
/-- Four bytes are the number's that they say. -/
theorem four_back (a b c d : UInt8) : putTo (getI [a, b, c, d] 0 4) 4 4 = [a, b, c, d] := by
  have ha := a.toNat_lt; have hb := b.toNat_lt; have hc := c.toNat_lt; have hd := d.toNat_lt
  have e : getI [a, b, c, d] 0 4 = ((a.toNat : Int) * 16777216 + (b.toNat : Int) * 65536 + (c.toNat : Int) * 256 + (d.toNat : Int)) := by
    simp [getI, byteAt]; omega
  rw [e]
  have p : ∀ (x : UInt8) (n : Int) (k : Nat), n / 256 ^ k % 256 = (x.toNat : Int) → putByte n k = x := fun x n k h => by
    unfold putByte
    rw [h, Int.toNat_natCast]
    simp
  have h3 := p a ((a.toNat : Int) * 16777216 + (b.toNat : Int) * 65536 + (c.toNat : Int) * 256 + (d.toNat : Int)) 3 (by omega)
  have h2 := p b ((a.toNat : Int) * 16777216 + (b.toNat : Int) * 65536 + (c.toNat : Int) * 256 + (d.toNat : Int)) 2 (by omega)
  have h1 := p c ((a.toNat : Int) * 16777216 + (b.toNat : Int) * 65536 + (c.toNat : Int) * 256 + (d.toNat : Int)) 1 (by omega)
  have h0 := p d ((a.toNat : Int) * 16777216 + (b.toNat : Int) * 65536 + (c.toNat : Int) * 256 + (d.toNat : Int)) 0 (by omega)
  simp [putTo, h0, h1, h2, h3]
theorem num4_back {xs r : List UInt8} (h : numS (some xs) 4 = some r) : xs = putTo (numV (some xs) 4) 4 4 ++ r ∧ 0 ≤ numV (some xs) 4 ∧ numV (some xs) 4 < 4294967296 := by
  simp only [numS] at h
  split at h
  · rename_i he
    have hz := getErr_zero he
    injection h with h
    have hl : 4 ≤ xs.length := by omega
    match xs, hl with
    | a :: b :: c :: d :: t, _ =>
      have e : numV (some (a :: b :: c :: d :: t)) 4 = getI [a, b, c, d] 0 4 := by
        simp only [numV]
        rw [if_pos he]
        exact getI_at [a, b, c, d] t 0 4 (by simp)
      rw [e, four_back]
      have := getI_lt [a, b, c, d] 0 4 (by omega)
      refine ⟨?_, this.1, this.2⟩
      rw [← h]
      rfl
  · cases h
theorem key_ok {n : Int} (h : keyB n = true) : 0 ≤ n ∧ n < 4294967296 := by
  simp only [keyB, Bool.and_eq_true, decide_eq_true_eq] at h
  have := (right_bounds h.2).2
  have hp : powI 4 = 4294967296 := by decide
  rw [hp] at this
  exact ⟨h.1, this⟩
theorem key_of {n : Int} (h0 : 0 ≤ n) (h1 : n < 4294967296) : keyB n = true := by
  simp only [keyB, Bool.and_eq_true, decide_eq_true_eq]
  refine ⟨h0, ?_⟩
  unfold rightB
  have hp : powI 4 = 4294967296 := by decide
  rw [hp]
  have hs : szB 4 = true := by decide
  rw [hs]
  simp
  omega

/-- What is read of a message's bytes is the message. -/
theorem read_build {m : Hm} (h : mayB m = true) : ∃ l s, Prs (numS (some (buildB m)) 4) l s ∧ helloR (numV (some (buildB m)) 4) (numS (some (buildB m)) 4) l s = (m, 0) := by
  obtain ⟨c, p, q, ps⟩ := m
  simp only [mayB] at h
  simp only [buildB]
  by_cases h1 : c = 196608
  · subst h1
    rw [if_pos rfl] at h
    simp only [Bool.and_eq_true, decide_eq_true_eq] at h
    obtain ⟨⟨rfl, rfl⟩, ha⟩ := h
    rw [if_pos rfl]
    obtain ⟨hv, hs⟩ := num4_of (n := 196608) (encP ps ++ [0]) (by decide) (by decide)
    rw [hv, hs]
    have hP := Prs.of_enc ps [] (fun p hp => List.all_eq_true.1 ha p hp)
    exact ⟨ps, some [], hP, by simp [helloR, doneB]⟩
  · rw [if_neg h1] at h
    rw [if_neg h1]
    by_cases h2 : c = 80877102
    · subst h2
      rw [if_pos rfl] at h
      simp only [Bool.and_eq_true] at h
      obtain ⟨⟨he, hp⟩, hq⟩ := h
      have hps : ps = [] := by simpa using he
      subst hps
      rw [if_pos rfl]
      obtain ⟨hv, hs⟩ := num4_of (n := 80877102) (putTo p 4 4 ++ putTo q 4 4) (by decide) (by decide)
      have kp := key_ok hp
      have kq := key_ok hq
      obtain ⟨hv1, hs1⟩ := num4_of (putTo q 4 4) kp.1 kp.2
      have h3 := num4_of (n := q) [] kq.1 kq.2
      rw [List.append_nil] at h3
      rw [hv, hs]
      obtain ⟨l, s, hP⟩ := Prs.total (some (putTo p 4 4 ++ putTo q 4 4))
      refine ⟨l, s, hP, ?_⟩
      simp only [helloR]
      rw [if_neg (by decide), if_pos trivial, hs1, hv1, h3.1, h3.2]
      rfl
    · rw [if_neg h2] at h
      rw [if_neg h2]
      by_cases h3 : c = 80877103
      · subst h3
        rw [if_pos rfl] at h
        simp only [Bool.and_eq_true, decide_eq_true_eq] at h
        obtain ⟨he, rfl, rfl⟩ := h
        have hps : ps = [] := by simpa using he
        subst hps
        obtain ⟨hv, hs⟩ := num4_of (n := 80877103) [] (by decide) (by decide)
        obtain ⟨l, s, hP⟩ := Prs.total (some ([] : List UInt8))
        rw [hv, hs]
        refine ⟨l, s, hP, ?_⟩
        simp only [helloR]
        rw [if_neg (by decide), if_neg (by decide), if_pos trivial]
        rfl
      · rw [if_neg h3] at h
        cases h
theorem done_nil_of {s : Sta} (h : doneB s = true) : s = some [] := by
  cases s with
  | none => cases h
  | some xs => simp [doneB] at h; rw [h]
/-- What is read has just these bytes. -/
theorem build_read {xs : List UInt8} {l : List Pr} {s : Sta} {m : Hm} (hP : Prs (numS (some xs) 4) l s) (h : helloR (numV (some xs) 4) (numS (some xs) 4) l s = (m, 0)) : mayB m = true ∧ buildB m = xs := by
  cases hs : numS (some xs) 4 with
  | none => rw [hs] at h; simp [helloR] at h
  | some r =>
    obtain ⟨hx, hc0, hc1⟩ := num4_back hs
    rw [hs] at h hP
    generalize numV (some xs) 4 = c at *
    simp only [helloR] at h
    by_cases h1 : c = 196608
    · subst h1
      rw [if_pos rfl] at h
      split at h
      · rename_i hd
        injection h with h _
        subst h
        obtain ⟨hr, hok⟩ := hP.back r [] rfl (done_nil_of hd)
        constructor
        · simp only [mayB]
          rw [if_pos trivial]
          simp only [Bool.and_eq_true, decide_eq_true_eq, true_and]
          exact List.all_eq_true.2 hok
        · simp only [buildB]
          rw [if_pos trivial, hx, hr]
      · injection h with _ h; cases h
    · rw [if_neg h1] at h
      by_cases h2 : c = 80877102
      · subst h2
        rw [if_pos rfl] at h
        split at h
        · rename_i hd
          injection h with h _
          subst h
          have h8 := done_nil_of hd
          cases hs1 : numS (some r) 4 with
          | none => rw [hs1] at h8; cases h8
          | some r1 =>
            rw [hs1] at h8
            obtain ⟨hx1, hp0, hp1⟩ := num4_back hs1
            obtain ⟨hx2, hq0, hq1⟩ := num4_back h8
            constructor
            · simp only [mayB]
              rw [if_neg h1, if_pos trivial]
              simp only [Bool.and_eq_true]
              exact ⟨⟨rfl, key_of hp0 hp1⟩, key_of hq0 hq1⟩
            · simp only [buildB]
              rw [if_neg h1, if_pos trivial]
              rw [List.append_nil] at hx2
              rw [← hx2, ← hx1, ← hx]
        · injection h with _ h; cases h
      · rw [if_neg h2] at h
        by_cases h3 : c = 80877103
        · subst h3
          rw [if_pos rfl] at h
          split at h
          · rename_i hd
            injection h with h _
            subst h
            have h8 := done_nil_of hd
            injection h8 with h8
            subst h8
            constructor
            · simp only [mayB]
              rw [if_neg h1, if_neg h2, if_pos trivial]
              rfl
            · simp only [buildB]
              rw [if_neg h1, if_neg h2]
              exact hx.symm
          · injection h with _ h; cases h
        · rw [if_neg h3] at h
          injection h with _ h; cases h
/-- What is refused is empty. -/
theorem helloR_no {c : Int} {st s : Sta} {l : List Pr} {m : Hm} {er : Int} (h : helloR c st l s = (m, er)) (he : er ≠ 0) : m = noHm := by
  cases st with
  | none => injection h with h _; exact h.symm
  | some r =>
    simp only [helloR] at h
    repeat' split at h
    all_goals (injection h with h1 h2; first | exact h1.symm | exact absurd h2.symm he)
theorem Few.bytes {ps : List Pr} (h : Few ps) : (encP ps).length ≤ 20000 := by
  have : ∀ n, n ≤ ps.length → (encP (ps.take n)).length ≤ n * 402 := by
    intro n
    induction n with
    | zero => intro _; simp [encP]
    | succ n ih =>
      intro hn
      rw [encP_next ps n (by omega), List.length_append]
      have h1 := ih (by omega)
      have h2 := h.2 n (by omega)
      simp [encT]
      rw [← List.getD_eq_getElem?_getD]
      omega
  have h1 := this ps.length (Nat.le_refl _)
  rw [List.take_length] at h1
  have := h.1
  omega
end Go.Proofs.Ytngmfgdoopkkdaa.He
