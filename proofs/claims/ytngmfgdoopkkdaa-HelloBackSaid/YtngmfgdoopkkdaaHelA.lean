/- Plain words on first messages: what pairs of texts stand in bytes, what a first message's body says, and the bytes of one. No program is named here. -/
import Derived.Test.YtngmfgdoopkkdaaScanE
import Derived.Test.YtngmfgdoopkkdaaDigC
import Derived.Test.YtngmfgdoopkkdaaNumD
import Derived.Test.YtngmfgdoopkkdaaElems
namespace Go.Proofs.Ytngmfgdoopkkdaa.He
open Go.RowKit Go By Nm Sc

theorem strB_inj {xs ys : List UInt8} (h : strB xs = strB ys) : xs = ys := by
  have := congrArg (fun b : ByteArray => b.data.toList) h
  simpa [strB] using this
theorem strB_of (s : ByteArray) : strB s.data.toList = s := by
  apply ByteArray.ext
  simp [strB]

/-- The text that is read in a state. -/
def textL : Sta → List UInt8
  | some xs => match zeroAt xs with
    | some k => xs.take k
    | none => []
  | none => []
theorem textV_eq (st : Sta) : textV st = strB (textL st) := by
  cases st with
  | none => rfl
  | some xs =>
    simp only [textV, textL]
    cases zeroAt xs <;> rfl
def lenS : Sta → Nat
  | some xs => xs.length
  | none => 0
theorem textS_len (st : Sta) : lenS (textS st) ≤ lenS st := by
  cases st with
  | none => exact Nat.le_refl _
  | some xs =>
    simp only [textS]
    cases zeroAt xs with
    | none => exact Nat.zero_le _
    | some k => simp [lenS]
theorem textS_lt {st : Sta} (h : textL st ≠ []) : lenS (textS st) < lenS st := by
  cases st with
  | none => exact absurd rfl h
  | some xs =>
    simp only [textS, textL] at *
    cases hz : zeroAt xs with
    | none => rw [hz] at h; exact absurd rfl h
    | some k => have := (zeroAt_some hz).1; simp [lenS]; omega

/-- A pair: its name and its value. -/
abbrev Pr := List UInt8 × List UInt8
/-- The pairs that are read from a state on, up to an empty name, and the state behind it. -/
inductive Prs : Sta → List Pr → Sta → Prop
  | stop (st : Sta) : textL st = [] → Prs st [] (textS st)
  | step (st : Sta) (l : List Pr) (s : Sta) : textL st ≠ [] → Prs (textS (textS st)) l s → Prs st ((textL st, textL (textS st)) :: l) s
theorem Prs.total (st : Sta) : ∃ l s, Prs st l s := by
  suffices h : ∀ n st, lenS st ≤ n → ∃ l s, Prs st l s from h _ st (Nat.le_refl _)
  intro n
  induction n with
  | zero => exact fun st h => ⟨_, _, .stop st (Classical.byContradiction fun hn => by have := textS_lt hn; omega)⟩
  | succ n ih =>
    intro st h
    by_cases he : textL st = []
    · exact ⟨_, _, .stop st he⟩
    · have h1 := textS_lt he
      have h2 := textS_len (textS st)
      obtain ⟨l, s, hp⟩ := ih (textS (textS st)) (by omega)
      exact ⟨_, _, .step st l s he hp⟩
theorem Prs.unique {st s s' : Sta} {l l' : List Pr} (h : Prs st l s) (k : Prs st l' s') : l = l' ∧ s = s' := by
  induction h generalizing l' s' with
  | stop st he => cases k with
    | stop _ _ => exact ⟨rfl, rfl⟩
    | step _ _ _ hn _ => exact absurd he hn
  | step st l s hn _ ih => cases k with
    | stop _ he => exact absurd he hn
    | step _ l2 _ _ hk => obtain ⟨e1, e2⟩ := ih hk; rw [e1, e2]; exact ⟨rfl, rfl⟩
theorem Prs.len {st s : Sta} {l : List Pr} (h : Prs st l s) : l.length ≤ lenS st := by
  induction h with
  | stop st _ => exact Nat.zero_le _
  | step st l s hn _ ih => have h1 := textS_lt hn; have h2 := textS_len (textS st); simp only [List.length_cons]; omega

/-- A text with its byte 0, pairs with the empty name behind them. -/
def encT (t : List UInt8) : List UInt8 := t ++ [0]
def encP (ps : List Pr) : List UInt8 := ps.flatMap fun p => encT p.1 ++ encT p.2
def okP (p : Pr) : Bool := !p.1.isEmpty && Dg.cleanB p.1 && Dg.cleanB p.2
theorem clean_at {t : List UInt8} (h : Dg.cleanB t = true) (j : Nat) (hj : j < t.length) : t.getD j 0 ≠ 0 := fun h0 => by
  rw [Dg.clean_no hj h0] at h; cases h
theorem zeroAt_enc {t : List UInt8} (r : List UInt8) (h : Dg.cleanB t = true) : zeroAt (encT t ++ r) = some t.length := by
  refine zeroAt_of (by simp [encT]) ?_ fun j hj => ?_
  · simp [encT, List.getD_eq_getElem?_getD]
  · rw [encT, List.append_assoc, List.getD_eq_getElem?_getD, List.getElem?_append_left hj, ← List.getD_eq_getElem?_getD]
    exact clean_at h j hj
theorem text_enc {t : List UInt8} (r : List UInt8) (h : Dg.cleanB t = true) : textL (some (encT t ++ r)) = t ∧ textS (some (encT t ++ r)) = some r := by
  simp only [textL, textS, zeroAt_enc r h]
  constructor
  · simp [encT]
  · rw [List.drop_append_of_le_length (by simp [encT])]
    simp [encT]
/-- What is read of a text is its bytes. -/
theorem text_back {xs r : List UInt8} (h : textS (some xs) = some r) : xs = encT (textL (some xs)) ++ r ∧ Dg.cleanB (textL (some xs)) = true := by
  simp only [textS, textL] at *
  cases hz : zeroAt xs with
  | none => rw [hz] at h; cases h
  | some k =>
    rw [hz] at h
    injection h with h
    obtain ⟨h1, h2, h3⟩ := zeroAt_some hz
    subst h
    refine ⟨?_, Dg.clean_yes fun j hj => ?_⟩
    · have e : xs = xs.take k ++ xs.drop k := (List.take_append_drop k xs).symm
      rw [List.drop_eq_getElem_cons h1] at e
      have e0 : xs[k] = 0 := by rw [List.getD_eq_getElem?_getD, List.getElem?_eq_getElem h1] at h2; exact h2
      rw [e0] at e
      simpa [encT] using e
    · have hj' : j < k := by simp at hj; omega
      rw [List.getD_eq_getElem?_getD, List.getElem?_take, if_pos hj', ← List.getD_eq_getElem?_getD]
      exact h3 j hj'
theorem textS_none {st : Sta} (h : textS st = none) : textL st = [] := by
  cases st with
  | none => rfl
  | some xs =>
    simp only [textS, textL] at *
    cases hz : zeroAt xs with
    | none => rfl
    | some k => rw [hz] at h; cases h
theorem Prs.none_ {l : List Pr} {s : Sta} (h : Prs none l s) : l = [] ∧ s = none := by
  cases h with
  | stop _ _ => exact ⟨rfl, rfl⟩
  | step _ _ _ hn _ => exact absurd rfl hn
theorem Prs.of_enc : ∀ (ps : List Pr) (r : List UInt8), (∀ p ∈ ps, okP p = true) → Prs (some (encP ps ++ (0 :: r))) ps (some r)
  | [], r, _ => by
    have h := text_enc (t := []) r rfl
    have := Prs.stop (some (encT [] ++ r)) h.1
    rw [h.2] at this
    exact this
  | p :: ps, r, hp => by
    have h0 := hp p (List.mem_cons_self ..)
    simp only [okP, Bool.and_eq_true, Bool.not_eq_true'] at h0
    have e : encP (p :: ps) ++ (0 :: r) = encT p.1 ++ (encT p.2 ++ (encP ps ++ (0 :: r))) := by simp [encP]
    have h1 := text_enc (encT p.2 ++ (encP ps ++ (0 :: r))) h0.1.2
    have h2 := text_enc (encP ps ++ (0 :: r)) h0.2
    have ih := Prs.of_enc ps r fun q hq => hp q (List.mem_cons_of_mem _ hq)
    rw [e]
    have := Prs.step (some (encT p.1 ++ (encT p.2 ++ (encP ps ++ (0 :: r))))) ps (some r) (by rw [h1.1]; intro hh; rw [hh] at h0; simp at h0) (by rw [h1.2, h2.2]; exact ih)
    rw [h1.1, h1.2, h2.1] at this
    exact this
theorem Prs.back {st s : Sta} {l : List Pr} (h : Prs st l s) : ∀ xs r, st = some xs → s = some r → xs = encP l ++ (0 :: r) ∧ ∀ p ∈ l, okP p = true := by
  induction h with
  | stop st he =>
    intro xs r hx hs
    subst hx
    obtain ⟨e, _⟩ := text_back hs
    rw [he] at e
    exact ⟨by simpa [encP, encT] using e, fun p hp => by cases hp⟩
  | step st l s hn hk ih =>
    intro xs r hx hs
    subst hx
    cases h1 : textS (some xs) with
    | none => exact absurd (textS_none h1) hn
    | some y =>
      rw [h1] at hk ih
      cases h2 : textS (some y) with
      | none =>
        rw [h2] at hk
        have := hk.none_.2
        rw [hs] at this
        cases this
      | some z =>
        obtain ⟨e1, c1⟩ := text_back h1
        obtain ⟨e2, c2⟩ := text_back h2
        obtain ⟨e3, c3⟩ := ih z r h2 hs
        refine ⟨?_, fun p hp => ?_⟩
        · generalize textL (some xs) = t1 at *
          generalize textL (some y) = t2 at *
          rw [e1, e2, e3]
          simp [encP]
        · rcases List.mem_cons.1 hp with rfl | hp
          · simp only [okP, Bool.and_eq_true, Bool.not_eq_true']
            exact ⟨⟨by simpa using hn, c1⟩, c2⟩
          · exact c3 p hp
end Go.Proofs.Ytngmfgdoopkkdaa.He
