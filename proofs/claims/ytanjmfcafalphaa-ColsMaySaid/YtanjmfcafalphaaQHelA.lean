/- Plain words on first messages: what pairs of texts stand in bytes, what a first message's body says, and the bytes of one. No program is named here. -/
import Derived.Test.YtanjmfcafalphaaQNumB
import Derived.Test.YtanjmfcafalphaaQNumD
import Derived.Test.YtanjmfcafalphaaQAxSb
import Derived.Lib.BytesEntry
import Derived.Test.YtanjmfcafalphaaQDigC
import Derived.Test.YtanjmfcafalphaaQElems
/- The contracts of package scan's calls that ask (Bad, Left, Done) and of its fail, at a scan that a call made. -/
namespace Go.Proofs.Ytanjmfcafalphaa.Sc
open Go.RowKit Go By Nm

end Go.Proofs.Ytanjmfcafalphaa.Sc
/- The contracts of package scan's Take, Num and Text, at a scan that a call made. -/
namespace Go.Proofs.Ytanjmfcafalphaa.Sc
open Go.RowKit Go By Nm

theorem elem_bytes : Try.prog.elem 41 = 5 := by kernel_rfl
theorem size_byte (w : World) : (sizeOf 5).run Try.prog w = .ok 1 w := by
  simp [sizeOf, go_sem]
  rfl

/-- A cut from the beginning, without room behind it. -/
theorem cut_to (w : World) (B : Nat) (a : Option Addr) (c : Nat) (xs : List UInt8) (n : Nat) (h : BytesAt w B a xs) (hc0 : a = none → c = 0) (hl : xs.length ≤ c) (hm : c ≤ maxLen) (hn : n ≤ xs.length) :
    ∃ A C, (Instr.slice 41 (.slice a xs.length c) none (some (.int .i64 n)) (some (.int .i64 n))).run Try.prog w = .ok (.slice A n C) w ∧ BytesAt w B A (xs.take n) ∧ (A = none → C = 0) ∧ n ≤ C ∧ C ≤ maxLen := by
  obtain ⟨A, C, e, hb, hA, hC, hM⟩ := sliced_bytes (l := 0) (h := n) (m := n) h (Nat.zero_le _) hn (Nat.le_refl _) (fun hh => by have := hc0 hh; omega) (by omega)
  refine ⟨A, C, ?_, by simpa using hb, hA, by omega, hM⟩
  rw [run_slice_hm w 41 a xs.length c (by kernel_rfl) .i64 .i64 n n (by omega) (by omega) (by omega), elem_bytes, size_byte]
  simp only [Result.andThen, Int.toNat_natCast]
  rw [e]; rfl
/-- A cut up to the end. -/
theorem cut_from (w : World) (B : Nat) (a : Option Addr) (c : Nat) (xs : List UInt8) (n : Nat) (h : BytesAt w B a xs) (hc0 : a = none → c = 0) (hl : xs.length ≤ c) (hm : c ≤ maxLen) (hn : n ≤ xs.length) :
    ∃ A C, (Instr.slice 41 (.slice a xs.length c) (some (.int .i64 n)) none none).run Try.prog w = .ok (.slice A (xs.length - n) C) w ∧ BytesAt w B A (xs.drop n) ∧ (A = none → C = 0) ∧ xs.length - n ≤ C ∧ C ≤ maxLen := by
  obtain ⟨A, C, e, hb, hA, hC, hM⟩ := sliced_bytes (l := n) (h := xs.length) (m := c) h hn (Nat.le_refl _) hl hc0 hm
  refine ⟨A, C, ?_, by simpa using hb, hA, by omega, hM⟩
  rw [run_slice_l w 41 a xs.length c (by kernel_rfl) .i64 n (by omega) (by omega), elem_bytes, size_byte]
  simp only [Result.andThen, Int.toNat_natCast]
  rw [e]
/-- A cut from the beginning, with the room behind it. -/
theorem cut_head (w : World) (B : Nat) (a : Option Addr) (c : Nat) (xs : List UInt8) (n : Nat) (h : BytesAt w B a xs) (hc0 : a = none → c = 0) (hl : xs.length ≤ c) (hm : c ≤ maxLen) (hn : n ≤ xs.length) :
    ∃ A C, (Instr.slice 41 (.slice a xs.length c) none (some (.int .i64 n)) none).run Try.prog w = .ok (.slice A n C) w ∧ BytesAt w B A (xs.take n) ∧ (A = none → C = 0) ∧ n ≤ C ∧ C ≤ maxLen := by
  obtain ⟨A, C, e, hb, hA, hC, hM⟩ := sliced_bytes (l := 0) (h := n) (m := c) h (Nat.zero_le _) hn (by omega) hc0 hm
  refine ⟨A, C, ?_, by simpa using hb, hA, by omega, hM⟩
  rw [run_slice_h w 41 a xs.length c (by kernel_rfl) .i64 n (by omega) (by omega), elem_bytes, size_byte]
  simp only [Result.andThen, Int.toNat_natCast]
  rw [e]; rfl

theorem getErr_two {len : Nat} {i size : Int} : getErr len i size = 0 ∨ getErr len i size = 1 ∨ getErr len i size = 3 := by
  unfold getErr; split
  · exact .inr (.inl rfl)
  · split
    · exact .inr (.inr rfl)
    · exact .inl rfl
theorem getErr_zero {len : Nat} {size : Int} (h : getErr len 0 size = 0) : 1 ≤ size ∧ size ≤ 4 ∧ size ≤ len := by
  unfold getErr at h
  split at h
  · omega
  · rename_i h1
    have hs : szB size = true := by cases hh : szB size <;> simp_all
    have := szB_four hs
    split at h
    · omega
    · omega

/-- Where the first byte 0 stands. -/
def zeroAt : List UInt8 → Option Nat
  | [] => none
  | b :: l => if b == 0 then some 0 else (zeroAt l).map (· + 1)
theorem zeroAt_some : ∀ {xs : List UInt8} {k : Nat}, zeroAt xs = some k → k < xs.length ∧ xs.getD k 0 = 0 ∧ ∀ j, j < k → xs.getD j 0 ≠ 0
  | [], k, h => by simp [zeroAt] at h
  | b :: l, k, h => by
    unfold zeroAt at h
    by_cases hb : b = 0
    · subst hb
      simp at h
      subst h
      exact ⟨by simp, rfl, fun j hj => by omega⟩
    · have hb1 : (b == 0) = false := by simpa using hb
      rw [hb1] at h
      simp at h
      obtain ⟨m, hm, rfl⟩ := h
      obtain ⟨h1, h2, h3⟩ := zeroAt_some hm
      refine ⟨by simp; omega, by simpa using h2, fun j hj => ?_⟩
      cases j with
      | zero => simpa using hb
      | succ j => simpa using h3 j (by omega)
theorem zeroAt_none : ∀ {xs : List UInt8}, zeroAt xs = none → ∀ j, j < xs.length → xs.getD j 0 ≠ 0
  | [], _, j, hj => by simp at hj
  | b :: l, h, j, hj => by
    unfold zeroAt at h
    by_cases hb : b = 0
    · subst hb; simp at h
    · have hb1 : (b == 0) = false := by simpa using hb
      rw [hb1] at h
      simp at h
      cases j with
      | zero => simpa using hb
      | succ j => simpa using zeroAt_none h j (by simpa using hj)
theorem zeroAt_of {xs : List UInt8} {k : Nat} (h1 : k < xs.length) (h2 : xs.getD k 0 = 0) (h3 : ∀ j, j < k → xs.getD j 0 ≠ 0) : zeroAt xs = some k := by
  cases h : zeroAt xs with
  | none => exact absurd h2 (zeroAt_none h k h1)
  | some m =>
    obtain ⟨a1, a2, a3⟩ := zeroAt_some h
    rcases Nat.lt_trichotomy m k with hk | hk | hk
    · exact absurd a2 (h3 m hk)
    · rw [hk]
    · exact absurd h2 (a3 k hk)
theorem zeroAt_of_none {xs : List UInt8} (h3 : ∀ j, j < xs.length → xs.getD j 0 ≠ 0) : zeroAt xs = none := by
  cases h : zeroAt xs with
  | none => rfl
  | some m => obtain ⟨a1, a2, _⟩ := zeroAt_some h; exact absurd a2 (h3 m a1)
theorem indexByte_zero : ∀ xs : List UInt8, Lib.indexByte xs 0 = match zeroAt xs with | none => -1 | some k => (k : Int)
  | [] => rfl
  | b :: l => by
    have ih := indexByte_zero l
    unfold Lib.indexByte zeroAt
    by_cases hb : (b == 0) = true
    · rw [if_pos hb, if_pos hb]; rfl
    · rw [if_neg hb, if_neg hb, ih]
      cases zeroAt l with
      | none => rfl
      | some k => simp

end Go.Proofs.Ytanjmfcafalphaa.Sc
/- The contracts of scan.New and of the document's answer for layer 3 (New, Num, Text, Take, Left, Done), at a scan that a call made. -/
namespace Go.Proofs.Ytanjmfcafalphaa.Sc
open Go.RowKit Go By Nm

/-- A new scan that has these bytes left. -/
def NewScan (P : World → Nat → List UInt8 → Prop) (xs : List UInt8) (w : World) (e : Ending) (w' : World) : Prop :=
  ∃ g, e = .returned (.pointer (some ⟨g, 0, none⟩)) ∧ w.heap.size ≤ g ∧ P w' g xs ∧ Still w w'

theorem byte_zero {xs : List UInt8} {j : Nat} (h : xs.getD j 0 = 0) : (byteAt xs j == 0) = true := by
  unfold byteAt; rw [h]; rfl
theorem byte_not {xs : List UInt8} {j : Nat} (h : xs.getD j 0 ≠ 0) : (byteAt xs j == 0) = false := by
  unfold byteAt
  have : (xs.getD j 0).toNat ≠ 0 := fun e => h (UInt8.toNat_inj.1 (by simpa using e))
  simpa using this

end Go.Proofs.Ytanjmfcafalphaa.Sc
/- The walks of ScanNobody and ScanAll: each returns true at every input, and writes nothing that was there. -/
namespace Go.Proofs.Ytanjmfcafalphaa.Sc
open Go.RowKit Go By Nm

theorem OwnB.only {E : TypeId} {w w' : World} {base g : Nat} {v : Value} {xs : List UInt8} (h : OwnB E w base v xs) (ho : Only g w w') (hg : g < base) : OwnB E w' base v xs := by
  refine World.ownsRow.kept h (row := some g) ho ?_
  rcases h.2 with ⟨rfl, _⟩ | ⟨k, cap, cur, rfl, hk, _⟩
  · left; rfl
  · right; simp [Value.ownBlock]; omega

theorem equal_yes (B1 B2 : Nat) (a1 a2 : Option Addr) (n c1 c2 : Nat) (xs : List UInt8) (w : World) (h1 : BytesAt w B1 a1 xs) (h2 : BytesAt w B2 a2 xs) (hn : xs.length = n) :
    Calls Try.prog 67 #[.slice a1 n c1, .slice a2 n c2] w fun e w' => e = .returned (.bool true) ∧ w = w' := by
  subst hn
  exact (equal_any B1 B2 a1 a2 c1 c2 xs xs w h1 h2).mono fun _ _ ⟨he, hw⟩ => ⟨by rw [he]; simp, hw⟩
end Go.Proofs.Ytanjmfcafalphaa.Sc
/- Package scan's calls and the document's answers for layer 3, in one form for a scan that is good and one that is bad: what is answered, and what is left. -/
namespace Go.Proofs.Ytanjmfcafalphaa.Sc
open Go.RowKit Go By Nm

/-- A scan's state: the bytes that are left, or bad. -/
abbrev Sta := Option (List UInt8)
def Small : Sta → Prop
  | some xs => xs.length ≤ 2000
  | none => True

/-- Bytes lie in no block that holds a scan. -/
theorem ne_blk {w : World} {B g l c : Nat} {a a' : Option Addr} {xs : List UInt8} {x : Bool} {T : TypeId} (h : BytesAt w B a xs) (hp : 0 < xs.length) (hk : Blk w g T [.bool x, .slice a' l c]) : ∀ p, a = some p → p.block ≠ g := by
  intro p hpe hb
  obtain ⟨b, off, e, _, hc⟩ := h hp
  rw [hpe] at e
  injection e with e
  subst e
  have hb' : b = g := hb
  subst hb'
  have h0 := hc 0 hp
  rw [cell_of_row w b _ _ T (0, 0) hk] at h0
  rcases off with _ | _ | off
  · simp at h0
  · simp at h0
  · simp at h0
/-- A call answered v, and left the scan at g in this state. -/
def Went (T : World → Nat → Sta → Prop) (g : Nat) (st : Sta) (v : Value) (w : World) (e : Ending) (w' : World) : Prop := e = .returned v ∧ T w' g st ∧ Only g w w'

def numV : Sta → Int → Int
  | some xs, n => if getErr xs.length 0 n = 0 then getI xs 0 n.toNat else 0
  | none, _ => 0
def numS : Sta → Int → Sta
  | some xs, n => if getErr xs.length 0 n = 0 then some (xs.drop n.toNat) else none
  | none, _ => none
theorem Small.num {st : Sta} (n : Int) (h : Small st) : Small (numS st n) := by
  cases st with
  | none => trivial
  | some xs =>
    simp only [numS]
    split
    · show (xs.drop _).length ≤ 2000
      have : xs.length ≤ 2000 := h
      rw [List.length_drop]; omega
    · trivial

def textV : Sta → ByteArray
  | some xs => match zeroAt xs with
    | some k => strB (xs.take k)
    | none => ⟨#[]⟩
  | none => ⟨#[]⟩
def textS : Sta → Sta
  | some xs => match zeroAt xs with
    | some k => some (xs.drop (k + 1))
    | none => none
  | none => none
theorem Small.text {st : Sta} (h : Small st) : Small (textS st) := by
  cases st with
  | none => trivial
  | some xs =>
    simp only [textS]
    split
    · show (xs.drop _).length ≤ 2000
      have : xs.length ≤ 2000 := h
      rw [List.length_drop]; omega
    · trivial

def takeB (xs : List UInt8) (n : Int) : Bool := decide (0 ≤ n) && decide (n ≤ xs.length)
def takeL : Sta → Int → List UInt8
  | some xs, n => if takeB xs n = true then xs.take n.toNat else []
  | none, _ => []
def takeS : Sta → Int → Sta
  | some xs, n => if takeB xs n = true then some (xs.drop n.toNat) else none
  | none, _ => none
/-- A call answered these bytes, and left the scan at g in this state. -/
def Gave (T : World → Nat → Sta → Prop) (B : World → Nat) (g : Nat) (st : Sta) (l : List UInt8) (w : World) (e : Ending) (w' : World) : Prop :=
  ∃ a c, e = .returned (.slice a l.length c) ∧ BytesAt w' (B w') a l ∧ T w' g st ∧ Only g w w'
theorem takeB_yes {xs : List UInt8} {n : Int} (h : takeB xs n = true) : 0 ≤ n ∧ n ≤ xs.length := by simpa [takeB] using h
theorem takeB_no {xs : List UInt8} {n : Int} (h : ¬ takeB xs n = true) : n < 0 ∨ (xs.length : Int) < n := by
  simp [takeB] at h; omega
theorem Small.take {st : Sta} (n : Int) (h : Small st) : Small (takeS st n) := by
  cases st with
  | none => trivial
  | some xs =>
    simp only [takeS]
    split
    · show (xs.drop _).length ≤ 2000
      have : xs.length ≤ 2000 := h
      rw [List.length_drop]; omega
    · trivial

def leftI : Sta → Int
  | some xs => xs.length
  | none => 0
def badB : Sta → Bool
  | some _ => false
  | none => true
def doneB : Sta → Bool
  | some xs => xs.isEmpty
  | none => false
end Go.Proofs.Ytanjmfcafalphaa.Sc
namespace Go.Proofs.Ytanjmfcafalphaa.He
open Go.RowKit Go By Nm Sc

theorem strB_inj {xs ys : List UInt8} (h : strB xs = strB ys) : xs = ys := by
  have := congrArg (fun b : ByteArray => b.data.toList) h
  simpa [strB] using this
theorem strB_of (s : ByteArray) : strB s.data.toList = s := by
  apply ByteArray.ext
  simp [strB]

/-- The text that is read in a state. -/
def textL : Sta → List UInt8
  | some xs => match zeroAt xs with
    | some k => xs.take k
    | none => []
  | none => []
theorem textV_eq (st : Sta) : textV st = strB (textL st) := by
  cases st with
  | none => rfl
  | some xs =>
    simp only [textV, textL]
    cases zeroAt xs <;> rfl
def lenS : Sta → Nat
  | some xs => xs.length
  | none => 0
theorem textS_len (st : Sta) : lenS (textS st) ≤ lenS st := by
  cases st with
  | none => exact Nat.le_refl _
  | some xs =>
    simp only [textS]
    cases zeroAt xs with
    | none => exact Nat.zero_le _
    | some k => simp [lenS]
theorem textS_lt {st : Sta} (h : textL st ≠ []) : lenS (textS st) < lenS st := by
  cases st with
  | none => exact absurd rfl h
  | some xs =>
    simp only [textS, textL] at *
    cases hz : zeroAt xs with
    | none => rw [hz] at h; exact absurd rfl h
    | some k => have := (zeroAt_some hz).1; simp [lenS]; omega

/-- A pair: its name and its value. -/
abbrev Pr := List UInt8 × List UInt8
/-- The pairs that are read from a state on, up to an empty name, and the state behind it. -/
inductive Prs : Sta → List Pr → Sta → Prop
  | stop (st : Sta) : textL st = [] → Prs st [] (textS st)
  | step (st : Sta) (l : List Pr) (s : Sta) : textL st ≠ [] → Prs (textS (textS st)) l s → Prs st ((textL st, textL (textS st)) :: l) s
theorem Prs.total (st : Sta) : ∃ l s, Prs st l s := by
  suffices h : ∀ n st, lenS st ≤ n → ∃ l s, Prs st l s from h _ st (Nat.le_refl _)
  intro n
  induction n with
  | zero => exact fun st h => ⟨_, _, .stop st (Classical.byContradiction fun hn => by have := textS_lt hn; omega)⟩
  | succ n ih =>
    intro st h
    by_cases he : textL st = []
    · exact ⟨_, _, .stop st he⟩
    · have h1 := textS_lt he
      have h2 := textS_len (textS st)
      obtain ⟨l, s, hp⟩ := ih (textS (textS st)) (by omega)
      exact ⟨_, _, .step st l s he hp⟩
theorem Prs.unique {st s s' : Sta} {l l' : List Pr} (h : Prs st l s) (k : Prs st l' s') : l = l' ∧ s = s' := by
  induction h generalizing l' s' with
  | stop st he => cases k with
    | stop _ _ => exact ⟨rfl, rfl⟩
    | step _ _ _ hn _ => exact absurd he hn
  | step st l s hn _ ih => cases k with
    | stop _ he => exact absurd he hn
    | step _ l2 _ _ hk => obtain ⟨e1, e2⟩ := ih hk; rw [e1, e2]; exact ⟨rfl, rfl⟩
theorem Prs.len {st s : Sta} {l : List Pr} (h : Prs st l s) : l.length ≤ lenS st := by
  induction h with
  | stop st _ => exact Nat.zero_le _
  | step st l s hn _ ih => have h1 := textS_lt hn; have h2 := textS_len (textS st); simp only [List.length_cons]; omega

/-- A text with its byte 0, pairs with the empty name behind them. -/
def encT (t : List UInt8) : List UInt8 := t ++ [0]
def encP (ps : List Pr) : List UInt8 := ps.flatMap fun p => encT p.1 ++ encT p.2
def okP (p : Pr) : Bool := !p.1.isEmpty && Dg.cleanB p.1 && Dg.cleanB p.2
theorem clean_at {t : List UInt8} (h : Dg.cleanB t = true) (j : Nat) (hj : j < t.length) : t.getD j 0 ≠ 0 := fun h0 => by
  rw [Dg.clean_no hj h0] at h; cases h
theorem zeroAt_enc {t : List UInt8} (r : List UInt8) (h : Dg.cleanB t = true) : zeroAt (encT t ++ r) = some t.length := by
  refine zeroAt_of (by simp [encT]) ?_ fun j hj => ?_
  · simp [encT, List.getD_eq_getElem?_getD]
  · rw [encT, List.append_assoc, List.getD_eq_getElem?_getD, List.getElem?_append_left hj, ← List.getD_eq_getElem?_getD]
    exact clean_at h j hj
theorem text_enc {t : List UInt8} (r : List UInt8) (h : Dg.cleanB t = true) : textL (some (encT t ++ r)) = t ∧ textS (some (encT t ++ r)) = some r := by
  simp only [textL, textS, zeroAt_enc r h]
  constructor
  · simp [encT]
  · rw [List.drop_append_of_le_length (by simp [encT])]
    simp [encT]
/-- What is read of a text is its bytes. -/
theorem text_back {xs r : List UInt8} (h : textS (some xs) = some r) : xs = encT (textL (some xs)) ++ r ∧ Dg.cleanB (textL (some xs)) = true := by
  simp only [textS, textL] at *
  cases hz : zeroAt xs with
  | none => rw [hz] at h; cases h
  | some k =>
    rw [hz] at h
    injection h with h
    obtain ⟨h1, h2, h3⟩ := zeroAt_some hz
    subst h
    refine ⟨?_, Dg.clean_yes fun j hj => ?_⟩
    · have e : xs = xs.take k ++ xs.drop k := (List.take_append_drop k xs).symm
      rw [List.drop_eq_getElem_cons h1] at e
      have e0 : xs[k] = 0 := by rw [List.getD_eq_getElem?_getD, List.getElem?_eq_getElem h1] at h2; exact h2
      rw [e0] at e
      simpa [encT] using e
    · have hj' : j < k := by simp at hj; omega
      rw [List.getD_eq_getElem?_getD, List.getElem?_take, if_pos hj', ← List.getD_eq_getElem?_getD]
      exact h3 j hj'
theorem textS_none {st : Sta} (h : textS st = none) : textL st = [] := by
  cases st with
  | none => rfl
  | some xs =>
    simp only [textS, textL] at *
    cases hz : zeroAt xs with
    | none => rfl
    | some k => rw [hz] at h; cases h
theorem Prs.none_ {l : List Pr} {s : Sta} (h : Prs none l s) : l = [] ∧ s = none := by
  cases h with
  | stop _ _ => exact ⟨rfl, rfl⟩
  | step _ _ _ hn _ => exact absurd rfl hn
theorem Prs.of_enc : ∀ (ps : List Pr) (r : List UInt8), (∀ p ∈ ps, okP p = true) → Prs (some (encP ps ++ (0 :: r))) ps (some r)
  | [], r, _ => by
    have h := text_enc (t := []) r rfl
    have := Prs.stop (some (encT [] ++ r)) h.1
    rw [h.2] at this
    exact this
  | p :: ps, r, hp => by
    have h0 := hp p (List.mem_cons_self ..)
    simp only [okP, Bool.and_eq_true, Bool.not_eq_true'] at h0
    have e : encP (p :: ps) ++ (0 :: r) = encT p.1 ++ (encT p.2 ++ (encP ps ++ (0 :: r))) := by simp [encP]
    have h1 := text_enc (encT p.2 ++ (encP ps ++ (0 :: r))) h0.1.2
    have h2 := text_enc (encP ps ++ (0 :: r)) h0.2
    have ih := Prs.of_enc ps r fun q hq => hp q (List.mem_cons_of_mem _ hq)
    rw [e]
    have := Prs.step (some (encT p.1 ++ (encT p.2 ++ (encP ps ++ (0 :: r))))) ps (some r) (by rw [h1.1]; intro hh; rw [hh] at h0; simp at h0) (by rw [h1.2, h2.2]; exact ih)
    rw [h1.1, h1.2, h2.1] at this
    exact this
theorem Prs.back {st s : Sta} {l : List Pr} (h : Prs st l s) : ∀ xs r, st = some xs → s = some r → xs = encP l ++ (0 :: r) ∧ ∀ p ∈ l, okP p = true := by
  induction h with
  | stop st he =>
    intro xs r hx hs
    subst hx
    obtain ⟨e, _⟩ := text_back hs
    rw [he] at e
    exact ⟨by simpa [encP, encT] using e, fun p hp => by cases hp⟩
  | step st l s hn hk ih =>
    intro xs r hx hs
    subst hx
    cases h1 : textS (some xs) with
    | none => exact absurd (textS_none h1) hn
    | some y =>
      rw [h1] at hk ih
      cases h2 : textS (some y) with
      | none =>
        rw [h2] at hk
        have := hk.none_.2
        rw [hs] at this
        cases this
      | some z =>
        obtain ⟨e1, c1⟩ := text_back h1
        obtain ⟨e2, c2⟩ := text_back h2
        obtain ⟨e3, c3⟩ := ih z r h2 hs
        refine ⟨?_, fun p hp => ?_⟩
        · generalize textL (some xs) = t1 at *
          generalize textL (some y) = t2 at *
          rw [e1, e2, e3]
          simp [encP]
        · rcases List.mem_cons.1 hp with rfl | hp
          · simp only [okP, Bool.and_eq_true, Bool.not_eq_true']
            exact ⟨⟨by simpa using hn, c1⟩, c2⟩
          · exact c3 p hp
end Go.Proofs.Ytanjmfcafalphaa.He
